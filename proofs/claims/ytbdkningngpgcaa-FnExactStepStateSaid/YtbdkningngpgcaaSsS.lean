/- What the specification's StepState returns. No condition. -/
import Derived.Test.YtbdkningngpgcaaRnM
import Derived.Test.YtbdkningngpgcaaStS
import Derived.Test.YtbdkningngpgcaaSoS
import Derived.Test.YtbdkningngpgcaaInS
import Derived.Test.YtbdkningngpgcaaCpS
import Derived.Test.YtbdkningngpgcaaNxO
namespace Go.Proofs.Ytbdkningngpgcaa
open Go.ChangeShapes Go.WideShapes Go.ChangeAt Go.RowKit
set_option maxRecDepth 100000 in
set_option maxHeartbeats 16000000 in
theorem s_stepst (vw vm vi : Int) (L : List InsR) (x : StR) (I : List Int) (sL r m s o li : Value) (w : World) (hs : Cs.Shows w 0 4 sL L.length (InsR.all L)) (hx : StS w 0 x r m s o) (hls : Cs.Shows w 0 1 li I.length (IntL.all I)) (hok : ∀ r ∈ L, r.Ok) (hL : L.length ≤ maxLen) (hl : I.length ≤ maxLen) (hlx : x.Long) :
    Calls Try.prog 19 #[.agg #[.int .i64 vw, .int .i64 vm, .int .i64 vi, sL], .agg #[.int .i64 x.pc, r, m, s, .int .i64 x.inn, o, .int .i64 x.cd, .int .i64 x.st], li] w (StEnd (ssV vw vm vi L I x) w) := by
  have hml : maxLen = 9223372036854775807 := rfl
  have HS := Lib.hid hs
  have HLI := Lib.hid hls
  have HX := Lib.hid hx
  have KS := Lib.hid (fun W (hb : Below w.heap.size w W) => s_state vw vm vi L x sL r m s o W (hs.below hb) (hx.below hb) hok hL hlx)
  have KI := Lib.hid (fun W (hb : Below w.heap.size w W) => s_inputs vw vm vi L I sL li W (hs.below hb) (hls.below hb) hok hL hl)
  obtain ⟨_, q, cap, rfl, _⟩ := hs
  obtain ⟨_, iq, ic, rfl, _⟩ := hls
  obtain ⟨A, hA⟩ : ∃ B, soB vw vm vi L x = B := ⟨_, rfl⟩
  obtain ⟨B, hB⟩ : ∃ B, inB vw vm vi L I = B := ⟨_, rfl⟩
  rw [hA] at KS
  rw [hB] at KI
  obtain ⟨V, hV⟩ : ∃ V, ssV vw vm vi L I x = V := ⟨_, rfl⟩
  rw [hV]
  have HVd := Lib.hid (show V = if (A && B) = true then stepV vw vm vi L I x else zeroSt from by rw [← hV, ← hA, ← hB]; rfl)
  clear hV hok hx hlx
  obtain ⟨w0, hw0⟩ : ∃ w0, w0 = ((w.alloc (.cells #[.int .i64 vw, .int .i64 vm, .int .i64 vi, .slice q L.length cap] 30)).alloc (.cells #[.int .i64 x.pc, r, m, s, .int .i64 x.inn, o, .int .i64 x.cd, .int .i64 x.st] 41)).alloc (.cells #[.int .i64 0, .slice none 0 0, .slice none 0 0, .slice none 0 0, .int .i64 0, .slice none 0 0, .int .i64 0, .int .i64 0] 41) := ⟨_, rfl⟩
  have HB0 := Lib.hid (show Below w.heap.size w w0 by rw [hw0]; exact (((Below.refl _ _).alloc (Nat.le_refl _) _).alloc (by simp) _).alloc (by simp; omega) _)
  have hs0 : w.heap.size + 3 ≤ w0.heap.size := by rw [hw0]; simp
  have XR0 := Lib.hid (show w0.heap[w.heap.size]? = some (.cells #[.int .i64 vw, .int .i64 vm, .int .i64 vi, .slice q L.length cap] 30 (0, 0)) by rw [hw0, heap_alloc_old _ _ (by simp; omega), heap_alloc_old _ _ (by simp)]; exact heap_alloc_new _ _)
  have SR0 := Lib.hid (show w0.heap[w.heap.size + 1]? = some (.cells #[.int .i64 x.pc, r, m, s, .int .i64 x.inn, o, .int .i64 x.cd, .int .i64 x.st] 41 (0, 0)) by rw [hw0, heap_alloc_old _ _ (by simp), ← show (w.alloc (.cells #[.int .i64 vw, .int .i64 vm, .int .i64 vi, .slice q L.length cap] 30)).heap.size = w.heap.size + 1 by simp]; exact heap_alloc_new _ _)
  have ZR0 := Lib.hid (show w0.heap[w.heap.size + 1 + 1]? = some (.cells #[.int .i64 0, .slice none 0 0, .slice none 0 0, .slice none 0 0, .int .i64 0, .slice none 0 0, .int .i64 0, .int .i64 0] 41 (0, 0)) by rw [hw0, ← show ((w.alloc (.cells #[.int .i64 vw, .int .i64 vm, .int .i64 vi, .slice q L.length cap] 30)).alloc (.cells #[.int .i64 x.pc, r, m, s, .int .i64 x.inn, o, .int .i64 x.cd, .int .i64 x.st] 41)).heap.size = w.heap.size + 1 + 1 by simp]; exact heap_alloc_new _ _)
  obtain ⟨x0, x1, x2, x3⟩ := cell4_row XR0.out
  obtain ⟨d0, d1, d2, d3, d4, d5, d6, d7⟩ := cell8_row SR0.out
  rw [hw0] at x0 x1 x2 x3 d0 d1 d2 d3 d4 d5 d6 d7
  go_enter Try.func19, Try.ntmps19
  go_wp2_with fail
  rw [← hw0]
  clear hw0 x0 x1 x2 x3 d0 d1 d2 d3 d4 d5 d6 d7
  refine (KS.out _ HB0.out).mono ?_
  rintro e wp ⟨rfl, hb⟩
  have HBP := Lib.hid (HB0.out.trans (hb.mono HB0.out.size))
  have XRP := Lib.hid ((hb.block w.heap.size (by omega)).trans XR0.out)
  have SRP := Lib.hid ((hb.block (w.heap.size + 1) (by omega)).trans SR0.out)
  have ZRP := Lib.hid ((hb.block (w.heap.size + 1 + 1) (by omega)).trans ZR0.out)
  have hs1 := hb.size
  have hsP : w.heap.size + 3 ≤ wp.heap.size := by omega
  clear hb hs1 hs0
  cases A
  case false =>
    have hv : V = zeroSt := HVd.out
    clear HVd
    subst hv
    obtain ⟨d0, d1, d2, d3, d4, d5, d6, d7⟩ := cell8_row ZRP.out
    obtain ⟨f0, f1, f2, f3, f4, f5, f6, f7⟩ := froz8_row ZRP.out
    go_wp2
    refine bodyPost_ret (v := .agg #[.int .i64 0, .slice none 0 0, .slice none 0 0, .slice none 0 0, .int .i64 0, .slice none 0 0, .int .i64 0, .int .i64 0]) (by simp [results, Try.results19, go_sem, d0, d1, d2, d3, d4, d5, d6, d7]) rfl ?_
    refine st_zero ?_
    repeat (first | refine Below.setCell ?_ (by first | (simp; done) | (simp; omega)) _ | exact HBP.out)
  case true =>
    obtain ⟨x0, x1, x2, x3⟩ := cell4_row XRP.out
    go_wp2_with fail
    clear x0 x1 x2 x3
    refine (KI.out _ HBP.out).mono ?_
    rintro e w1 ⟨rfl, hb⟩
    have HBI := Lib.hid (HBP.out.trans (hb.mono HBP.out.size))
    have XRI := Lib.hid ((hb.block w.heap.size (by omega)).trans XRP.out)
    have SRI := Lib.hid ((hb.block (w.heap.size + 1) (by omega)).trans SRP.out)
    have ZRI := Lib.hid ((hb.block (w.heap.size + 1 + 1) (by omega)).trans ZRP.out)
    have hs1 := hb.size
    have hs1' : w.heap.size + 3 ≤ w1.heap.size := by omega
    clear hb hs1 hsP
    cases B
    case false =>
      have hv : V = zeroSt := HVd.out
      clear HVd
      subst hv
      obtain ⟨d0, d1, d2, d3, d4, d5, d6, d7⟩ := cell8_row ZRI.out
      obtain ⟨f0, f1, f2, f3, f4, f5, f6, f7⟩ := froz8_row ZRI.out
      go_wp2
      refine bodyPost_ret (v := .agg #[.int .i64 0, .slice none 0 0, .slice none 0 0, .slice none 0 0, .int .i64 0, .slice none 0 0, .int .i64 0, .int .i64 0]) (by simp [results, Try.results19, go_sem, d0, d1, d2, d3, d4, d5, d6, d7]) rfl ?_
      refine st_zero ?_
      repeat (first | refine Below.setCell ?_ (by first | (simp; done) | (simp; omega)) _ | exact HBI.out)
    case true =>
      have hv : V = stepV vw vm vi L I x := HVd.out
      subst hv
      have HIN := Lib.hid (in_of hB)
      have hG := (gd_of hA).2
      have h1 := hG.hR
      have h2 := hG.hM
      have h3 := hG.hS
      have h4 := hG.hO
      obtain ⟨⟨-, -, -, hm6, -⟩, -⟩ := pr_in (in_of hB).1
      have KC := Lib.hid (fun W (hb : Below w.heap.size w W) => s_copy x r m s o W (HX.out.below hb) (by omega) (by omega) (by omega) (by omega))
      have HG := Lib.hid hG
      clear HVd hA hB hG h1 h2 h3 h4 hm6
      have KT := Lib.hid (fun r m s o W (hb : Below w.heap.size w W) ho hbase => s_step vw vm vi L x I _ r m s o _ w.heap.size W HIN.out.1 HG.out HIN.out.2 (HS.out.below hb) (HLI.out.below hb) ho hbase)
      have hsp : w.heap.size < w1.heap.size := by omega
      have hsq : w.heap.size + 1 < w1.heap.size := by omega
      obtain ⟨x0, x1, x2, x3⟩ := cell4_row XRI.out
      obtain ⟨d0, d1, d2, d3, d4, d5, d6, d7⟩ := cell8_row SRI.out
      go_upto_region 3 with fail
      have CH : Hid (w1.drew.cell? ⟨w.heap.size, 0, none⟩ = some (.int .i64 vw) ∧ w1.drew.cell? ⟨w.heap.size, 1, none⟩ = some (.int .i64 vm) ∧ w1.drew.cell? ⟨w.heap.size, 2, none⟩ = some (.int .i64 vi) ∧ w1.drew.cell? ⟨w.heap.size, 3, none⟩ = some (.slice q L.length cap) ∧ w1.drew.cell? ⟨w.heap.size + 1, 0, none⟩ = some (.int .i64 x.pc) ∧ w1.drew.cell? ⟨w.heap.size + 1, 1, none⟩ = some (r) ∧ w1.drew.cell? ⟨w.heap.size + 1, 2, none⟩ = some (m) ∧ w1.drew.cell? ⟨w.heap.size + 1, 3, none⟩ = some (s) ∧ w1.drew.cell? ⟨w.heap.size + 1, 4, none⟩ = some (.int .i64 x.inn) ∧ w1.drew.cell? ⟨w.heap.size + 1, 5, none⟩ = some (o) ∧ w1.drew.cell? ⟨w.heap.size + 1, 6, none⟩ = some (.int .i64 x.cd) ∧ w1.drew.cell? ⟨w.heap.size + 1, 7, none⟩ = some (.int .i64 x.st)) := Lib.hid ⟨by assumption, by assumption, by assumption, by assumption, by assumption, by assumption, by assumption, by assumption, by assumption, by assumption, by assumption, by assumption⟩
      clear x0 x1 x2 x3 d0 d1 d2 d3 d4 d5 d6 d7
      refine region_s [5] (fun V => V.cell? ⟨w.heap.size, 0, none⟩ = some (.int .i64 vw) ∧ V.cell? ⟨w.heap.size, 1, none⟩ = some (.int .i64 vm) ∧ V.cell? ⟨w.heap.size, 2, none⟩ = some (.int .i64 vi) ∧ V.cell? ⟨w.heap.size, 3, none⟩ = some (.slice q L.length cap) ∧ V.cell? ⟨w.heap.size + 1, 0, none⟩ = some (.int .i64 x.pc) ∧ V.cell? ⟨w.heap.size + 1, 1, none⟩ = some (r) ∧ V.cell? ⟨w.heap.size + 1, 2, none⟩ = some (m) ∧ V.cell? ⟨w.heap.size + 1, 3, none⟩ = some (s) ∧ V.cell? ⟨w.heap.size + 1, 4, none⟩ = some (.int .i64 x.inn) ∧ V.cell? ⟨w.heap.size + 1, 5, none⟩ = some (o) ∧ V.cell? ⟨w.heap.size + 1, 6, none⟩ = some (.int .i64 x.cd) ∧ V.cell? ⟨w.heap.size + 1, 7, none⟩ = some (.int .i64 x.st)) (by kernel_rfl) ?_
      refine take_s (i := 0) (v := .agg #[.int .i64 vw, .int .i64 vm, .int .i64 vi, .slice q L.length cap]) rfl (by kernel_rfl) (fun _ _ _ h => h) CH.out rfl (fun V hV => ?_) ?_
      · obtain ⟨t0, t1, t2, t3, t4, t5, t6, t7, t8, t9, t10, t11⟩ := hV; go_simp
      refine take_s (i := 1) (v := .agg #[.int .i64 x.pc, r, m, s, .int .i64 x.inn, o, .int .i64 x.cd, .int .i64 x.st]) rfl (by kernel_rfl) (fun _ _ _ h => h) CH.out rfl (fun V hV => ?_) ?_
      · obtain ⟨t0, t1, t2, t3, t4, t5, t6, t7, t8, t9, t10, t11⟩ := hV; go_simp
      refine take_s (i := 3) (v := .slice iq I.length ic) rfl (by kernel_rfl) (fun _ _ _ h => h) CH.out rfl (fun V hV => ?_) ?_
      · go_simp
      have BD := Lib.hid (show Below w1.heap.size w1 w1.drew from (Below.refl _ _).drew)
      refine one_s (i := 2) (by kernel_rfl) (op_list rfl ?_)
      go_wp2_with fail
      refine (KC.out w1.drew (HBI.out.trans (BD.out.mono HBI.out.size))).mono ?_
      rintro e w2 ⟨hb, rq, rc, mq, mc, sq, sc, oq, oc, rfl, ho⟩
      have hb12 : Below w1.heap.size w1 w2 := BD.out.trans (hb.mono BD.out.size)
      have HO2 := Lib.hid (ho.base (base' := w1.heap.size) BD.out.size)
      have HB2 := Lib.hid (HBI.out.trans (hb12.mono HBI.out.size))
      have XR2 := Lib.hid ((hb12.block w.heap.size hsp).trans XRI.out)
      have SR2 := Lib.hid ((hb12.block (w.heap.size + 1) hsq).trans SRI.out)
      have ZR2 := Lib.hid ((hb12.block (w.heap.size + 1 + 1) (by omega)).trans ZRI.out)
      have hs2 := hb12.size
      have C2 : Hid (w2.cell? ⟨w.heap.size, 0, none⟩ = some (.int .i64 vw) ∧ w2.cell? ⟨w.heap.size, 1, none⟩ = some (.int .i64 vm) ∧ w2.cell? ⟨w.heap.size, 2, none⟩ = some (.int .i64 vi) ∧ w2.cell? ⟨w.heap.size, 3, none⟩ = some (.slice q L.length cap) ∧ w2.cell? ⟨w.heap.size + 1, 0, none⟩ = some (.int .i64 x.pc) ∧ w2.cell? ⟨w.heap.size + 1, 1, none⟩ = some (r) ∧ w2.cell? ⟨w.heap.size + 1, 2, none⟩ = some (m) ∧ w2.cell? ⟨w.heap.size + 1, 3, none⟩ = some (s) ∧ w2.cell? ⟨w.heap.size + 1, 4, none⟩ = some (.int .i64 x.inn) ∧ w2.cell? ⟨w.heap.size + 1, 5, none⟩ = some (o) ∧ w2.cell? ⟨w.heap.size + 1, 6, none⟩ = some (.int .i64 x.cd) ∧ w2.cell? ⟨w.heap.size + 1, 7, none⟩ = some (.int .i64 x.st)) := Lib.hid (by obtain ⟨x0, x1, x2, x3⟩ := cell4_row XR2.out; obtain ⟨d0, d1, d2, d3, d4, d5, d6, d7⟩ := cell8_row SR2.out; exact ⟨x0, x1, x2, x3, d0, d1, d2, d3, d4, d5, d6, d7⟩)
      clear hb ho hb12
      go_wp2
      refine ⟨fun _ => C2.out, ?_⟩
      refine one_s (i := 4) (by kernel_rfl) (op_list rfl ?_)
      go_wp2_with fail
      refine (KT.out _ _ _ _ w2 HB2.out (HO2.out.base HBI.out.size) (by omega)).mono ?_
      rintro e w3 ⟨r5, m5, s5, o5, rfl, hO5, hA5, hs5⟩
      obtain ⟨rq5, rc5, rfl⟩ := own_slice hO5.1
      obtain ⟨mq5, mc5, rfl⟩ := own_slice hO5.2.1
      obtain ⟨sq5, sc5, rfl⟩ := own_slice hO5.2.2.1
      obtain ⟨oq5, oc5, rfl⟩ := own_slice hO5.2.2.2.1
      obtain ⟨y5, hy5⟩ : ∃ y, stepV vw vm vi L I x = y := ⟨_, rfl⟩
      have HY := Lib.hid hy5
      rw [hy5] at hO5 ⊢
      clear hy5 hs5
      have O5 := Lib.hid hO5
      have HB3 := Lib.hid (HB2.out.trans (hA5.below HB2.out.size (fun g hg => by have := (HO2.out.lt hg).1; omega)))
      have XR3 := Lib.hid ((hA5.block w.heap.size (by omega) (fun hm => by have := (HO2.out.lt hm).1; omega)).trans XR2.out)
      have SR3 := Lib.hid ((hA5.block (w.heap.size + 1) (by omega) (fun hm => by have := (HO2.out.lt hm).1; omega)).trans SR2.out)
      have ZR3 := Lib.hid ((hA5.block (w.heap.size + 1 + 1) (by omega) (fun hm => by have := (HO2.out.lt hm).1; omega)).trans ZR2.out)
      have C3 : Hid (w3.cell? ⟨w.heap.size, 0, none⟩ = some (.int .i64 vw) ∧ w3.cell? ⟨w.heap.size, 1, none⟩ = some (.int .i64 vm) ∧ w3.cell? ⟨w.heap.size, 2, none⟩ = some (.int .i64 vi) ∧ w3.cell? ⟨w.heap.size, 3, none⟩ = some (.slice q L.length cap) ∧ w3.cell? ⟨w.heap.size + 1, 0, none⟩ = some (.int .i64 x.pc) ∧ w3.cell? ⟨w.heap.size + 1, 1, none⟩ = some (r) ∧ w3.cell? ⟨w.heap.size + 1, 2, none⟩ = some (m) ∧ w3.cell? ⟨w.heap.size + 1, 3, none⟩ = some (s) ∧ w3.cell? ⟨w.heap.size + 1, 4, none⟩ = some (.int .i64 x.inn) ∧ w3.cell? ⟨w.heap.size + 1, 5, none⟩ = some (o) ∧ w3.cell? ⟨w.heap.size + 1, 6, none⟩ = some (.int .i64 x.cd) ∧ w3.cell? ⟨w.heap.size + 1, 7, none⟩ = some (.int .i64 x.st)) := Lib.hid (by obtain ⟨x0, x1, x2, x3⟩ := cell4_row XR3.out; obtain ⟨d0, d1, d2, d3, d4, d5, d6, d7⟩ := cell8_row SR3.out; exact ⟨x0, x1, x2, x3, d0, d1, d2, d3, d4, d5, d6, d7⟩)
      clear hO5 hA5
      go_wp2
      refine ⟨fun _ => C3.out, ?_⟩
      obtain ⟨z0, z1, z2, z3, z4, z5, z6, z7⟩ := cell8_row ZR3.out
      obtain ⟨f0, f1, f2, f3, f4, f5, f6, f7⟩ := froz8_row ZR3.out
      refine one_s (i := 5) (by kernel_rfl) (op_list rfl ?_)
      go_wp2
      refine ⟨late_s (by kernel_rfl), done_s (by kernel_rfl) ?_ _⟩
      obtain ⟨we, hwe⟩ : ∃ W9, W9 = ((((((((w3.setCell ⟨w.heap.size + 1 + 1, 0, none⟩ (.int .i64 y5.pc)).setCell ⟨w.heap.size + 1 + 1, 1, none⟩ (.slice rq5 y5.R.length rc5)).setCell ⟨w.heap.size + 1 + 1, 2, none⟩ (.slice mq5 y5.M.length mc5)).setCell ⟨w.heap.size + 1 + 1, 3, none⟩ (.slice sq5 y5.S.length sc5)).setCell ⟨w.heap.size + 1 + 1, 4, none⟩ (.int .i64 y5.inn)).setCell ⟨w.heap.size + 1 + 1, 5, none⟩ (.slice oq5 y5.O.length oc5)).setCell ⟨w.heap.size + 1 + 1, 6, none⟩ (.int .i64 y5.cd)).setCell ⟨w.heap.size + 1 + 1, 7, none⟩ (.int .i64 y5.st)) := ⟨_, rfl⟩
      have D2 := Lib.hid (show we.heap[w.heap.size + 1 + 1]? = some (.cells #[.int .i64 y5.pc, .slice rq5 y5.R.length rc5, .slice mq5 y5.M.length mc5, .slice sq5 y5.S.length sc5, .int .i64 y5.inn, .slice oq5 y5.O.length oc5, .int .i64 y5.cd, .int .i64 y5.st] 41 (0, 0)) by rw [hwe]; exact set8_row ZR3.out _ _ _ _ _ _ _ _)
      have BE := Lib.hid (show Below w.heap.size w we by rw [hwe]; exact set8_below HB3.out (by omega) _ _ _ _ _ _ _ _)
      have OE := Lib.hid (show StO we w.heap.size y5 _ _ _ _ by rw [hwe]; exact O5.out.set8 (O5.out.off (T := 41) (by decide) ZR3.out) _ _ _ _ _ _ _ _)
      rw [← hwe]
      clear hwe z0 z1 z2 z3 z4 z5 z6 z7 f0 f1 f2 f3 f4 f5 f6 f7
      obtain ⟨d0, d1, d2, d3, d4, d5, d6, d7⟩ := cell8_row D2.out
      go_wp2
      refine bodyPost_ret (v := .agg #[.int .i64 y5.pc, .slice rq5 y5.R.length rc5, .slice mq5 y5.M.length mc5, .slice sq5 y5.S.length sc5, .int .i64 y5.inn, .slice oq5 y5.O.length oc5, .int .i64 y5.cd, .int .i64 y5.st]) (by simp [results, Try.results19, go_sem, d0, d1, d2, d3, d4, d5, d6, d7]) rfl ?_
      rw [HY.out]
      exact ⟨BE.out, rq5, rc5, mq5, mc5, sq5, sc5, oq5, oc5, rfl, OE.out⟩
end Go.Proofs.Ytbdkningngpgcaa
