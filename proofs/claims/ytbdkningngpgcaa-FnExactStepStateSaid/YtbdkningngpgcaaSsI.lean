/- What the program's StepState returns. No condition. -/
import Derived.Test.YtbdkningngpgcaaRnM
import Derived.Test.YtbdkningngpgcaaRn0
import Derived.Test.YtbdkningngpgcaaSoI
import Derived.Test.YtbdkningngpgcaaCpI
namespace Go.Proofs.Ytbdkningngpgcaa
open Go.ChangeShapes Go.WideShapes Go.ChangeAt Go.RowKit
set_option maxRecDepth 100000 in
set_option maxHeartbeats 16000000 in
theorem i_stepst (vw vm vi : Int) (L : List InsR) (x : StR) (I : List Int) (sL r m s o li : Value) (w : World) (hs : Cs.Shows w 0 4 sL L.length (InsR.all L)) (hx : StS w 0 x r m s o) (hls : Cs.Shows w 0 1 li I.length (IntL.all I)) (hok : ∀ r ∈ L, r.Ok) (hL : L.length ≤ maxLen) (hl : I.length ≤ maxLen) (hlx : x.Long) :
    Calls Try.prog 22 #[.agg #[.int .i64 vw, .int .i64 vm, .int .i64 vi, sL], .agg #[.int .i64 x.pc, r, m, s, .int .i64 x.inn, o, .int .i64 x.cd, .int .i64 x.st], li] w (StEnd (ssV vw vm vi L I x) w) := by
  have hml : maxLen = 9223372036854775807 := rfl
  have HS := Lib.hid hs
  have HLI := Lib.hid hls
  have HX := Lib.hid hx
  have KS := Lib.hid (fun W (hb : Below w.heap.size w W) => i_state vw vm vi L x sL r m s o W (hs.below hb) (hx.below hb) hok hL hlx)
  have KI := Lib.hid (fun W (hb : Below w.heap.size w W) => i_inputs vw vm vi L I sL li W (hs.below hb) (hls.below hb) hok hL hl)
  obtain ⟨_, q, cap, rfl, _⟩ := hs
  obtain ⟨_, iq, ic, rfl, _⟩ := hls
  obtain ⟨A, hA⟩ : ∃ B, soB vw vm vi L x = B := ⟨_, rfl⟩
  obtain ⟨B, hB⟩ : ∃ B, inB vw vm vi L I = B := ⟨_, rfl⟩
  rw [hA] at KS
  rw [hB] at KI
  obtain ⟨V, hV⟩ : ∃ V, ssV vw vm vi L I x = V := ⟨_, rfl⟩
  rw [hV]
  have HVd := Lib.hid (show V = if (A && B) = true then stepV vw vm vi L I x else zeroSt from by rw [← hV, ← hA, ← hB]; rfl)
  clear hV hok hx hlx
  obtain ⟨w0, hw0⟩ : ∃ w0, w0 = ((w.alloc (.cells #[.int .i64 vw, .int .i64 vm, .int .i64 vi, .slice q L.length cap] 30)).alloc (.cells #[.int .i64 x.pc, r, m, s, .int .i64 x.inn, o, .int .i64 x.cd, .int .i64 x.st] 41)).alloc (.cells #[.int .i64 0, .slice none 0 0, .slice none 0 0, .slice none 0 0, .int .i64 0, .slice none 0 0, .int .i64 0, .int .i64 0] 41) := ⟨_, rfl⟩
  have HB0 := Lib.hid (show Below w.heap.size w w0 by rw [hw0]; exact (((Below.refl _ _).alloc (Nat.le_refl _) _).alloc (by simp) _).alloc (by simp; omega) _)
  have hs0 : w.heap.size + 3 ≤ w0.heap.size := by rw [hw0]; simp
  have XR0 := Lib.hid (show w0.heap[w.heap.size]? = some (.cells #[.int .i64 vw, .int .i64 vm, .int .i64 vi, .slice q L.length cap] 30 (0, 0)) by rw [hw0, heap_alloc_old _ _ (by simp; omega), heap_alloc_old _ _ (by simp)]; exact heap_alloc_new _ _)
  have SR0 := Lib.hid (show w0.heap[w.heap.size + 1]? = some (.cells #[.int .i64 x.pc, r, m, s, .int .i64 x.inn, o, .int .i64 x.cd, .int .i64 x.st] 41 (0, 0)) by rw [hw0, heap_alloc_old _ _ (by simp), ← show (w.alloc (.cells #[.int .i64 vw, .int .i64 vm, .int .i64 vi, .slice q L.length cap] 30)).heap.size = w.heap.size + 1 by simp]; exact heap_alloc_new _ _)
  have ZR0 := Lib.hid (show w0.heap[w.heap.size + 1 + 1]? = some (.cells #[.int .i64 0, .slice none 0 0, .slice none 0 0, .slice none 0 0, .int .i64 0, .slice none 0 0, .int .i64 0, .int .i64 0] 41 (0, 0)) by rw [hw0, ← show ((w.alloc (.cells #[.int .i64 vw, .int .i64 vm, .int .i64 vi, .slice q L.length cap] 30)).alloc (.cells #[.int .i64 x.pc, r, m, s, .int .i64 x.inn, o, .int .i64 x.cd, .int .i64 x.st] 41)).heap.size = w.heap.size + 1 + 1 by simp]; exact heap_alloc_new _ _)
  obtain ⟨x0, x1, x2, x3⟩ := cell4_row XR0.out
  obtain ⟨d0, d1, d2, d3, d4, d5, d6, d7⟩ := cell8_row SR0.out
  rw [hw0] at x0 x1 x2 x3 d0 d1 d2 d3 d4 d5 d6 d7
  go_enter Try.func22, Try.ntmps22
  go_wp2_with fail
  rw [← hw0]
  clear hw0 x0 x1 x2 x3 d0 d1 d2 d3 d4 d5 d6 d7
  refine (KS.out _ HB0.out).mono ?_
  rintro e wp ⟨rfl, hb⟩
  have HBP := Lib.hid (HB0.out.trans (hb.mono HB0.out.size))
  have XRP := Lib.hid ((hb.block w.heap.size (by omega)).trans XR0.out)
  have SRP := Lib.hid ((hb.block (w.heap.size + 1) (by omega)).trans SR0.out)
  have ZRP := Lib.hid ((hb.block (w.heap.size + 1 + 1) (by omega)).trans ZR0.out)
  have hs1 := hb.size
  have hsP : w.heap.size + 3 ≤ wp.heap.size := by omega
  clear hb hs1 hs0
  cases A
  case false =>
    have hv : V = zeroSt := HVd.out
    clear HVd
    subst hv
    obtain ⟨d0, d1, d2, d3, d4, d5, d6, d7⟩ := cell8_row ZRP.out
    obtain ⟨f0, f1, f2, f3, f4, f5, f6, f7⟩ := froz8_row ZRP.out
    go_wp2
    refine bodyPost_ret (v := .agg #[.int .i64 0, .slice none 0 0, .slice none 0 0, .slice none 0 0, .int .i64 0, .slice none 0 0, .int .i64 0, .int .i64 0]) (by simp [results, Try.results22, go_sem, d0, d1, d2, d3, d4, d5, d6, d7]) rfl ?_
    refine st_zero ?_
    repeat (first | refine Below.setCell ?_ (by first | (simp; done) | (simp; omega)) _ | exact HBP.out)
  case true =>
    obtain ⟨x0, x1, x2, x3⟩ := cell4_row XRP.out
    go_wp2_with fail
    clear x0 x1 x2 x3
    refine (KI.out _ HBP.out).mono ?_
    rintro e w1 ⟨rfl, hb⟩
    have HBI := Lib.hid (HBP.out.trans (hb.mono HBP.out.size))
    have XRI := Lib.hid ((hb.block w.heap.size (by omega)).trans XRP.out)
    have SRI := Lib.hid ((hb.block (w.heap.size + 1) (by omega)).trans SRP.out)
    have ZRI := Lib.hid ((hb.block (w.heap.size + 1 + 1) (by omega)).trans ZRP.out)
    have hs1 := hb.size
    have hs1' : w.heap.size + 3 ≤ w1.heap.size := by omega
    clear hb hs1 hsP
    cases B
    case false =>
      have hv : V = zeroSt := HVd.out
      clear HVd
      subst hv
      obtain ⟨d0, d1, d2, d3, d4, d5, d6, d7⟩ := cell8_row ZRI.out
      obtain ⟨f0, f1, f2, f3, f4, f5, f6, f7⟩ := froz8_row ZRI.out
      go_wp2
      refine bodyPost_ret (v := .agg #[.int .i64 0, .slice none 0 0, .slice none 0 0, .slice none 0 0, .int .i64 0, .slice none 0 0, .int .i64 0, .int .i64 0]) (by simp [results, Try.results22, go_sem, d0, d1, d2, d3, d4, d5, d6, d7]) rfl ?_
      refine st_zero ?_
      repeat (first | refine Below.setCell ?_ (by first | (simp; done) | (simp; omega)) _ | exact HBI.out)
    case true =>
      have hv : V = stepV vw vm vi L I x := HVd.out
      subst hv
      have HIN := Lib.hid (in_of hB)
      have hG := (gd_of hA).2
      have h1 := hG.hR
      have h2 := hG.hM
      have h3 := hG.hS
      have h4 := hG.hO
      obtain ⟨⟨-, -, -, hm6, -⟩, -⟩ := pr_in (in_of hB).1
      have KC := Lib.hid (fun W (hb : Below w.heap.size w W) => i_copy x r m s o W (HX.out.below hb) (by omega) (by omega) (by omega) (by omega))
      have HG := Lib.hid hG
      clear HVd hA hB hG h1 h2 h3 h4 hm6
      have HCA := Lib.hid (code_at HS.out)
      have HIA := Lib.hid (in_at HLI.out)
      have hsp : w.heap.size < w1.heap.size := by omega
      have hsq : w.heap.size + 1 < w1.heap.size := by omega
      obtain ⟨x0, x1, x2, x3⟩ := cell4_row XRI.out
      obtain ⟨d0, d1, d2, d3, d4, d5, d6, d7⟩ := cell8_row SRI.out
      go_upto_region 3 with fail
      go_cut [7] from 19 to 23 (fun v wx => ∃ b r m s o, v = .pointer (some ⟨b, 0, none⟩) ∧ w.heap.size + 3 ≤ b ∧ MRow wx b vw vm vi (.slice q L.length cap) (.slice iq I.length ic) x r m s o 0 ∧ StO wx w.heap.size x r m s o ∧ Below w1.heap.size w1 wx)
      case first =>
        have CH : Hid (w1.drew.cell? ⟨w.heap.size, 0, none⟩ = some (.int .i64 vw) ∧ w1.drew.cell? ⟨w.heap.size, 1, none⟩ = some (.int .i64 vm) ∧ w1.drew.cell? ⟨w.heap.size, 2, none⟩ = some (.int .i64 vi) ∧ w1.drew.cell? ⟨w.heap.size, 3, none⟩ = some (.slice q L.length cap) ∧ w1.drew.cell? ⟨w.heap.size + 1, 0, none⟩ = some (.int .i64 x.pc) ∧ w1.drew.cell? ⟨w.heap.size + 1, 1, none⟩ = some (r) ∧ w1.drew.cell? ⟨w.heap.size + 1, 2, none⟩ = some (m) ∧ w1.drew.cell? ⟨w.heap.size + 1, 3, none⟩ = some (s) ∧ w1.drew.cell? ⟨w.heap.size + 1, 4, none⟩ = some (.int .i64 x.inn) ∧ w1.drew.cell? ⟨w.heap.size + 1, 5, none⟩ = some (o) ∧ w1.drew.cell? ⟨w.heap.size + 1, 6, none⟩ = some (.int .i64 x.cd) ∧ w1.drew.cell? ⟨w.heap.size + 1, 7, none⟩ = some (.int .i64 x.st)) := Lib.hid ⟨by assumption, by assumption, by assumption, by assumption, by assumption, by assumption, by assumption, by assumption, by assumption, by assumption, by assumption, by assumption⟩
        refine region_s [6] (fun V => V.cell? ⟨w.heap.size, 0, none⟩ = some (.int .i64 vw) ∧ V.cell? ⟨w.heap.size, 1, none⟩ = some (.int .i64 vm) ∧ V.cell? ⟨w.heap.size, 2, none⟩ = some (.int .i64 vi) ∧ V.cell? ⟨w.heap.size, 3, none⟩ = some (.slice q L.length cap) ∧ V.cell? ⟨w.heap.size + 1, 0, none⟩ = some (.int .i64 x.pc) ∧ V.cell? ⟨w.heap.size + 1, 1, none⟩ = some (r) ∧ V.cell? ⟨w.heap.size + 1, 2, none⟩ = some (m) ∧ V.cell? ⟨w.heap.size + 1, 3, none⟩ = some (s) ∧ V.cell? ⟨w.heap.size + 1, 4, none⟩ = some (.int .i64 x.inn) ∧ V.cell? ⟨w.heap.size + 1, 5, none⟩ = some (o) ∧ V.cell? ⟨w.heap.size + 1, 6, none⟩ = some (.int .i64 x.cd) ∧ V.cell? ⟨w.heap.size + 1, 7, none⟩ = some (.int .i64 x.st)) (by kernel_rfl) ?_
        refine take_s (i := 0) (v := .agg #[.int .i64 vw, .int .i64 vm, .int .i64 vi, .slice q L.length cap]) rfl (by kernel_rfl) (fun _ _ _ h => h) CH.out rfl (fun V hV => ?_) ?_
        · obtain ⟨t0, t1, t2, t3, t4, t5, t6, t7, t8, t9, t10, t11⟩ := hV; go_simp
        refine take_s (i := 1) (v := .slice iq I.length ic) rfl (by kernel_rfl) (fun _ _ _ h => h) CH.out rfl (fun V hV => ?_) ?_
        · go_simp
        refine take_s (i := 2) (v := .agg #[.int .i64 x.pc, r, m, s, .int .i64 x.inn, o, .int .i64 x.cd, .int .i64 x.st]) rfl (by kernel_rfl) (fun _ _ _ h => h) CH.out rfl (fun V hV => ?_) ?_
        · obtain ⟨t0, t1, t2, t3, t4, t5, t6, t7, t8, t9, t10, t11⟩ := hV; go_simp
        have BD := Lib.hid (show Below w1.heap.size w1 w1.drew from (Below.refl _ _).drew)
        refine two_s (i := 3) (k := 5) (by kernel_rfl) (op_list rfl ?_) (op_list rfl ?_)
        · go_wp2_with fail
          refine (KC.out w1.drew (HBI.out.trans (BD.out.mono HBI.out.size))).mono ?_
          rintro e w2 ⟨hb, rq, rc, mq, mc, sq, sc, oq, oc, rfl, ho⟩
          have hb12 : Below w1.heap.size w1 w2 := BD.out.trans (hb.mono BD.out.size)
          have B2 := Lib.hid hb12
          have HO2 := Lib.hid (ho.base (base' := w.heap.size) (by have := HBI.out.size; first | omega | (simp; omega) | (have := HBa.out.size; omega)))
          go_wp2
          have C2 : Hid (w2.cell? ⟨w.heap.size, 0, none⟩ = some (.int .i64 vw) ∧ w2.cell? ⟨w.heap.size, 1, none⟩ = some (.int .i64 vm) ∧ w2.cell? ⟨w.heap.size, 2, none⟩ = some (.int .i64 vi) ∧ w2.cell? ⟨w.heap.size, 3, none⟩ = some (.slice q L.length cap) ∧ w2.cell? ⟨w.heap.size + 1, 0, none⟩ = some (.int .i64 x.pc) ∧ w2.cell? ⟨w.heap.size + 1, 1, none⟩ = some (r) ∧ w2.cell? ⟨w.heap.size + 1, 2, none⟩ = some (m) ∧ w2.cell? ⟨w.heap.size + 1, 3, none⟩ = some (s) ∧ w2.cell? ⟨w.heap.size + 1, 4, none⟩ = some (.int .i64 x.inn) ∧ w2.cell? ⟨w.heap.size + 1, 5, none⟩ = some (o) ∧ w2.cell? ⟨w.heap.size + 1, 6, none⟩ = some (.int .i64 x.cd) ∧ w2.cell? ⟨w.heap.size + 1, 7, none⟩ = some (.int .i64 x.st)) := Lib.hid (by obtain ⟨t0, t1, t2, t3, t4, t5, t6, t7, t8, t9, t10, t11⟩ := CH.out; exact ⟨(hb.cell (p := ⟨w.heap.size, 0, none⟩) (hsp)).trans t0, (hb.cell (p := ⟨w.heap.size, 1, none⟩) (hsp)).trans t1, (hb.cell (p := ⟨w.heap.size, 2, none⟩) (hsp)).trans t2, (hb.cell (p := ⟨w.heap.size, 3, none⟩) (hsp)).trans t3, (hb.cell (p := ⟨w.heap.size + 1, 0, none⟩) (hsq)).trans t4, (hb.cell (p := ⟨w.heap.size + 1, 1, none⟩) (hsq)).trans t5, (hb.cell (p := ⟨w.heap.size + 1, 2, none⟩) (hsq)).trans t6, (hb.cell (p := ⟨w.heap.size + 1, 3, none⟩) (hsq)).trans t7, (hb.cell (p := ⟨w.heap.size + 1, 4, none⟩) (hsq)).trans t8, (hb.cell (p := ⟨w.heap.size + 1, 5, none⟩) (hsq)).trans t9, (hb.cell (p := ⟨w.heap.size + 1, 6, none⟩) (hsq)).trans t10, (hb.cell (p := ⟨w.heap.size + 1, 7, none⟩) (hsq)).trans t11⟩)
          refine ⟨fun _ => C2.out, ?_⟩
          refine take_s (i := 4) (v := .agg #[.int .i64 vw, .int .i64 vm, .int .i64 vi, .slice q L.length cap, .slice iq I.length ic, .int .i64 x.pc, .slice rq x.R.length rc, .slice mq x.M.length mc, .slice sq x.S.length sc, .int .i64 x.inn, .slice oq x.O.length oc, .int .i64 x.cd, .int .i64 x.st, .int .i64 0]) rfl (by kernel_rfl) (fun _ _ _ h => h) C2.out rfl (fun V hV => ?_) ?_
          · go_simp
            all_goals rfl
          refine one_s (i := 5) (by kernel_rfl) (op_list rfl ?_)
          go_wp2
          obtain ⟨wa, hwa⟩ : ∃ W9, W9 = (w2.alloc (.cells #[.int .i64 0, .int .i64 0, .int .i64 0, .slice none 0 0, .slice none 0 0, .int .i64 0, .slice none 0 0, .slice none 0 0, .slice none 0 0, .int .i64 0, .slice none 0 0, .int .i64 0, .int .i64 0, .int .i64 0] 75)) := ⟨_, rfl⟩
          have hba : Below w2.heap.size w2 wa := by rw [hwa]; exact (Below.refl _ _).alloc (Nat.le_refl _) _
          have hra : wa.heap[w2.heap.size]? = some (.cells #[.int .i64 0, .int .i64 0, .int .i64 0, .slice none 0 0, .slice none 0 0, .int .i64 0, .slice none 0 0, .slice none 0 0, .slice none 0 0, .int .i64 0, .slice none 0 0, .int .i64 0, .int .i64 0, .int .i64 0] 75 (0, 0)) := by rw [hwa]; exact heap_alloc_new w2 _
          obtain ⟨b, hbq⟩ : ∃ g, g = w2.heap.size := ⟨_, rfl⟩
          have hbge : w.heap.size + 3 ≤ b := by have := B2.out.size; omega
          rw [← hbq] at hra
          rw [← hwa, ← hbq]
          clear hwa
          have HRA := Lib.hid hra
          have HOA := Lib.hid (HO2.out.keep hba)
          have HBA := Lib.hid (B2.out.trans (hba.mono B2.out.size))
          have hb1b : w1.heap.size ≤ b := by have := B2.out.size; omega
          have C3 : Hid (wa.cell? ⟨w.heap.size, 0, none⟩ = some (.int .i64 vw) ∧ wa.cell? ⟨w.heap.size, 1, none⟩ = some (.int .i64 vm) ∧ wa.cell? ⟨w.heap.size, 2, none⟩ = some (.int .i64 vi) ∧ wa.cell? ⟨w.heap.size, 3, none⟩ = some (.slice q L.length cap) ∧ wa.cell? ⟨w.heap.size + 1, 0, none⟩ = some (.int .i64 x.pc) ∧ wa.cell? ⟨w.heap.size + 1, 1, none⟩ = some (r) ∧ wa.cell? ⟨w.heap.size + 1, 2, none⟩ = some (m) ∧ wa.cell? ⟨w.heap.size + 1, 3, none⟩ = some (s) ∧ wa.cell? ⟨w.heap.size + 1, 4, none⟩ = some (.int .i64 x.inn) ∧ wa.cell? ⟨w.heap.size + 1, 5, none⟩ = some (o) ∧ wa.cell? ⟨w.heap.size + 1, 6, none⟩ = some (.int .i64 x.cd) ∧ wa.cell? ⟨w.heap.size + 1, 7, none⟩ = some (.int .i64 x.st)) := Lib.hid (by obtain ⟨t0, t1, t2, t3, t4, t5, t6, t7, t8, t9, t10, t11⟩ := C2.out; exact ⟨(hba.cell (p := ⟨w.heap.size, 0, none⟩) (by have := B2.out.size; (try dsimp only); omega)).trans t0, (hba.cell (p := ⟨w.heap.size, 1, none⟩) (by have := B2.out.size; (try dsimp only); omega)).trans t1, (hba.cell (p := ⟨w.heap.size, 2, none⟩) (by have := B2.out.size; (try dsimp only); omega)).trans t2, (hba.cell (p := ⟨w.heap.size, 3, none⟩) (by have := B2.out.size; (try dsimp only); omega)).trans t3, (hba.cell (p := ⟨w.heap.size + 1, 0, none⟩) (by have := B2.out.size; (try dsimp only); omega)).trans t4, (hba.cell (p := ⟨w.heap.size + 1, 1, none⟩) (by have := B2.out.size; (try dsimp only); omega)).trans t5, (hba.cell (p := ⟨w.heap.size + 1, 2, none⟩) (by have := B2.out.size; (try dsimp only); omega)).trans t6, (hba.cell (p := ⟨w.heap.size + 1, 3, none⟩) (by have := B2.out.size; (try dsimp only); omega)).trans t7, (hba.cell (p := ⟨w.heap.size + 1, 4, none⟩) (by have := B2.out.size; (try dsimp only); omega)).trans t8, (hba.cell (p := ⟨w.heap.size + 1, 5, none⟩) (by have := B2.out.size; (try dsimp only); omega)).trans t9, (hba.cell (p := ⟨w.heap.size + 1, 6, none⟩) (by have := B2.out.size; (try dsimp only); omega)).trans t10, (hba.cell (p := ⟨w.heap.size + 1, 7, none⟩) (by have := B2.out.size; (try dsimp only); omega)).trans t11⟩)
          clear hba hra hbq
          refine ⟨fun _ => C3.out, ?_⟩
          obtain ⟨z0, z1, z2, z3, z4, z5, z6, z7, z8, z9, z10, z11, z12, z13⟩ := mcells HRA.out
          obtain ⟨y0, y1, y2, y3, y4, y5, y6, y7, y8, y9, y10, y11, y12, y13⟩ := mfroz14 HRA.out
          refine one_s (i := 6) (by kernel_rfl) (op_list rfl ?_)
          go_wp2
          refine ⟨late_s (by kernel_rfl), done_s (by kernel_rfl) ?_ _⟩
          clear z0 z1 z2 z3 z4 z5 z6 z7 z8 z9 z10 z11 z12 z13 y0 y1 y2 y3 y4 y5 y6 y7 y8 y9 y10 y11 y12 y13
          obtain ⟨wm, hwm⟩ : ∃ W9, W9 = ((((((((((((((wa.setCell ⟨b, 0, none⟩ (.int .i64 vw)).setCell ⟨b, 1, none⟩ (.int .i64 vm)).setCell ⟨b, 2, none⟩ (.int .i64 vi)).setCell ⟨b, 3, none⟩ (.slice q L.length cap)).setCell ⟨b, 4, none⟩ (.slice iq I.length ic)).setCell ⟨b, 5, none⟩ (.int .i64 x.pc)).setCell ⟨b, 6, none⟩ (.slice rq x.R.length rc)).setCell ⟨b, 7, none⟩ (.slice mq x.M.length mc)).setCell ⟨b, 8, none⟩ (.slice sq x.S.length sc)).setCell ⟨b, 9, none⟩ (.int .i64 x.inn)).setCell ⟨b, 10, none⟩ (.slice oq x.O.length oc)).setCell ⟨b, 11, none⟩ (.int .i64 x.cd)).setCell ⟨b, 12, none⟩ (.int .i64 x.st)).setCell ⟨b, 13, none⟩ (.int .i64 0)) := ⟨_, rfl⟩
          have MM := Lib.hid (show MRow wm b vw vm vi (.slice q L.length cap) (.slice iq I.length ic) x (.slice rq x.R.length rc) (.slice mq x.M.length mc) (.slice sq x.S.length sc) (.slice oq x.O.length oc) 0 by rw [hwm]; exact set14_row HRA.out _ _ _ _ _ _ _ _ _ _ _ _ _ _)
          have OM := Lib.hid (show StO wm w.heap.size x (.slice rq x.R.length rc) (.slice mq x.M.length mc) (.slice sq x.S.length sc) (.slice oq x.O.length oc) by rw [hwm]; exact HOA.out.same (fun g hg => set14_heap _ _ _ (fun h => HOA.out.off (T := 75) mach_ne HRA.out (by rw [← h]; exact hg)) _ _ _ _ _ _ _ _ _ _ _ _ _ _))
          have hbm := Lib.hid (show ∀ g, g < w1.heap.size → wm.heap[g]? = w1.heap[g]? from fun g hg => by rw [hwm]; exact (set14_heap _ _ _ (by omega) _ _ _ _ _ _ _ _ _ _ _ _ _ _).trans (HBA.out.block g hg))
          have BM := Lib.hid (show Below w1.heap.size w1 wm by rw [hwm]; exact set14_below HBA.out (by omega) _ _ _ _ _ _ _ _ _ _ _ _ _ _)
          rw [← hwm]
          clear hwm
          go_wp2_with fail
          go_meet
          exact ⟨b, _, _, _, _, rfl, by omega, MM.out, OM.out, BM.out⟩
        · go_wp2
          obtain ⟨wa, hwa⟩ : ∃ W9, W9 = (w1.alloc (.cells #[.int .i64 0, .int .i64 0, .int .i64 0, .slice none 0 0, .slice none 0 0, .int .i64 0, .slice none 0 0, .slice none 0 0, .slice none 0 0, .int .i64 0, .slice none 0 0, .int .i64 0, .int .i64 0, .int .i64 0] 75)).drew := ⟨_, rfl⟩
          have hba : Below w1.heap.size w1 wa := by rw [hwa]; exact ((Below.refl _ _).alloc (Nat.le_refl _) _).drew
          have hra : wa.heap[w1.heap.size]? = some (.cells #[.int .i64 0, .int .i64 0, .int .i64 0, .slice none 0 0, .slice none 0 0, .int .i64 0, .slice none 0 0, .slice none 0 0, .slice none 0 0, .int .i64 0, .slice none 0 0, .int .i64 0, .int .i64 0, .int .i64 0] 75 (0, 0)) := by rw [hwa]; exact heap_alloc_new w1 _
          obtain ⟨b, hbq⟩ : ∃ g, g = w1.heap.size := ⟨_, rfl⟩
          have hbge : w.heap.size + 3 ≤ b := by have := BD.out.size; omega
          rw [← hbq] at hra
          rw [← hwa, ← hbq]
          clear hwa
          have HRa := Lib.hid hra
          have HBa := Lib.hid hba
          have hb1b : w1.heap.size ≤ b := by omega
          have C1 : Hid (wa.cell? ⟨w.heap.size, 0, none⟩ = some (.int .i64 vw) ∧ wa.cell? ⟨w.heap.size, 1, none⟩ = some (.int .i64 vm) ∧ wa.cell? ⟨w.heap.size, 2, none⟩ = some (.int .i64 vi) ∧ wa.cell? ⟨w.heap.size, 3, none⟩ = some (.slice q L.length cap) ∧ wa.cell? ⟨w.heap.size + 1, 0, none⟩ = some (.int .i64 x.pc) ∧ wa.cell? ⟨w.heap.size + 1, 1, none⟩ = some (r) ∧ wa.cell? ⟨w.heap.size + 1, 2, none⟩ = some (m) ∧ wa.cell? ⟨w.heap.size + 1, 3, none⟩ = some (s) ∧ wa.cell? ⟨w.heap.size + 1, 4, none⟩ = some (.int .i64 x.inn) ∧ wa.cell? ⟨w.heap.size + 1, 5, none⟩ = some (o) ∧ wa.cell? ⟨w.heap.size + 1, 6, none⟩ = some (.int .i64 x.cd) ∧ wa.cell? ⟨w.heap.size + 1, 7, none⟩ = some (.int .i64 x.st)) := Lib.hid (by obtain ⟨t0, t1, t2, t3, t4, t5, t6, t7, t8, t9, t10, t11⟩ := CH.out; exact ⟨(hba.cell (p := ⟨w.heap.size, 0, none⟩) (by omega)).trans t0, (hba.cell (p := ⟨w.heap.size, 1, none⟩) (by omega)).trans t1, (hba.cell (p := ⟨w.heap.size, 2, none⟩) (by omega)).trans t2, (hba.cell (p := ⟨w.heap.size, 3, none⟩) (by omega)).trans t3, (hba.cell (p := ⟨w.heap.size + 1, 0, none⟩) (by omega)).trans t4, (hba.cell (p := ⟨w.heap.size + 1, 1, none⟩) (by omega)).trans t5, (hba.cell (p := ⟨w.heap.size + 1, 2, none⟩) (by omega)).trans t6, (hba.cell (p := ⟨w.heap.size + 1, 3, none⟩) (by omega)).trans t7, (hba.cell (p := ⟨w.heap.size + 1, 4, none⟩) (by omega)).trans t8, (hba.cell (p := ⟨w.heap.size + 1, 5, none⟩) (by omega)).trans t9, (hba.cell (p := ⟨w.heap.size + 1, 6, none⟩) (by omega)).trans t10, (hba.cell (p := ⟨w.heap.size + 1, 7, none⟩) (by omega)).trans t11⟩)
          have hba1 : b < wa.heap.size := row_lt hra
          clear hba hra hbq
          refine ⟨fun _ => C1.out, ?_⟩
          refine one_s (i := 3) (by kernel_rfl) (op_list rfl ?_)
          go_wp2_with fail
          refine (KC.out wa (HBI.out.trans (HBa.out.mono HBI.out.size))).mono ?_
          rintro e w2 ⟨hb, rq, rc, mq, mc, sq, sc, oq, oc, rfl, ho⟩
          have hb12 : Below w1.heap.size w1 w2 := HBa.out.trans (hb.mono HBa.out.size)
          have B2 := Lib.hid hb12
          have HO2 := Lib.hid (ho.base (base' := w.heap.size) (by have := HBI.out.size; first | omega | (simp; omega) | (have := HBa.out.size; omega)))
          go_wp2
          have HRA := Lib.hid ((hb.block b hba1).trans HRa.out)
          have HOA := HO2
          have HBA := B2
          have C2 : Hid (w2.cell? ⟨w.heap.size, 0, none⟩ = some (.int .i64 vw) ∧ w2.cell? ⟨w.heap.size, 1, none⟩ = some (.int .i64 vm) ∧ w2.cell? ⟨w.heap.size, 2, none⟩ = some (.int .i64 vi) ∧ w2.cell? ⟨w.heap.size, 3, none⟩ = some (.slice q L.length cap) ∧ w2.cell? ⟨w.heap.size + 1, 0, none⟩ = some (.int .i64 x.pc) ∧ w2.cell? ⟨w.heap.size + 1, 1, none⟩ = some (r) ∧ w2.cell? ⟨w.heap.size + 1, 2, none⟩ = some (m) ∧ w2.cell? ⟨w.heap.size + 1, 3, none⟩ = some (s) ∧ w2.cell? ⟨w.heap.size + 1, 4, none⟩ = some (.int .i64 x.inn) ∧ w2.cell? ⟨w.heap.size + 1, 5, none⟩ = some (o) ∧ w2.cell? ⟨w.heap.size + 1, 6, none⟩ = some (.int .i64 x.cd) ∧ w2.cell? ⟨w.heap.size + 1, 7, none⟩ = some (.int .i64 x.st)) := Lib.hid (by obtain ⟨t0, t1, t2, t3, t4, t5, t6, t7, t8, t9, t10, t11⟩ := C1.out; exact ⟨(hb.cell (p := ⟨w.heap.size, 0, none⟩) (by have := HBa.out.size; (try dsimp only); omega)).trans t0, (hb.cell (p := ⟨w.heap.size, 1, none⟩) (by have := HBa.out.size; (try dsimp only); omega)).trans t1, (hb.cell (p := ⟨w.heap.size, 2, none⟩) (by have := HBa.out.size; (try dsimp only); omega)).trans t2, (hb.cell (p := ⟨w.heap.size, 3, none⟩) (by have := HBa.out.size; (try dsimp only); omega)).trans t3, (hb.cell (p := ⟨w.heap.size + 1, 0, none⟩) (by have := HBa.out.size; (try dsimp only); omega)).trans t4, (hb.cell (p := ⟨w.heap.size + 1, 1, none⟩) (by have := HBa.out.size; (try dsimp only); omega)).trans t5, (hb.cell (p := ⟨w.heap.size + 1, 2, none⟩) (by have := HBa.out.size; (try dsimp only); omega)).trans t6, (hb.cell (p := ⟨w.heap.size + 1, 3, none⟩) (by have := HBa.out.size; (try dsimp only); omega)).trans t7, (hb.cell (p := ⟨w.heap.size + 1, 4, none⟩) (by have := HBa.out.size; (try dsimp only); omega)).trans t8, (hb.cell (p := ⟨w.heap.size + 1, 5, none⟩) (by have := HBa.out.size; (try dsimp only); omega)).trans t9, (hb.cell (p := ⟨w.heap.size + 1, 6, none⟩) (by have := HBa.out.size; (try dsimp only); omega)).trans t10, (hb.cell (p := ⟨w.heap.size + 1, 7, none⟩) (by have := HBa.out.size; (try dsimp only); omega)).trans t11⟩)
          refine ⟨fun _ => C2.out, ?_⟩
          refine take_s (i := 4) (v := .agg #[.int .i64 vw, .int .i64 vm, .int .i64 vi, .slice q L.length cap, .slice iq I.length ic, .int .i64 x.pc, .slice rq x.R.length rc, .slice mq x.M.length mc, .slice sq x.S.length sc, .int .i64 x.inn, .slice oq x.O.length oc, .int .i64 x.cd, .int .i64 x.st, .int .i64 0]) rfl (by kernel_rfl) (fun _ _ _ h => h) C2.out rfl (fun V hV => ?_) ?_
          · go_simp
            all_goals rfl
          obtain ⟨z0, z1, z2, z3, z4, z5, z6, z7, z8, z9, z10, z11, z12, z13⟩ := mcells HRA.out
          obtain ⟨y0, y1, y2, y3, y4, y5, y6, y7, y8, y9, y10, y11, y12, y13⟩ := mfroz14 HRA.out
          refine one_s (i := 6) (by kernel_rfl) (op_list rfl ?_)
          go_wp2
          refine ⟨late_s (by kernel_rfl), done_s (by kernel_rfl) ?_ _⟩
          clear z0 z1 z2 z3 z4 z5 z6 z7 z8 z9 z10 z11 z12 z13 y0 y1 y2 y3 y4 y5 y6 y7 y8 y9 y10 y11 y12 y13
          obtain ⟨wm, hwm⟩ : ∃ W9, W9 = ((((((((((((((w2.setCell ⟨b, 0, none⟩ (.int .i64 vw)).setCell ⟨b, 1, none⟩ (.int .i64 vm)).setCell ⟨b, 2, none⟩ (.int .i64 vi)).setCell ⟨b, 3, none⟩ (.slice q L.length cap)).setCell ⟨b, 4, none⟩ (.slice iq I.length ic)).setCell ⟨b, 5, none⟩ (.int .i64 x.pc)).setCell ⟨b, 6, none⟩ (.slice rq x.R.length rc)).setCell ⟨b, 7, none⟩ (.slice mq x.M.length mc)).setCell ⟨b, 8, none⟩ (.slice sq x.S.length sc)).setCell ⟨b, 9, none⟩ (.int .i64 x.inn)).setCell ⟨b, 10, none⟩ (.slice oq x.O.length oc)).setCell ⟨b, 11, none⟩ (.int .i64 x.cd)).setCell ⟨b, 12, none⟩ (.int .i64 x.st)).setCell ⟨b, 13, none⟩ (.int .i64 0)) := ⟨_, rfl⟩
          have MM := Lib.hid (show MRow wm b vw vm vi (.slice q L.length cap) (.slice iq I.length ic) x (.slice rq x.R.length rc) (.slice mq x.M.length mc) (.slice sq x.S.length sc) (.slice oq x.O.length oc) 0 by rw [hwm]; exact set14_row HRA.out _ _ _ _ _ _ _ _ _ _ _ _ _ _)
          have OM := Lib.hid (show StO wm w.heap.size x (.slice rq x.R.length rc) (.slice mq x.M.length mc) (.slice sq x.S.length sc) (.slice oq x.O.length oc) by rw [hwm]; exact HOA.out.same (fun g hg => set14_heap _ _ _ (fun h => HOA.out.off (T := 75) mach_ne HRA.out (by rw [← h]; exact hg)) _ _ _ _ _ _ _ _ _ _ _ _ _ _))
          have hbm := Lib.hid (show ∀ g, g < w1.heap.size → wm.heap[g]? = w1.heap[g]? from fun g hg => by rw [hwm]; exact (set14_heap _ _ _ (by omega) _ _ _ _ _ _ _ _ _ _ _ _ _ _).trans (HBA.out.block g hg))
          have BM := Lib.hid (show Below w1.heap.size w1 wm by rw [hwm]; exact set14_below HBA.out (by omega) _ _ _ _ _ _ _ _ _ _ _ _ _ _)
          rw [← hwm]
          clear hwm
          go_wp2_with fail
          go_meet
          exact ⟨b, _, _, _, _, rfl, by omega, MM.out, OM.out, BM.out⟩
      case rest =>
        clear x0 x1 x2 x3 d0 d1 d2 d3 d4 d5 d6 d7
        obtain ⟨b, r', m', s', o', hv8, hbge, hM, hO, hbm⟩ := hcut
        subst hv8
        have HBC := Lib.hid (HBI.out.trans (hbm.mono HBI.out.size))
        have ZRC := Lib.hid ((hbm.block (w.heap.size + 1 + 1) (by omega)).trans ZRI.out)
        have hsc := hbm.size
        have MR := Lib.hid hM
        have OR := Lib.hid hO
        have hbs : b < wc.heap.size := row_lt hM
        have KM := Lib.hid (i_mstep vw vm vi L q cap iq ic I x r' m' s' o' 0 b w.heap.size wc HIN.out.1 HG.out HIN.out.2 (HCA.out.below HBC.out) (HIA.out.below HBC.out) (by omega) hM hO)
        clear hM hO hbm
        go_wp2_with fail
        refine KM.out.mono ?_
        rintro e w5 ⟨nx5, rfl, r5, m5, s5, o5, hM5, hO5, hA5, hs5⟩
        obtain ⟨rq5, rc5, rfl⟩ := own_slice hO5.1
        obtain ⟨mq5, mc5, rfl⟩ := own_slice hO5.2.1
        obtain ⟨sq5, sc5, rfl⟩ := own_slice hO5.2.2.1
        obtain ⟨oq5, oc5, rfl⟩ := own_slice hO5.2.2.2.1
        obtain ⟨y5, hy5⟩ : ∃ y, stepV vw vm vi L I x = y := ⟨_, rfl⟩
        have HY := Lib.hid hy5
        rw [hy5] at hM5 hO5
        clear hy5 hs5
        have ZR5 := Lib.hid ((hA5.block (w.heap.size + 1 + 1) (by omega) (fun hm => (List.mem_cons.1 hm).elim (fun h => by omega) (fun h => OR.out.off (T := 41) (by decide) ZRC.out h))).trans ZRC.out)
        have HB5 := Lib.hid (HBC.out.trans (hA5.below (by omega) (fun g hg => (List.mem_cons.1 hg).elim (fun h => by omega) (fun h => (OR.out.lt h).1))))
        have M5 := Lib.hid hM5
        have O5 := Lib.hid hO5
        clear hM5 hO5 hA5
        obtain ⟨m0, m1, m2, m3, m4, m5, m6, m7, m8, m9, m10, m11, m12, m13⟩ := mcells M5.out
        obtain ⟨z0, z1, z2, z3, z4, z5, z6, z7⟩ := cell8_row ZR5.out
        obtain ⟨f0, f1, f2, f3, f4, f5, f6, f7⟩ := froz8_row ZR5.out
        go_wp2
        obtain ⟨we, hwe⟩ : ∃ W9, W9 = ((((((((w5.setCell ⟨w.heap.size + 1 + 1, 0, none⟩ (.int .i64 y5.pc)).setCell ⟨w.heap.size + 1 + 1, 1, none⟩ (.slice rq5 y5.R.length rc5)).setCell ⟨w.heap.size + 1 + 1, 2, none⟩ (.slice mq5 y5.M.length mc5)).setCell ⟨w.heap.size + 1 + 1, 3, none⟩ (.slice sq5 y5.S.length sc5)).setCell ⟨w.heap.size + 1 + 1, 4, none⟩ (.int .i64 y5.inn)).setCell ⟨w.heap.size + 1 + 1, 5, none⟩ (.slice oq5 y5.O.length oc5)).setCell ⟨w.heap.size + 1 + 1, 6, none⟩ (.int .i64 y5.cd)).setCell ⟨w.heap.size + 1 + 1, 7, none⟩ (.int .i64 y5.st)) := ⟨_, rfl⟩
        have D2 := Lib.hid (show we.heap[w.heap.size + 1 + 1]? = some (.cells #[.int .i64 y5.pc, .slice rq5 y5.R.length rc5, .slice mq5 y5.M.length mc5, .slice sq5 y5.S.length sc5, .int .i64 y5.inn, .slice oq5 y5.O.length oc5, .int .i64 y5.cd, .int .i64 y5.st] 41 (0, 0)) by rw [hwe]; exact set8_row ZR5.out _ _ _ _ _ _ _ _)
        have BE := Lib.hid (show Below w.heap.size w we by rw [hwe]; exact set8_below HB5.out (by omega) _ _ _ _ _ _ _ _)
        have OE := Lib.hid (show StO we w.heap.size y5 _ _ _ _ by rw [hwe]; exact O5.out.set8 (O5.out.off (T := 41) (by decide) ZR5.out) _ _ _ _ _ _ _ _)
        rw [← hwe]
        clear hwe z0 z1 z2 z3 z4 z5 z6 z7 f0 f1 f2 f3 f4 f5 f6 f7 m0 m1 m2 m3 m4 m5 m6 m7 m8 m9 m10 m11 m12 m13
        obtain ⟨d0, d1, d2, d3, d4, d5, d6, d7⟩ := cell8_row D2.out
        refine bodyPost_ret (v := .agg #[.int .i64 y5.pc, .slice rq5 y5.R.length rc5, .slice mq5 y5.M.length mc5, .slice sq5 y5.S.length sc5, .int .i64 y5.inn, .slice oq5 y5.O.length oc5, .int .i64 y5.cd, .int .i64 y5.st]) (by simp [results, Try.results22, go_sem, d0, d1, d2, d3, d4, d5, d6, d7]) rfl ?_
        rw [HY.out]
        exact ⟨BE.out, rq5, rc5, mq5, mc5, sq5, sc5, oq5, oc5, rfl, OE.out⟩
end Go.Proofs.Ytbdkningngpgcaa
