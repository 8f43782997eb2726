/- What the program's EvalPath returns, where the table lies. Slices of int: marks. No condition. The marks that the laws write into a state: markState. No condition. -/
import Derived.Test.YthmababifgaejaaGreatDoorEmGEwI
import Derived.Test.YthmababifgaejaaGreatDoorEmHpI
import Derived.Test.YthmababifgaejaaGreatDoorEmGDat
import Derived.Test.YthmababifgaejaaGreatDoorEmGEv
namespace Go.Proofs.YthmababifgaejaaGreatDoor
open Go.ChangeShapes Go.WideShapes Go.ChangeAt Go.RowKit
open ValueR (all costs)
theorem set1_row {w : World} {b : Nat} {T : TypeId} {c0 : Value} (h : w.heap[b]? = some (.cells #[c0] T (0, 0))) (v : Value) : (w.setCell ⟨b, 0, none⟩ v).heap[b]? = some (.cells #[v] T (0, 0)) := heap_setCell_same w b 0 _ _ _ h
theorem ep_kn {vw vm vi : Int} {L : List InsR} {x : PaR} {l : List Int} (hp : hpB vw vm vi L x l = true) : epB vw vm vi L x l = (knB (inV vw l) x.R && (knB (inV vw l) x.M && knB (inV vw l) x.O)) := by
  unfold epB
  rw [hp, evs_kn, evs_kn, evs_kn]
  rfl
theorem ep_wds {vw : Int} {x : PaR} {l : List Int} (h : (knB (inV vw l) x.R && (knB (inV vw l) x.M && knB (inV vw l) x.O)) = true) : epT vw x l = ⟨x.pc, wds (inV vw l) x.R, wds (inV vw l) x.M, x.S, x.inn, wds (inV vw l) x.O, x.cd, x.st⟩ := by
  rw [Bool.and_eq_true, Bool.and_eq_true] at h
  unfold epT
  rw [evs_wds _ _ h.1, evs_wds _ _ h.2.1, evs_wds _ _ h.2.2]
set_option maxRecDepth 100000 in
set_option maxHeartbeats 8000000 in
theorem i_epath (vw vm vi : Int) (L : List InsR) (x : PaR) (l : List Int) (s r m sk o c u li : Value) (w : World) (hs : Cs.Shows w 0 4 s L.length (InsR.all L)) (hx : PaI w 0 x r m sk o c u) (hls : Cs.Shows w 0 1 li l.length (IntL.all l)) (hok : ∀ r ∈ L, r.Ok) (hL : L.length ≤ maxLen) (hl : x.Long) (hcc : x.cost ≤ 1048576) (hll : l.length ≤ maxLen) (htab : Lib.TabIs Tryz.prog w "internal/strconv.uint64pow10" .u64 Lib.pow10Tab) :
    Calls Tryz.prog 10 #[.agg #[.int .i64 vw, .int .i64 vm, .int .i64 vi, s], .agg #[.int .i64 x.pc, r, m, sk, .int .i64 x.inn, o, .int .i64 x.cd, .int .i64 x.st, c, u], li] w (EpEnd (epV vw vm vi L x l) (epB vw vm vi L x l) w) := by
  have hml : maxLen = 9223372036854775807 := rfl
  have K1 := Lib.hid (fun W (hb : Below w.heap.size w W) => i_hpath vw vm vi L x l s r m sk o c u li W (hs.below hb) (hx.below hb) (hls.below hb) hok hL hl hcc hll (var_below hb htab))
  have K3 := Lib.hid (fun q cap W (hb : Below w.heap.size w W) (h3 : l.length ≤ 3) => i_values vw vm vi L.length q cap l li W (hls.below hb) h3 (var_below hb htab))
  have KX := Lib.hid (fun W (hb : Below w.heap.size w W) => hx.below hb)
  clear htab
  obtain ⟨_, q, cap, rfl, _⟩ := hs
  obtain ⟨_, lq, lcap, rfl, _⟩ := hls
  obtain ⟨hr, hm, hsk, ho, hc, hu⟩ := hx
  have HSK := Lib.hid hsk
  obtain ⟨_, ⟨_, qr, cr, rfl, _⟩, _⟩ := hr
  obtain ⟨_, ⟨_, qm, cm, rfl, _⟩, _⟩ := hm
  obtain ⟨_, qsk, csk, rfl, _⟩ := hsk
  obtain ⟨_, ⟨_, qo, co, rfl, _⟩, _⟩ := ho
  obtain ⟨_, ⟨_, qc, cc, rfl, _⟩, _⟩ := hc
  obtain ⟨_, qu, cu, rfl, _⟩ := hu
  clear HSK
  obtain ⟨VB, hVB⟩ : ∃ y, epB vw vm vi L x l = y := ⟨_, rfl⟩
  obtain ⟨VV, hVV⟩ : ∃ y, epV vw vm vi L x l = y := ⟨_, rfl⟩
  rw [hVB, hVV]
  unfold epV at hVV
  rw [hVB] at hVV
  obtain ⟨b1, hb1⟩ : ∃ y, hpB vw vm vi L x l = y := ⟨_, rfl⟩
  rw [hb1] at K1
  have HVB := Lib.hid hVB
  have HVV := Lib.hid hVV
  clear hVB hVV
  have hsz1 : (w.alloc (.cells #[.int .i64 vw, .int .i64 vm, .int .i64 vi, .slice q L.length cap] 37)).heap.size = w.heap.size + 1 := by simp
  have hsz2 : (((w.alloc (.cells #[.int .i64 vw, .int .i64 vm, .int .i64 vi, .slice q L.length cap] 37)).alloc (.cells #[.int .i64 x.pc, .slice qr x.R.len cr, .slice qm x.M.len cm, .slice qsk x.S.length csk, .int .i64 x.inn, .slice qo x.O.len co, .int .i64 x.cd, .int .i64 x.st, .slice qc x.C.len cc, .slice qu x.U.length cu] 41))).heap.size = w.heap.size + 1 + 1 := by simp
  obtain ⟨w0, hw0⟩ : ∃ w0, w0 = (((w.alloc (.cells #[.int .i64 vw, .int .i64 vm, .int .i64 vi, .slice q L.length cap] 37)).alloc (.cells #[.int .i64 x.pc, .slice qr x.R.len cr, .slice qm x.M.len cm, .slice qsk x.S.length csk, .int .i64 x.inn, .slice qo x.O.len co, .int .i64 x.cd, .int .i64 x.st, .slice qc x.C.len cc, .slice qu x.U.length cu] 41))).alloc (.cells #[.int .i64 0, .slice none 0 0, .slice none 0 0, .slice none 0 0, .int .i64 0, .slice none 0 0, .int .i64 0, .int .i64 0] 32) := ⟨_, rfl⟩
  have k1 : Below (((w.alloc (.cells #[.int .i64 vw, .int .i64 vm, .int .i64 vi, .slice q L.length cap] 37)).alloc (.cells #[.int .i64 x.pc, .slice qr x.R.len cr, .slice qm x.M.len cm, .slice qsk x.S.length csk, .int .i64 x.inn, .slice qo x.O.len co, .int .i64 x.cd, .int .i64 x.st, .slice qc x.C.len cc, .slice qu x.U.length cu] 41))).heap.size (((w.alloc (.cells #[.int .i64 vw, .int .i64 vm, .int .i64 vi, .slice q L.length cap] 37)).alloc (.cells #[.int .i64 x.pc, .slice qr x.R.len cr, .slice qm x.M.len cm, .slice qsk x.S.length csk, .int .i64 x.inn, .slice qo x.O.len co, .int .i64 x.cd, .int .i64 x.st, .slice qc x.C.len cc, .slice qu x.U.length cu] 41))) w0 := by rw [hw0]; exact (Below.refl _ _).alloc (Nat.le_refl _) _
  have HB0 := Lib.hid (show Below w.heap.size w w0 by rw [hw0]; exact (((Below.refl _ _).alloc (Nat.le_refl _) _).alloc (by simp) _).alloc (by simp; omega) _)
  have hs0 : w0.heap.size = w.heap.size + 3 := by rw [hw0]; simp
  have X0 := Lib.hid (((cell4_alloc w 37 (.int .i64 vw) (.int .i64 vm) (.int .i64 vi) (.slice q L.length cap)).below ((Below.refl _ _).alloc (Nat.le_refl _) (.cells #[.int .i64 x.pc, .slice qr x.R.len cr, .slice qm x.M.len cm, .slice qsk x.S.length csk, .int .i64 x.inn, .slice qo x.O.len co, .int .i64 x.cd, .int .i64 x.st, .slice qc x.C.len cc, .slice qu x.U.length cu] 41))).below k1)
  have Y0 := Lib.hid (((cell10_alloc (w.alloc (.cells #[.int .i64 vw, .int .i64 vm, .int .i64 vi, .slice q L.length cap] 37)) 41 (.int .i64 x.pc) (.slice qr x.R.len cr) (.slice qm x.M.len cm) (.slice qsk x.S.length csk) (.int .i64 x.inn) (.slice qo x.O.len co) (.int .i64 x.cd) (.int .i64 x.st) (.slice qc x.C.len cc) (.slice qu x.U.length cu))).below k1)
  rw [hsz1] at Y0
  have Z0 := Lib.hid (show w0.heap[w.heap.size + 1 + 1]? = some (.cells #[.int .i64 0, .slice none 0 0, .slice none 0 0, .slice none 0 0, .int .i64 0, .slice none 0 0, .int .i64 0, .int .i64 0] 32 (0, 0)) by rw [hw0, ← hsz2]; exact heap_alloc_new _ _)
  clear k1 hsz1 hsz2
  obtain ⟨x0, x1, x2, x3⟩ := X0.out
  obtain ⟨y0, y1, y2, y3, y4, y5, y6, y7, y8, y9⟩ := Y0.out
  rw [hw0] at x0 x1 x2 x3 y0 y1 y2 y3 y4 y5 y6 y7 y8 y9
  go_enter Tryz.func10, Tryz.ntmps10
  go_wp2_with fail
  rw [← hw0] at x0 x1 x2 x3 y0 y1 y2 y3 y4 y5 y6 y7 y8 y9 ⊢
  clear hw0
  refine (K1.out _ HB0.out).mono ?_
  rintro e w1 ⟨rfl, hb⟩
  have HB1 := Lib.hid (HB0.out.trans (hb.mono HB0.out.size))
  have X1 := Lib.hid (X0.out.below hb)
  have Y1 := Lib.hid (Y0.out.below hb)
  have Z1 := Lib.hid ((hb.block (w.heap.size + 1 + 1) (Array.getElem?_eq_some_iff.1 Z0.out).1).trans Z0.out)
  have hsz1 := hb.size
  clear hb
  clear x0 x1 x2 x3 y0 y1 y2 y3 y4 y5 y6 y7 y8 y9
  obtain ⟨x0, x1, x2, x3⟩ := X1.out
  obtain ⟨y0, y1, y2, y3, y4, y5, y6, y7, y8, y9⟩ := Y1.out
  have hz1 : w.heap.size + 3 ≤ w1.heap.size := by omega
  cases b1
  case false =>
    have hvb : VB = false := by rw [← HVB.out]; unfold epB; rw [hb1]; rfl
    have HV := Lib.hid (show VV = zeroSt ∧ VB = false from ⟨by rw [← HVV.out, hvb]; rfl, hvb⟩)
    clear hvb HVB HVV
    clear x0 x1 x2 x3 y0 y1 y2 y3 y4 y5 y6 y7 y8 y9
    obtain ⟨d0, d1, d2, d3, d4, d5, d6, d7⟩ := cell8_row Z1.out
    obtain ⟨f0, f1, f2, f3, f4, f5, f6, f7⟩ := froz8_row Z1.out
    go_wp2
    refine bodyPost_ret (v := .tuple #[.agg #[.int .i64 0, .slice none 0 0, .slice none 0 0, .slice none 0 0, .int .i64 0, .slice none 0 0, .int .i64 0, .int .i64 0], .bool false]) (by simp [results, Tryz.results10, go_sem, d0, d1, d2, d3, d4, d5, d6, d7]) rfl ?_
    rw [HV.out.1, HV.out.2]
    refine ep_zero ?_
    repeat (first | refine Below.setCell ?_ (by first | (simp; done) | (simp; omega)) _ | exact HB1.out)
  case true =>
    have hbf := hb1
    unfold hpB at hbf
    rw [Bool.and_eq_true, Bool.and_eq_true] at hbf
    obtain ⟨hpa, hin, _⟩ := hbf
    have hep := ep_kn hb1
    rw [HVB.out] at hep
    have HEW := Lib.hid (ep_wds (vw := vw) (x := x) (l := l))
    have KV := Lib.hid (fun W hb => K3.out q cap W hb (in_facts hin).1)
    have hVL := inV_ok hin
    obtain ⟨hT1, hT2, hT3, _⟩ := pa_tm hpa
    obtain ⟨TT, hTT⟩ : ∃ y, epT vw x l = y := ⟨_, rfl⟩
    rw [hTT] at HVV HEW
    obtain ⟨VL, hVLe⟩ : ∃ VL, inV vw l = VL := ⟨_, rfl⟩
    rw [hVLe] at KV hep HEW hVL
    have HE := Lib.hid hep
    have KS := Lib.hid (fun r m sk o c u qv cv pv pk wa W (hba : Below wa.heap.size wa W) hx hvv hpv hpk hne hcap => i_sofE VL hVL x vw hT1 hT2 hT3 r m sk o c u qv cv pv pk wa W hba hx hcc hvv hpv hpk hne hcap)
    clear hVLe hTT hep hVL hT1 hT2 hT3 hpa hin hb1 K1 K3
    unfold ValEnd at KV
    go_wp2_with fail
    refine (KV.out _ HB1.out).mono ?_
    rintro e w2 ⟨hb, q2, c2, rfl, hsh⟩
    have SH2 := Lib.hid hsh
    clear hsh
    have HB2 := Lib.hid (HB1.out.trans (hb.mono HB1.out.size))
    have X2 := Lib.hid (X1.out.below hb)
    have Y2 := Lib.hid (Y1.out.below hb)
    have Z2 := Lib.hid ((hb.block (w.heap.size + 1 + 1) (Array.getElem?_eq_some_iff.1 Z1.out).1).trans Z1.out)
    have hsz2 := hb.size
    clear hb
    clear x0 x1 x2 x3 y0 y1 y2 y3 y4 y5 y6 y7 y8 y9
    have hz2 : w.heap.size + 3 ≤ w2.heap.size := by omega
    obtain ⟨w3, hw3⟩ : ∃ W, W = (w2.alloc (.cells #[.slice q2 VL.length c2] 56)).alloc (.cells #[.bool true] 4) := ⟨_, rfl⟩
    have hb : Below w2.heap.size w2 w3 := by rw [hw3]; exact ((Below.refl _ _).alloc (Nat.le_refl _) _).alloc (by simp) _
    have CAP3 := Lib.hid (show CapAt w3 w2.heap.size (w2.heap.size + 1) q2 VL.length c2 true by
      have h1 : w3.heap[w2.heap.size]? = some (.cells #[.slice q2 VL.length c2] 56 (0, 0)) := by rw [hw3, heap_alloc_old _ _ (by simp)]; exact heap_alloc_new _ _
      have h2 : w3.heap[w2.heap.size + 1]? = some (.cells #[.bool true] 4 (0, 0)) := by rw [hw3, ← show (w2.alloc (.cells #[.slice q2 VL.length c2] 56)).heap.size = w2.heap.size + 1 by simp]; exact heap_alloc_new _ _
      exact ⟨cell_of_row _ _ 0 _ _ _ h1, h2⟩)
    have H23 := Lib.hid hb
    have HB3 := Lib.hid (HB2.out.trans (hb.mono HB2.out.size))
    have X3 := Lib.hid (X2.out.below hb)
    have Y3 := Lib.hid (Y2.out.below hb)
    have Z3 := Lib.hid ((hb.block (w.heap.size + 1 + 1) (Array.getElem?_eq_some_iff.1 Z2.out).1).trans Z2.out)
    have hsz3 := hb.size
    clear hb
    have hz3 : w2.heap.size + 2 ≤ w3.heap.size := by have := (Array.getElem?_eq_some_iff.1 CAP3.out.2).1; omega
    have KS2 := Lib.hid (KS.out _ _ _ _ _ _ q2 c2 w2.heap.size (w2.heap.size + 1) w2 w3 H23.out (KX.out w2 HB2.out) SH2.out (Nat.le_refl _) (Nat.le_succ _) (by omega) CAP3.out)
    obtain ⟨x0, x1, x2, x3⟩ := X2.out
    obtain ⟨y0, y1, y2, y3, y4, y5, y6, y7, y8, y9⟩ := Y3.out
    rw [hw3] at y0 y1 y2 y3 y4 y5 y6 y7 y8 y9
    unfold SofE at KS2
    go_wp2_with fail
    rw [← hw3]
    clear hw3
    clear x0 x1 x2 x3 y0 y1 y2 y3 y4 y5 y6 y7 y8 y9
    refine KS2.out.mono ?_
    rintro e w4 ⟨hap, hcp, qr4, cr4, qm4, cm4, qs4, cs4, qo4, co4, rfl, ho⟩
    have CAP4 := Lib.hid hcp
    have OO4 := Lib.hid ho
    have hsz4 := hap.size
    have HB4 := Lib.hid (HB3.out.trans (hap.below HB3.out.size (fun g hg => by rw [List.mem_singleton.1 hg]; omega)))
    have Z4 := Lib.hid ((hap.block (w.heap.size + 1 + 1) (by omega) (fun hm => by have := List.mem_singleton.1 hm; omega)).trans Z3.out)
    obtain ⟨kn, hkn⟩ : ∃ y, (knB VL x.R && (knB VL x.M && knB VL x.O)) = y := ⟨_, rfl⟩
    rw [hkn] at CAP4 HE HEW
    obtain ⟨YY, hYY⟩ : ∃ y : StR, y = ⟨x.pc, wds VL x.R, wds VL x.M, x.S, x.inn, wds VL x.O, x.cd, x.st⟩ := ⟨_, rfl⟩
    rw [← hYY] at OO4 HEW
    have LR := Lib.hid (show YY.R.length = x.R.len by rw [hYY]; exact wds_len VL x.R)
    have LM := Lib.hid (show YY.M.length = x.M.len by rw [hYY]; exact wds_len VL x.M)
    have LO := Lib.hid (show YY.O.length = x.O.len by rw [hYY]; exact wds_len VL x.O)
    have LL := Lib.hid (show YY.pc = x.pc ∧ YY.S = x.S ∧ YY.inn = x.inn ∧ YY.cd = x.cd ∧ YY.st = x.st by rw [hYY]; exact ⟨rfl, rfl, rfl, rfl, rfl⟩)
    clear hap hcp ho hkn hYY KS KS2 KV
    obtain ⟨w5, hw5⟩ : ∃ W, W = w4.alloc (.cells #[.int .i64 x.pc, .slice qr4 x.R.len cr4, .slice qm4 x.M.len cm4, .slice qs4 x.S.length cs4, .int .i64 x.inn, .slice qo4 x.O.len co4, .int .i64 x.cd, .int .i64 x.st] 32) := ⟨_, rfl⟩
    have hb : Below w4.heap.size w4 w5 := by rw [hw5]; exact (Below.refl _ _).alloc (Nat.le_refl _) _
    have D5 := Lib.hid (show w5.heap[w4.heap.size]? = some (.cells #[.int .i64 x.pc, .slice qr4 x.R.len cr4, .slice qm4 x.M.len cm4, .slice qs4 x.S.length cs4, .int .i64 x.inn, .slice qo4 x.O.len co4, .int .i64 x.cd, .int .i64 x.st] 32 (0, 0)) by rw [hw5]; exact heap_alloc_new _ _)
    have HB5 := Lib.hid (HB4.out.trans (hb.mono HB4.out.size))
    have Z5 := Lib.hid ((hb.block (w.heap.size + 1 + 1) (Array.getElem?_eq_some_iff.1 Z4.out).1).trans Z4.out)
    have CAP5 := Lib.hid (CAP4.out.below hb)
    have OO := Lib.hid ((OO4.out.keep hb).base (base' := w.heap.size) (by omega))
    have hsz5 := hb.size
    clear hb
    have ck := cell_of_row w5 (w2.heap.size + 1) 0 _ _ _ CAP5.out.2
    obtain ⟨d0, d1, d2, d3, d4, d5, d6, d7⟩ := cell8_row Z5.out
    obtain ⟨f0, f1, f2, f3, f4, f5, f6, f7⟩ := froz8_row Z5.out
    obtain ⟨z0, z1, z2, z3, z4, z5, z6, z7⟩ := cell8_row D5.out
    rw [hw5] at ck d0 d1 d2 d3 d4 d5 d6 d7 f0 f1 f2 f3 f4 f5 f6 f7 z0 z1 z2 z3 z4 z5 z6 z7
    cases kn
    case false =>
      have hvb : VB = false := HE.out
      have HV := Lib.hid (show VV = zeroSt ∧ VB = false from ⟨by rw [← HVV.out, hvb]; rfl, hvb⟩)
      clear hvb HVB HVV
      go_wp2
      rw [← hw5]
      clear hw5 ck d0 d1 d2 d3 d4 d5 d6 d7 f0 f1 f2 f3 f4 f5 f6 f7 z0 z1 z2 z3 z4 z5 z6 z7
      obtain ⟨d0, d1, d2, d3, d4, d5, d6, d7⟩ := cell8_row Z5.out
      refine bodyPost_ret (v := .tuple #[.agg #[.int .i64 0, .slice none 0 0, .slice none 0 0, .slice none 0 0, .int .i64 0, .slice none 0 0, .int .i64 0, .int .i64 0], .bool false]) (by simp [results, Tryz.results10, go_sem, d0, d1, d2, d3, d4, d5, d6, d7]) rfl ?_
      rw [HV.out.1, HV.out.2]
      refine ep_zero ?_
      repeat (first | refine Below.setCell ?_ (by first | (simp; done) | (simp; omega)) _ | exact HB5.out)
    case true =>
      have hvb : VB = true := HE.out
      have HV := Lib.hid (show VV = YY ∧ VB = true from ⟨by rw [← HVV.out, hvb, if_pos rfl]; exact HEW.out rfl, hvb⟩)
      clear hvb HVB HVV
      go_wp2
      rw [← hw5]
      clear hw5 ck d0 d1 d2 d3 d4 d5 d6 d7 f0 f1 f2 f3 f4 f5 f6 f7 z0 z1 z2 z3 z4 z5 z6 z7
      obtain ⟨f0, f1, f2, f3, f4, f5, f6, f7⟩ := froz8_row Z5.out
      obtain ⟨d0, d1, d2, d3, d4, d5, d6, d7⟩ := cell8_row Z5.out
      obtain ⟨we, hwe⟩ : ∃ W9, W9 = ((((((((w5.setCell ⟨w.heap.size + 1 + 1, 0, none⟩ (.int .i64 x.pc)).setCell ⟨w.heap.size + 1 + 1, 1, none⟩ (.slice qr4 x.R.len cr4)).setCell ⟨w.heap.size + 1 + 1, 2, none⟩ (.slice qm4 x.M.len cm4)).setCell ⟨w.heap.size + 1 + 1, 3, none⟩ (.slice qs4 x.S.length cs4)).setCell ⟨w.heap.size + 1 + 1, 4, none⟩ (.int .i64 x.inn)).setCell ⟨w.heap.size + 1 + 1, 5, none⟩ (.slice qo4 x.O.len co4)).setCell ⟨w.heap.size + 1 + 1, 6, none⟩ (.int .i64 x.cd)).setCell ⟨w.heap.size + 1 + 1, 7, none⟩ (.int .i64 x.st)) := ⟨_, rfl⟩
      have D2 := Lib.hid (show we.heap[w.heap.size + 1 + 1]? = some (.cells #[.int .i64 x.pc, .slice qr4 x.R.len cr4, .slice qm4 x.M.len cm4, .slice qs4 x.S.length cs4, .int .i64 x.inn, .slice qo4 x.O.len co4, .int .i64 x.cd, .int .i64 x.st] 32 (0, 0)) by rw [hwe]; exact set8_row Z5.out _ _ _ _ _ _ _ _)
      have BE := Lib.hid (show Below w.heap.size w we by rw [hwe]; exact set8_below HB5.out (by omega) _ _ _ _ _ _ _ _)
      have OE := Lib.hid (show StO we w.heap.size YY (.slice qr4 x.R.len cr4) (.slice qm4 x.M.len cm4) (.slice qs4 x.S.length cs4) (.slice qo4 x.O.len co4) by rw [hwe]; exact OO.out.set8 (OO.out.off (T := 32) (by decide) Z5.out) _ _ _ _ _ _ _ _)
      rw [← hwe]
      clear hwe d0 d1 d2 d3 d4 d5 d6 d7 f0 f1 f2 f3 f4 f5 f6 f7
      obtain ⟨d0, d1, d2, d3, d4, d5, d6, d7⟩ := cell8_row D2.out
      go_wp2
      refine bodyPost_ret (v := .tuple #[.agg #[.int .i64 x.pc, .slice qr4 x.R.len cr4, .slice qm4 x.M.len cm4, .slice qs4 x.S.length cs4, .int .i64 x.inn, .slice qo4 x.O.len co4, .int .i64 x.cd, .int .i64 x.st], .bool true]) (by simp [results, Tryz.results10, go_sem, d0, d1, d2, d3, d4, d5, d6, d7]) rfl ?_
      rw [HV.out.1, HV.out.2]
      obtain ⟨l1, l2, l3, l4, l5⟩ := LL.out
      have hoe := OE.out
      refine ⟨BE.out, qr4, cr4, qm4, cm4, qs4, cs4, qo4, co4, by rw [l1, l2, l3, l4, l5, LR.out, LM.out, LO.out], ?_⟩
      rw [LR.out, LM.out, LO.out, l2]
      exact hoe
end Go.Proofs.YthmababifgaejaaGreatDoor
namespace Go.Proofs.YthmababifgaejaaGreatDoor
open Go.ChangeShapes Go.WideShapes Go.ChangeAt Go.RowKit
set_option maxRecDepth 100000 in
theorem mark_Int_none (a : Option Addr) (c k : Nat) (w : World) : Calls Tryz.prog 17 #[.slice a 0 c, .int .i64 k] w fun e w' => e = .returned (.int .i64 k) ∧ w = w' := by
  go_enter Tryz.func17, Tryz.ntmps17
  go_wp2
  refine wp_loop_rounds 1 ?_
  rw [rounds_succ]
  go_wp2
  go_ret
  exact ⟨rfl, rfl⟩
set_option maxRecDepth 100000 in
theorem held_Int_none (a : Option Addr) (c k : Nat) (w : World) : Calls Tryz.prog 37 #[.slice a 0 c, .int .i64 k] w fun e w' => e = .returned (.int .i64 k) ∧ w = w' := by
  go_enter Tryz.func37, Tryz.ntmps37
  go_wp2
  refine wp_loop_rounds 1 ?_
  rw [rounds_succ]
  go_wp2
  go_ret
  exact ⟨rfl, rfl⟩
def MarkIntEnd (L : List Int) (base k : Nat) (v : Value) (w : World) (e : Ending) (w' : World) : Prop := e = .returned (.int .i64 ((k + L.length : Nat) : Int)) ∧ w'.ownsRow base 3 1 v L.length (IntL.all (IntL.mkrs L k)) ∧ Apart v.ownBlock.toList w w'
set_option maxRecDepth 100000 in
set_option maxHeartbeats 1000000 in
theorem mark_Int (L : List Int) (v : Value) (k base : Nat) (w : World) (ho : w.ownsRow base 3 1 v L.length (IntL.all L)) (h1 : 1 ≤ k) (hk : k + L.length ≤ 1000000000000) :
    Calls Tryz.prog 17 #[v, .int .i64 k] w (MarkIntEnd L base k v w) := by
  have hml : maxLen = 9223372036854775807 := rfl
  rcases ho.2 with ⟨rfl, h0⟩ | ⟨g, cap, cur, rfl, _⟩
  · have hL : L = [] := List.length_eq_zero_iff.1 h0
    subst hL
    exact (mark_Int_none _ _ _ _).mono fun e w' ⟨he, hw⟩ => by subst hw; exact ⟨he, ho, Apart.refl _ _⟩
  have HOW := Lib.hid ho
  have HG := Lib.hid (fun j (h : j < L.length) => IntL.half_at L k j h)
  have HZ := Lib.hid (IntL.half_zero L k)
  have HE := Lib.hid (IntL.half_all L k)
  unfold MarkIntEnd
  clear ho
  generalize hlen : L.length = n at *
  have HL := Lib.hid hlen
  clear hlen
  go_enter Tryz.func17, Tryz.ntmps17
  go_wp2
  go_loopw [1, 5] (fun m i wr => ∃ (j c : Nat), j ≤ n ∧ i = .int .i64 j ∧ m = .int .i64 c ∧ c = k + j ∧ wr.ownsRow base 3 1 (.slice (some ⟨g, 0, none⟩) n cap) n (IntL.all (IntL.half L k j)) ∧ Apart [g] w wr) (fun _ i _ => n - (intOf i).toNat)
  case atStart => exact ⟨0, k, Nat.zero_le _, rfl, rfl, rfl, by rw [HZ.out]; exact HOW.out, Apart.refl _ _⟩
  case round =>
    obtain ⟨j, c, hj, rfl, rfl, hc, ho, hap⟩ := hrel
    by_cases hjn : j < n
    · obtain ⟨x1, r, x3, hl1, hx0, hx1⟩ := HG.out j hjn
      rw [hx0] at ho
      have HX1 := Lib.hid (hx1 c hc)
      have HL1 := Lib.hid hl1
      have hcb : c + 1 ≤ 1000000000000 := by omega
      have hc1 : 1 ≤ c := by omega
      have HC := Lib.hid hc
      clear hx0 hx1 hl1
      have HO := Lib.hid ho
      have HA := Lib.hid hap
      have hr := range_mid (own_range HO.out)
      rw [HL1.out, Nat.zero_add] at hr
      have c0 : wr.cell? ⟨g, j, none⟩ = some (.int .i64 r) := hr 0 _ rfl
      have f0 := HO.out.frozenAt j
      clear hr hc ho hap
      have hki : (j : Int) < (n : Int) := by omega
      have OE := Lib.hid (Cs.own_poke (i := 0) HO.out HL1.out (by simp) (.int .i64 ((c : Int) : Int)))
      have AE := Lib.hid (HA.out.setCell (p := ⟨g, j, none⟩) (by simp) (.int .i64 ((c : Int) : Int)))
      go_wp2
      go_roundw
      case rel => exact ⟨j + 1, c + 1, by omega, by go_num, by go_num, by rw [HC.out]; omega, by rw [HX1.out]; exact OE.out, AE.out⟩
      case measure => simp [intOf]; omega
    · have ej : j = n := by omega
      subst ej
      have HR := Lib.hid (And.intro hc (And.intro ho hap))
      clear hc ho hap
      go_wp2
      go_ret
      obtain ⟨hc, ho, hap⟩ := HR.out
      rw [HE.out] at ho
      exact ⟨by rw [hc]; rfl, ho, hap⟩
set_option maxRecDepth 100000 in
set_option maxHeartbeats 1000000 in
theorem held_Int (L : List Int) (v : Value) (k : Nat) (w : World) (hv : Cs.Shows w 0 1 v L.length (IntL.all (IntL.mkrs L k))) (h1 : 1 ≤ k) (hk : k + L.length ≤ 1000000000000) :
    Calls Tryz.prog 37 #[v, .int .i64 k] w fun e w' => e = .returned (.int .i64 ((k + L.length : Nat) : Int)) ∧ Below w.heap.size w w' := by
  have hml : maxLen = 9223372036854775807 := rfl
  rcases Cs.shows_cases hv with ⟨h0, q, cap, rfl⟩ | ⟨hpos, b, o, cap, rfl, _, _, hbl, hr⟩
  · have hL : L = [] := List.length_eq_zero_iff.1 h0
    subst hL
    exact (held_Int_none _ _ _ _).mono fun e w' ⟨he, hw⟩ => by subst hw; exact ⟨he, Below.refl _ _⟩
  have HR := Lib.hid (fun (wr : World) (hb : Below w.heap.size w wr) j (h : j < L.length) => show wr.cell? ⟨b, o + j, none⟩ = some (.int .i64 (((k + j : Nat) : Int) : Int)) by
    have := IntL.nth (IntL.mkrs L k) j (by rw [IntL.mkrs_len]; exact h) (rangeAt_below hb hr)
    rw [IntL.mkrs_get L k j h] at this
    exact this)
  clear hv hr
  generalize L.length = n at *
  go_enter Tryz.func37, Tryz.ntmps37
  go_wp2
  go_loopw [1, 5] (fun m i wr => ∃ (j c : Nat), j ≤ n ∧ i = .int .i64 j ∧ m = .int .i64 c ∧ c = k + j ∧ Below w.heap.size w wr) (fun _ i _ => n - (intOf i).toNat)
  case atStart => exact ⟨0, k, Nat.zero_le _, rfl, rfl, rfl, Below.refl _ _⟩
  case round =>
    obtain ⟨j, c, hj, rfl, rfl, hc, hb⟩ := hrel
    by_cases hjn : j < n
    · have c0 := HR.out wr hb j hjn
      rw [← hc] at c0
      have HB := Lib.hid hb
      have hcb : c + 1 ≤ 1000000000000 := by omega
      have hc1 : 1 ≤ c := by omega
      have hki : (j : Int) < (n : Int) := by omega
      have HC := Lib.hid hc
      clear hb hc
      go_wp2
      go_roundw
      case rel => exact ⟨j + 1, c + 1, by omega, by go_num, by go_num, by rw [HC.out]; omega, HB.out⟩
      case measure => simp [intOf]; omega
    · have ej : j = n := by omega
      subst ej
      have HB := Lib.hid (And.intro hc hb)
      clear hc hb
      go_wp2
      go_ret
      exact ⟨by rw [HB.out.1]; rfl, HB.out.2⟩
end Go.Proofs.YthmababifgaejaaGreatDoor
namespace Go.Proofs.YthmababifgaejaaGreatDoor
open Go.ChangeShapes Go.WideShapes Go.ChangeAt Go.RowKit
/-- its slices own their rows, which bear marks from a number on -/
def StM (w : World) (base : Nat) (x : StR) (k : Nat) (r m s o : Value) : Prop := w.ownsRow base 3 1 r x.R.length (IntL.all (IntL.mkrs x.R k)) ∧ w.ownsRow base 3 1 m x.M.length (IntL.all (IntL.mkrs x.M (k + x.R.length))) ∧ w.ownsRow base 3 1 s x.S.length (IntL.all (IntL.mkrs x.S (k + x.R.length + x.M.length))) ∧ w.ownsRow base 3 1 o x.O.length (IntL.all (IntL.mkrs x.O (k + x.R.length + x.M.length + x.S.length))) ∧ (r.ownBlock.toList ++ m.ownBlock.toList ++ s.ownBlock.toList ++ o.ownBlock.toList).Nodup
theorem StM.lt {w : World} {base : Nat} {x : StR} {k : Nat} {r m s o : Value} (h : StM w base x k r m s o) {g : Nat} (hg : g ∈ StB r m s o) : base ≤ g ∧ g < w.heap.size := by
  unfold StB at hg
  simp only [List.mem_append] at hg
  rcases hg with ((hg | hg) | hg) | hg
  · exact own_lt h.1 hg
  · exact own_lt h.2.1 hg
  · exact own_lt h.2.2.1 hg
  · exact own_lt h.2.2.2.1 hg
theorem StM.keep {w w' : World} {base : Nat} {x : StR} {k : Nat} {r m s o : Value} (h : StM w base x k r m s o) (hb : Below w.heap.size w w') : StM w' base x k r m s o := ⟨own_keep h.1 hb, own_keep h.2.1 hb, own_keep h.2.2.1 hb, own_keep h.2.2.2.1 hb, h.2.2.2.2⟩
theorem StM.same {w w' : World} {base : Nat} {x : StR} {k : Nat} {r m s o : Value} (h : StM w base x k r m s o) (hs : ∀ g ∈ StB r m s o, w'.heap[g]? = w.heap[g]?) : StM w' base x k r m s o :=
  ⟨own_same h.1 (fun g hg => hs g (by unfold StB; simp only [List.mem_append]; exact .inl (.inl (.inl hg)))), own_same h.2.1 (fun g hg => hs g (by unfold StB; simp only [List.mem_append]; exact .inl (.inl (.inr hg)))), own_same h.2.2.1 (fun g hg => hs g (by unfold StB; simp only [List.mem_append]; exact .inl (.inr hg))), own_same h.2.2.2.1 (fun g hg => hs g (by unfold StB; simp only [List.mem_append]; exact .inr hg)), h.2.2.2.2⟩
theorem StM.shows {w : World} {base : Nat} {x : StR} {k : Nat} {r m s o : Value} (h : StM w base x k r m s o) : Cs.Shows w 0 1 r x.R.length (IntL.all (IntL.mkrs x.R k)) ∧ Cs.Shows w 0 1 m x.M.length (IntL.all (IntL.mkrs x.M (k + x.R.length))) ∧ Cs.Shows w 0 1 s x.S.length (IntL.all (IntL.mkrs x.S (k + x.R.length + x.M.length))) ∧ Cs.Shows w 0 1 o x.O.length (IntL.all (IntL.mkrs x.O (k + x.R.length + x.M.length + x.S.length))) := ⟨(Cs.shows_of_owns h.1).down (Nat.zero_le _), (Cs.shows_of_owns h.2.1).down (Nat.zero_le _), (Cs.shows_of_owns h.2.2.1).down (Nat.zero_le _), (Cs.shows_of_owns h.2.2.2.1).down (Nat.zero_le _)⟩
theorem StO.drew {w : World} {base : Nat} {x : StR} {r m s o : Value} (h : StO w base x r m s o) : StO w.drew base x r m s o := h.same (fun _ _ => rfl)
theorem StM.drew {w : World} {base : Nat} {x : StR} {k : Nat} {r m s o : Value} (h : StM w base x k r m s o) : StM w.drew base x k r m s o := h.same (fun _ _ => rfl)
theorem nd4 {a b c d : List Nat} (h : (a ++ b ++ c ++ d).Nodup) : (∀ g ∈ a, g ∉ b ∧ g ∉ c ∧ g ∉ d) ∧ (∀ g ∈ b, g ∉ c ∧ g ∉ d) ∧ (∀ g ∈ c, g ∉ d) := by
  rw [List.nodup_append] at h
  obtain ⟨h, -, h3⟩ := h
  rw [List.nodup_append] at h
  obtain ⟨h, -, h2⟩ := h
  rw [List.nodup_append] at h
  obtain ⟨-, -, h1⟩ := h
  refine ⟨fun g hg => ⟨fun hb => h1 g hg g hb rfl, fun hb => h2 g (by simp [hg]) g hb rfl, fun hb => h3 g (by simp [hg]) g hb rfl⟩, fun g hg => ⟨fun hb => h2 g (by simp [hg]) g hb rfl, fun hb => h3 g (by simp [hg]) g hb rfl⟩, fun g hg hb => h3 g (by simp [hg]) g hb rfl⟩
set_option maxRecDepth 100000 in
set_option maxHeartbeats 4000000 in
theorem mark_State (x : StR) (r m s o : Value) (k base : Nat) (w : World) (ho : StO w base x r m s o) (h1 : 1 ≤ k) (hk : k + x.cost ≤ 1000000000000) :
    Calls Tryz.prog 18 #[.agg #[.int .i64 x.pc, r, m, s, .int .i64 x.inn, o, .int .i64 x.cd, .int .i64 x.st], .int .i64 k] w fun e w' => e = .returned (.int .i64 ((k + x.cost : Nat) : Int)) ∧ StM w' base x k r m s o ∧ Apart (StB r m s o) w w' := by
  have hx : x.cost = x.R.length + x.M.length + x.S.length + x.O.length := rfl
  obtain ⟨or, om, os, oo, hnd⟩ := ho
  obtain ⟨nr, nm, ns⟩ := nd4 hnd
  have HND := Lib.hid hnd
  have M0 := Lib.hid (fun W (h : W.ownsRow base 3 1 r x.R.length (IntL.all x.R)) => mark_Int x.R r k base W h (by omega) (by omega))
  have M1 := Lib.hid (fun W (h : W.ownsRow base 3 1 m x.M.length (IntL.all x.M)) => mark_Int x.M m (k + x.R.length) base W h (by omega) (by omega))
  have M2 := Lib.hid (fun W (h : W.ownsRow base 3 1 s x.S.length (IntL.all x.S)) => mark_Int x.S s (k + x.R.length + x.M.length) base W h (by omega) (by omega))
  have M3 := Lib.hid (fun W (h : W.ownsRow base 3 1 o x.O.length (IntL.all x.O)) => mark_Int x.O o (k + x.R.length + x.M.length + x.S.length) base W h (by omega) (by omega))
  unfold MarkIntEnd at M0 M1 M2 M3
  have E3 : k + x.cost = (k + x.R.length + x.M.length + x.S.length + x.O.length) := by omega
  have LT := Lib.hid (fun g (hg : g ∈ StB r m s o) => StO.lt (⟨or, om, os, oo, hnd⟩ : StO w base x r m s o) hg)
  have SB : Hid (StB r m s o = r.ownBlock.toList ++ m.ownBlock.toList ++ s.ownBlock.toList ++ o.ownBlock.toList) := Lib.hid rfl
  have Or0 := Lib.hid (or.alloc (.cells #[.int .i64 x.pc, r, m, s, .int .i64 x.inn, o, .int .i64 x.cd, .int .i64 x.st] 32))
  have Om0 := Lib.hid (om.alloc (.cells #[.int .i64 x.pc, r, m, s, .int .i64 x.inn, o, .int .i64 x.cd, .int .i64 x.st] 32))
  have Os0 := Lib.hid (os.alloc (.cells #[.int .i64 x.pc, r, m, s, .int .i64 x.inn, o, .int .i64 x.cd, .int .i64 x.st] 32))
  have Oo0 := Lib.hid (oo.alloc (.cells #[.int .i64 x.pc, r, m, s, .int .i64 x.inn, o, .int .i64 x.cd, .int .i64 x.st] 32))
  have HA0 := Lib.hid (Apart.of_below (bs := StB r m s o) ((Below.refl w.heap.size w).alloc (Nat.le_refl _) (.cells #[.int .i64 x.pc, r, m, s, .int .i64 x.inn, o, .int .i64 x.cd, .int .i64 x.st] 32)))
  have X0 := Lib.hid (heap_alloc_new w (.cells #[.int .i64 x.pc, r, m, s, .int .i64 x.inn, o, .int .i64 x.cd, .int .i64 x.st] 32))
  obtain ⟨w0, hw0⟩ : ∃ w0, w0 = w.alloc (.cells #[.int .i64 x.pc, r, m, s, .int .i64 x.inn, o, .int .i64 x.cd, .int .i64 x.st] 32) := ⟨_, rfl⟩
  have hs0 : w0.heap.size = w.heap.size + 1 := by rw [hw0]; simp
  rw [← hw0] at Or0 Om0 Os0 Oo0 HA0 X0
  clear or om os oo hnd
  obtain ⟨x0, x1, x2, x3, x4, x5, x6, x7⟩ := cell8_row X0.out
  rw [hw0] at x0 x1 x2 x3 x4 x5 x6 x7
  obtain ⟨z0, hz0⟩ : ∃ z : Int, z = k := ⟨_, rfl⟩
  obtain ⟨z1, hz1⟩ : ∃ z : Int, z = (((k + x.R.length) : Nat) : Int) := ⟨_, rfl⟩
  obtain ⟨z2, hz2⟩ : ∃ z : Int, z = (((k + x.R.length + x.M.length) : Nat) : Int) := ⟨_, rfl⟩
  obtain ⟨z3, hz3⟩ : ∃ z : Int, z = (((k + x.R.length + x.M.length + x.S.length) : Nat) : Int) := ⟨_, rfl⟩
  obtain ⟨z4, hz4⟩ : ∃ z : Int, z = (((k + x.R.length + x.M.length + x.S.length + x.O.length) : Nat) : Int) := ⟨_, rfl⟩
  rw [show ((k + x.cost : Nat) : Int) = z4 by rw [hz4, E3], ← hz0]
  rw [← hz0, show ((k + x.R.length : Nat) : Int) = z1 by rw [hz1]] at M0
  rw [← hz1, show (((k + x.R.length) + x.M.length : Nat) : Int) = z2 by rw [hz2]] at M1
  rw [← hz2, show (((k + x.R.length + x.M.length) + x.S.length : Nat) : Int) = z3 by rw [hz3]] at M2
  rw [← hz3, show (((k + x.R.length + x.M.length + x.S.length) + x.O.length : Nat) : Int) = z4 by rw [hz4]] at M3
  clear hz0 hz1 hz2 hz3 hz4 hk E3 hx
  go_enter Tryz.func18, Tryz.ntmps18
  go_wp2_with fail
  rw [← hw0]
  clear hw0 x0 x1 x2 x3 x4 x5 x6 x7
  have N0 := Lib.hid (M0.out w0 Or0.out)
  refine N0.out.mono ?_
  rintro e w1 ⟨rfl, hh, hap⟩
  have HA1 := Lib.hid (HA0.out.trans (hap.mono (fun g hg => by rw [SB.out]; simp [hg])))
  have X1 := Lib.hid ((hap.block w.heap.size (Array.getElem?_eq_some_iff.1 X0.out).1 (fun hm => by have := (LT.out w.heap.size (by rw [SB.out]; simp [hm])).2; omega)).trans X0.out)
  have Or1 := Lib.hid hh
  have Om1 := Lib.hid (own_same Om0.out (fun g hg => hap.block g (own_lt Om0.out hg).2 (fun hm => (nr g hm).1 hg)))
  have Os1 := Lib.hid (own_same Os0.out (fun g hg => hap.block g (own_lt Os0.out hg).2 (fun hm => (nr g hm).2.1 hg)))
  have Oo1 := Lib.hid (own_same Oo0.out (fun g hg => hap.block g (own_lt Oo0.out hg).2 (fun hm => (nr g hm).2.2 hg)))
  clear hh hap N0
  obtain ⟨x0, x1, x2, x3, x4, x5, x6, x7⟩ := cell8_row X1.out
  go_wp2_with fail
  clear x0 x1 x2 x3 x4 x5 x6 x7
  have N1 := Lib.hid (M1.out w1 Om1.out)
  refine N1.out.mono ?_
  rintro e w2 ⟨rfl, hh, hap⟩
  have HA2 := Lib.hid (HA1.out.trans (hap.mono (fun g hg => by rw [SB.out]; simp [hg])))
  have X2 := Lib.hid ((hap.block w.heap.size (Array.getElem?_eq_some_iff.1 X1.out).1 (fun hm => by have := (LT.out w.heap.size (by rw [SB.out]; simp [hm])).2; omega)).trans X1.out)
  have Om2 := Lib.hid hh
  have Or2 := Lib.hid (own_same Or1.out (fun g hg => hap.block g (own_lt Or1.out hg).2 (fun hm => (nr g hg).1 hm)))
  have Os2 := Lib.hid (own_same Os1.out (fun g hg => hap.block g (own_lt Os1.out hg).2 (fun hm => (nm g hm).1 hg)))
  have Oo2 := Lib.hid (own_same Oo1.out (fun g hg => hap.block g (own_lt Oo1.out hg).2 (fun hm => (nm g hm).2 hg)))
  clear hh hap N1
  obtain ⟨x0, x1, x2, x3, x4, x5, x6, x7⟩ := cell8_row X2.out
  go_wp2_with fail
  clear x0 x1 x2 x3 x4 x5 x6 x7
  have N2 := Lib.hid (M2.out w2 Os2.out)
  refine N2.out.mono ?_
  rintro e w3 ⟨rfl, hh, hap⟩
  have HA3 := Lib.hid (HA2.out.trans (hap.mono (fun g hg => by rw [SB.out]; simp [hg])))
  have X3 := Lib.hid ((hap.block w.heap.size (Array.getElem?_eq_some_iff.1 X2.out).1 (fun hm => by have := (LT.out w.heap.size (by rw [SB.out]; simp [hm])).2; omega)).trans X2.out)
  have Os3 := Lib.hid hh
  have Or3 := Lib.hid (own_same Or2.out (fun g hg => hap.block g (own_lt Or2.out hg).2 (fun hm => (nr g hg).2.1 hm)))
  have Om3 := Lib.hid (own_same Om2.out (fun g hg => hap.block g (own_lt Om2.out hg).2 (fun hm => (nm g hg).1 hm)))
  have Oo3 := Lib.hid (own_same Oo2.out (fun g hg => hap.block g (own_lt Oo2.out hg).2 (fun hm => ns g hm hg)))
  clear hh hap N2
  obtain ⟨x0, x1, x2, x3, x4, x5, x6, x7⟩ := cell8_row X3.out
  go_wp2_with fail
  clear x0 x1 x2 x3 x4 x5 x6 x7
  have N3 := Lib.hid (M3.out w3 Oo3.out)
  refine N3.out.mono ?_
  rintro e w4 ⟨rfl, hh, hap⟩
  have HA4 := Lib.hid (HA3.out.trans (hap.mono (fun g hg => by rw [SB.out]; simp [hg])))
  have X4 := Lib.hid ((hap.block w.heap.size (Array.getElem?_eq_some_iff.1 X3.out).1 (fun hm => by have := (LT.out w.heap.size (by rw [SB.out]; simp [hm])).2; omega)).trans X3.out)
  have Oo4 := Lib.hid hh
  have Or4 := Lib.hid (own_same Or3.out (fun g hg => hap.block g (own_lt Or3.out hg).2 (fun hm => (nr g hg).2.2 hm)))
  have Om4 := Lib.hid (own_same Om3.out (fun g hg => hap.block g (own_lt Om3.out hg).2 (fun hm => (nm g hg).2 hm)))
  have Os4 := Lib.hid (own_same Os3.out (fun g hg => hap.block g (own_lt Os3.out hg).2 (fun hm => ns g hg hm)))
  clear hh hap N3
  obtain ⟨x0, x1, x2, x3, x4, x5, x6, x7⟩ := cell8_row X4.out
  go_wp2
  go_ret
  exact ⟨rfl, ⟨Or4.out, Om4.out, Os4.out, Oo4.out, HND.out⟩, HA4.out⟩
end Go.Proofs.YthmababifgaejaaGreatDoor
