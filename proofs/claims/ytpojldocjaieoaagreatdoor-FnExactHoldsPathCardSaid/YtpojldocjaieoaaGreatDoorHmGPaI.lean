/- What the program's PathOk returns. No condition. A region in whatever order: an operation whose guard does not hold is passed over first. No condition. -/
import Derived.Test.YtpojldocjaieoaaGreatDoorHmGSof
import Derived.Test.YtpojldocjaieoaaGreatDoorHmGSoI
import Derived.Test.YtpojldocjaieoaaGreatDoorHmGReg
namespace Go.Proofs.YtpojldocjaieoaaGreatDoor
open Go.ChangeShapes Go.WideShapes Go.ChangeAt Go.RowKit
/-- the state that the program looks at -/
def shq (x : PaR) (cd : Int) : StR := ⟨x.pc, List.replicate x.R.len 0, List.replicate x.M.len 0, x.S, x.inn, List.replicate x.O.len 0, cd, x.st⟩
theorem words_zero {vw vm vi : Int} {L : List InsR} (h : prB vw vm vi L = true) (k : Nat) : oprB 2 vw L.length (List.replicate k 0) = true := by
  obtain ⟨⟨h2, h8, -⟩, -⟩ := pr_in h
  refine oprB_ok fun j hj => ?_
  rw [opB_word, List.getElem_replicate]
  have : vw = 2 ∨ vw = 3 ∨ vw = 4 ∨ vw = 5 ∨ vw = 6 ∨ vw = 7 ∨ vw = 8 := by omega
  rcases this with rfl | rfl | rfl | rfl | rfl | rfl | rfl <;> decide
theorem opr_rg (vw : Int) (n : Int) (l : List Int) : oprB 3 vw n l = rgB 0 n l := rfl
theorem pa_prog (vw vm vi : Int) (L : List InsR) (x : PaR) (cd : Int) (hcd : cd = if x.cd = 9 then 0 else x.cd) :
    (soB vw vm vi L (shq x cd) && (decide ((x.C.len : Int) ≤ 60) && (decide ((x.U.length : Int) ≤ 60) && (atB [x.R, x.M, x.O] vw && (atB [x.C] 1 && rgB 0 1 x.U))))) = paB vw vm vi L x := by
  unfold paB soB atB
  by_cases hp : prB vw vm vi L = true
  · have hc : (decide (0 ≤ cd) && decide (cd ≤ 8)) = (decide (0 ≤ x.cd) && decide (x.cd ≤ 9)) := by
      rw [hcd]
      split
      · rename_i h; rw [h]; decide
      · rename_i h
        by_cases h1 : x.cd ≤ 8
        · rw [decide_eq_true h1, decide_eq_true (show x.cd ≤ 9 by omega)]
        · rw [decide_eq_false h1, decide_eq_false (show ¬ x.cd ≤ 9 by omega)]
    simp only [shq, List.length_replicate, words_zero hp, opr_rg, opB_place, List.all_cons, List.all_nil, Bool.and_true, Bool.true_and, hp]
    rw [← hc]
    ac_rfl
  · rw [Bool.not_eq_true] at hp
    rw [hp]
    simp
set_option maxRecDepth 100000 in
set_option maxHeartbeats 8000000 in
theorem i_path (vw vm vi : Int) (L : List InsR) (x : PaR) (s r m sk o c u : Value) (w : World) (hs : Cs.Shows w 0 4 s L.length (InsR.all L)) (hx : PaI w 0 x r m sk o c u) (hok : ∀ r ∈ L, r.Ok) (hL : L.length ≤ maxLen) (_hl : x.Long) (hc : x.cost ≤ 1048576) :
    Calls Tryz.prog 32 #[.agg #[.int .i64 vw, .int .i64 vm, .int .i64 vi, s], .agg #[.int .i64 x.pc, r, m, sk, .int .i64 x.inn, o, .int .i64 x.cd, .int .i64 x.st, c, u]] w fun e w' => e = .returned (.bool (paB vw vm vi L x)) ∧ Below w.heap.size w w' := by
  have hml : maxLen = 9223372036854775807 := rfl
  have hcx : x.cost = x.R.cost + x.M.cost + x.S.length + x.O.cost + x.C.cost + x.U.length := rfl
  have hlr := x.R.len_le
  have hlm := x.M.len_le
  have hlo := x.O.len_le
  have hlc := x.C.len_le
  have hnr := x.R.nodes_le
  have hnm := x.M.nodes_le
  have hno := x.O.nodes_le
  have hnc := x.C.nodes_le
  have KF := Lib.hid (fun W (hb : Below w.heap.size w W) => i_sof x r m sk o c u W (hx.below hb) hc)
  have KP := Lib.hid (fun cd r m st o W (hb : Below w.heap.size w W) (h : StS W 0 (shp x) r m st o) => show Calls Tryz.prog 54 #[.agg #[.int .i64 vw, .int .i64 vm, .int .i64 vi, s], .agg #[.int .i64 x.pc, r, m, st, .int .i64 x.inn, o, .int .i64 cd, .int .i64 x.st]] W (fun e w' => e = .returned (.bool (soB vw vm vi L (shq x cd))) ∧ Below W.heap.size W w') from
    i_state vw vm vi L (shq x cd) s r m st o W (hs.below hb) h hok hL ⟨by simp [shq]; omega, by simp [shq]; omega, by simp [shq]; omega, by simp [shq]; omega⟩)
  obtain ⟨hr, hm, hsk, ho, hcc, hu⟩ := hx
  have HR := Lib.hid hr
  have HM := Lib.hid hm
  have HO := Lib.hid ho
  have HD := Lib.hid hcc
  have HCT := Lib.hid (show ∀ F ∈ [x.R, x.M, x.O], F.cost ≤ 1048576 from fun F hF => by simp at hF; rcases hF with rfl | rfl | rfl <;> omega)
  have HCC := Lib.hid (show ∀ F ∈ [x.C], F.cost ≤ 1048576 from fun F hF => by simp at hF; subst hF; omega)
  have KU := Lib.hid (fun W (hb : Below w.heap.size w W) => i_turns x.U u W (by omega) (hu.below hb))
  obtain ⟨_, q, cap, rfl, _⟩ := hs
  obtain ⟨_, ⟨_, qr, cr, rfl, _⟩, _⟩ := hr
  obtain ⟨_, ⟨_, qm, cm, rfl, _⟩, _⟩ := hm
  obtain ⟨_, qsk, csk, rfl, _⟩ := hsk
  obtain ⟨_, ⟨_, qo, co, rfl, _⟩, _⟩ := ho
  obtain ⟨_, ⟨_, qc, cc, rfl, _⟩, _⟩ := hcc
  obtain ⟨_, qu, cu, rfl, _⟩ := hu
  obtain ⟨cd, hcd⟩ : ∃ cd, cd = if x.cd = 9 then 0 else x.cd := ⟨_, rfl⟩
  have HPA := Lib.hid (pa_prog vw vm vi L x cd hcd)
  obtain ⟨bS, hbS⟩ : ∃ c, soB vw vm vi L (shq x cd) = c := ⟨_, rfl⟩
  obtain ⟨d5, hd5⟩ : ∃ c, decide ((x.C.len : Int) ≤ 60) = c := ⟨_, rfl⟩
  obtain ⟨d6, hd6⟩ : ∃ c, decide ((x.U.length : Int) ≤ 60) = c := ⟨_, rfl⟩
  obtain ⟨a1, ha1⟩ : ∃ c, atB [x.R, x.M, x.O] vw = c := ⟨_, rfl⟩
  obtain ⟨a2, ha2⟩ : ∃ c, atB [x.C] 1 = c := ⟨_, rfl⟩
  obtain ⟨r2, hr2⟩ : ∃ c, rgB 0 1 x.U = c := ⟨_, rfl⟩
  have KA := Lib.hid (fun g c W hv hg => i_allterms [x.R, x.M, x.O] vw g c W hv hg (by simp) HCT.out)
  have KB := Lib.hid (fun g c W hv hg => i_allterms [x.C] 1 g c W hv hg (by simp) HCC.out)
  rw [hbS, hd5, hd6, ha1, ha2, hr2] at HPA
  rw [ha1] at KA
  rw [ha2] at KB
  rw [hr2] at KU
  obtain ⟨V, hV⟩ : ∃ V, paB vw vm vi L x = V := ⟨_, rfl⟩
  rw [hV] at HPA ⊢
  have KPS := Lib.hid (fun r m st o W hb h => hbS ▸ KP.out cd r m st o W hb h)
  clear hV ha1 ha2 hr2 KP
  obtain ⟨v1, hv1⟩ : ∃ W, W = w.alloc (.cells #[.int .i64 vw, .int .i64 vm, .int .i64 vi, .slice q L.length cap] 34) := ⟨_, rfl⟩
  have hv1s : v1.heap.size = w.heap.size + 1 := by rw [hv1]; simp
  obtain ⟨w0, hw0⟩ : ∃ W, W = v1.alloc (.cells #[.int .i64 x.pc, .slice qr x.R.len cr, .slice qm x.M.len cm, .slice qsk x.S.length csk, .int .i64 x.inn, .slice qo x.O.len co, .int .i64 x.cd, .int .i64 x.st, .slice qc x.C.len cc, .slice qu x.U.length cu] 38) := ⟨_, rfl⟩
  have k1 : Below v1.heap.size v1 w0 := by rw [hw0]; exact (Below.refl _ _).alloc (Nat.le_refl _) _
  have HB0 := Lib.hid (show Below w.heap.size w w0 by rw [hw0, hv1]; exact ((Below.refl _ _).alloc (Nat.le_refl _) _).alloc (by simp) _)
  have X0 := Lib.hid (show w0.heap[w.heap.size]? = some (.cells #[.int .i64 vw, .int .i64 vm, .int .i64 vi, .slice q L.length cap] 34 (0, 0)) from (k1.block w.heap.size (by omega)).trans (by rw [hv1]; exact heap_alloc_new _ _))
  have Y0 := Lib.hid (show w0.heap[w.heap.size + 1]? = some (.cells #[.int .i64 x.pc, .slice qr x.R.len cr, .slice qm x.M.len cm, .slice qsk x.S.length csk, .int .i64 x.inn, .slice qo x.O.len co, .int .i64 x.cd, .int .i64 x.st, .slice qc x.C.len cc, .slice qu x.U.length cu] 38 (0, 0)) by rw [hw0, ← hv1s]; exact heap_alloc_new _ _)
  clear k1 hv1s
  rw [hv1] at hw0
  clear hv1
  obtain ⟨x0, x1, x2, x3⟩ := cell4_row X0.out
  obtain ⟨y0, y1, y2, y3, y4, y5, y6, y7, y8, y9⟩ := cell10_row Y0.out
  rw [hw0] at x0 x1 x2 x3 y0 y1 y2 y3 y4 y5 y6 y7 y8 y9
  go_enter Tryz.func32, Tryz.ntmps32
  go_wp2_with fail
  rw [← hw0] at x0 x1 x2 x3 y0 y1 y2 y3 y4 y5 y6 y7 y8 y9 ⊢
  clear hw0
  refine (KF.out _ HB0.out).mono ?_
  rintro e w1 ⟨hb, qr0, cr0, qm0, cm0, qs0, cs0, qo0, co0, rfl, hst⟩
  have HB1 := Lib.hid (HB0.out.trans (hb.mono HB0.out.size))
  have X1 := Lib.hid ((hb.block w.heap.size (row_lt X0.out)).trans X0.out)
  have Y1 := Lib.hid ((hb.block (w.heap.size + 1) (row_lt Y0.out)).trans Y0.out)
  obtain ⟨w2, hw2⟩ : ∃ W, W = w1.alloc (.cells #[.int .i64 x.pc, .slice qr0 x.R.len cr0, .slice qm0 x.M.len cm0, .slice qs0 x.S.length cs0, .int .i64 x.inn, .slice qo0 x.O.len co0, .int .i64 x.cd, .int .i64 x.st] 46) := ⟨_, rfl⟩
  have hb2 : Below w1.heap.size w1 w2 := by rw [hw2]; exact (Below.refl _ _).alloc (Nat.le_refl _) _
  have ST2 := Lib.hid (hst.below hb2)
  have HB2 := Lib.hid (HB1.out.trans (hb2.mono HB1.out.size))
  have X2 := Lib.hid ((hb2.block w.heap.size (row_lt X1.out)).trans X1.out)
  have Y2 := Lib.hid ((hb2.block (w.heap.size + 1) (row_lt Y1.out)).trans Y1.out)
  have G2 := Lib.hid (show w2.heap[w1.heap.size]? = some (.cells #[.int .i64 x.pc, .slice qr0 x.R.len cr0, .slice qm0 x.M.len cm0, .slice qs0 x.S.length cs0, .int .i64 x.inn, .slice qo0 x.O.len co0, .int .i64 x.cd, .int .i64 x.st] 46 (0, 0)) by rw [hw2]; exact heap_alloc_new _ _)
  have hgl := Lib.hid (show w.heap.size + 1 < w1.heap.size from row_lt Y1.out)
  have ST1 := Lib.hid hst
  have BK2 := Lib.hid hb2
  clear hb hb2 x0 x1 x2 x3 y0 y1 y2 y3 y4 y5 y6 y7 y8 y9 hst
  by_cases h9 : x.cd = 9
  · have hc0 : cd = 0 := by rw [hcd, if_pos h9]
    subst hc0
    have hq9 : (x.cd == 9) = true := by simpa using h9
    obtain ⟨w3, hw3⟩ : ∃ W, W = w1.alloc (.cells #[.int .i64 x.pc, .slice qr0 x.R.len cr0, .slice qm0 x.M.len cm0, .slice qs0 x.S.length cs0, .int .i64 x.inn, .slice qo0 x.O.len co0, .int .i64 0, .int .i64 x.st] 46) := ⟨_, rfl⟩
    have hb3 : Below w1.heap.size w1 w3 := by rw [hw3]; exact (Below.refl _ _).alloc (Nat.le_refl _) _
    have G3 := Lib.hid (show w3.heap[w1.heap.size]? = some (.cells #[.int .i64 x.pc, .slice qr0 x.R.len cr0, .slice qm0 x.M.len cm0, .slice qs0 x.S.length cs0, .int .i64 x.inn, .slice qo0 x.O.len co0, .int .i64 0, .int .i64 x.st] 46 (0, 0)) by rw [hw3]; exact heap_alloc_new _ _)
    have X3 := Lib.hid ((hb3.block w.heap.size (row_lt X1.out)).trans X1.out)
    have Y3 := Lib.hid ((hb3.block (w.heap.size + 1) (row_lt Y1.out)).trans Y1.out)
    have HB3 := Lib.hid (HB1.out.trans (hb3.mono HB1.out.size))
    have ST3 := Lib.hid (ST1.out.below hb3)
    clear hb3
    obtain ⟨d0, d1, d2, d3, d4, d5_, d6_, d7⟩ := cell8_row G2.out
    obtain ⟨f0, f1, f2, f3, f4, f5, f6, f7⟩ := froz8_row G2.out
    rw [h9] at d6_ hw2
    rw [hw2] at d0 d1 d2 d3 d4 d5_ d6_ d7 f0 f1 f2 f3 f4 f5 f6 f7
    obtain ⟨x0, x1, x2, x3⟩ := cell4_row X3.out
    obtain ⟨y0, y1, y2, y3, y4, y5, y6, y7, y8, y9⟩ := cell10_row Y3.out
    obtain ⟨e0, e1, e2, e3, e4, e5, e6, e7⟩ := cell8_row G3.out
    rw [h9] at y6
    clear hcd hbS
    rw [hw3] at x0 x1 x2 x3 y0 y1 y2 y3 y4 y5 y6 y7 y8 y9 e0 e1 e2 e3 e4 e5 e6 e7
    go_wp2_with fail
    rw [← hw3]
    clear hw2 hw3 d0 d1 d2 d3 d4 d5_ d6_ d7 f0 f1 f2 f3 f4 f5 f6 f7
    refine (KPS.out _ _ _ _ _ HB3.out ST3.out).mono ?_
    rintro e w4 ⟨rfl, hb⟩
    have HB4 := Lib.hid (HB3.out.trans (hb.mono HB3.out.size))
    have X4 := Lib.hid ((hb.block w.heap.size (row_lt X3.out)).trans X3.out)
    have Y4 := Lib.hid ((hb.block (w.heap.size + 1) (row_lt Y3.out)).trans Y3.out)
    clear hb x0 x1 x2 x3 y0 y1 y2 y3 y4 y5 y6 y7 y8 y9 e0 e1 e2 e3 e4 e5 e6 e7
    obtain ⟨x0, x1, x2, x3⟩ := cell4_row X4.out
    obtain ⟨y0, y1, y2, y3, y4, y5, y6, y7, y8, y9⟩ := cell10_row Y4.out
    cases bS
    case false =>
      have hv : V = false := HPA.out.symm
      subst hv
      go_wp2
      go_ret
      exact ⟨rfl, HB4.out⟩
    case true =>
      cases d5
      case false =>
        have nd := of_decide_eq_false hd5
        have nd0 : (60 : Int) < (x.C.len : Int) := by omega
        have hv : V = false := HPA.out.symm
        subst hv
        go_wp2
        go_ret
        exact ⟨rfl, HB4.out⟩
      case true =>
        have ndd5 := of_decide_eq_true hd5
        have nnd5 : ¬ (60 : Int) < (x.C.len : Int) := by omega
        cases d6
        case false =>
          have nd := of_decide_eq_false hd6
          have nd0 : (60 : Int) < (x.U.length : Int) := by omega
          have hv : V = false := HPA.out.symm
          subst hv
          go_wp2
          go_ret
          exact ⟨rfl, HB4.out⟩
        case true =>
          have ndd6 := of_decide_eq_true hd6
          have nnd6 : ¬ (60 : Int) < (x.U.length : Int) := by omega
          obtain ⟨w5, hw5⟩ : ∃ W, W = w4.alloc (.cells #[.slice qr x.R.len cr, .slice qm x.M.len cm, .slice qo x.O.len co] 36) := ⟨_, rfl⟩
          have hb5 : Below w4.heap.size w4 w5 := by rw [hw5]; exact (Below.refl _ _).alloc (Nat.le_refl _) _
          have HB5 := Lib.hid (HB4.out.trans (hb5.mono HB4.out.size))
          have T5 := Lib.hid (show w5.heap[w4.heap.size]? = some (.cells #[.slice qr x.R.len cr, .slice qm x.M.len cm, .slice qo x.O.len co] 36 (0, 0)) by rw [hw5]; exact heap_alloc_new _ _)
          have X5 := Lib.hid ((hb5.block w.heap.size (row_lt X4.out)).trans X4.out)
          have Y5 := Lib.hid ((hb5.block (w.heap.size + 1) (row_lt Y4.out)).trans Y4.out)
          have RT5 := Lib.hid (show RowsT w5 w4.heap.size [x.R, x.M, x.O] from fun j hj => by
            have hbl := row_lt T5.out
            have hj3 : j = 0 ∨ j = 1 ∨ j = 2 := by simp at hj; omega
            rcases hj3 with rfl | rfl | rfl
            · exact ⟨qr, cr, fun W hW => ⟨cell_of_row W w4.heap.size 0 _ _ _ ((hW.block _ hbl).trans T5.out), HR.out.below (HB5.out.trans (hW.mono HB5.out.size))⟩⟩
            · exact ⟨qm, cm, fun W hW => ⟨cell_of_row W w4.heap.size 1 _ _ _ ((hW.block _ hbl).trans T5.out), HM.out.below (HB5.out.trans (hW.mono HB5.out.size))⟩⟩
            · exact ⟨qo, co, fun W hW => ⟨cell_of_row W w4.heap.size 2 _ _ _ ((hW.block _ hbl).trans T5.out), HO.out.below (HB5.out.trans (hW.mono HB5.out.size))⟩⟩)
          have KA5 := Lib.hid (KA.out w4.heap.size 3 w5 RT5.out (row_lt T5.out))
          clear hb5
          go_wp2_with fail
          rw [← hw5]
          clear hw5 x0 x1 x2 x3 y0 y1 y2 y3 y4 y5 y6 y7 y8 y9
          refine KA5.out.mono ?_
          rintro e w6 ⟨rfl, hb⟩
          have HB6 := Lib.hid (HB5.out.trans (hb.mono HB5.out.size))
          have X6 := Lib.hid ((hb.block w.heap.size (row_lt X5.out)).trans X5.out)
          have Y6 := Lib.hid ((hb.block (w.heap.size + 1) (row_lt Y5.out)).trans Y5.out)
          clear hb
          obtain ⟨x0, x1, x2, x3⟩ := cell4_row X6.out
          obtain ⟨y0, y1, y2, y3, y4, y5, y6, y7, y8, y9⟩ := cell10_row Y6.out
          cases a1
          case false =>
            have hv : V = false := HPA.out.symm
            subst hv
            go_wp2
            go_ret
            exact ⟨rfl, HB6.out⟩
          case true =>
            obtain ⟨w7, hw7⟩ : ∃ W, W = w6.alloc (.cells #[.slice qc x.C.len cc] 36) := ⟨_, rfl⟩
            have hb7 : Below w6.heap.size w6 w7 := by rw [hw7]; exact (Below.refl _ _).alloc (Nat.le_refl _) _
            have HB7 := Lib.hid (HB6.out.trans (hb7.mono HB6.out.size))
            have T7 := Lib.hid (show w7.heap[w6.heap.size]? = some (.cells #[.slice qc x.C.len cc] 36 (0, 0)) by rw [hw7]; exact heap_alloc_new _ _)
            have Y7 := Lib.hid ((hb7.block (w.heap.size + 1) (row_lt Y6.out)).trans Y6.out)
            have RT7 := Lib.hid (show RowsT w7 w6.heap.size [x.C] from fun j hj => by
              have hbl := row_lt T7.out
              have hj3 : j = 0 := by simp at hj; omega
              subst hj3
              exact ⟨qc, cc, fun W hW => ⟨cell_of_row W w6.heap.size 0 _ _ _ ((hW.block _ hbl).trans T7.out), HD.out.below (HB7.out.trans (hW.mono HB7.out.size))⟩⟩)
            have KB7 := Lib.hid (KB.out w6.heap.size 1 w7 RT7.out (row_lt T7.out))
            clear hb7
            go_wp2_with fail
            rw [← hw7]
            clear hw7 x0 x1 x2 x3 y0 y1 y2 y3 y4 y5 y6 y7 y8 y9
            refine KB7.out.mono ?_
            rintro e w8 ⟨rfl, hb⟩
            have HB8 := Lib.hid (HB7.out.trans (hb.mono HB7.out.size))
            have Y8 := Lib.hid ((hb.block (w.heap.size + 1) (row_lt Y7.out)).trans Y7.out)
            clear hb
            obtain ⟨y0, y1, y2, y3, y4, y5, y6, y7, y8, y9⟩ := cell10_row Y8.out
            cases a2
            case false =>
              have hv : V = false := HPA.out.symm
              subst hv
              go_wp2
              go_ret
              exact ⟨rfl, HB8.out⟩
            case true =>
              go_wp2_with fail
              refine (KU.out _ HB8.out).mono ?_
              rintro e w9 ⟨rfl, hb⟩
              have HB9 := Lib.hid (HB8.out.trans (hb.mono HB8.out.size))
              clear hb
              have hv : V = r2 := HPA.out.symm
              subst hv
              go_wp2
              go_ret
              exact ⟨rfl, HB9.out⟩
  · have hc0 : cd = x.cd := by rw [hcd, if_neg h9]
    subst hc0
    have hq9 : (x.cd == 9) = false := by simpa using h9
    obtain ⟨x0, x1, x2, x3⟩ := cell4_row X2.out
    obtain ⟨y0, y1, y2, y3, y4, y5, y6, y7, y8, y9⟩ := cell10_row Y2.out
    obtain ⟨e0, e1, e2, e3, e4, e5, e6, e7⟩ := cell8_row G2.out
    rw [hw2] at x0 x1 x2 x3 y0 y1 y2 y3 y4 y5 y6 y7 y8 y9 e0 e1 e2 e3 e4 e5 e6 e7
    clear hcd hbS
    go_wp2_with fail
    rw [← hw2]
    clear hw2
    refine (KPS.out _ _ _ _ _ HB2.out ST2.out).mono ?_
    rintro e w4 ⟨rfl, hb⟩
    have HB4 := Lib.hid (HB2.out.trans (hb.mono HB2.out.size))
    have X4 := Lib.hid ((hb.block w.heap.size (row_lt X2.out)).trans X2.out)
    have Y4 := Lib.hid ((hb.block (w.heap.size + 1) (row_lt Y2.out)).trans Y2.out)
    clear hb x0 x1 x2 x3 y0 y1 y2 y3 y4 y5 y6 y7 y8 y9 e0 e1 e2 e3 e4 e5 e6 e7
    obtain ⟨x0, x1, x2, x3⟩ := cell4_row X4.out
    obtain ⟨y0, y1, y2, y3, y4, y5, y6, y7, y8, y9⟩ := cell10_row Y4.out
    cases bS
    case false =>
      have hv : V = false := HPA.out.symm
      subst hv
      go_wp2
      go_ret
      exact ⟨rfl, HB4.out⟩
    case true =>
      cases d5
      case false =>
        have nd := of_decide_eq_false hd5
        have nd0 : (60 : Int) < (x.C.len : Int) := by omega
        have hv : V = false := HPA.out.symm
        subst hv
        go_wp2
        go_ret
        exact ⟨rfl, HB4.out⟩
      case true =>
        have ndd5 := of_decide_eq_true hd5
        have nnd5 : ¬ (60 : Int) < (x.C.len : Int) := by omega
        cases d6
        case false =>
          have nd := of_decide_eq_false hd6
          have nd0 : (60 : Int) < (x.U.length : Int) := by omega
          have hv : V = false := HPA.out.symm
          subst hv
          go_wp2
          go_ret
          exact ⟨rfl, HB4.out⟩
        case true =>
          have ndd6 := of_decide_eq_true hd6
          have nnd6 : ¬ (60 : Int) < (x.U.length : Int) := by omega
          obtain ⟨w5, hw5⟩ : ∃ W, W = w4.alloc (.cells #[.slice qr x.R.len cr, .slice qm x.M.len cm, .slice qo x.O.len co] 36) := ⟨_, rfl⟩
          have hb5 : Below w4.heap.size w4 w5 := by rw [hw5]; exact (Below.refl _ _).alloc (Nat.le_refl _) _
          have HB5 := Lib.hid (HB4.out.trans (hb5.mono HB4.out.size))
          have T5 := Lib.hid (show w5.heap[w4.heap.size]? = some (.cells #[.slice qr x.R.len cr, .slice qm x.M.len cm, .slice qo x.O.len co] 36 (0, 0)) by rw [hw5]; exact heap_alloc_new _ _)
          have X5 := Lib.hid ((hb5.block w.heap.size (row_lt X4.out)).trans X4.out)
          have Y5 := Lib.hid ((hb5.block (w.heap.size + 1) (row_lt Y4.out)).trans Y4.out)
          have RT5 := Lib.hid (show RowsT w5 w4.heap.size [x.R, x.M, x.O] from fun j hj => by
            have hbl := row_lt T5.out
            have hj3 : j = 0 ∨ j = 1 ∨ j = 2 := by simp at hj; omega
            rcases hj3 with rfl | rfl | rfl
            · exact ⟨qr, cr, fun W hW => ⟨cell_of_row W w4.heap.size 0 _ _ _ ((hW.block _ hbl).trans T5.out), HR.out.below (HB5.out.trans (hW.mono HB5.out.size))⟩⟩
            · exact ⟨qm, cm, fun W hW => ⟨cell_of_row W w4.heap.size 1 _ _ _ ((hW.block _ hbl).trans T5.out), HM.out.below (HB5.out.trans (hW.mono HB5.out.size))⟩⟩
            · exact ⟨qo, co, fun W hW => ⟨cell_of_row W w4.heap.size 2 _ _ _ ((hW.block _ hbl).trans T5.out), HO.out.below (HB5.out.trans (hW.mono HB5.out.size))⟩⟩)
          have KA5 := Lib.hid (KA.out w4.heap.size 3 w5 RT5.out (row_lt T5.out))
          clear hb5
          go_wp2_with fail
          rw [← hw5]
          clear hw5 x0 x1 x2 x3 y0 y1 y2 y3 y4 y5 y6 y7 y8 y9
          refine KA5.out.mono ?_
          rintro e w6 ⟨rfl, hb⟩
          have HB6 := Lib.hid (HB5.out.trans (hb.mono HB5.out.size))
          have X6 := Lib.hid ((hb.block w.heap.size (row_lt X5.out)).trans X5.out)
          have Y6 := Lib.hid ((hb.block (w.heap.size + 1) (row_lt Y5.out)).trans Y5.out)
          clear hb
          obtain ⟨x0, x1, x2, x3⟩ := cell4_row X6.out
          obtain ⟨y0, y1, y2, y3, y4, y5, y6, y7, y8, y9⟩ := cell10_row Y6.out
          cases a1
          case false =>
            have hv : V = false := HPA.out.symm
            subst hv
            go_wp2
            go_ret
            exact ⟨rfl, HB6.out⟩
          case true =>
            obtain ⟨w7, hw7⟩ : ∃ W, W = w6.alloc (.cells #[.slice qc x.C.len cc] 36) := ⟨_, rfl⟩
            have hb7 : Below w6.heap.size w6 w7 := by rw [hw7]; exact (Below.refl _ _).alloc (Nat.le_refl _) _
            have HB7 := Lib.hid (HB6.out.trans (hb7.mono HB6.out.size))
            have T7 := Lib.hid (show w7.heap[w6.heap.size]? = some (.cells #[.slice qc x.C.len cc] 36 (0, 0)) by rw [hw7]; exact heap_alloc_new _ _)
            have Y7 := Lib.hid ((hb7.block (w.heap.size + 1) (row_lt Y6.out)).trans Y6.out)
            have RT7 := Lib.hid (show RowsT w7 w6.heap.size [x.C] from fun j hj => by
              have hbl := row_lt T7.out
              have hj3 : j = 0 := by simp at hj; omega
              subst hj3
              exact ⟨qc, cc, fun W hW => ⟨cell_of_row W w6.heap.size 0 _ _ _ ((hW.block _ hbl).trans T7.out), HD.out.below (HB7.out.trans (hW.mono HB7.out.size))⟩⟩)
            have KB7 := Lib.hid (KB.out w6.heap.size 1 w7 RT7.out (row_lt T7.out))
            clear hb7
            go_wp2_with fail
            rw [← hw7]
            clear hw7 x0 x1 x2 x3 y0 y1 y2 y3 y4 y5 y6 y7 y8 y9
            refine KB7.out.mono ?_
            rintro e w8 ⟨rfl, hb⟩
            have HB8 := Lib.hid (HB7.out.trans (hb.mono HB7.out.size))
            have Y8 := Lib.hid ((hb.block (w.heap.size + 1) (row_lt Y7.out)).trans Y7.out)
            clear hb
            obtain ⟨y0, y1, y2, y3, y4, y5, y6, y7, y8, y9⟩ := cell10_row Y8.out
            cases a2
            case false =>
              have hv : V = false := HPA.out.symm
              subst hv
              go_wp2
              go_ret
              exact ⟨rfl, HB8.out⟩
            case true =>
              go_wp2_with fail
              refine (KU.out _ HB8.out).mono ?_
              rintro e w9 ⟨rfl, hb⟩
              have HB9 := Lib.hid (HB8.out.trans (hb.mono HB8.out.size))
              clear hb
              have hv : V = r2 := HPA.out.symm
              subst hv
              go_wp2
              go_ret
              exact ⟨rfl, HB9.out⟩
end Go.Proofs.YtpojldocjaieoaaGreatDoor
namespace Go.Proofs.YtpojldocjaieoaaGreatDoor
open Go.ChangeShapes Go.WideShapes
theorem skip_s {P : Program} {ops : Array Oper} {S : List Nat} {C : World → Prop} {Q : Exit → Act → World → Prop} {i : Nat} {oi : Oper} {fuel : Nat} {listed : Array Bool} {a : Act} {w : World} (hi : ops[i]? = some oi) (hc : (Region.noSelect ops && (behindB ops S i && (noneYet S listed && (Region.free .any ops listed i && (Region.ready .any ops listed).contains i)))) = true)
    (hQ : ∀ c a w, Q (.panic c) (a.put oi.dst undef) w → Q (.panic c) a w) (hC : C w) (hw : Region.wanted oi (yielded ops a.tmps) = false) (h : wpAnyS P ops S C Q fuel (listed.setIfInBounds i true) (a.put oi.dst undef) w) : wpAnyS P ops S C Q (fuel + 1) listed a w := by
  simp only [Bool.and_eq_true] at hc
  obtain ⟨hs, hb, hn, hf, hr⟩ := hc
  exact first_s hi hs hb hQ fuel listed a w hC hn (Region.free_spec hi hf) (by simpa using hr) (.inr ⟨hw, rfl⟩) h
theorem one_skip {P : Program} {ops : Array Oper} {S : List Nat} {C : World → Prop} {Q : Exit → Act → World → Prop} {i : Nat} {oi : Oper} {fuel : Nat} {listed : Array Bool} {a : Act} {w : World} (hi : ops[i]? = some oi) (hr : Region.ready .any ops listed = [i]) (hC : C w) (hw : Region.wanted oi (yielded ops a.tmps) = false) (h : wpAnyS P ops S C Q fuel (listed.setIfInBounds i true) (a.put oi.dst undef) w) : wpAnyS P ops S C Q (fuel + 1) listed a w := by
  refine one_s hr ?_
  unfold Go.wpOp
  simp only [hi, hw, Bool.false_eq_true, if_false]
  exact ⟨fun _ => hC, h⟩
end Go.Proofs.YtpojldocjaieoaaGreatDoor
