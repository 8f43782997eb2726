/- What the program's SameRun returns. No condition. -/
import Derived.Test.YtogmiahkccmfbabSrM
import Derived.Test.YtogmiahkccmfbabEqvI
namespace Go.Proofs.Ytogmiahkccmfbab
open Go.ChangeShapes Go.WideShapes Go.ChangeAt Go.RowKit
set_option maxRecDepth 100000 in
set_option maxHeartbeats 4000000 in
theorem i_same (x y : StR) (r m s o r' m' s' o' : Value) (w : World) (h : StS w 0 x r m s o) (h' : StS w 0 y r' m' s' o') (_ : x.Ok) (hl : x.Long) (_ : y.Ok) (hl' : y.Long) :
    Calls Try.prog 26 #[.agg #[.int .i64 x.pc, r, m, s, .int .i64 x.inn, o, .int .i64 x.cd, .int .i64 x.st], .agg #[.int .i64 y.pc, r', m', s', .int .i64 y.inn, o', .int .i64 y.cd, .int .i64 y.st]] w fun e w' => e = .returned (.bool (srB x y)) ∧ Below w.heap.size w w' := by
  obtain ⟨hr, hm, hs, ho⟩ := h
  obtain ⟨hr', hm', hs', ho'⟩ := h'
  have KE := Lib.hid (fun W (hb : Below w.heap.size w W) => i_eqv x.O y.O o o' W (ho.below hb) (ho'.below hb) hl.2.2.2 hl'.2.2.2)
  obtain ⟨_, q1x, c1x, rfl, _⟩ := hr
  obtain ⟨_, q2x, c2x, rfl, _⟩ := hm
  obtain ⟨_, q3x, c3x, rfl, _⟩ := hs
  obtain ⟨_, q4x, c4x, rfl, _⟩ := ho
  obtain ⟨_, q1y, c1y, rfl, _⟩ := hr'
  obtain ⟨_, q2y, c2y, rfl, _⟩ := hm'
  obtain ⟨_, q3y, c3y, rfl, _⟩ := hs'
  obtain ⟨_, q4y, c4y, rfl, _⟩ := ho'
  obtain ⟨b, hbv⟩ : ∃ b, decide (x.O = y.O) = b := ⟨_, rfl⟩
  rw [hbv] at KE
  obtain ⟨V, hV⟩ : ∃ V, srB x y = V := ⟨_, rfl⟩
  rw [hV]
  unfold srB at hV
  rw [hbv] at hV
  clear hbv
  have HB0 := Lib.hid (((Below.refl w.heap.size w).alloc (Nat.le_refl _) (.cells #[.int .i64 x.pc, .slice q1x x.R.length c1x, .slice q2x x.M.length c2x, .slice q3x x.S.length c3x, .int .i64 x.inn, .slice q4x x.O.length c4x, .int .i64 x.cd, .int .i64 x.st] 28)).alloc (by simp) (.cells #[.int .i64 y.pc, .slice q1y y.R.length c1y, .slice q2y y.M.length c2y, .slice q3y y.S.length c3y, .int .i64 y.inn, .slice q4y y.O.length c4y, .int .i64 y.cd, .int .i64 y.st] 28))
  have X0 := Lib.hid ((cell8_alloc w 28 (.int .i64 x.pc) (.slice q1x x.R.length c1x) (.slice q2x x.M.length c2x) (.slice q3x x.S.length c3x) (.int .i64 x.inn) (.slice q4x x.O.length c4x) (.int .i64 x.cd) (.int .i64 x.st)).below ((Below.refl _ _).alloc (Nat.le_refl _) (.cells #[.int .i64 y.pc, .slice q1y y.R.length c1y, .slice q2y y.M.length c2y, .slice q3y y.S.length c3y, .int .i64 y.inn, .slice q4y y.O.length c4y, .int .i64 y.cd, .int .i64 y.st] 28)))
  have Y0 := Lib.hid (cell8_alloc (w.alloc (.cells #[.int .i64 x.pc, .slice q1x x.R.length c1x, .slice q2x x.M.length c2x, .slice q3x x.S.length c3x, .int .i64 x.inn, .slice q4x x.O.length c4x, .int .i64 x.cd, .int .i64 x.st] 28)) 28 (.int .i64 y.pc) (.slice q1y y.R.length c1y) (.slice q2y y.M.length c2y) (.slice q3y y.S.length c3y) (.int .i64 y.inn) (.slice q4y y.O.length c4y) (.int .i64 y.cd) (.int .i64 y.st))
  rw [show (w.alloc (.cells #[.int .i64 x.pc, .slice q1x x.R.length c1x, .slice q2x x.M.length c2x, .slice q3x x.S.length c3x, .int .i64 x.inn, .slice q4x x.O.length c4x, .int .i64 x.cd, .int .i64 x.st] 28)).heap.size = w.heap.size + 1 by simp] at Y0
  obtain ⟨w0, hw0⟩ : ∃ w0, w0 = (w.alloc (.cells #[.int .i64 x.pc, .slice q1x x.R.length c1x, .slice q2x x.M.length c2x, .slice q3x x.S.length c3x, .int .i64 x.inn, .slice q4x x.O.length c4x, .int .i64 x.cd, .int .i64 x.st] 28)).alloc (.cells #[.int .i64 y.pc, .slice q1y y.R.length c1y, .slice q2y y.M.length c2y, .slice q3y y.S.length c3y, .int .i64 y.inn, .slice q4y y.O.length c4y, .int .i64 y.cd, .int .i64 y.st] 28) := ⟨_, rfl⟩
  rw [← hw0] at HB0 X0 Y0
  obtain ⟨x0, x1, x2, x3, x4, x5, x6, x7⟩ := X0.out
  obtain ⟨y0, y1, y2, y3, y4, y5, y6, y7⟩ := Y0.out
  rw [hw0] at x0 x1 x2 x3 x4 x5 x6 x7 y0 y1 y2 y3 y4 y5 y6 y7
  by_cases hcd : x.cd = y.cd
  · have hv : V = b := by rw [← hV, decide_eq_true hcd, Bool.true_and]
    subst hv
    clear hV
    have hcd2 : (x.cd == y.cd) = true := by simpa using hcd
    clear hcd
    go_enter Try.func26, Try.ntmps26
    go_wp2_with fail
    rw [← hw0] at x0 x1 x2 x3 x4 x5 x6 x7 y0 y1 y2 y3 y4 y5 y6 y7 ⊢
    clear hw0
    refine (KE.out _ HB0.out).mono ?_
    rintro e w1 ⟨rfl, hb⟩
    have HB1 := Lib.hid (HB0.out.trans (hb.mono HB0.out.size))
    clear hb
    go_wp2
    go_ret
    exact ⟨rfl, HB1.out⟩
  · have hv : V = false := by rw [← hV, decide_eq_false hcd, Bool.false_and]
    subst hv
    have hcd2 : (x.cd == y.cd) = false := by simpa using hcd
    clear hV
    go_enter Try.func26, Try.ntmps26
    go_wp2
    go_ret
    exact ⟨rfl, by rw [← hw0]; exact HB0.out⟩
end Go.Proofs.Ytogmiahkccmfbab
