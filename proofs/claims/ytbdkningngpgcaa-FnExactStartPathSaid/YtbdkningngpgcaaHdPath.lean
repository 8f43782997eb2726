/- The marks that the laws read in a path: heldPath. No condition. -/
import Derived.Test.YtbdkningngpgcaaMkPath
import Derived.Test.YtbdkningngpgcaaHdT
namespace Go.Proofs.Ytbdkningngpgcaa
open Go.ChangeShapes Go.WideShapes Go.ChangeAt Go.RowKit
set_option maxRecDepth 100000 in
set_option maxHeartbeats 8000000 in
theorem held_Path (x : PaR) (r m s o c u : Value) (k : Nat) (w : World) (hv : PaI w 0 (x.mkd k) r m s o c u) (h1 : 1 ≤ k) (hk : k + x.marks ≤ 1000000000000) :
    Calls Try.prog 41 #[.agg #[.int .i64 x.pc, r, m, s, .int .i64 x.inn, o, .int .i64 x.cd, .int .i64 x.st, c, u], .int .i64 k] w fun e w' => e = .returned (.int .i64 ((k + x.marks : Nat) : Int)) ∧ Below w.heap.size w w' := by
  have hx : x.marks = 4 * x.R.nodes + 4 * x.M.nodes + x.S.length + 4 * x.O.nodes + 4 * x.C.nodes + x.U.length := rfl
  obtain ⟨or, om, os, oo, oc, ou⟩ := hv
  have qr : (x.mkd k).R.len = x.R.len := Fo.mkF_len _ _
  rw [qr] at or
  have qm : (x.mkd k).M.len = x.M.len := Fo.mkF_len _ _
  rw [qm] at om
  have qs : (x.mkd k).S.length = x.S.length := markL_len _ _ _ _
  rw [qs] at os
  have qo : (x.mkd k).O.len = x.O.len := Fo.mkF_len _ _
  rw [qo] at oo
  have qc : (x.mkd k).C.len = x.C.len := Fo.mkF_len _ _
  rw [qc] at oc
  have qu : (x.mkd k).U.length = x.U.length := markL_len _ _ _ _
  rw [qu] at ou
  have M0 := Lib.hid (fun W (hb : Below w.heap.size w W) => held_any x.R r k W (or.below hb) (by omega) (by omega))
  have M1 := Lib.hid (fun W (hb : Below w.heap.size w W) => held_any x.M m (k + 4 * x.R.nodes) W (om.below hb) (by omega) (by omega))
  have M2 := Lib.hid (fun W (hb : Below w.heap.size w W) => held_Int x.S s (k + 4 * x.R.nodes + 4 * x.M.nodes) W (os.below hb) (by omega) (by omega))
  have M3 := Lib.hid (fun W (hb : Below w.heap.size w W) => held_any x.O o (k + 4 * x.R.nodes + 4 * x.M.nodes + x.S.length) W (oo.below hb) (by omega) (by omega))
  have M4 := Lib.hid (fun W (hb : Below w.heap.size w W) => held_any x.C c (k + 4 * x.R.nodes + 4 * x.M.nodes + x.S.length + 4 * x.O.nodes) W (oc.below hb) (by omega) (by omega))
  have M5 := Lib.hid (fun W (hb : Below w.heap.size w W) => held_Int x.U u (k + 4 * x.R.nodes + 4 * x.M.nodes + x.S.length + 4 * x.O.nodes + 4 * x.C.nodes) W (ou.below hb) (by omega) (by omega))
  have EE : k + x.marks = (k + 4 * x.R.nodes + 4 * x.M.nodes + x.S.length + 4 * x.O.nodes + 4 * x.C.nodes + x.U.length) := by omega
  have HB0 := Lib.hid ((Below.refl w.heap.size w).alloc (Nat.le_refl _) (.cells #[.int .i64 x.pc, r, m, s, .int .i64 x.inn, o, .int .i64 x.cd, .int .i64 x.st, c, u] 58))
  have X0 := Lib.hid (heap_alloc_new w (.cells #[.int .i64 x.pc, r, m, s, .int .i64 x.inn, o, .int .i64 x.cd, .int .i64 x.st, c, u] 58))
  obtain ⟨w0, hw0⟩ : ∃ w0, w0 = w.alloc (.cells #[.int .i64 x.pc, r, m, s, .int .i64 x.inn, o, .int .i64 x.cd, .int .i64 x.st, c, u] 58) := ⟨_, rfl⟩
  rw [← hw0] at HB0 X0
  obtain ⟨z0, hz0⟩ : ∃ z : Int, z = k := ⟨_, rfl⟩
  obtain ⟨z1, hz1⟩ : ∃ z : Int, z = (((k + 4 * x.R.nodes) : Nat) : Int) := ⟨_, rfl⟩
  obtain ⟨z2, hz2⟩ : ∃ z : Int, z = (((k + 4 * x.R.nodes + 4 * x.M.nodes) : Nat) : Int) := ⟨_, rfl⟩
  obtain ⟨z3, hz3⟩ : ∃ z : Int, z = (((k + 4 * x.R.nodes + 4 * x.M.nodes + x.S.length) : Nat) : Int) := ⟨_, rfl⟩
  obtain ⟨z4, hz4⟩ : ∃ z : Int, z = (((k + 4 * x.R.nodes + 4 * x.M.nodes + x.S.length + 4 * x.O.nodes) : Nat) : Int) := ⟨_, rfl⟩
  obtain ⟨z5, hz5⟩ : ∃ z : Int, z = (((k + 4 * x.R.nodes + 4 * x.M.nodes + x.S.length + 4 * x.O.nodes + 4 * x.C.nodes) : Nat) : Int) := ⟨_, rfl⟩
  obtain ⟨z6, hz6⟩ : ∃ z : Int, z = (((k + 4 * x.R.nodes + 4 * x.M.nodes + x.S.length + 4 * x.O.nodes + 4 * x.C.nodes + x.U.length) : Nat) : Int) := ⟨_, rfl⟩
  have p1 : ¬ z1 < 0 := by omega
  have p2 : ¬ z2 < 0 := by omega
  have p3 : ¬ z3 < 0 := by omega
  have p4 : ¬ z4 < 0 := by omega
  have p5 : ¬ z5 < 0 := by omega
  have p6 : ¬ z6 < 0 := by omega
  obtain ⟨x0, x1, x2, x3, x4, x5, x6, x7, x8, x9⟩ := cell10_row X0.out
  rw [hw0] at x0 x1 x2 x3 x4 x5 x6 x7 x8 x9
  rw [show ((k + x.marks : Nat) : Int) = z6 by rw [hz6, EE], ← hz0]
  rw [← hz0, show ((k + 4 * x.R.nodes : Nat) : Int) = z1 by rw [hz1]] at M0
  rw [← hz1, show (((k + 4 * x.R.nodes) + 4 * x.M.nodes : Nat) : Int) = z2 by rw [hz2]] at M1
  rw [← hz2, show (((k + 4 * x.R.nodes + 4 * x.M.nodes) + x.S.length : Nat) : Int) = z3 by rw [hz3]] at M2
  rw [← hz3, show (((k + 4 * x.R.nodes + 4 * x.M.nodes + x.S.length) + 4 * x.O.nodes : Nat) : Int) = z4 by rw [hz4]] at M3
  rw [← hz4, show (((k + 4 * x.R.nodes + 4 * x.M.nodes + x.S.length + 4 * x.O.nodes) + 4 * x.C.nodes : Nat) : Int) = z5 by rw [hz5]] at M4
  rw [← hz5, show (((k + 4 * x.R.nodes + 4 * x.M.nodes + x.S.length + 4 * x.O.nodes + 4 * x.C.nodes) + x.U.length : Nat) : Int) = z6 by rw [hz6]] at M5
  clear hz0 hz1 hz2 hz3 hz4 hz5 hz6 hk EE hx qr qm qs qo qc qu
  go_enter Try.func41, Try.ntmps41
  go_wp2_with fail
  rw [← hw0]
  clear hw0 x0 x1 x2 x3 x4 x5 x6 x7 x8 x9
  have N0 := Lib.hid (M0.out w0 HB0.out)
  refine N0.out.mono ?_
  rintro e w1 ⟨rfl, hb⟩
  have HB1 := Lib.hid (HB0.out.trans (hb.mono HB0.out.size))
  have X1 := Lib.hid ((hb.block w.heap.size (Array.getElem?_eq_some_iff.1 X0.out).1).trans X0.out)
  clear hb N0
  obtain ⟨x0, x1, x2, x3, x4, x5, x6, x7, x8, x9⟩ := cell10_row X1.out
  go_wp2_with fail
  clear x0 x1 x2 x3 x4 x5 x6 x7 x8 x9
  have N1 := Lib.hid (M1.out w1 HB1.out)
  refine N1.out.mono ?_
  rintro e w2 ⟨rfl, hb⟩
  have HB2 := Lib.hid (HB1.out.trans (hb.mono HB1.out.size))
  have X2 := Lib.hid ((hb.block w.heap.size (Array.getElem?_eq_some_iff.1 X1.out).1).trans X1.out)
  clear hb N1
  obtain ⟨x0, x1, x2, x3, x4, x5, x6, x7, x8, x9⟩ := cell10_row X2.out
  go_wp2_with fail
  clear x0 x1 x2 x3 x4 x5 x6 x7 x8 x9
  have N2 := Lib.hid (M2.out w2 HB2.out)
  refine N2.out.mono ?_
  rintro e w3 ⟨rfl, hb⟩
  have HB3 := Lib.hid (HB2.out.trans (hb.mono HB2.out.size))
  have X3 := Lib.hid ((hb.block w.heap.size (Array.getElem?_eq_some_iff.1 X2.out).1).trans X2.out)
  clear hb N2
  obtain ⟨x0, x1, x2, x3, x4, x5, x6, x7, x8, x9⟩ := cell10_row X3.out
  go_wp2_with fail
  clear x0 x1 x2 x3 x4 x5 x6 x7 x8 x9
  have N3 := Lib.hid (M3.out w3 HB3.out)
  refine N3.out.mono ?_
  rintro e w4 ⟨rfl, hb⟩
  have HB4 := Lib.hid (HB3.out.trans (hb.mono HB3.out.size))
  have X4 := Lib.hid ((hb.block w.heap.size (Array.getElem?_eq_some_iff.1 X3.out).1).trans X3.out)
  clear hb N3
  obtain ⟨x0, x1, x2, x3, x4, x5, x6, x7, x8, x9⟩ := cell10_row X4.out
  go_wp2_with fail
  clear x0 x1 x2 x3 x4 x5 x6 x7 x8 x9
  have N4 := Lib.hid (M4.out w4 HB4.out)
  refine N4.out.mono ?_
  rintro e w5 ⟨rfl, hb⟩
  have HB5 := Lib.hid (HB4.out.trans (hb.mono HB4.out.size))
  have X5 := Lib.hid ((hb.block w.heap.size (Array.getElem?_eq_some_iff.1 X4.out).1).trans X4.out)
  clear hb N4
  obtain ⟨x0, x1, x2, x3, x4, x5, x6, x7, x8, x9⟩ := cell10_row X5.out
  go_wp2_with fail
  clear x0 x1 x2 x3 x4 x5 x6 x7 x8 x9
  have N5 := Lib.hid (M5.out w5 HB5.out)
  refine N5.out.mono ?_
  rintro e w6 ⟨rfl, hb⟩
  have HB6 := Lib.hid (HB5.out.trans (hb.mono HB5.out.size))
  have X6 := Lib.hid ((hb.block w.heap.size (Array.getElem?_eq_some_iff.1 X5.out).1).trans X5.out)
  clear hb N5
  obtain ⟨x0, x1, x2, x3, x4, x5, x6, x7, x8, x9⟩ := cell10_row X6.out
  go_wp2
  go_ret
  exact ⟨rfl, HB6.out⟩
end Go.Proofs.Ytbdkningngpgcaa
