/- The marks that the laws read in a state: heldState. No condition. -/
import Derived.Test.YtnhagmjknfiphaaTmMkState
namespace Go.Proofs.Ytnhagmjknfiphaa
open Go.ChangeShapes Go.WideShapes Go.ChangeAt Go.RowKit
set_option maxRecDepth 100000 in
set_option maxHeartbeats 4000000 in
theorem held_State (x : StR) (r m s o : Value) (k : Nat) (w : World) (hv : Cs.Shows w 0 1 r x.R.length (IntL.all (IntL.mkrs x.R k)) ∧ Cs.Shows w 0 1 m x.M.length (IntL.all (IntL.mkrs x.M (k + x.R.length))) ∧ Cs.Shows w 0 1 s x.S.length (IntL.all (IntL.mkrs x.S (k + x.R.length + x.M.length))) ∧ Cs.Shows w 0 1 o x.O.length (IntL.all (IntL.mkrs x.O (k + x.R.length + x.M.length + x.S.length)))) (h1 : 1 ≤ k) (hk : k + x.cost ≤ 1000000000000) :
    Calls Try.prog 30 #[.agg #[.int .i64 x.pc, r, m, s, .int .i64 x.inn, o, .int .i64 x.cd, .int .i64 x.st], .int .i64 k] w fun e w' => e = .returned (.int .i64 ((k + x.cost : Nat) : Int)) ∧ Below w.heap.size w w' := by
  have hx : x.cost = x.R.length + x.M.length + x.S.length + x.O.length := rfl
  have M0 := Lib.hid (fun W (hb : Below w.heap.size w W) => held_Int x.R r k W (hv.1.below hb) (by omega) (by omega))
  have M1 := Lib.hid (fun W (hb : Below w.heap.size w W) => held_Int x.M m (k + x.R.length) W (hv.2.1.below hb) (by omega) (by omega))
  have M2 := Lib.hid (fun W (hb : Below w.heap.size w W) => held_Int x.S s (k + x.R.length + x.M.length) W (hv.2.2.1.below hb) (by omega) (by omega))
  have M3 := Lib.hid (fun W (hb : Below w.heap.size w W) => held_Int x.O o (k + x.R.length + x.M.length + x.S.length) W (hv.2.2.2.below hb) (by omega) (by omega))
  have E3 : k + x.cost = (k + x.R.length + x.M.length + x.S.length + x.O.length) := by omega
  have HB0 := Lib.hid ((Below.refl w.heap.size w).alloc (Nat.le_refl _) (.cells #[.int .i64 x.pc, r, m, s, .int .i64 x.inn, o, .int .i64 x.cd, .int .i64 x.st] 47))
  have X0 := Lib.hid (heap_alloc_new w (.cells #[.int .i64 x.pc, r, m, s, .int .i64 x.inn, o, .int .i64 x.cd, .int .i64 x.st] 47))
  obtain ⟨w0, hw0⟩ : ∃ w0, w0 = w.alloc (.cells #[.int .i64 x.pc, r, m, s, .int .i64 x.inn, o, .int .i64 x.cd, .int .i64 x.st] 47) := ⟨_, rfl⟩
  have hs0 : w0.heap.size = w.heap.size + 1 := by rw [hw0]; simp
  rw [← hw0] at HB0 X0
  obtain ⟨z0, hz0⟩ : ∃ z : Int, z = k := ⟨_, rfl⟩
  obtain ⟨z1, hz1⟩ : ∃ z : Int, z = (((k + x.R.length) : Nat) : Int) := ⟨_, rfl⟩
  obtain ⟨z2, hz2⟩ : ∃ z : Int, z = (((k + x.R.length + x.M.length) : Nat) : Int) := ⟨_, rfl⟩
  obtain ⟨z3, hz3⟩ : ∃ z : Int, z = (((k + x.R.length + x.M.length + x.S.length) : Nat) : Int) := ⟨_, rfl⟩
  obtain ⟨z4, hz4⟩ : ∃ z : Int, z = (((k + x.R.length + x.M.length + x.S.length + x.O.length) : Nat) : Int) := ⟨_, rfl⟩
  have p1 : ¬ z1 < 0 := by omega
  have p2 : ¬ z2 < 0 := by omega
  have p3 : ¬ z3 < 0 := by omega
  have p4 : ¬ z4 < 0 := by omega
  obtain ⟨x0, x1, x2, x3, x4, x5, x6, x7⟩ := cell8_row X0.out
  rw [hw0] at x0 x1 x2 x3 x4 x5 x6 x7
  rw [show ((k + x.cost : Nat) : Int) = z4 by rw [hz4, E3], ← hz0]
  rw [← hz0, show ((k + x.R.length : Nat) : Int) = z1 by rw [hz1]] at M0
  rw [← hz1, show (((k + x.R.length) + x.M.length : Nat) : Int) = z2 by rw [hz2]] at M1
  rw [← hz2, show (((k + x.R.length + x.M.length) + x.S.length : Nat) : Int) = z3 by rw [hz3]] at M2
  rw [← hz3, show (((k + x.R.length + x.M.length + x.S.length) + x.O.length : Nat) : Int) = z4 by rw [hz4]] at M3
  clear hz0 hz1 hz2 hz3 hz4 hk E3 hx
  go_enter Try.func30, Try.ntmps30
  go_wp2_with fail
  rw [← hw0]
  clear hw0 x0 x1 x2 x3 x4 x5 x6 x7
  have N0 := Lib.hid (M0.out w0 HB0.out)
  refine N0.out.mono ?_
  rintro e w1 ⟨rfl, hb⟩
  have HB1 := Lib.hid (HB0.out.trans (hb.mono HB0.out.size))
  have X1 := Lib.hid ((hb.block w.heap.size (Array.getElem?_eq_some_iff.1 X0.out).1).trans X0.out)
  clear hb N0
  obtain ⟨x0, x1, x2, x3, x4, x5, x6, x7⟩ := cell8_row X1.out
  go_wp2_with fail
  clear x0 x1 x2 x3 x4 x5 x6 x7
  have N1 := Lib.hid (M1.out w1 HB1.out)
  refine N1.out.mono ?_
  rintro e w2 ⟨rfl, hb⟩
  have HB2 := Lib.hid (HB1.out.trans (hb.mono HB1.out.size))
  have X2 := Lib.hid ((hb.block w.heap.size (Array.getElem?_eq_some_iff.1 X1.out).1).trans X1.out)
  clear hb N1
  obtain ⟨x0, x1, x2, x3, x4, x5, x6, x7⟩ := cell8_row X2.out
  go_wp2_with fail
  clear x0 x1 x2 x3 x4 x5 x6 x7
  have N2 := Lib.hid (M2.out w2 HB2.out)
  refine N2.out.mono ?_
  rintro e w3 ⟨rfl, hb⟩
  have HB3 := Lib.hid (HB2.out.trans (hb.mono HB2.out.size))
  have X3 := Lib.hid ((hb.block w.heap.size (Array.getElem?_eq_some_iff.1 X2.out).1).trans X2.out)
  clear hb N2
  obtain ⟨x0, x1, x2, x3, x4, x5, x6, x7⟩ := cell8_row X3.out
  go_wp2_with fail
  clear x0 x1 x2 x3 x4 x5 x6 x7
  have N3 := Lib.hid (M3.out w3 HB3.out)
  refine N3.out.mono ?_
  rintro e w4 ⟨rfl, hb⟩
  have HB4 := Lib.hid (HB3.out.trans (hb.mono HB3.out.size))
  have X4 := Lib.hid ((hb.block w.heap.size (Array.getElem?_eq_some_iff.1 X3.out).1).trans X3.out)
  clear hb N3
  obtain ⟨x0, x1, x2, x3, x4, x5, x6, x7⟩ := cell8_row X4.out
  go_wp2
  go_ret
  exact ⟨rfl, HB4.out⟩
end Go.Proofs.Ytnhagmjknfiphaa
