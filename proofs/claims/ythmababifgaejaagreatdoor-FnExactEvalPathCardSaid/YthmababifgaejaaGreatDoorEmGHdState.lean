/- The marks that the laws read in a state: heldState. No condition. The text of a mark: markText. No condition. Nil slices of terms: their marks. No condition. -/
import Derived.Test.YthmababifgaejaaGreatDoorEmGEpI
import Derived.Test.YthmababifgaejaaGreatDoorEmGHvM
import Derived.Deep.QuietTactic
import Derived.Test.YthmababifgaejaaGreatDoorRows
import Derived.Test.YthmababifgaejaaGreatDoorEmGSz
import Derived.WalkKit
import Derived.ProofKit
import Derived.OpenShut
import Derived.Handy
import Derived.Lib.Hide
import Derived.Below
import Derived.IntWalk
import Derived.WalkLawsBesides
import Derived.BigQuiet
import Derived.OwnWalk
import Derived.Laws.OwnMore
import Derived.Deep.OwnRows
import Derived.Deep.MidRow
import Derived.WalkSmall
import Derived.Outline
namespace Go.Proofs.YthmababifgaejaaGreatDoor
open Go.ChangeShapes Go.WideShapes Go.ChangeAt Go.RowKit
set_option maxRecDepth 100000 in
set_option maxHeartbeats 4000000 in
theorem held_State (x : StR) (r m s o : Value) (k : Nat) (w : World) (hv : Cs.Shows w 0 1 r x.R.length (IntL.all (IntL.mkrs x.R k)) ∧ Cs.Shows w 0 1 m x.M.length (IntL.all (IntL.mkrs x.M (k + x.R.length))) ∧ Cs.Shows w 0 1 s x.S.length (IntL.all (IntL.mkrs x.S (k + x.R.length + x.M.length))) ∧ Cs.Shows w 0 1 o x.O.length (IntL.all (IntL.mkrs x.O (k + x.R.length + x.M.length + x.S.length)))) (h1 : 1 ≤ k) (hk : k + x.cost ≤ 1000000000000) :
    Calls Tryz.prog 19 #[.agg #[.int .i64 x.pc, r, m, s, .int .i64 x.inn, o, .int .i64 x.cd, .int .i64 x.st], .int .i64 k] w fun e w' => e = .returned (.int .i64 ((k + x.cost : Nat) : Int)) ∧ Below w.heap.size w w' := by
  have hx : x.cost = x.R.length + x.M.length + x.S.length + x.O.length := rfl
  have M0 := Lib.hid (fun W (hb : Below w.heap.size w W) => held_Int x.R r k W (hv.1.below hb) (by omega) (by omega))
  have M1 := Lib.hid (fun W (hb : Below w.heap.size w W) => held_Int x.M m (k + x.R.length) W (hv.2.1.below hb) (by omega) (by omega))
  have M2 := Lib.hid (fun W (hb : Below w.heap.size w W) => held_Int x.S s (k + x.R.length + x.M.length) W (hv.2.2.1.below hb) (by omega) (by omega))
  have M3 := Lib.hid (fun W (hb : Below w.heap.size w W) => held_Int x.O o (k + x.R.length + x.M.length + x.S.length) W (hv.2.2.2.below hb) (by omega) (by omega))
  have E3 : k + x.cost = (k + x.R.length + x.M.length + x.S.length + x.O.length) := by omega
  have HB0 := Lib.hid ((Below.refl w.heap.size w).alloc (Nat.le_refl _) (.cells #[.int .i64 x.pc, r, m, s, .int .i64 x.inn, o, .int .i64 x.cd, .int .i64 x.st] 32))
  have X0 := Lib.hid (heap_alloc_new w (.cells #[.int .i64 x.pc, r, m, s, .int .i64 x.inn, o, .int .i64 x.cd, .int .i64 x.st] 32))
  obtain ⟨w0, hw0⟩ : ∃ w0, w0 = w.alloc (.cells #[.int .i64 x.pc, r, m, s, .int .i64 x.inn, o, .int .i64 x.cd, .int .i64 x.st] 32) := ⟨_, rfl⟩
  have hs0 : w0.heap.size = w.heap.size + 1 := by rw [hw0]; simp
  rw [← hw0] at HB0 X0
  obtain ⟨z0, hz0⟩ : ∃ z : Int, z = k := ⟨_, rfl⟩
  obtain ⟨z1, hz1⟩ : ∃ z : Int, z = (((k + x.R.length) : Nat) : Int) := ⟨_, rfl⟩
  obtain ⟨z2, hz2⟩ : ∃ z : Int, z = (((k + x.R.length + x.M.length) : Nat) : Int) := ⟨_, rfl⟩
  obtain ⟨z3, hz3⟩ : ∃ z : Int, z = (((k + x.R.length + x.M.length + x.S.length) : Nat) : Int) := ⟨_, rfl⟩
  obtain ⟨z4, hz4⟩ : ∃ z : Int, z = (((k + x.R.length + x.M.length + x.S.length + x.O.length) : Nat) : Int) := ⟨_, rfl⟩
  have p1 : ¬ z1 < 0 := by omega
  have p2 : ¬ z2 < 0 := by omega
  have p3 : ¬ z3 < 0 := by omega
  have p4 : ¬ z4 < 0 := by omega
  obtain ⟨x0, x1, x2, x3, x4, x5, x6, x7⟩ := cell8_row X0.out
  rw [hw0] at x0 x1 x2 x3 x4 x5 x6 x7
  rw [show ((k + x.cost : Nat) : Int) = z4 by rw [hz4, E3], ← hz0]
  rw [← hz0, show ((k + x.R.length : Nat) : Int) = z1 by rw [hz1]] at M0
  rw [← hz1, show (((k + x.R.length) + x.M.length : Nat) : Int) = z2 by rw [hz2]] at M1
  rw [← hz2, show (((k + x.R.length + x.M.length) + x.S.length : Nat) : Int) = z3 by rw [hz3]] at M2
  rw [← hz3, show (((k + x.R.length + x.M.length + x.S.length) + x.O.length : Nat) : Int) = z4 by rw [hz4]] at M3
  clear hz0 hz1 hz2 hz3 hz4 hk E3 hx
  go_enter Tryz.func19, Tryz.ntmps19
  go_wp2_with fail
  rw [← hw0]
  clear hw0 x0 x1 x2 x3 x4 x5 x6 x7
  have N0 := Lib.hid (M0.out w0 HB0.out)
  refine N0.out.mono ?_
  rintro e w1 ⟨rfl, hb⟩
  have HB1 := Lib.hid (HB0.out.trans (hb.mono HB0.out.size))
  have X1 := Lib.hid ((hb.block w.heap.size (Array.getElem?_eq_some_iff.1 X0.out).1).trans X0.out)
  clear hb N0
  obtain ⟨x0, x1, x2, x3, x4, x5, x6, x7⟩ := cell8_row X1.out
  go_wp2_with fail
  clear x0 x1 x2 x3 x4 x5 x6 x7
  have N1 := Lib.hid (M1.out w1 HB1.out)
  refine N1.out.mono ?_
  rintro e w2 ⟨rfl, hb⟩
  have HB2 := Lib.hid (HB1.out.trans (hb.mono HB1.out.size))
  have X2 := Lib.hid ((hb.block w.heap.size (Array.getElem?_eq_some_iff.1 X1.out).1).trans X1.out)
  clear hb N1
  obtain ⟨x0, x1, x2, x3, x4, x5, x6, x7⟩ := cell8_row X2.out
  go_wp2_with fail
  clear x0 x1 x2 x3 x4 x5 x6 x7
  have N2 := Lib.hid (M2.out w2 HB2.out)
  refine N2.out.mono ?_
  rintro e w3 ⟨rfl, hb⟩
  have HB3 := Lib.hid (HB2.out.trans (hb.mono HB2.out.size))
  have X3 := Lib.hid ((hb.block w.heap.size (Array.getElem?_eq_some_iff.1 X2.out).1).trans X2.out)
  clear hb N2
  obtain ⟨x0, x1, x2, x3, x4, x5, x6, x7⟩ := cell8_row X3.out
  go_wp2_with fail
  clear x0 x1 x2 x3 x4 x5 x6 x7
  have N3 := Lib.hid (M3.out w3 HB3.out)
  refine N3.out.mono ?_
  rintro e w4 ⟨rfl, hb⟩
  have HB4 := Lib.hid (HB3.out.trans (hb.mono HB3.out.size))
  have X4 := Lib.hid ((hb.block w.heap.size (Array.getElem?_eq_some_iff.1 X3.out).1).trans X3.out)
  clear hb N3
  obtain ⟨x0, x1, x2, x3, x4, x5, x6, x7⟩ := cell8_row X4.out
  go_wp2
  go_ret
  exact ⟨rfl, HB4.out⟩
end Go.Proofs.YthmababifgaejaaGreatDoor
namespace Go.Proofs.YthmababifgaejaaGreatDoor
open Go.ChangeShapes Go.WideShapes Go.ChangeAt Go.RowKit
def mk (k : Nat) : ByteArray := ⟨(109 :: Lib.decDigits k).toArray⟩
set_option maxRecDepth 100000 in
theorem mark_text (n : Nat) (h1 : 1 ≤ n) (hmax : n ≤ 9223372036854775807) (w : World) : Calls Tryz.prog 55 #[.int .i64 n] w fun e w' => e = .returned (.string (mk n)) ∧ Below w.heap.size w w' := by
  have HL := Lib.hid (dec_len n (by omega))
  have hn0 : (n : Int) ≥ 1 := by omega
  go_enter Tryz.func55, Tryz.ntmps55
  go_wp2
  go_loopw [0, 3] (fun a s wr => ∃ (k : Nat) (acc : List UInt8), k ≤ n ∧ a = .int .i64 k ∧ s = .string ⟨acc.toArray⟩ ∧ Lib.decDigits n = (if k = 0 then [] else Lib.decDigits k) ++ acc ∧ Below w.heap.size w wr) (fun a _ _ => (intOf a).toNat)
  case atStart => exact ⟨n, [], Nat.le_refl _, rfl, rfl, by rw [if_neg (by omega)]; simp, Below.refl _ _⟩
  case round =>
    obtain ⟨k, acc, hk, rfl, rfl, hd, hb⟩ := hrel
    have hsz := hb.size
    have hal : acc.length ≤ 20 := by
      have := HL.out
      rw [hd, List.length_append] at this
      omega
    obtain ⟨c, hc1, hc2, hc3⟩ := digit_of k
    have HC1 := Lib.hid hc1
    have HC2 := Lib.hid hc2
    have HC3 := Lib.hid hc3
    have HD := Lib.hid hd
    have HB := Lib.hid hb
    clear hd hb hc1 hc2 hc3
    by_cases h0 : 0 < k
    · have hcv := fun (w : World) => conv1 w c (48 + (k : Int) % 10) HC1.out
      go_wp2
      go_roundw
      case rel =>
        refine ⟨k / 10, c :: acc, by omega, by simp, by rw [cat1], ?_, HB.out.alloc hsz _⟩
        rw [HD.out, if_neg (by omega)]
        by_cases h9 : 9 < k
        · rw [if_neg (by omega), HC2.out h9]; simp
        · rw [if_pos (by omega), HC3.out (by omega)]; simp
      case measure => simp [intOf]; omega
    · have HE := Lib.hid (show Lib.decDigits n = acc by rw [HD.out, if_pos (by omega)]; rfl)
      go_wp2
      go_ret
      refine ⟨?_, HB.out⟩
      unfold mk
      rw [HE.out]
      show Ending.returned (.string _) = _
      rw [cat1]
end Go.Proofs.YthmababifgaejaaGreatDoor
namespace Go.Proofs.YthmababifgaejaaGreatDoor
open Go.ChangeShapes Go.WideShapes Go.ChangeAt Go.RowKit
set_option maxRecDepth 100000 in
theorem mk0S (q : Option Addr) (c k : Nat) (w : World) : Calls Tryz.prog 36 #[.slice q 0 c, .int .i64 k] w fun e w' => e = .returned (.int .i64 k) ∧ w = w' := by
  go_enter Tryz.func36, Tryz.ntmps36
  go_wp2
  refine wp_loop_rounds 1 ?_
  rw [rounds_succ]
  go_wp2
  go_ret
  exact ⟨rfl, rfl⟩
theorem nil_is (w : World) (T : TypeId) : (Fo.nil.cs T).Is w 0 5 Fo.nil.len (.slice none 0 0) := ⟨[], ⟨by rfl, none, 0, rfl, Nat.le_refl _, Nat.zero_le _, fun _ => rfl, fun a ha => by cases ha⟩, rfl⟩
end Go.Proofs.YthmababifgaejaaGreatDoor
