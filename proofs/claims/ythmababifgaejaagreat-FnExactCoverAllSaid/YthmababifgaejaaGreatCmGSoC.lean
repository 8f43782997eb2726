/- slices.Sort and slices.Compact on a row of ints that is owned. No condition. What the program's ascending leaves of a row of ints that is owned. No condition. -/
import Derived.Test.YthmababifgaejaaGreatCmGRnT
import Derived.Test.YthmababifgaejaaGreatCmGNxO
import Derived.Lib.OwnBridge
namespace Go.Proofs.YthmababifgaejaaGreat
open Go.ChangeShapes Go.WideShapes Go.ChangeAt Go.RowKit
theorem below_growR' (w : World) (os : Array Obj) : Below w.heap.size w (Sort.grow w os) :=
  ⟨rfl, rfl, rfl, by show w.heap.size ≤ (w.heap ++ os).size; rw [Array.size_append]; omega, fun _ hj => Sort.heap_grow_old w os hj⟩
set_option maxRecDepth 100000 in
theorem own_sort {base : Nat} {w0 w : World} {v : Value} {n : Nat} (zs : List Int) (hz : zs.length = n) (ho : w.ownsRow base 3 1 v n (IntL.all zs)) (hb : Below base w0 w) (hn : n < 4611686018427387904) :
    Calls Tryz.prog 41 #[v] w fun e w' => e = .returned (.tuple #[]) ∧ w'.ownsRow base 3 1 v n (IntL.all (sortI zs)) ∧ Below base w0 w' := by
  subst hz
  rcases id ho.2 with ⟨rfl, h0⟩ | ⟨g, cap, cur, rfl, _⟩
  · have hz : zs = [] := List.length_eq_zero_iff.1 h0
    subst hz
    refine (Tryz.slices_Sort_int_none none 0 w).mono fun e w' ⟨he, hw⟩ => ?_
    subst hw
    exact ⟨he, by simpa [sortI] using ho, hb⟩
  · rw [IntL.all_map] at ho
    obtain ⟨_, _, hx, hg1, hg2, _, _, _, hHo⟩ := Lib.holds_of_ownsRow ho (by intro e; cases e)
    injection hx with hx1 _ hx2
    injection hx1 with hx1
    injection hx1 with hx1
    subst hx1
    refine (Tryz.slices_Sort_int g 0 cap zs w hHo hg2 hn).mono fun e w' ⟨he, n, os, hw⟩ => ?_
    subst hw
    refine ⟨he, ?_, ?_⟩
    · have h1 := Lib.ownsRow_putRow (q := n) (k := zs.length) ho (ys := sortI zs) (sortI_len zs) (Nat.le_refl _)
      rw [List.take_of_length_le (by rw [sortI_len]; exact Nat.le_refl _)] at h1
      rw [IntL.all_map]
      exact own_keep h1 (below_growR' _ os)
    · refine (Lib.below_putRow hb hg1).trans ((below_growR' _ os).mono ?_)
      have : base ≤ w.heap.size := by omega
      simpa [Sort.putRow, Sort.mapBlock, Sort.ahead] using this
set_option maxRecDepth 100000 in
theorem own_compact {base : Nat} {w0 w : World} {v : Value} {n : Nat} (zs : List Int) (hz : zs.length = n) (ho : w.ownsRow base 3 1 v n (IntL.all zs)) (hb : Below base w0 w) (hn : n < 4611686018427387904) :
    Calls Tryz.prog 42 #[v] w fun e w' => ∃ q cap, e = .returned (.slice q (Lib.compact zs).length cap) ∧ w'.ownsRow base 3 1 (.slice q (Lib.compact zs).length cap) (Lib.compact zs).length (IntL.all (Lib.compact zs)) ∧ Below base w0 w' := by
  subst hz
  have hcl : (Lib.compact zs).length ≤ zs.length := by
    unfold Lib.compact Lib.compactUpTo
    rw [List.length_map]
    exact Nat.le_trans (List.length_filter_le _ _) (by simp)
  rcases id ho.2 with ⟨rfl, h0⟩ | ⟨g, cap, cur, rfl, _⟩
  · have hz : zs = [] := List.length_eq_zero_iff.1 h0
    subst hz
    refine (Tryz.slices_Compact_int_empty none 0 w).mono fun e w' ⟨he, hw⟩ => ?_
    subst hw
    exact ⟨none, 0, he, ho, hb⟩
  · rw [IntL.all_map] at ho
    obtain ⟨_, _, hx, hg1, hg2, hg3, hg4, _, hHo⟩ := Lib.holds_of_ownsRow ho (by intro e; cases e)
    injection hx with hx1 _ hx2
    injection hx1 with hx1
    injection hx1 with hx1
    subst hx1; subst hx2
    have hml : maxLen = 9223372036854775807 := rfl
    refine (Tryz.slices_Compact_int g 0 cap zs w hHo (by omega) (by omega)).mono fun e w' ⟨he, q5, hw⟩ => ?_
    subst hw
    refine ⟨some ⟨g, 0, none⟩, cap, he, ?_, ?_⟩
    · have ho5 := Lib.ownsRow_putRow (q := q5) (k := (Lib.compact zs).length) ho (ys := Lib.compact zs ++ List.replicate (zs.length - (Lib.compact zs).length) 0) (by rw [List.length_append, List.length_replicate]; omega) hcl
      rw [List.take_left, ← IntL.all_map] at ho5
      exact ho5
    · exact Lib.below_putRow hb hg1
end Go.Proofs.YthmababifgaejaaGreat
namespace Go.Proofs.YthmababifgaejaaGreat
open Go.ChangeShapes Go.WideShapes Go.ChangeAt Go.RowKit
set_option maxRecDepth 100000 in
set_option maxHeartbeats 4000000 in
theorem i_asc {base : Nat} {w0 w : World} {v : Value} {n : Nat} (zs : List Int) (hz : zs.length = n) (ho : w.ownsRow base 3 1 v n (IntL.all zs)) (hb : Below base w0 w) (hn : n < 4611686018427387904) :
    Calls Tryz.prog 26 #[v] w fun e w' => ∃ q cap, e = .returned (.slice q (Lib.compact (sortI zs)).length cap) ∧ w'.ownsRow base 3 1 (.slice q (Lib.compact (sortI zs)).length cap) (Lib.compact (sortI zs)).length (IntL.all (Lib.compact (sortI zs))) ∧ Below base w0 w' := by
  have KS := Lib.hid (own_sort zs hz ho hb hn)
  clear ho hb
  go_enter Tryz.func26, Tryz.ntmps26
  go_wp2_with fail
  refine KS.out.mono ?_
  rintro e w8 ⟨rfl, hos, hb⟩
  have KC := Lib.hid (own_compact (sortI zs) (n := n) (by rw [sortI_len]; exact hz) hos hb hn)
  clear hos hb
  go_wp2_with fail
  refine KC.out.mono ?_
  rintro e w9 ⟨q9, c9, rfl, ho, hb⟩
  have HO9 := Lib.hid ho
  have HB9 := Lib.hid hb
  clear ho hb
  go_wp2
  go_ret
  exact ⟨q9, c9, rfl, HO9.out, HB9.out⟩
end Go.Proofs.YthmababifgaejaaGreat
