/- slices.Clone of a list of ints. No condition. -/
import Derived.Test.YtbdkningngpgcaaShelf
import Derived.Test.YtbdkningngpgcaaFlInt
import Derived.Test.YtbdkningngpgcaaOwAt
namespace Go.Proofs.Ytbdkningngpgcaa
open Go.ChangeShapes Go.WideShapes Go.ChangeAt Go.RowKit
set_option maxRecDepth 100000 in
theorem own_clone2 (zs : List Int) (v : Value) (w : World) (hv : Cs.Shows w 0 1 v zs.length (IntL.all zs)) (hl : zs.length ≤ 1048576) :
    Calls Try.prog 47 #[v] w fun e w' => Below w.heap.size w w' ∧ ∃ q c, e = .returned (.slice q zs.length c) ∧ w'.ownsRow w.heap.size 3 1 (.slice q zs.length c) zs.length (IntL.all zs) := by
  rcases Cs.shows_cases hv with ⟨h0, q, cap, rfl⟩ | ⟨hpos, b, o, cap, rfl, _, _, hbl, hr⟩
  · have hz : zs = [] := List.length_eq_zero_iff.1 h0
    subst hz
    cases q with
    | none =>
      refine (Try.slices_Clone_int_nil 0 cap w).mono fun e w' ⟨he, hw⟩ => ?_
      subst hw
      exact ⟨Below.refl _ _, none, 0, he, World.ownsRow_nil _ _ _ _⟩
    | some a =>
      refine (Try.slices_Clone_int_zero a cap w).mono fun e w' ⟨v', he, ho, _, hb⟩ => ?_
      subst he
      obtain ⟨q, c, rfl⟩ := own_slc ho
      exact ⟨hb, q, c, rfl, ho⟩
  · refine (Try.slices_Clone_int b o zs.length cap zs w (Nat.le_refl _) (by omega) (fun j hj => ?_)).mono fun e w' ⟨v', he, ho, _, hb⟩ => ?_
    · have := hr j (.int .i64 zs[j]) (by rw [IntL.all_map, List.getElem?_map, List.getElem?_eq_getElem hj]; rfl)
      rw [List.getD_eq_getElem?_getD, List.getElem?_eq_getElem hj]
      exact this
    · subst he
      rw [List.take_of_length_le (Nat.le_refl _), ← IntL.all_map] at ho
      obtain ⟨q, c, rfl⟩ := own_slc ho
      exact ⟨hb, q, c, rfl, ho⟩
end Go.Proofs.Ytbdkningngpgcaa
