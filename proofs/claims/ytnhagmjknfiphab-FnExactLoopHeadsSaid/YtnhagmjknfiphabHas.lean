/- What the specification's l03Has returns. No condition. -/
import Derived.Test.YtnhagmjknfiphabFlInt
import Derived.Test.YtnhagmjknfiphabApAny
namespace Go.Proofs.Ytnhagmjknfiphab
open Go.ChangeShapes Go.WideShapes Go.ChangeAt Go.RowKit
set_option maxRecDepth 100000 in
set_option maxHeartbeats 1000000 in
theorem s_has (l : List Int) (x : Int) (v : Value) (w : World) (hv : Cs.Shows w 0 1 v l.length (IntL.all l)) (hl : l.length ≤ 1048577) :
    Calls Try.prog 37 #[v, .int .i64 x] w fun e w' => e = .returned (.bool (decide (x ∈ l))) ∧ Below w.heap.size w w' := by
  rcases Cs.shows_cases hv with ⟨h0, q, cap, rfl⟩ | ⟨hpos, b, o, cap, rfl, _, _, hbl, hr⟩
  · have hL : l = [] := List.length_eq_zero_iff.1 h0
    subst hL
    clear hv hl h0
    go_enter Try.func37, Try.ntmps37
    go_wp2
    refine wp_loop_rounds 1 ?_
    rw [rounds_succ]
    go_wp2
    go_ret
    exact ⟨rfl, Below.refl _ _⟩
  · have HR := Lib.hid (fun (wr : World) (hb : Below w.heap.size w wr) j (h : j < l.length) => IntL.nth l j h (rangeAt_below hb hr))
    have HN := Lib.hid (fun j (h : j < l.length) => show x ∈ l.drop j ↔ x = l[j] ∨ x ∈ l.drop (j + 1) by rw [List.drop_eq_getElem_cons h, List.mem_cons])
    have HE := Lib.hid (show l.drop l.length = [] from List.drop_length)
    obtain ⟨B, hB⟩ : ∃ B, decide (x ∈ l) = B := ⟨_, rfl⟩
    have H0 := Lib.hid (show decide (x ∈ l.drop 0) = B from hB)
    rw [hB]
    clear hv hr hB
    go_enter Try.func37, Try.ntmps37
    go_wp2
    go_loopw [9] (fun i wr => ∃ (j : Nat), j ≤ l.length ∧ i = .int .i64 j ∧ decide (x ∈ l.drop j) = B ∧ Below w.heap.size w wr) (fun i _ => l.length - (intOf i).toNat)
    case atStart => exact ⟨0, Nat.zero_le _, rfl, H0.out, Below.refl _ _⟩
    case round =>
      obtain ⟨j, hj, rfl, hrest, hb⟩ := hrel
      have HB := Lib.hid hb
      by_cases hjn : j < l.length
      · have c0 := HR.out wr hb j hjn
        have hn := HN.out j hjn
        generalize l[j] = y at *
        have hki : (j : Int) < (l.length : Int) := by omega
        by_cases he : x = y
        · have HT := Lib.hid (show B = true by rw [← hrest]; exact decide_eq_true (hn.2 (.inl he)))
          clear hb hrest hn
          go_wp2
          go_ret
          exact ⟨by rw [HT.out] <;> rfl, HB.out⟩
        · have HT := Lib.hid (show decide (x ∈ l.drop (j + 1)) = B by rw [← hrest]; exact decide_eq_decide.2 ⟨fun h => hn.2 (.inr h), fun h => (hn.1 h).resolve_left he⟩)
          clear hb hrest hn
          go_wp2
          go_roundw
          case rel => exact ⟨j + 1, by omega, by go_num, HT.out, HB.out⟩
          case measure => simp [intOf]; omega
      · have hnj : ¬ ((j : Int) < (l.length : Int)) := by omega
        have HF := Lib.hid (show B = false by rw [← hrest, show j = l.length by omega, HE.out]; rfl)
        clear hb hrest
        go_wp2
        go_ret
        exact ⟨by rw [HF.out] <;> rfl, HB.out⟩
/-- the list that is made so far -/
def RsRel (L : List Int) (w : World) (s : Value) (wr : World) : Prop := ∃ g c, s = .slice (some ⟨g, 0, none⟩) L.length c ∧ wr.ownsRow w.heap.size 3 1 (.slice (some ⟨g, 0, none⟩) L.length c) L.length (IntL.all L) ∧ Below w.heap.size w wr
end Go.Proofs.Ytnhagmjknfiphab
