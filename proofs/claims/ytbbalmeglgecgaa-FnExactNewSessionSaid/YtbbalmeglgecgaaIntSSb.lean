/- Slices of slices of ints, and formulas: how they come in; eq. No condition. -/
import Derived.Test.YtbbalmeglgecgaaFlInt
import Derived.Deep.RegionWith
namespace Go.Proofs.Ytbbalmeglgecgaa
open Go.ChangeShapes Go.WideShapes Go.ChangeAt Go.RowKit
namespace IntSS
/-- the cell of one slice -/
def c (l : List Int) : Cs := .sl 3 1 l.length (Cs.flat (IntL.all l)) .nil
theorem c_len (l : List Int) : (c l).len = 1 := rfl
def Ok (L : List (List Int)) : Prop := ∀ l ∈ L, (∀ x ∈ l, IntL.Ok x) ∧ l.length ≤ maxLen
/-- what a budget pays for -/
def costs (L : List (List Int)) : Nat := (L.map fun l => 1 + l.length).sum
theorem costs_take (L : List (List Int)) (j : Nat) (h : j < L.length) : costs (L.take (j + 1)) = costs (L.take j) + (1 + L[j].length) := by
  unfold costs
  rw [List.take_succ_eq_append_getElem h, List.map_append, List.sum_append]
  simp
theorem len_le (L : List (List Int)) : L.length ≤ costs L := by
  unfold costs
  induction L with
  | nil => simp
  | cons r L ih => simp only [List.map_cons, List.sum_cons, List.length_cons]; omega
theorem costs_le (L : List (List Int)) (j : Nat) : costs (L.take j) + (L.length - j) ≤ costs L := by
  have h : costs L = costs (L.take j) + costs (L.drop j) := by
    unfold costs
    rw [← List.sum_append, ← List.map_append, List.take_append_drop]
  have h2 := len_le (L.drop j)
  rw [List.length_drop] at h2
  omega
theorem cost_lt (L : List (List Int)) (j : Nat) (h : j < L.length) : L[j].length < costs L := by
  have h1 := costs_take L j h
  have h2 := costs_le L (j + 1)
  omega
/-- a slice that shows such rows: empty, or it lies somewhere, and each row can be read -/
theorem cases {w : World} {L : List (List Int)} {v : Value} (h : (Cs.rows c L).Is w 0 1 L.length v) : (L = [] ∧ ∃ q cap, v = .slice q 0 cap) ∨ (0 < L.length ∧ ∃ b o cap, v = .slice (some ⟨b, o, none⟩) L.length cap ∧ L.length ≤ cap ∧ cap ≤ maxLen ∧ b < w.heap.size ∧
    ∀ (wr : World), Below w.heap.size w wr → ∀ j (h : j < L.length), ∃ q m cp, L[j].length = m ∧ wr.cell? ⟨b, o + j, none⟩ = some (.slice q m cp) ∧ Cs.Shows wr 0 1 (.slice q m cp) L[j].length (IntL.all L[j])) := by
  obtain ⟨ys, hs, hv⟩ := h
  rcases Cs.shows_cases hs with ⟨h0, q, cap, rfl⟩ | ⟨hpos, b, o, cap, rfl, h1, h2, h3, hr⟩
  · exact .inl ⟨List.length_eq_zero_iff.1 h0, q, cap, rfl⟩
  · refine .inr ⟨hpos, b, o, cap, rfl, h1, h2, h3, fun wr hb j hj => ?_⟩
    obtain ⟨xs, hx, hxr⟩ := Cs.rows_nth c_len L hv hr j hj
    obtain ⟨s, xs', rfl, ⟨ys', hsh, hfl⟩, rfl⟩ := Cs.vs_sl.1 hx
    rw [Cs.flat_vs.1 hfl] at hsh
    have hsh2 := hsh.below hb
    obtain ⟨_, q, cp, rfl, _⟩ := hsh
    refine ⟨q, _, cp, rfl, ?_, hsh2⟩
    have := rangeAt_below hb hxr 0 _ rfl
    rwa [Nat.mul_one, Nat.add_zero] at this
end IntSS
theorem zero_IntS : (Try.prog.info? 58).map (fun i => (i.zero, i.size, i.bytes)) = some (some (.slice none 0 0), 1, 24) := by kernel_rfl
set_option maxRecDepth 100000 in
set_option maxHeartbeats 1000000 in
theorem eq_IntSS (L : List (List Int)) (v1 v2 : Value) (w : World) (h1 : (Cs.rows IntSS.c L).Is w 0 1 L.length v1) (h2 : (Cs.rows IntSS.c L).Is w 0 1 L.length v2) (hn : IntSS.costs L ≤ 2097152) :
    Calls Try.prog 43 #[v1, v2] w fun e w' => e = .returned (.bool true) ∧ Below w.heap.size w w' := by
  have hll := IntSS.len_le L
  rcases IntSS.cases h1 with ⟨h0, q1, cap1, rfl⟩ | ⟨hpos, b1, o1, cap1, rfl, _, _, _, hr1⟩
  · obtain ⟨_, ⟨_, q2, cap2, rfl, _⟩, _⟩ := h2
    subst h0
    rw [List.length_nil]
    clear hn h1 hll
    go_enter Try.func43, Try.ntmps43
    go_wp2
    refine wp_loop_rounds 1 ?_
    rw [rounds_succ]
    go_wp2
    go_ret
    exact ⟨rfl, Below.refl _ _⟩
  · rcases IntSS.cases h2 with ⟨h0, _⟩ | ⟨_, b2, o2, cap2, rfl, _, _, _, hr2⟩
    · subst h0; simp at hpos
    have HR1 := Lib.hid hr1
    have HR2 := Lib.hid hr2
    have HC := Lib.hid (fun j h => IntSS.cost_lt L j h)
    clear h1 h2 hr1 hr2
    go_enter Try.func43, Try.ntmps43
    go_wp2
    go_loopw [5] (fun i wr => ∃ (j : Nat), j ≤ L.length ∧ i = .int .i64 j ∧ Below w.heap.size w wr) (fun i _ => L.length - (intOf i).toNat)
    case atStart => exact ⟨0, Nat.zero_le _, rfl, Below.refl _ _⟩
    case round =>
      obtain ⟨j, hj, rfl, hb⟩ := hrel
      by_cases hjn : j < L.length
      · obtain ⟨qe, me, cpe, hme, c0, hsh1⟩ := HR1.out wr hb j hjn
        obtain ⟨qf, mf, cpf, hmf, d0, hsh2⟩ := HR2.out wr hb j hjn
        have hcl := HC.out j hjn
        generalize L[j] = r at *
        have SO := Lib.hid (fun W (hW : Below wr.heap.size wr W) => eq_Int r (.slice qe me cpe) (.slice qf mf cpf) W (hsh1.below hW) (hsh2.below hW) (by omega))
        have HB := Lib.hid hb
        have hki : (j : Int) < (L.length : Int) := by omega
        clear hb hsh1 hsh2
        go_wp2
        go_still_tail 8, (by kernel_rfl)
        go_wp2_with (go_at_call 39; refine (SO.out _ (Below.refl _ wr).drew).mono ?_; rintro e w1 ⟨rfl, hb1⟩)
        go_roundw
        case rel => exact ⟨j + 1, by omega, by go_num, HB.out.drew.trans (hb1.mono HB.out.drew.size)⟩
        case measure => simp [intOf]; omega
      · have HB := Lib.hid hb
        have hnj : ¬ ((j : Int) < (L.length : Int)) := by omega
        clear hb
        go_wp2
        go_ret
        exact ⟨rfl, HB.out⟩
end Go.Proofs.Ytbbalmeglgecgaa
