/- Flat rows: slices whose cells are plain. No condition. -/
import Derived.Test.YtbbalmeglgecgaaFo
import Derived.Deep.QuietTactic
namespace Go.Proofs.Ytbbalmeglgecgaa
open Go.ChangeShapes Go.WideShapes Go.RowKit
/-- what is left of a budget behind a cost -/
def left (l c : Nat) : Int := if c ≤ l then (l : Int) - c else -1
namespace Cs
def flat : List Value → Cs
  | [] => .nil
  | v :: l => .val v (flat l)
theorem flat_app : ∀ a b : List Value, flat (a ++ b) = (flat a).app (flat b)
  | [], _ => rfl
  | v :: a, b => by rw [List.cons_append, flat, flat, app, flat_app a b]
theorem flat_vs {w : World} {base : Nat} : ∀ {l xs : List Value}, (flat l).Vs w base xs ↔ xs = l
  | [], _ => Iff.rfl
  | v :: l, xs => by
    constructor
    · rintro ⟨xs', rfl, h⟩; rw [flat_vs.1 h]
    · rintro rfl; exact ⟨l, rfl, flat_vs.2 rfl⟩
/-- a slice that shows rows of one size: empty, or it lies somewhere -/
theorem shows_cases {w : World} {base z n : Nat} {v : Value} {ys : List Value} (h : Shows w base z v n ys) (hz : 0 < z := by decide) : (n = 0 ∧ ∃ q cap, v = .slice q 0 cap) ∨ (0 < n ∧ ∃ b o cap, v = .slice (some ⟨b, o, none⟩) n cap ∧ n ≤ cap ∧ cap ≤ maxLen ∧ b < w.heap.size ∧ w.rangeAt b o ys) := by
  obtain ⟨hl, q, cap, rfl, h1, h2, h3, h4⟩ := h
  by_cases h0 : n = 0
  · exact .inl ⟨h0, q, cap, by rw [h0]⟩
  · right
    have hp : 0 < n * z := Nat.mul_pos (by omega) hz
    refine ⟨by omega, ?_⟩
    cases q with
    | none => have := h3 rfl; omega
    | some a =>
      obtain ⟨b, o, sp⟩ := a
      obtain ⟨_, g2, g3⟩ := h4 _ rfl
      have hsp : sp = none := g2 (by intro e; rw [e] at hl; simp at hl; omega)
      subst hsp
      have hx : ys[0]? = some (ys[0]'(by omega)) := List.getElem?_eq_getElem (by omega)
      exact ⟨b, o, cap, rfl, h1, h2, World.block_lt_of_cell? w _ (g3 0 _ hx), g3⟩
end Cs
theorem flat_get {R : Type} (cells : R → List Value) (z : Nat) (hz : ∀ r, (cells r).length = z) : ∀ (L : List R) (j i : Nat) (h : j < L.length), i < z → (L.flatMap cells)[j * z + i]? = (cells L[j])[i]?
  | r :: L, 0, i, _, hi => by
    rw [List.flatMap_cons, Nat.zero_mul, Nat.zero_add, List.getElem?_append_left (by rw [hz]; exact hi)]
    rfl
  | r :: L, j + 1, i, h, hi => by
    rw [List.flatMap_cons, List.getElem?_append_right (by rw [hz, Nat.succ_mul]; omega), hz, show (j + 1) * z + i - z = j * z + i by rw [Nat.succ_mul]; omega]
    exact flat_get cells z hz L j i (by simpa using h) hi
/-- the cells of the row at an index -/
theorem flat_nth {R : Type} (cells : R → List Value) (z : Nat) (hz : ∀ r, (cells r).length = z) {w : World} {b o : Nat} (L : List R) (j : Nat) (h : j < L.length) (hr : w.rangeAt b o (L.flatMap cells)) : w.rangeAt b (o + j * z) (cells L[j]) := fun i u hu => by
  have hi := (List.getElem?_eq_some_iff.1 hu).1
  rw [hz] at hi
  have := hr (j * z + i) u (by rw [flat_get cells z hz L j i h hi]; exact hu)
  rwa [← Nat.add_assoc] at this
theorem putAt_take (cur : List Value) (o : Nat) (vs : List Value) (m : Nat) (hm : m = o + vs.length) (hl : m ≤ cur.length) : (putAt cur o vs).take m = cur.take o ++ vs := by
  have hx : (cur.take o).length = o := by rw [List.length_take]; omega
  have := putAt_mid vs (cur.take o) (cur.drop o) (by rw [List.length_drop]; omega)
  rw [List.take_append_drop, hx] at this
  rw [this]
  exact List.take_left' (by rw [List.length_append, hx]; omega)
theorem quiet_eq {P : Program} {f : FuncId} {args : Array Value} {w : World} {n : Nat} {v : Value} (h : Calls P f args (w.drewN n) fun e w' => e = .returned v ∧ w.drewN n = w') : Calls P f args (w.drewN n) fun e w'' => e = .returned v ∧ ∃ m, w'' = w.drewN m :=
  h.mono fun _ _ ⟨he, hm⟩ => ⟨he, n, hm.symm⟩
theorem there2 {w : World} {b o : Nat} (h : w.there b o 2) : ∃ a0 a1, (w.cell? ⟨b, o, none⟩ = some a0 ∧ w.cell? ⟨b, o + 1, none⟩ = some a1) ∧ w.frozen? ⟨b, o, none⟩ = false ∧ w.frozen? ⟨b, o + 1, none⟩ = false := by
  obtain ⟨c0, f0⟩ := h 0 (by omega); obtain ⟨c1, f1⟩ := h 1 (by omega)
  obtain ⟨a0, c0⟩ := Option.isSome_iff_exists.1 c0; obtain ⟨a1, c1⟩ := Option.isSome_iff_exists.1 c1
  exact ⟨a0, a1, ⟨c0, c1⟩, f0, f1⟩
theorem there3 {w : World} {b o : Nat} (h : w.there b o 3) : ∃ a0 a1 a2, (w.cell? ⟨b, o, none⟩ = some a0 ∧ w.cell? ⟨b, o + 1, none⟩ = some a1 ∧ w.cell? ⟨b, o + 2, none⟩ = some a2) ∧ w.frozen? ⟨b, o, none⟩ = false ∧ w.frozen? ⟨b, o + 1, none⟩ = false ∧ w.frozen? ⟨b, o + 2, none⟩ = false := by
  obtain ⟨c0, f0⟩ := h 0 (by omega); obtain ⟨c1, f1⟩ := h 1 (by omega); obtain ⟨c2, f2⟩ := h 2 (by omega)
  obtain ⟨a0, c0⟩ := Option.isSome_iff_exists.1 c0; obtain ⟨a1, c1⟩ := Option.isSome_iff_exists.1 c1; obtain ⟨a2, c2⟩ := Option.isSome_iff_exists.1 c2
  exact ⟨a0, a1, a2, ⟨c0, c1, c2⟩, f0, f1, f2⟩
theorem there4 {w : World} {b o : Nat} (h : w.there b o 4) : ∃ a0 a1 a2 a3, (w.cell? ⟨b, o, none⟩ = some a0 ∧ w.cell? ⟨b, o + 1, none⟩ = some a1 ∧ w.cell? ⟨b, o + 2, none⟩ = some a2 ∧ w.cell? ⟨b, o + 3, none⟩ = some a3) ∧ w.frozen? ⟨b, o, none⟩ = false ∧ w.frozen? ⟨b, o + 1, none⟩ = false ∧ w.frozen? ⟨b, o + 2, none⟩ = false ∧ w.frozen? ⟨b, o + 3, none⟩ = false := by
  obtain ⟨c0, f0⟩ := h 0 (by omega); obtain ⟨c1, f1⟩ := h 1 (by omega); obtain ⟨c2, f2⟩ := h 2 (by omega); obtain ⟨c3, f3⟩ := h 3 (by omega)
  obtain ⟨a0, c0⟩ := Option.isSome_iff_exists.1 c0; obtain ⟨a1, c1⟩ := Option.isSome_iff_exists.1 c1; obtain ⟨a2, c2⟩ := Option.isSome_iff_exists.1 c2; obtain ⟨a3, c3⟩ := Option.isSome_iff_exists.1 c3
  exact ⟨a0, a1, a2, a3, ⟨c0, c1, c2, c3⟩, f0, f1, f2, f3⟩
end Go.Proofs.Ytbbalmeglgecgaa
