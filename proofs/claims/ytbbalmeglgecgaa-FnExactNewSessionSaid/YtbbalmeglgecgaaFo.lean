/- Terms as forests: a slice of nodes, each of which bears a slice of nodes. No condition. -/
import Derived.Test.YtbbalmeglgecgaaCs
namespace Go.Proofs.Ytbbalmeglgecgaa
open Go.ChangeShapes Go.WideShapes Go.RowKit
/-- a list of nodes: each one's op, width, number, name and kids, and what stands behind it -/
inductive Fo where
  | nil
  | cons (op wd n : Int) (nm : ByteArray) (k r : Fo)
/-- five cells at the head of a block -/
def Cell5 (w : World) (b : Nat) (c0 c1 c2 c3 c4 : Value) : Prop := w.cell? ⟨b, 0, none⟩ = some c0 ∧ w.cell? ⟨b, 1, none⟩ = some c1 ∧ w.cell? ⟨b, 2, none⟩ = some c2 ∧ w.cell? ⟨b, 3, none⟩ = some c3 ∧ w.cell? ⟨b, 4, none⟩ = some c4
theorem Cell5.below {w w' : World} {b : Nat} {c0 c1 c2 c3 c4 : Value} (h : Cell5 w b c0 c1 c2 c3 c4) (hb : Below w.heap.size w w') : Cell5 w' b c0 c1 c2 c3 c4 := by
  obtain ⟨h0, h1, h2, h3, h4⟩ := h
  have hl := World.block_lt_of_cell? w _ h0
  have e : ∀ o, w'.cell? ⟨b, o, none⟩ = w.cell? ⟨b, o, none⟩ := fun o => hb.cell (p := ⟨b, o, none⟩) hl
  exact ⟨(e 0).trans h0, (e 1).trans h1, (e 2).trans h2, (e 3).trans h3, (e 4).trans h4⟩
theorem cell5_alloc (w : World) (T : TypeId) (c0 c1 c2 c3 c4 : Value) : Cell5 (w.alloc (.cells #[c0, c1, c2, c3, c4] T)) w.heap.size c0 c1 c2 c3 c4 := by
  have h : ∀ j, (w.alloc (.cells #[c0, c1, c2, c3, c4] T)).cell? ⟨w.heap.size, j, none⟩ = #[c0, c1, c2, c3, c4][j]? := fun j => cell_of_row _ w.heap.size j _ T (0, 0) (heap_alloc_new w _)
  exact ⟨h 0, h 1, h 2, h 3, h 4⟩
namespace Fo
def len : Fo → Nat
  | .nil => 0
  | .cons _ _ _ _ _ r => r.len + 1
/-- numbers are ints, names are strings, all the way down -/
def Ok : Fo → Prop
  | .nil => True
  | .cons op wd n nm k r => ((-9223372036854775808 ≤ op ∧ op ≤ 9223372036854775807) ∧ (-9223372036854775808 ≤ wd ∧ wd ≤ 9223372036854775807) ∧ (-9223372036854775808 ≤ n ∧ n ≤ 9223372036854775807)) ∧ nm.size ≤ maxLen ∧ k.len ≤ maxLen ∧ k.Ok ∧ r.Ok
def OneOk (op wd n : Int) (nm : ByteArray) (k : Fo) : Prop := ((-9223372036854775808 ≤ op ∧ op ≤ 9223372036854775807) ∧ (-9223372036854775808 ≤ wd ∧ wd ≤ 9223372036854775807) ∧ (-9223372036854775808 ≤ n ∧ n ≤ 9223372036854775807)) ∧ nm.size ≤ maxLen ∧ k.len ≤ maxLen ∧ k.Ok
/-- the cells of the nodes -/
def cs (T : TypeId) : Fo → Cs
  | .nil => .nil
  | .cons op wd n nm k r => .val (.int .i64 op) (.val (.int .i64 wd) (.val (.int .i64 n) (.val (.string nm) (.sl T 5 k.len (k.cs T) (r.cs T)))))
/-- the cells of one node -/
def one (T : TypeId) (op wd n : Int) (nm : ByteArray) (k : Fo) : Cs := .val (.int .i64 op) (.val (.int .i64 wd) (.val (.int .i64 n) (.val (.string nm) (.sl T 5 k.len (k.cs T) .nil))))
/-- what a budget pays for: a slice's nodes, the bytes of their names, and so on down -/
def cost : Fo → Nat
  | .nil => 0
  | .cons _ _ _ nm k r => 1 + nm.size + k.cost + r.cost
/-- .. of the nodes of a slice without the nodes themselves -/
def rest : Fo → Nat
  | .nil => 0
  | .cons _ _ _ nm k r => nm.size + k.cost + r.rest
theorem cost_eq : ∀ F : Fo, F.cost = F.len + F.rest
  | .nil => rfl
  | .cons _ _ _ _ _ r => by simp only [cost, len, rest, cost_eq r]; omega
/-- how many nodes there are, all the way down -/
def nodes : Fo → Nat
  | .nil => 0
  | .cons _ _ _ _ k r => 1 + k.nodes + r.nodes
theorem nodes_le : ∀ F : Fo, F.nodes ≤ F.cost
  | .nil => Nat.le_refl _
  | .cons _ _ _ _ k r => by have := nodes_le k; have := nodes_le r; simp only [nodes, cost]; omega
theorem len_le : ∀ F : Fo, F.len ≤ F.nodes
  | .nil => Nat.le_refl _
  | .cons _ _ _ _ k r => by have := len_le r; simp only [nodes, len]; omega
/-- the nodes, without those at the head of which they stand -/
def deep : Fo → Nat
  | .nil => 0
  | .cons _ _ _ _ k r => k.nodes + r.deep
theorem nodes_eq : ∀ F : Fo, F.nodes = F.len + F.deep
  | .nil => rfl
  | .cons _ _ _ _ _ r => by simp only [nodes, len, deep, nodes_eq r]; omega
def app : Fo → Fo → Fo
  | .nil, G => G
  | .cons op wd n nm k r, G => .cons op wd n nm k (r.app G)
def take : Fo → Nat → Fo
  | .nil, _ => .nil
  | .cons _ _ _ _ _ _, 0 => .nil
  | .cons op wd n nm k r, j + 1 => .cons op wd n nm k (r.take j)
def drop : Fo → Nat → Fo
  | F, 0 => F
  | .nil, _ + 1 => .nil
  | .cons _ _ _ _ _ r, j + 1 => r.drop j
/-- the node at an index -/
def At : Fo → Nat → Int → Int → Int → ByteArray → Fo → Prop
  | .nil, _, _, _, _, _, _ => False
  | .cons op wd n nm k _, 0, op', wd', n', nm', k' => op' = op ∧ wd' = wd ∧ n' = n ∧ nm' = nm ∧ k' = k
  | .cons _ _ _ _ _ r, j + 1, op', wd', n', nm', k' => r.At j op' wd' n' nm' k'
theorem at_some : ∀ (F : Fo) (j : Nat), j < F.len → ∃ op wd n nm k, F.At j op wd n nm k
  | .nil, _, h => absurd h (Nat.not_lt_zero _)
  | .cons op wd n nm k _, 0, _ => ⟨op, wd, n, nm, k, rfl, rfl, rfl, rfl, rfl⟩
  | .cons _ _ _ _ _ r, j + 1, h => at_some r j (by simp only [len] at h; omega)
theorem at_fun : ∀ (F : Fo) (j : Nat) {op wd n op' wd' n' : Int} {nm nm' : ByteArray} {k k' : Fo}, F.At j op wd n nm k → F.At j op' wd' n' nm' k' → op = op' ∧ wd = wd' ∧ n = n' ∧ nm = nm' ∧ k = k'
  | .nil, _, _, _, _, _, _, _, _, _, _, _, h, _ => h.elim
  | .cons _ _ _ _ _ _, 0, _, _, _, _, _, _, _, _, _, _, ⟨rfl, rfl, rfl, rfl, rfl⟩, ⟨rfl, rfl, rfl, rfl, rfl⟩ => ⟨rfl, rfl, rfl, rfl, rfl⟩
  | .cons _ _ _ _ _ r, j + 1, _, _, _, _, _, _, _, _, _, _, h, h' => at_fun r j h h'
theorem at_lt : ∀ (F : Fo) (j : Nat) {op wd n : Int} {nm : ByteArray} {k : Fo}, F.At j op wd n nm k → j < F.len
  | .nil, _, _, _, _, _, _, h => h.elim
  | .cons _ _ _ _ _ _, 0, _, _, _, _, _, _ => by simp only [len]; omega
  | .cons _ _ _ _ _ r, j + 1, _, _, _, _, _, h => by have := at_lt r j h; simp only [len]; omega
theorem at_ok : ∀ (F : Fo) (j : Nat) {op wd n : Int} {nm : ByteArray} {k : Fo}, F.At j op wd n nm k → F.Ok → OneOk op wd n nm k
  | .nil, _, _, _, _, _, _, h, _ => h.elim
  | .cons _ _ _ _ _ _, 0, _, _, _, _, _, ⟨rfl, rfl, rfl, rfl, rfl⟩, h => ⟨h.1, h.2.1, h.2.2.1, h.2.2.2.1⟩
  | .cons _ _ _ _ _ r, j + 1, _, _, _, _, _, h, hk => at_ok r j h hk.2.2.2.2
/-- what holds of the kids of all nodes -/
def AllK (p : Fo → Prop) : Fo → Prop
  | .nil => True
  | .cons _ _ _ _ k r => p k ∧ r.AllK p
theorem at_allK {p : Fo → Prop} : ∀ (F : Fo) (j : Nat) {op wd n : Int} {nm : ByteArray} {k : Fo}, F.At j op wd n nm k → F.AllK p → p k
  | .nil, _, _, _, _, _, _, h, _ => h.elim
  | .cons _ _ _ _ _ _, 0, _, _, _, _, _, ⟨_, _, _, _, rfl⟩, h => h.1
  | .cons _ _ _ _ _ r, j + 1, _, _, _, _, _, h, hk => at_allK r j h hk.2
/-- what holds of a slice's nodes if it holds of their kids, holds of all slices of nodes -/
theorem every {p : Fo → Prop} (h : ∀ F : Fo, F.AllK p → p F) : ∀ F : Fo, p F := by
  have key : ∀ F : Fo, F.AllK p := by
    intro F
    induction F with
    | nil => trivial
    | cons _ _ _ _ k r ihk ihr => exact ⟨h k ihk, ihr⟩
  exact fun F => h F (key F)
/-- the cost of the first j nodes of a slice, without those nodes themselves -/
def paid : Fo → Nat → Nat
  | .nil, _ => 0
  | .cons _ _ _ _ _ _, 0 => 0
  | .cons _ _ _ nm k r, j + 1 => nm.size + k.cost + r.paid j
theorem paid_all : ∀ F : Fo, F.paid F.len = F.rest
  | .nil => rfl
  | .cons _ _ _ _ _ r => by simp only [len, paid, rest, paid_all r]
theorem paid_zero : ∀ F : Fo, F.paid 0 = 0
  | .nil => rfl
  | .cons _ _ _ _ _ _ => rfl
theorem at_paid : ∀ (F : Fo) (j : Nat) {op wd n : Int} {nm : ByteArray} {k : Fo}, F.At j op wd n nm k → F.paid (j + 1) = F.paid j + (nm.size + k.cost) ∧ F.paid (j + 1) ≤ F.rest
  | .nil, _, _, _, _, _, _, h => h.elim
  | .cons _ _ _ _ _ r, 0, _, _, _, _, _, ⟨rfl, rfl, rfl, rfl, rfl⟩ => by simp only [paid, rest, paid_zero]; omega
  | .cons _ _ _ _ _ r, j + 1, _, _, _, _, _, h => by
    have := at_paid r j h
    simp only [paid, rest] at this ⊢; omega
theorem at_nodes : ∀ (F : Fo) (j : Nat) {op wd n : Int} {nm : ByteArray} {k : Fo}, F.At j op wd n nm k → (F.drop j).nodes = 1 + k.nodes + (F.drop (j + 1)).nodes ∧ k.nodes < F.nodes
  | .nil, _, _, _, _, _, _, h => h.elim
  | .cons _ _ _ _ _ r, 0, _, _, _, _, _, ⟨rfl, rfl, rfl, rfl, rfl⟩ => ⟨by cases r <;> rfl, by simp only [nodes]; omega⟩
  | .cons _ _ _ _ _ r, j + 1, _, _, _, _, _, h => by
    have := at_nodes r j h
    exact ⟨this.1, by simp only [nodes]; omega⟩
theorem at_deep : ∀ (F : Fo) (j : Nat) {op wd n : Int} {nm : ByteArray} {k : Fo}, F.At j op wd n nm k → (F.drop j).deep = k.nodes + (F.drop (j + 1)).deep
  | .nil, _, _, _, _, _, _, h => h.elim
  | .cons op wd n nm k r, 0, _, _, _, _, _, ⟨rfl, rfl, rfl, rfl, rfl⟩ => by show k.nodes + r.deep = k.nodes + (r.drop 0).deep; cases r <;> rfl
  | .cons _ _ _ _ _ r, j + 1, _, _, _, _, _, h => at_deep r j h
theorem take_at : ∀ (F : Fo) (j : Nat) {op wd n : Int} {nm : ByteArray} {k : Fo}, F.At j op wd n nm k → F.take (j + 1) = (F.take j).app (.cons op wd n nm k .nil)
  | .nil, _, _, _, _, _, _, h => h.elim
  | .cons _ _ _ _ _ r, 0, _, _, _, _, _, ⟨rfl, rfl, rfl, rfl, rfl⟩ => by cases r <;> rfl
  | .cons _ _ _ _ _ r, j + 1, _, _, _, _, _, h => by
    show Fo.cons _ _ _ _ _ (r.take (j + 1)) = Fo.cons _ _ _ _ _ ((r.take j).app _)
    rw [take_at r j h]
theorem drop_at : ∀ (F : Fo) (j : Nat) {op wd n : Int} {nm : ByteArray} {k : Fo}, F.At j op wd n nm k → F.drop j = .cons op wd n nm k (F.drop (j + 1))
  | .nil, _, _, _, _, _, _, h => h.elim
  | .cons _ _ _ _ _ r, 0, _, _, _, _, _, ⟨rfl, rfl, rfl, rfl, rfl⟩ => by cases r <;> rfl
  | .cons _ _ _ _ _ r, j + 1, _, _, _, _, _, h => drop_at r j h
/-- a stack of slices of nodes -/
def stk (T : TypeId) : List Fo → Cs
  | [] => .nil
  | F :: L => .sl T 5 F.len (F.cs T) (stk T L)
def total : List Fo → Nat
  | [] => 0
  | F :: L => F.nodes + total L
theorem stk_app (T : TypeId) : ∀ L M : List Fo, stk T (L ++ M) = (stk T L).app (stk T M)
  | [], _ => rfl
  | F :: L, M => by rw [List.cons_append, stk, stk, Cs.app, stk_app T L M]
theorem stk_len (T : TypeId) : ∀ L : List Fo, (stk T L).len = L.length
  | [] => rfl
  | F :: L => by rw [stk, Cs.len, stk_len T L]; rfl
theorem total_app : ∀ L M : List Fo, total (L ++ M) = total L + total M
  | [], M => by simp [total]
  | F :: L, M => by rw [List.cons_append, total, total, total_app L M]; omega
theorem drop_all : ∀ F : Fo, F.drop F.len = .nil
  | .nil => rfl
  | .cons _ _ _ _ _ r => drop_all r
theorem drop_zero : ∀ F : Fo, F.drop 0 = F
  | .nil => rfl
  | .cons _ _ _ _ _ _ => rfl
theorem take_all : ∀ F : Fo, F.take F.len = F
  | .nil => rfl
  | .cons _ _ _ _ _ r => by simp only [len, take, take_all r]
theorem take_zero : ∀ F : Fo, F.take 0 = .nil
  | .nil => rfl
  | .cons _ _ _ _ _ _ => rfl
theorem len_app : ∀ F G : Fo, (F.app G).len = F.len + G.len
  | .nil, G => by simp [app, len]
  | .cons _ _ _ _ _ r, G => by simp only [app, len, len_app r G]; omega
theorem len_take : ∀ (F : Fo) (j : Nat), j ≤ F.len → (F.take j).len = j
  | .nil, j, h => by simp only [len] at h; simp [take, len]; omega
  | .cons _ _ _ _ _ _, 0, _ => rfl
  | .cons _ _ _ _ _ r, j + 1, h => by simp only [take, len]; rw [len_take r j (by simp only [len] at h; omega)]
theorem cs_app (T : TypeId) : ∀ F G : Fo, (F.app G).cs T = (F.cs T).app (G.cs T)
  | .nil, _ => rfl
  | .cons _ _ _ _ _ r, G => by simp only [app, cs, Cs.app, cs_app T r G]
theorem cs_len (T : TypeId) : ∀ F : Fo, (F.cs T).len = F.len * 5
  | .nil => rfl
  | .cons _ _ _ _ _ r => by simp only [cs, Cs.len, len, cs_len T r]; omega
theorem cs_cons (T : TypeId) (op wd n : Int) (nm : ByteArray) (k r : Fo) : (Fo.cons op wd n nm k r).cs T = (one T op wd n nm k).app (r.cs T) := rfl
/-- the cells of the node at an index -/
theorem at_vs {w : World} {base : Nat} {T : TypeId} : ∀ (F : Fo) (j : Nat) {op wd n : Int} {nm : ByteArray} {k : Fo} {xs : List Value}, F.At j op wd n nm k → (F.cs T).Vs w base xs →
    ∃ v, xs[j * 5]? = some (.int .i64 op) ∧ xs[j * 5 + 1]? = some (.int .i64 wd) ∧ xs[j * 5 + 2]? = some (.int .i64 n) ∧ xs[j * 5 + 3]? = some (.string nm) ∧ xs[j * 5 + 4]? = some v ∧ (k.cs T).Is w base 5 k.len v
  | .nil, _, _, _, _, _, _, _, h, _ => h.elim
  | .cons _ _ _ _ _ _, 0, _, _, _, _, _, _, ⟨rfl, rfl, rfl, rfl, rfl⟩, ⟨_, rfl, _, rfl, _, rfl, _, rfl, v, _, ys, rfl, h1, h2, _⟩ => ⟨v, rfl, rfl, rfl, rfl, rfl, ys, h1, h2⟩
  | .cons _ _ _ _ _ r, j + 1, _, _, _, _, _, _, h, ⟨_, rfl, _, rfl, _, rfl, _, rfl, _, xs', _, rfl, _, _, h3⟩ => by
    obtain ⟨v, e0, e1, e2, e3, e4, e5⟩ := at_vs r j h h3
    refine ⟨v, ?_, ?_, ?_, ?_, ?_, e5⟩
    · rw [show (j + 1) * 5 = j * 5 + 1 + 1 + 1 + 1 + 1 by omega]; exact e0
    · rw [show (j + 1) * 5 + 1 = j * 5 + 1 + 1 + 1 + 1 + 1 + 1 by omega]; exact e1
    · rw [show (j + 1) * 5 + 2 = j * 5 + 2 + 1 + 1 + 1 + 1 + 1 by omega]; exact e2
    · rw [show (j + 1) * 5 + 3 = j * 5 + 3 + 1 + 1 + 1 + 1 + 1 by omega]; exact e3
    · rw [show (j + 1) * 5 + 4 = j * 5 + 4 + 1 + 1 + 1 + 1 + 1 by omega]; exact e4
/-- .. where the cells lie -/
theorem nth {w : World} {base b o : Nat} {T : TypeId} (F : Fo) {ys : List Value} (hv : (F.cs T).Vs w base ys) (hr : w.rangeAt b o ys) (j : Nat) (hj : j < F.len) :
    ∃ op wd n nm k v, F.At j op wd n nm k ∧ (k.cs T).Is w base 5 k.len v ∧ w.rangeAt b (o + j * 5) [.int .i64 op, .int .i64 wd, .int .i64 n, .string nm, v] := by
  obtain ⟨op, wd, n, nm, k, hat⟩ := at_some F j hj
  obtain ⟨v, e0, e1, e2, e3, e4, e5⟩ := at_vs F j hat hv
  refine ⟨op, wd, n, nm, k, v, hat, e5, fun i u hu => ?_⟩
  match i, hu with
  | 0, hu => cases hu; exact hr _ _ e0
  | 1, hu => cases hu; exact hr _ _ e1
  | 2, hu => cases hu; exact hr _ _ e2
  | 3, hu => cases hu; exact hr _ _ e3
  | 4, hu => cases hu; exact hr _ _ e4
  | i + 5, hu => simp at hu
/-- a slice of nodes: nil or empty, or it lies somewhere -/
theorem is_cases {w : World} {base : Nat} {T : TypeId} {F : Fo} {v : Value} (h : (F.cs T).Is w base 5 F.len v) : (F.len = 0 ∧ ∃ q cap, v = .slice q 0 cap) ∨ (0 < F.len ∧ ∃ b o cap ys, v = .slice (some ⟨b, o, none⟩) F.len cap ∧ F.len ≤ cap ∧ cap ≤ maxLen ∧ base ≤ b ∧ b < w.heap.size ∧ (F.cs T).Vs w base ys ∧ w.rangeAt b o ys) := by
  obtain ⟨ys, ⟨hl, q, cap, rfl, h1, h2, h3, h4⟩, hv⟩ := h
  by_cases h0 : F.len = 0
  · exact .inl ⟨h0, q, cap, by rw [h0]⟩
  · right
    refine ⟨by omega, ?_⟩
    cases q with
    | none => have := h3 rfl; omega
    | some a =>
      obtain ⟨b, o, sp⟩ := a
      obtain ⟨g1, g2, g3⟩ := h4 _ rfl
      have hsp : sp = none := g2 (by intro e; rw [e] at hl; simp at hl; omega)
      subst hsp
      obtain ⟨_, _, _, _, _, _, _, _, hr⟩ := nth F hv g3 0 (by omega)
      exact ⟨b, o, cap, ys, rfl, h1, h2, g1, World.block_lt_of_cell? w _ (hr 0 _ rfl), hv, g3⟩
theorem one_vs {w : World} {base : Nat} {T : TypeId} {op wd n : Int} {nm : ByteArray} {k : Fo} {xs : List Value} (h : (one T op wd n nm k).Vs w base xs) : ∃ v, xs = [.int .i64 op, .int .i64 wd, .int .i64 n, .string nm, v] ∧ (k.cs T).Is w base 5 k.len v := by
  obtain ⟨_, rfl, _, rfl, _, rfl, _, rfl, v, _, ys, rfl, h1, h2, rfl⟩ := h
  exact ⟨v, rfl, ys, h1, h2⟩
theorem vs_one {w : World} {base : Nat} {T : TypeId} {op wd n : Int} {nm : ByteArray} {k : Fo} {v : Value} (h : (k.cs T).Is w base 5 k.len v) : (one T op wd n nm k).Vs w base [.int .i64 op, .int .i64 wd, .int .i64 n, .string nm, v] := by
  obtain ⟨ys, h1, h2⟩ := h
  exact ⟨_, rfl, _, rfl, _, rfl, _, rfl, v, _, ys, rfl, h1, h2, rfl⟩
theorem own_one {w : World} {base : Nat} {T : TypeId} {op wd n : Int} {nm : ByteArray} {k : Fo} {v : Value} {bs : List Nat} (h : (k.cs T).Has w base T 5 k.len v bs) : (one T op wd n nm k).Own w base [.int .i64 op, .int .i64 wd, .int .i64 n, .string nm, v] bs := by
  obtain ⟨ys, b1, h1, h2, rfl⟩ := h
  exact ⟨_, rfl, _, rfl, _, rfl, _, rfl, v, _, ys, b1, [], rfl, h1, h2, ⟨rfl, rfl⟩, by simp⟩
theorem one_own {w : World} {base : Nat} {T : TypeId} {op wd n : Int} {nm : ByteArray} {k : Fo} {xs : List Value} {bs : List Nat} (h : (one T op wd n nm k).Own w base xs bs) : ∃ v, xs = [.int .i64 op, .int .i64 wd, .int .i64 n, .string nm, v] ∧ (k.cs T).Has w base T 5 k.len v bs := by
  obtain ⟨_, rfl, _, rfl, _, rfl, _, rfl, v, _, ys, b1, b2, rfl, h1, h2, ⟨rfl, rfl⟩, rfl⟩ := h
  exact ⟨v, rfl, ys, b1, h1, h2, by simp⟩
section
variable {P : Program} {tS tT : TypeId} {f0 f1 f2 f3 f4 : Field}
theorem wf_i64 {n : Int} (h : (Lit.int .i64 n).wf = true) : -9223372036854775808 ≤ n ∧ n ≤ 9223372036854775807 := by
  simpa [Lit.wf, show IntKind.i64.min = -9223372036854775808 from rfl] using h
theorem ty_int {t : TypeId} {m : Nat} {C : Cs} (h0 : P.underlying t = some (.int .i64)) (h : Cs.Ty P m t C) : ∃ n, C = .val (.int .i64 n) .nil ∧ -9223372036854775808 ≤ n ∧ n ≤ 9223372036854775807 := by
  cases m with
  | zero => exact h.elim
  | succ m => unfold Cs.Ty at h; rw [h0] at h; obtain ⟨n, rfl, h⟩ := h; exact ⟨n, rfl, wf_i64 h⟩
theorem ty_string {t : TypeId} {m : Nat} {C : Cs} (h0 : P.underlying t = some .string) (h : Cs.Ty P m t C) : ∃ s : ByteArray, C = .val (.string s) .nil ∧ s.size ≤ maxLen := by
  cases m with
  | zero => exact h.elim
  | succ m => unfold Cs.Ty at h; rw [h0] at h; exact h
theorem open_both (hS : P.underlying tS = some (.slice tT)) (hT : P.underlying tT = some (.struct #[f0, f1, f2, f3, f4])) (hC : P.cellsOf tT = 5)
    (h0 : P.underlying f0.type = some (.int .i64)) (h1 : P.underlying f1.type = some (.int .i64)) (h2 : P.underlying f2.type = some (.int .i64)) (h3 : P.underlying f3.type = some .string) (h4 : f4.type = tS) :
    ∀ (m : Nat), (∀ C, Cs.Ty P m tS C → ∃ F : Fo, C = .sl tT 5 F.len (F.cs tT) .nil ∧ F.Ok ∧ F.len ≤ maxLen) ∧ (∀ C, Cs.Ty P m tT C → ∃ op wd n nm k, C = one tT op wd n nm k ∧ OneOk op wd n nm k) := by
  intro m
  induction m with
  | zero => exact ⟨fun C h => h.elim, fun C h => h.elim⟩
  | succ m ih =>
    constructor
    · intro C h
      unfold Cs.Ty at h
      rw [hS] at h
      dsimp only at h
      rw [hC] at h
      obtain ⟨n, k, rfl, hn, hr⟩ := h
      have key : ∀ (n : Nat) (k : Cs), Cs.Rows (Cs.Ty P m tT) n k → ∃ F : Fo, F.len = n ∧ k = F.cs tT ∧ F.Ok := by
        intro n
        induction n with
        | zero => rintro k rfl; exact ⟨.nil, rfl, rfl, trivial⟩
        | succ n ihn =>
          rintro k ⟨c, r, rfl, hc, hr⟩
          obtain ⟨op, wd, nn, nm, kk, rfl, hok⟩ := ih.2 _ hc
          obtain ⟨F, rfl, rfl, hF⟩ := ihn _ hr
          exact ⟨.cons op wd nn nm kk F, rfl, rfl, hok.1, hok.2.1, hok.2.2.1, hok.2.2.2, hF⟩
      obtain ⟨F, rfl, rfl, hF⟩ := key n k hr
      exact ⟨F, rfl, hF, hn⟩
    · intro C h
      unfold Cs.Ty at h
      rw [hT] at h
      simp only [List.map, Cs.Fields] at h
      obtain ⟨c0, _, rfl, g0, c1, _, rfl, g1, c2, _, rfl, g2, c3, _, rfl, g3, c4, _, rfl, g4, rfl⟩ := h
      rw [h4] at g4
      obtain ⟨z0, rfl, w0⟩ := ty_int h0 g0
      obtain ⟨z1, rfl, w1⟩ := ty_int h1 g1
      obtain ⟨z2, rfl, w2⟩ := ty_int h2 g2
      obtain ⟨s3, rfl, w3⟩ := ty_string h3 g3
      obtain ⟨F, rfl, hF, hl⟩ := ih.1 _ g4
      exact ⟨z0, z1, z2, s3, F, rfl, ⟨w0, w1, w2⟩, w3, hl, hF⟩
end
end Fo
end Go.Proofs.Ytbbalmeglgecgaa
