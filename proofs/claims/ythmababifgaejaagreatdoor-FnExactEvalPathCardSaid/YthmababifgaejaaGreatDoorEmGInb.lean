/- The specification's test of a range, as a bool. No condition. Proofs as forests: a slice of nodes, each of which bears a slice of nodes. No condition. Program by value: how it comes in, and what the laws do with it: sz, to, eq. No condition. -/
import Derived.Test.YthmababifgaejaaGreatDoorEmGEvS
import Derived.Test.YthmababifgaejaaGreatDoorEmGCs
import Derived.Test.YthmababifgaejaaGreatDoorEmGTmM
import Derived.Deep.RegionWith
namespace Go.Proofs.YthmababifgaejaaGreatDoor
open Go.ChangeShapes Go.RowKit
set_option maxRecDepth 100000 in
theorem s_rng (x a b : Int) (c : Bool) (h : (decide (a ≤ x) && decide (x ≤ b)) = c) (w : World) : Calls Tryz.prog 57 #[.int .i64 x, .int .i64 a, .int .i64 b] w fun e w' => e = .returned (.bool c) ∧ w = w' := by
  subst h
  by_cases h1 : a ≤ x
  · by_cases h2 : x ≤ b
    · go_enter Tryz.func57, Tryz.ntmps57
      go_wp2
      go_ret
      exact ⟨by simp [h1, h2], rfl⟩
    · go_enter Tryz.func57, Tryz.ntmps57
      go_wp2
      go_ret
      exact ⟨by simp [h2], rfl⟩
  · go_enter Tryz.func57, Tryz.ntmps57
    go_wp2
    go_ret
    exact ⟨by rw [show decide (a ≤ x) = false from by simp; omega]; rfl, rfl⟩
end Go.Proofs.YthmababifgaejaaGreatDoor
namespace Go.Proofs.YthmababifgaejaaGreatDoor
open Go.ChangeShapes Go.WideShapes Go.RowKit
/-- a list of nodes: each one's number and kids, and what stands behind it -/
inductive Pf where
  | nil
  | cons (vr : Int) (k r : Pf)
namespace Pf
def len : Pf → Nat
  | .nil => 0
  | .cons _ _ r => r.len + 1
/-- numbers are ints, names are strings, all the way down -/
def Ok : Pf → Prop
  | .nil => True
  | .cons vr k r => (-9223372036854775808 ≤ vr ∧ vr ≤ 9223372036854775807) ∧ k.len ≤ maxLen ∧ k.Ok ∧ r.Ok
def OneOk (vr : Int) (k : Pf) : Prop := (-9223372036854775808 ≤ vr ∧ vr ≤ 9223372036854775807) ∧ k.len ≤ maxLen ∧ k.Ok
/-- the cells of the nodes -/
def cs (T : TypeId) : Pf → Cs
  | .nil => .nil
  | .cons vr k r => .val (.int .i64 vr) (.sl T 2 k.len (k.cs T) (r.cs T))
/-- the cells of one node -/
def one (T : TypeId) (vr : Int) (k : Pf) : Cs := .val (.int .i64 vr) (.sl T 2 k.len (k.cs T) .nil)
/-- what a budget pays for: a slice's nodes, the bytes of their names, and so on down -/
def cost : Pf → Nat
  | .nil => 0
  | .cons _ k r => 1 + k.cost + r.cost
/-- .. of the nodes of a slice without the nodes themselves -/
def rest : Pf → Nat
  | .nil => 0
  | .cons _ k r => k.cost + r.rest
theorem cost_eq : ∀ F : Pf, F.cost = F.len + F.rest
  | .nil => rfl
  | .cons _ _ r => by simp only [cost, len, rest, cost_eq r]; omega
/-- how many nodes there are, all the way down -/
def nodes : Pf → Nat
  | .nil => 0
  | .cons _ k r => 1 + k.nodes + r.nodes
theorem nodes_le : ∀ F : Pf, F.nodes ≤ F.cost
  | .nil => Nat.le_refl _
  | .cons _ k r => by have := nodes_le k; have := nodes_le r; simp only [nodes, cost]; omega
theorem len_le : ∀ F : Pf, F.len ≤ F.nodes
  | .nil => Nat.le_refl _
  | .cons _ k r => by have := len_le r; simp only [nodes, len]; omega
/-- the nodes, without those at the head of which they stand -/
def deep : Pf → Nat
  | .nil => 0
  | .cons _ k r => k.nodes + r.deep
theorem nodes_eq : ∀ F : Pf, F.nodes = F.len + F.deep
  | .nil => rfl
  | .cons _ _ r => by simp only [nodes, len, deep, nodes_eq r]; omega
def app : Pf → Pf → Pf
  | .nil, G => G
  | .cons vr k r, G => .cons vr k (r.app G)
def take : Pf → Nat → Pf
  | .nil, _ => .nil
  | .cons _ _ _, 0 => .nil
  | .cons vr k r, j + 1 => .cons vr k (r.take j)
def drop : Pf → Nat → Pf
  | F, 0 => F
  | .nil, _ + 1 => .nil
  | .cons _ _ r, j + 1 => r.drop j
/-- the node at an index -/
def At : Pf → Nat → Int → Pf → Prop
  | .nil, _, _, _ => False
  | .cons vr k _, 0, vr', k' => vr' = vr ∧ k' = k
  | .cons _ _ r, j + 1, vr', k' => r.At j vr' k'
theorem at_some : ∀ (F : Pf) (j : Nat), j < F.len → ∃ vr k, F.At j vr k
  | .nil, _, h => absurd h (Nat.not_lt_zero _)
  | .cons vr k _, 0, _ => ⟨vr, k, rfl, rfl⟩
  | .cons _ _ r, j + 1, h => at_some r j (by simp only [len] at h; omega)
theorem at_fun : ∀ (F : Pf) (j : Nat) {vr vr' : Int} {k k' : Pf}, F.At j vr k → F.At j vr' k' → vr = vr' ∧ k = k'
  | .nil, _, _, _, _, _, h, _ => h.elim
  | .cons _ _ _, 0, _, _, _, _, ⟨rfl, rfl⟩, ⟨rfl, rfl⟩ => ⟨rfl, rfl⟩
  | .cons _ _ r, j + 1, _, _, _, _, h, h' => at_fun r j h h'
theorem at_lt : ∀ (F : Pf) (j : Nat) {vr : Int} {k : Pf}, F.At j vr k → j < F.len
  | .nil, _, _, _, h => h.elim
  | .cons _ _ _, 0, _, _, _ => by simp only [len]; omega
  | .cons _ _ r, j + 1, _, _, h => by have := at_lt r j h; simp only [len]; omega
theorem at_ok : ∀ (F : Pf) (j : Nat) {vr : Int} {k : Pf}, F.At j vr k → F.Ok → OneOk vr k
  | .nil, _, _, _, h, _ => h.elim
  | .cons _ _ _, 0, _, _, ⟨rfl, rfl⟩, h => ⟨h.1, h.2.1, h.2.2.1⟩
  | .cons _ _ r, j + 1, _, _, h, hk => at_ok r j h hk.2.2.2
/-- what holds of the kids of all nodes -/
def AllK (p : Pf → Prop) : Pf → Prop
  | .nil => True
  | .cons _ k r => p k ∧ r.AllK p
theorem at_allK {p : Pf → Prop} : ∀ (F : Pf) (j : Nat) {vr : Int} {k : Pf}, F.At j vr k → F.AllK p → p k
  | .nil, _, _, _, h, _ => h.elim
  | .cons _ _ _, 0, _, _, ⟨_, rfl⟩, h => h.1
  | .cons _ _ r, j + 1, _, _, h, hk => at_allK r j h hk.2
/-- what holds of a slice's nodes if it holds of their kids, holds of all slices of nodes -/
theorem every {p : Pf → Prop} (h : ∀ F : Pf, F.AllK p → p F) : ∀ F : Pf, p F := by
  have key : ∀ F : Pf, F.AllK p := by
    intro F
    induction F with
    | nil => trivial
    | cons _ k r ihk ihr => exact ⟨h k ihk, ihr⟩
  exact fun F => h F (key F)
/-- the cost of the first j nodes of a slice, without those nodes themselves -/
def paid : Pf → Nat → Nat
  | .nil, _ => 0
  | .cons _ _ _, 0 => 0
  | .cons _ k r, j + 1 => k.cost + r.paid j
theorem paid_all : ∀ F : Pf, F.paid F.len = F.rest
  | .nil => rfl
  | .cons _ _ r => by simp only [len, paid, rest, paid_all r]
theorem paid_zero : ∀ F : Pf, F.paid 0 = 0
  | .nil => rfl
  | .cons _ _ _ => rfl
theorem at_paid : ∀ (F : Pf) (j : Nat) {vr : Int} {k : Pf}, F.At j vr k → F.paid (j + 1) = F.paid j + (k.cost) ∧ F.paid (j + 1) ≤ F.rest
  | .nil, _, _, _, h => h.elim
  | .cons _ _ r, 0, _, _, ⟨rfl, rfl⟩ => by simp only [paid, rest, paid_zero]; omega
  | .cons _ _ r, j + 1, _, _, h => by
    have := at_paid r j h
    simp only [paid, rest] at this ⊢; omega
theorem at_nodes : ∀ (F : Pf) (j : Nat) {vr : Int} {k : Pf}, F.At j vr k → (F.drop j).nodes = 1 + k.nodes + (F.drop (j + 1)).nodes ∧ k.nodes < F.nodes
  | .nil, _, _, _, h => h.elim
  | .cons _ _ r, 0, _, _, ⟨rfl, rfl⟩ => ⟨by cases r <;> rfl, by simp only [nodes]; omega⟩
  | .cons _ _ r, j + 1, _, _, h => by
    have := at_nodes r j h
    exact ⟨this.1, by simp only [nodes]; omega⟩
theorem at_deep : ∀ (F : Pf) (j : Nat) {vr : Int} {k : Pf}, F.At j vr k → (F.drop j).deep = k.nodes + (F.drop (j + 1)).deep
  | .nil, _, _, _, h => h.elim
  | .cons vr k r, 0, _, _, ⟨rfl, rfl⟩ => by show k.nodes + r.deep = k.nodes + (r.drop 0).deep; cases r <;> rfl
  | .cons _ _ r, j + 1, _, _, h => at_deep r j h
theorem take_at : ∀ (F : Pf) (j : Nat) {vr : Int} {k : Pf}, F.At j vr k → F.take (j + 1) = (F.take j).app (.cons vr k .nil)
  | .nil, _, _, _, h => h.elim
  | .cons _ _ r, 0, _, _, ⟨rfl, rfl⟩ => by cases r <;> rfl
  | .cons _ _ r, j + 1, _, _, h => by
    show Pf.cons _ _ (r.take (j + 1)) = Pf.cons _ _ ((r.take j).app _)
    rw [take_at r j h]
theorem drop_at : ∀ (F : Pf) (j : Nat) {vr : Int} {k : Pf}, F.At j vr k → F.drop j = .cons vr k (F.drop (j + 1))
  | .nil, _, _, _, h => h.elim
  | .cons _ _ r, 0, _, _, ⟨rfl, rfl⟩ => by cases r <;> rfl
  | .cons _ _ r, j + 1, _, _, h => drop_at r j h
/-- a stack of slices of nodes -/
def stk (T : TypeId) : List Pf → Cs
  | [] => .nil
  | F :: L => .sl T 2 F.len (F.cs T) (stk T L)
def total : List Pf → Nat
  | [] => 0
  | F :: L => F.nodes + total L
theorem stk_app (T : TypeId) : ∀ L M : List Pf, stk T (L ++ M) = (stk T L).app (stk T M)
  | [], _ => rfl
  | F :: L, M => by rw [List.cons_append, stk, stk, Cs.app, stk_app T L M]
theorem stk_len (T : TypeId) : ∀ L : List Pf, (stk T L).len = L.length
  | [] => rfl
  | F :: L => by rw [stk, Cs.len, stk_len T L]; rfl
theorem total_app : ∀ L M : List Pf, total (L ++ M) = total L + total M
  | [], M => by simp [total]
  | F :: L, M => by rw [List.cons_append, total, total, total_app L M]; omega
theorem drop_all : ∀ F : Pf, F.drop F.len = .nil
  | .nil => rfl
  | .cons _ _ r => drop_all r
theorem drop_zero : ∀ F : Pf, F.drop 0 = F
  | .nil => rfl
  | .cons _ _ _ => rfl
theorem take_all : ∀ F : Pf, F.take F.len = F
  | .nil => rfl
  | .cons _ _ r => by simp only [len, take, take_all r]
theorem take_zero : ∀ F : Pf, F.take 0 = .nil
  | .nil => rfl
  | .cons _ _ _ => rfl
theorem len_app : ∀ F G : Pf, (F.app G).len = F.len + G.len
  | .nil, G => by simp [app, len]
  | .cons _ _ r, G => by simp only [app, len, len_app r G]; omega
theorem len_take : ∀ (F : Pf) (j : Nat), j ≤ F.len → (F.take j).len = j
  | .nil, j, h => by simp only [len] at h; simp [take, len]; omega
  | .cons _ _ _, 0, _ => rfl
  | .cons _ _ r, j + 1, h => by simp only [take, len]; rw [len_take r j (by simp only [len] at h; omega)]
theorem cs_app (T : TypeId) : ∀ F G : Pf, (F.app G).cs T = (F.cs T).app (G.cs T)
  | .nil, _ => rfl
  | .cons _ _ r, G => by simp only [app, cs, Cs.app, cs_app T r G]
theorem cs_len (T : TypeId) : ∀ F : Pf, (F.cs T).len = F.len * 2
  | .nil => rfl
  | .cons _ _ r => by simp only [cs, Cs.len, len, cs_len T r]; omega
theorem cs_cons (T : TypeId) (vr : Int) (k r : Pf) : (Pf.cons vr k r).cs T = (one T vr k).app (r.cs T) := rfl
/-- the cells of the node at an index -/
theorem at_vs {w : World} {base : Nat} {T : TypeId} : ∀ (F : Pf) (j : Nat) {vr : Int} {k : Pf} {xs : List Value}, F.At j vr k → (F.cs T).Vs w base xs →
    ∃ v, xs[j * 2]? = some (.int .i64 vr) ∧ xs[j * 2 + 1]? = some v ∧ (k.cs T).Is w base 2 k.len v
  | .nil, _, _, _, _, h, _ => h.elim
  | .cons _ _ _, 0, _, _, _, ⟨rfl, rfl⟩, ⟨_, rfl, v, _, ys, rfl, h1, h2, _⟩ => ⟨v, rfl, rfl, ys, h1, h2⟩
  | .cons _ _ r, j + 1, _, _, _, h, ⟨_, rfl, _, xs', _, rfl, _, _, h3⟩ => by
    obtain ⟨v, e0, e1, e5⟩ := at_vs r j h h3
    refine ⟨v, ?_, ?_, e5⟩
    · rw [show (j + 1) * 2 = j * 2 + 1 + 1 by omega]; exact e0
    · rw [show (j + 1) * 2 + 1 = j * 2 + 1 + 1 + 1 by omega]; exact e1
/-- .. where the cells lie -/
theorem nth {w : World} {base b o : Nat} {T : TypeId} (F : Pf) {ys : List Value} (hv : (F.cs T).Vs w base ys) (hr : w.rangeAt b o ys) (j : Nat) (hj : j < F.len) :
    ∃ vr k v, F.At j vr k ∧ (k.cs T).Is w base 2 k.len v ∧ w.rangeAt b (o + j * 2) [.int .i64 vr, v] := by
  obtain ⟨vr, k, hat⟩ := at_some F j hj
  obtain ⟨v, e0, e1, e5⟩ := at_vs F j hat hv
  refine ⟨vr, k, v, hat, e5, fun i u hu => ?_⟩
  match i, hu with
  | 0, hu => cases hu; exact hr _ _ e0
  | 1, hu => cases hu; exact hr _ _ e1
  | i + 2, hu => simp at hu
/-- a slice of nodes: nil or empty, or it lies somewhere -/
theorem is_cases {w : World} {base : Nat} {T : TypeId} {F : Pf} {v : Value} (h : (F.cs T).Is w base 2 F.len v) : (F.len = 0 ∧ ∃ q cap, v = .slice q 0 cap) ∨ (0 < F.len ∧ ∃ b o cap ys, v = .slice (some ⟨b, o, none⟩) F.len cap ∧ F.len ≤ cap ∧ cap ≤ maxLen ∧ base ≤ b ∧ b < w.heap.size ∧ (F.cs T).Vs w base ys ∧ w.rangeAt b o ys) := by
  obtain ⟨ys, ⟨hl, q, cap, rfl, h1, h2, h3, h4⟩, hv⟩ := h
  by_cases h0 : F.len = 0
  · exact .inl ⟨h0, q, cap, by rw [h0]⟩
  · right
    refine ⟨by omega, ?_⟩
    cases q with
    | none => have := h3 rfl; omega
    | some a =>
      obtain ⟨b, o, sp⟩ := a
      obtain ⟨g1, g2, g3⟩ := h4 _ rfl
      have hsp : sp = none := g2 (by intro e; rw [e] at hl; simp at hl; omega)
      subst hsp
      obtain ⟨_, _, _, _, _, hr⟩ := nth F hv g3 0 (by omega)
      exact ⟨b, o, cap, ys, rfl, h1, h2, g1, World.block_lt_of_cell? w _ (hr 0 _ rfl), hv, g3⟩
theorem one_vs {w : World} {base : Nat} {T : TypeId} {vr : Int} {k : Pf} {xs : List Value} (h : (one T vr k).Vs w base xs) : ∃ v, xs = [.int .i64 vr, v] ∧ (k.cs T).Is w base 2 k.len v := by
  obtain ⟨_, rfl, v, _, ys, rfl, h1, h2, rfl⟩ := h
  exact ⟨v, rfl, ys, h1, h2⟩
theorem own_one {w : World} {base : Nat} {T : TypeId} {vr : Int} {k : Pf} {v : Value} {bs : List Nat} (h : (k.cs T).Has w base T 2 k.len v bs) : (one T vr k).Own w base [.int .i64 vr, v] bs := by
  obtain ⟨ys, b1, h1, h2, rfl⟩ := h
  exact ⟨_, rfl, v, _, ys, b1, [], rfl, h1, h2, ⟨rfl, rfl⟩, by simp⟩
theorem one_own {w : World} {base : Nat} {T : TypeId} {vr : Int} {k : Pf} {xs : List Value} {bs : List Nat} (h : (one T vr k).Own w base xs bs) : ∃ v, xs = [.int .i64 vr, v] ∧ (k.cs T).Has w base T 2 k.len v bs := by
  obtain ⟨_, rfl, v, _, ys, b1, b2, rfl, h1, h2, ⟨rfl, rfl⟩, rfl⟩ := h
  exact ⟨v, rfl, ys, b1, h1, h2, by simp⟩
section
variable {P : Program} {tS tT : TypeId} {f0 f4 : Field}
theorem open_both (hS : P.underlying tS = some (.slice tT)) (hT : P.underlying tT = some (.struct #[f0, f4])) (hC : P.cellsOf tT = 2)
    (h0 : P.underlying f0.type = some (.int .i64)) (h4 : f4.type = tS) :
    ∀ (m : Nat), (∀ C, Cs.Ty P m tS C → ∃ F : Pf, C = .sl tT 2 F.len (F.cs tT) .nil ∧ F.Ok ∧ F.len ≤ maxLen) ∧ (∀ C, Cs.Ty P m tT C → ∃ vr k, C = one tT vr k ∧ OneOk vr k) := by
  intro m
  induction m with
  | zero => exact ⟨fun C h => h.elim, fun C h => h.elim⟩
  | succ m ih =>
    constructor
    · intro C h
      unfold Cs.Ty at h
      rw [hS] at h
      dsimp only at h
      rw [hC] at h
      obtain ⟨n, k, rfl, hn, hr⟩ := h
      have key : ∀ (n : Nat) (k : Cs), Cs.Rows (Cs.Ty P m tT) n k → ∃ F : Pf, F.len = n ∧ k = F.cs tT ∧ F.Ok := by
        intro n
        induction n with
        | zero => rintro k rfl; exact ⟨.nil, rfl, rfl, trivial⟩
        | succ n ihn =>
          rintro k ⟨c, r, rfl, hc, hr⟩
          obtain ⟨vr, kk, rfl, hok⟩ := ih.2 _ hc
          obtain ⟨F, rfl, rfl, hF⟩ := ihn _ hr
          exact ⟨.cons vr kk F, rfl, rfl, hok.1, hok.2.1, hok.2.2, hF⟩
      obtain ⟨F, rfl, rfl, hF⟩ := key n k hr
      exact ⟨F, rfl, hF, hn⟩
    · intro C h
      unfold Cs.Ty at h
      rw [hT] at h
      simp only [List.map, Cs.Fields] at h
      obtain ⟨c0, _, rfl, g0, c4, _, rfl, g4, rfl⟩ := h
      rw [h4] at g4
      obtain ⟨z0, rfl, w0⟩ := Fo.ty_int h0 g0
      obtain ⟨F, rfl, hF, hl⟩ := ih.1 _ g4
      exact ⟨z0, F, rfl, w0, hl, hF⟩
end
end Pf
/-- two cells at the head of a block -/
def Cell2 (w : World) (b : Nat) (c0 c1 : Value) : Prop := w.cell? ⟨b, 0, none⟩ = some c0 ∧ w.cell? ⟨b, 1, none⟩ = some c1
theorem Cell2.below {w w' : World} {b : Nat} {c0 c1 : Value} (h : Cell2 w b c0 c1) (hb : Below w.heap.size w w') : Cell2 w' b c0 c1 := by
  obtain ⟨h0, h1⟩ := h
  have hl := World.block_lt_of_cell? w _ h0
  have e : ∀ o, w'.cell? ⟨b, o, none⟩ = w.cell? ⟨b, o, none⟩ := fun o => hb.cell (p := ⟨b, o, none⟩) hl
  exact ⟨(e 0).trans h0, (e 1).trans h1⟩
theorem cell2_alloc (w : World) (T : TypeId) (c0 c1 : Value) : Cell2 (w.alloc (.cells #[c0, c1] T)) w.heap.size c0 c1 := by
  have h : ∀ j, (w.alloc (.cells #[c0, c1] T)).cell? ⟨w.heap.size, j, none⟩ = #[c0, c1][j]? := fun j => cell_of_row _ w.heap.size j _ T (0, 0) (heap_alloc_new w _)
  exact ⟨h 0, h 1⟩
end Go.Proofs.YthmababifgaejaaGreatDoor
namespace Go.Proofs.YthmababifgaejaaGreatDoor
open Go.ChangeShapes Go.WideShapes Go.ChangeAt Go.RowKit
section
variable {H : Type} {enc : TypeId × Value → H} {w : World} {base b0 : Nat} {spare : Nat → Bool} {held : Bool} {r : Reach}
theorem plain_Program : [24, 84, 22, 3, 9].all (Cs.plainAt Tryz.prog [24, 84, 22, 3, 9]) = true := by kernel_rfl
set_option maxRecDepth 100000 in
/-- one by value -/
theorem open_Program {v : Value} {d : DataW H} {p : List MemPlace} (hv : Value.okWide Tryz.prog w r b0 24 v) (h : DataW.Trod enc Tryz.prog w base spare held 24 v d p) :
    ∃ (vw vm vi : Int) (L : List InsR) (s : Value), v = .agg #[.int .i64 vw, .int .i64 vm, .int .i64 vi, s] ∧ Cs.Shows w base 4 s L.length (InsR.all L) ∧ ((-9223372036854775808 ≤ vw ∧ vw ≤ 9223372036854775807) ∧ (-9223372036854775808 ≤ vm ∧ vm ≤ 9223372036854775807) ∧ (-9223372036854775808 ≤ vi ∧ vi ≤ 9223372036854775807) ∧ (∀ r ∈ L, r.Ok) ∧ L.length ≤ maxLen) := by
  obtain ⟨cs, rfl, _⟩ := okWide_struct Tryz.underlying24 hv
  obtain ⟨m, C, h1, h2⟩ := Cs.open_arg (t := 24) plain_Program (List.mem_cons_self ..) h
  cases m with
  | zero => exact h2.elim
  | succ m =>
    unfold Cs.Ty at h2
    rw [Tryz.underlying24] at h2
    simp only [List.map, Cs.Fields] at h2
    obtain ⟨c0, _, rfl, g0, c1, _, rfl, g1, c2, _, rfl, g2, c3, _, rfl, g3, rfl⟩ := h2
    obtain ⟨z0, rfl, w0⟩ := Fo.ty_int Tryz.underlying3 g0
    obtain ⟨z1, rfl, w1⟩ := Fo.ty_int Tryz.underlying3 g1
    obtain ⟨z2, rfl, w2⟩ := Fo.ty_int Tryz.underlying3 g2
    obtain ⟨L, rfl, hok, hl⟩ := tys_Ins m _ g3
    obtain ⟨_, e, _, rfl, _, rfl, s, _, ys, rfl, g2, g3, rfl⟩ := h1
    refine ⟨z0, z1, z2, L, s, ?_, by rw [Cs.flat_vs.1 g3] at g2; exact g2, w0, w1, w2, hok, hl⟩
    have e : cs.toList = _ := e
    rw [← Array.toArray_toList (xs := cs), e]

end
set_option maxRecDepth 100000 in
set_option maxHeartbeats 1000000 in
theorem sz_Program (vw vm vi : Int) (L : List InsR) (s : Value) (l : Nat) (w : World) (hl : l ≤ 1048576) (hv : Cs.Shows w 0 4 s L.length (InsR.all L)) (hok : (∀ r ∈ L, r.Ok)) (hlen : L.length ≤ maxLen) :
    Calls Tryz.prog 4 #[.agg #[.int .i64 vw, .int .i64 vm, .int .i64 vi, s], .int .i64 l] w fun e w' => e = .returned (.int .i64 (left l (InsR.costs L))) ∧ Below w.heap.size w w' := by
  have hml : maxLen = 9223372036854775807 := rfl
  have SO := Lib.hid (fun W (hb : Below w.heap.size w W) => sz_Ins L _ l W (by omega) (hv.below hb) hok hlen)
  obtain ⟨_, q, cap, rfl, _⟩ := hv
  clear hok hlen
  generalize InsR.costs L = c at *
  generalize L.length = n at *
  by_cases h : c ≤ l
  · have he : left l c = (l : Int) - c := by unfold left; rw [if_pos h]
    rw [he] at SO ⊢
    have hlo : 0 ≤ (l : Int) - c := by omega
    clear he
    go_enter Tryz.func4, Tryz.ntmps4
    go_wp2_with (go_at_call 20; refine (SO.out _ ((Below.refl _ _).alloc (Nat.le_refl _) _)).mono ?_; rintro e w1 ⟨rfl, hb1⟩)
    go_ret
    exact ⟨rfl, ((Below.refl _ _).alloc (Nat.le_refl _) _).trans (hb1.mono (by simp))⟩
  · have he : left l c = -1 := by unfold left; rw [if_neg h]
    rw [he] at SO ⊢
    clear he
    go_enter Tryz.func4, Tryz.ntmps4
    go_wp2_with (go_at_call 20; refine (SO.out _ ((Below.refl _ _).alloc (Nat.le_refl _) _)).mono ?_; rintro e w1 ⟨rfl, hb1⟩)
    go_ret
    exact ⟨rfl, ((Below.refl _ _).alloc (Nat.le_refl _) _).trans (hb1.mono (by simp))⟩
set_option maxRecDepth 100000 in
set_option maxHeartbeats 1000000 in
theorem eq_Program (vw vm vi : Int) (L : List InsR) (s1 s2 : Value) (w : World) (hs1 : Cs.Shows w 0 4 s1 L.length (InsR.all L)) (hs2 : Cs.Shows w 0 4 s2 L.length (InsR.all L)) (hn : InsR.costs L ≤ 2097152) :
    Calls Tryz.prog 12 #[.agg #[.int .i64 vw, .int .i64 vm, .int .i64 vi, s1], .agg #[.int .i64 vw, .int .i64 vm, .int .i64 vi, s2]] w fun e w' => e = .returned (.bool true) ∧ Below w.heap.size w w' := by
  have hll := InsR.len_le L
  have SO := Lib.hid (fun W (hb : Below w.heap.size w W) => eq_Ins L _ _ _ (hs1.below hb) (hs2.below hb) (by omega))
  obtain ⟨_, q1, cap1, rfl, _⟩ := hs1
  obtain ⟨_, q2, cap2, rfl, _⟩ := hs2
  go_enter Tryz.func12, Tryz.ntmps12
  go_wp2_with (go_at_call 33; refine (SO.out _ (((Below.refl _ _).alloc (Nat.le_refl _) _).alloc (by simp) _)).mono ?_; rintro e w1 ⟨rfl, hb1⟩)
  go_ret
  exact ⟨rfl, (((Below.refl _ _).alloc (Nat.le_refl _) _).alloc (by simp) _).trans (hb1.mono (by simp; omega))⟩
def ToProgramEnd (vw vm vi : Int) (L : List InsR) (w : World) (e : Ending) (w' : World) : Prop := ∃ g, e = .returned (.agg #[.int .i64 vw, .int .i64 vm, .int .i64 vi, .slice (some ⟨g, 0, none⟩) L.length L.length]) ∧ w'.ownsRow w.heap.size 82 4 (.slice (some ⟨g, 0, none⟩) L.length L.length) L.length (InsR.all L) ∧ Below w.heap.size w w'
set_option maxRecDepth 100000 in
set_option maxHeartbeats 1000000 in
theorem to_Program (vw vm vi : Int) (L : List InsR) (s : Value) (w : World) (hs : Cs.Shows w 0 4 s L.length (InsR.all L)) (hn : InsR.costs L ≤ 1048576) :
    Calls Tryz.prog 7 #[.agg #[.int .i64 vw, .int .i64 vm, .int .i64 vi, s]] w (ToProgramEnd vw vm vi L w) := by
  have hll := InsR.len_le L
  have HC := Lib.hid (fun W (hb : Below w.heap.size w W) => to_Ins L _ W (hs.below hb) (by omega))
  obtain ⟨_, q, cap, rfl, _⟩ := hs
  unfold ToInsEnd at HC
  unfold ToProgramEnd
  go_enter Tryz.func7, Tryz.ntmps7
  go_wp2_with fail
  refine (HC.out _ (by repeat (first | refine Below.setCell ?_ (by first | (simp; done) | (simp; omega)) _ | refine Below.alloc ?_ (by first | (simp; done) | (simp; omega)) _ | exact Below.refl _ _))).mono ?_
  rintro e w1 ⟨g, rfl, hh, hb1⟩
  have hz : w.heap.size + 2 < w1.heap.size := by have := hb1.size; simp at this; omega
  obtain ⟨hc, hf⟩ := bcell hb1
  have HH := Lib.hid (own_base (base' := w.heap.size) hh (by simp; omega))
  have HL := Lib.hid (show w.heap.size + 3 ≤ g by have := (own_lt hh (g := g) (by simp [Value.ownBlock])).1; simp at this; omega)
  have HB1 : Hid (Below w.heap.size w w1) := Lib.hid (Below.trans (b := _) (by repeat (first | refine Below.alloc ?_ (by first | (simp; done) | (simp; omega)) _ | exact Below.refl _ _)) (hb1.mono (by simp; omega)))
  clear hh hb1
  go_wp2
  refine bodyPost_ret (v := .agg #[.int .i64 vw, .int .i64 vm, .int .i64 vi, .slice (some ⟨g, 0, none⟩) L.length L.length]) (by simp [results, Tryz.results7, go_sem, hc]) rfl ?_
  refine ⟨g, rfl, ?_, ?_⟩
  · have hne := HL.out
    refine own_same HH.out (fun k hk => ?_)
    have hk : k = g := by simp [Value.ownBlock] at hk; omega
    subst hk
    repeat (first | rw [heap_setCell_other _ _ _ _ (by simp; omega)])
  · repeat (first | refine Below.setCell ?_ (by first | (simp; done) | (simp; omega)) _ | exact HB1.out)
end Go.Proofs.YthmababifgaejaaGreatDoor
