/- States whose rows are owned: what is read of them, and what stores and appends leave. No condition. The model of EvalPath. No condition. Operands behind a text. No condition. -/
import Derived.Test.YthmababifgaejaaGreatDoorEmGSoM
import Derived.Maps.AppendAt
import Derived.Test.YthmababifgaejaaGreatDoorEmGEv
import Derived.Test.YthmababifgaejaaGreatDoorEmGWk
import Derived.Lib.Strings
import Derived.Lib.ItoaNum
namespace Go.Proofs.YthmababifgaejaaGreatDoor
open Go.ChangeShapes Go.WideShapes Go.ChangeAt Go.RowKit
theorem own_some {w : World} {base n : Nat} {v : Value} {xs : List Value} (h : w.ownsRow base 3 1 v n xs) (hn : 0 < n) : ∃ g cap, v = .slice (some ⟨g, 0, none⟩) n cap := by
  rcases h.2 with ⟨_, h0⟩ | ⟨g, cap, _, rfl, _⟩
  · omega
  · exact ⟨g, cap, rfl⟩
theorem own_slice {w : World} {base n : Nat} {v : Value} {xs : List Value} (h : w.ownsRow base 3 1 v n xs) : ∃ q cap, v = .slice q n cap := by
  rcases h.2 with ⟨rfl, h0⟩ | ⟨g, cap, _, rfl, _⟩
  · exact ⟨none, 0, by rw [h0]⟩
  · exact ⟨_, cap, rfl⟩
/-- a block of another type is none of a row of ints -/
theorem own_off {w : World} {base n b : Nat} {v : Value} {xs : List Value} {cs : Array Value} {T : TypeId} {fr : Nat × Nat} (hT : T ≠ 3) (h : w.ownsRow base 3 1 v n xs) (hb : w.heap[b]? = some (.cells cs T fr)) : b ∉ v.ownBlock.toList := fun hm => by
  rcases h.2 with ⟨rfl, _⟩ | ⟨g, cap, cur, rfl, _, hg, _⟩
  · simp [Value.ownBlock] at hm
  · simp [Value.ownBlock] at hm
    subst hm
    rw [hg] at hb
    injection hb with hb
    injection hb with _ hb _
    exact hT hb.symm
theorem own_cell {w : World} {base n g cap : Nat} {l : List Int} (h : w.ownsRow base 3 1 (.slice (some ⟨g, 0, none⟩) n cap) n (IntL.all l)) (hn : l.length = n) (k : Nat) (hk : k < l.length) : w.cell? ⟨g, k, none⟩ = some (.int .i64 l[k]) ∧ w.frozen? ⟨g, k, none⟩ = false := by
  refine ⟨?_, h.frozenAt k⟩
  rw [h.cellAt k (by omega), IntL.all_map, List.getElem?_map, List.getElem?_eq_getElem hk]
  rfl
theorem own_cell2 {w : World} {base n n' g cap : Nat} {l : List Int} (h : w.ownsRow base 3 1 (.slice (some ⟨g, 0, none⟩) n' cap) n (IntL.all l)) (k : Nat) (hk : k < l.length) : w.cell? ⟨g, k, none⟩ = some (.int .i64 l[k]) ∧ w.frozen? ⟨g, k, none⟩ = false := by
  have hl := h.1
  rw [IntL.all_len, Nat.mul_one] at hl
  have e : n' = n := by
    rcases h.2 with ⟨h1, _⟩ | ⟨g, c, _, h1, _⟩
    · cases h1
    · cases h1; rfl
  subst e
  exact own_cell h hl k hk
theorem own_set {w : World} {base n g cap : Nat} {l : List Int} (h : w.ownsRow base 3 1 (.slice (some ⟨g, 0, none⟩) n cap) n (IntL.all l)) (k : Nat) (v : Int) : (w.setCell ⟨g, k, none⟩ (.int .i64 v)).ownsRow base 3 1 (.slice (some ⟨g, 0, none⟩) n cap) n (IntL.all (l.set k v)) := by
  have := (h.stored k (.int .i64 v)).1
  rw [IntL.all_map] at this ⊢
  rw [List.map_set]
  exact this
theorem own_len {w : World} {base n m : Nat} {v : Value} {a : Option Addr} {cap : Nat} {xs : List Value} (hv : v = .slice a n cap) (h : w.ownsRow base 3 1 v m xs) : n = m := by
  rcases h.2 with ⟨rfl, h0⟩ | ⟨g, c, _, rfl, _⟩
  · cases hv; exact h0.symm
  · cases hv; rfl
theorem nodup4 {a b c d : List Nat} (h : (a ++ b ++ c ++ d).Nodup) : (∀ g ∈ a, g ∉ b ∧ g ∉ c ∧ g ∉ d) ∧ (∀ g ∈ b, g ∉ c ∧ g ∉ d) ∧ (∀ g ∈ c, g ∉ d) := by
  rw [List.nodup_append, List.nodup_append, List.nodup_append] at h
  obtain ⟨⟨⟨h1, h2, h3⟩, h4, h5⟩, h6, h7⟩ := h
  refine ⟨fun g hg => ⟨fun hb => h3 g hg g hb rfl, fun hc => h5 g (by simp [hg]) g hc rfl, fun hd => h7 g (by simp [hg]) g hd rfl⟩, fun g hg => ⟨fun hc => h5 g (by simp [hg]) g hc rfl, fun hd => h7 g (by simp [hg]) g hd rfl⟩, fun g hg hd => h7 g (by simp [hg]) g hd rfl⟩
namespace StO
variable {w w' : World} {base : Nat} {x x' : StR} {r m s o : Value}
/-- a box of another type is none of the rows -/
theorem off (h : StO w base x r m s o) {b : Nat} {cs : Array Value} {T : TypeId} {fr : Nat × Nat} (hT : T ≠ 3) (hb : w.heap[b]? = some (.cells cs T fr)) : b ∉ StB r m s o := fun hm => by
  unfold StB at hm
  simp only [List.mem_append] at hm
  rcases hm with ((hm | hm) | hm) | hm
  · exact own_off hT h.1 hb hm
  · exact own_off hT h.2.1 hb hm
  · exact own_off hT h.2.2.1 hb hm
  · exact own_off hT h.2.2.2.1 hb hm
/-- a store into another block -/
theorem aside (h : StO w base x r m s o) {b : Nat} (hb : b ∉ StB r m s o) (k : Nat) (u : Value) : StO (w.setCell ⟨b, k, none⟩ u) base x r m s o :=
  h.same fun g hg => heap_setCell_other w ⟨b, k, none⟩ g u (fun e => hb (by have e : g = b := e; rw [← e]; exact hg))
theorem like (h : StO w base x r m s o) (hR : x'.R = x.R) (hM : x'.M = x.M) (hS : x'.S = x.S) (hO : x'.O = x.O) : StO w base x' r m s o := by
  obtain ⟨p1, R, M, S, p2, O, p3, p4⟩ := x
  obtain ⟨q1, R', M', S', q2, O', q3, q4⟩ := x'
  simp only at hR hM hS hO
  subst hR hM hS hO
  exact h
theorem poke_r {g n c : Nat} (h : StO w base x (.slice (some ⟨g, 0, none⟩) n c) m s o) (k : Nat) (v : Int) (hR : x'.R = x.R.set k v) (hM : x'.M = x.M) (hS : x'.S = x.S) (hO : x'.O = x.O) : StO (w.setCell ⟨g, k, none⟩ (.int .i64 v)) base x' (.slice (some ⟨g, 0, none⟩) n c) m s o := by
  obtain ⟨h1, h2, h3, h4, h5⟩ := h
  obtain rfl := own_len rfl h1
  have hd := nodup4 h5
  have hg := (hd.1 g (by simp [Value.ownBlock]))
  have ho : ∀ k' : Nat, k' ≠ g → (w.setCell ⟨g, k, none⟩ (.int .i64 v)).heap[k']? = w.heap[k']? := fun k' hk => heap_setCell_other w ⟨g, k, none⟩ k' _ hk
  refine ⟨?_, ?_, ?_, ?_, h5⟩
  · rw [hR, List.length_set]; exact own_set h1 k v
  · rw [hM]; exact own_same h2 (fun q hq => ho q (fun e => hg.1 (by rw [← e]; exact hq)))
  · rw [hS]; exact own_same h3 (fun q hq => ho q (fun e => hg.2.1 (by rw [← e]; exact hq)))
  · rw [hO]; exact own_same h4 (fun q hq => ho q (fun e => hg.2.2 (by rw [← e]; exact hq)))
theorem poke_m {g n c : Nat} (h : StO w base x r (.slice (some ⟨g, 0, none⟩) n c) s o) (k : Nat) (v : Int) (hR : x'.R = x.R) (hM : x'.M = x.M.set k v) (hS : x'.S = x.S) (hO : x'.O = x.O) : StO (w.setCell ⟨g, k, none⟩ (.int .i64 v)) base x' r (.slice (some ⟨g, 0, none⟩) n c) s o := by
  obtain ⟨h1, h2, h3, h4, h5⟩ := h
  obtain rfl := own_len rfl h2
  have hd := nodup4 h5
  have hg := (hd.2.1 g (by simp [Value.ownBlock]))
  have ho : ∀ k' : Nat, k' ≠ g → (w.setCell ⟨g, k, none⟩ (.int .i64 v)).heap[k']? = w.heap[k']? := fun k' hk => heap_setCell_other w ⟨g, k, none⟩ k' _ hk
  refine ⟨?_, ?_, ?_, ?_, h5⟩
  · rw [hR]; exact own_same h1 (fun q hq => ho q (fun e => (hd.1 q hq).1 (by rw [e]; simp [Value.ownBlock])))
  · rw [hM, List.length_set]; exact own_set h2 k v
  · rw [hS]; exact own_same h3 (fun q hq => ho q (fun e => hg.1 (by rw [← e]; exact hq)))
  · rw [hO]; exact own_same h4 (fun q hq => ho q (fun e => hg.2 (by rw [← e]; exact hq)))
theorem grow_o {o' : Value} (h : StO w base x r m s o) (hg : w.grownBy w' o.ownBlock) (ho : w'.ownsRow base 3 1 o' x'.O.length (IntL.all x'.O)) (hat : o'.ownBlock = o.ownBlock ∨ o'.ownBlock = some w.heap.size) (hR : x'.R = x.R) (hM : x'.M = x.M) (hS : x'.S = x.S) : StO w' base x' r m s o' := by
  have hlt := fun {g : Nat} (hg : g ∈ StB r m s o) => h.lt hg
  obtain ⟨h1, h2, h3, h4, h5⟩ := h
  have hd := nodup4 h5
  have hk : ∀ q, q ∈ r.ownBlock.toList ++ m.ownBlock.toList ++ s.ownBlock.toList → w'.heap[q]? = w.heap[q]? := fun q hq => by
    refine hg.block q (hlt (by unfold StB; exact List.mem_append_left _ hq)).2 (fun e => ?_)
    have hm : q ∈ o.ownBlock.toList := by rw [← e]; simp
    simp only [List.mem_append] at hq
    rcases hq with (hq | hq) | hq
    · exact (hd.1 q hq).2.2 hm
    · exact (hd.2.1 q hq).2 hm
    · exact hd.2.2 q hq hm
  refine ⟨by rw [hR]; exact own_same h1 (fun q hq => hk q (by simp [hq])), by rw [hM]; exact own_same h2 (fun q hq => hk q (by simp [hq])), by rw [hS]; exact own_same h3 (fun q hq => hk q (by simp [hq])), ho, ?_⟩
  rcases hat with e | e
  · rw [e]; exact h5
  · rw [e, List.nodup_append]
    rw [List.nodup_append] at h5
    refine ⟨h5.1, by simp, fun q hq y hy => ?_⟩
    have := (hlt (g := q) (by unfold StB; exact List.mem_append_left _ hq)).2
    simp at hy
    omega
theorem grow_s {s' : Value} (h : StO w base x r m s o) (hg : w.grownBy w' s.ownBlock) (ho : w'.ownsRow base 3 1 s' x'.S.length (IntL.all x'.S)) (hat : s'.ownBlock = s.ownBlock ∨ s'.ownBlock = some w.heap.size) (hR : x'.R = x.R) (hM : x'.M = x.M) (hO : x'.O = x.O) : StO w' base x' r m s' o := by
  have hlt := fun {g : Nat} (hg : g ∈ StB r m s o) => h.lt hg
  obtain ⟨h1, h2, h3, h4, h5⟩ := h
  have hd := nodup4 h5
  have hk : ∀ q, q ∈ r.ownBlock.toList ++ m.ownBlock.toList ++ o.ownBlock.toList → w'.heap[q]? = w.heap[q]? := fun q hq => by
    refine hg.block q (hlt (by unfold StB; simp only [List.mem_append] at hq ⊢; rcases hq with (hq | hq) | hq <;> simp [hq])).2 (fun e => ?_)
    have hm : q ∈ s.ownBlock.toList := by rw [← e]; simp
    simp only [List.mem_append] at hq
    rcases hq with (hq | hq) | hq
    · exact (hd.1 q hq).2.1 hm
    · exact (hd.2.1 q hq).1 hm
    · exact hd.2.2 q hm hq
  refine ⟨by rw [hR]; exact own_same h1 (fun q hq => hk q (by simp [hq])), by rw [hM]; exact own_same h2 (fun q hq => hk q (by simp [hq])), ho, by rw [hO]; exact own_same h4 (fun q hq => hk q (by simp [hq])), ?_⟩
  rcases hat with e | e
  · rw [e]; exact h5
  · rw [e]
    rw [List.nodup_append, List.nodup_append] at h5 ⊢
    obtain ⟨⟨h6, h7, h8⟩, h9, h10⟩ := h5
    refine ⟨⟨h6, by simp, fun q hq y hy => ?_⟩, h9, fun q hq y hy => ?_⟩
    · have := (hlt (g := q) (by unfold StB; simp only [List.mem_append] at hq ⊢; rcases hq with hq | hq <;> simp [hq])).2
      simp at hy
      omega
    · rcases List.mem_append.1 hq with hq | hq
      · exact h10 q (List.mem_append_left _ hq) y hy
      · have := (hlt (g := y) (by unfold StB; simp [hy])).2
        simp at hq
        omega
theorem cut_s {g n c k : Nat} (h : StO w base x r m (.slice (some ⟨g, 0, none⟩) n c) o) (hk : k ≤ n) (hR : x'.R = x.R) (hM : x'.M = x.M) (hS : x'.S = x.S.take k) (hO : x'.O = x.O) : StO w base x' r m (.slice (some ⟨g, 0, none⟩) k c) o := by
  obtain ⟨h1, h2, h3, h4, h5⟩ := h
  obtain rfl := own_len rfl h3
  refine ⟨by rw [hR]; exact h1, by rw [hM]; exact h2, ?_, by rw [hO]; exact h4, h5⟩
  have hl : (x.S.take k).length = k := by rw [List.length_take]; omega
  have := own_cut h3 k hk
  rw [hS, hl]
  rw [IntL.all_map] at this ⊢
  rw [List.map_take]
  simpa using this
end StO
theorem Apart.above {bs : List Nat} {a w : World} (h : Apart bs a w) {p : Addr} (hp : a.heap.size ≤ p.block) (u : Value) : Apart bs a (w.setCell p u) :=
  ⟨h.os, h.tape, h.output, by simpa using h.size, fun i hi hn => (heap_setCell_other w p i u (fun e => by rw [e] at hi; omega)).trans (h.block i hi hn)⟩
theorem Apart.grown {bs : List Nat} {a w w' : World} {row : Option Nat} (h : Apart bs a w) (hg : w.grownBy w' row) (hr : ∀ k, row = some k → k ∈ bs ∨ a.heap.size ≤ k) : Apart bs a w' :=
  ⟨hg.os.trans h.os, hg.tape.trans h.tape, hg.output.trans h.output, Nat.le_trans h.size hg.size, fun i hi hn => (hg.block i (Nat.lt_of_lt_of_le hi h.size) (fun e => (hr i e.symm).elim hn (fun h => by omega))).trans (h.block i hi hn)⟩
theorem set8_apart {bs : List Nat} {a w : World} {b : Nat} (h : Apart bs a w) (hb : a.heap.size ≤ b) (v0 v1 v2 v3 v4 v5 v6 v7 : Value) : Apart bs a ((((((((w.setCell ⟨b, 0, none⟩ v0).setCell ⟨b, 1, none⟩ v1).setCell ⟨b, 2, none⟩ v2).setCell ⟨b, 3, none⟩ v3).setCell ⟨b, 4, none⟩ v4).setCell ⟨b, 5, none⟩ v5).setCell ⟨b, 6, none⟩ v6).setCell ⟨b, 7, none⟩ v7) :=
  (Apart.above (Apart.above (Apart.above (Apart.above (Apart.above (Apart.above (Apart.above (Apart.above h (p := ⟨b, 0, none⟩) hb v0) (p := ⟨b, 1, none⟩) hb v1) (p := ⟨b, 2, none⟩) hb v2) (p := ⟨b, 3, none⟩) hb v3) (p := ⟨b, 4, none⟩) hb v4) (p := ⟨b, 5, none⟩) hb v5) (p := ⟨b, 6, none⟩) hb v6) (p := ⟨b, 7, none⟩) hb v7)
theorem sub_o {r m s o o' : Value} {n : Nat} (h : ∀ g ∈ o'.ownBlock.toList, g ∈ o.ownBlock.toList ∨ n ≤ g) : ∀ g ∈ StB r m s o', g ∈ StB r m s o ∨ n ≤ g := fun g hg => by
  unfold StB at hg ⊢
  rcases List.mem_append.1 hg with h1 | h1
  · exact .inl (List.mem_append_left _ h1)
  · exact (h g h1).imp (List.mem_append_right _) id
theorem sub_s {r m s o s' : Value} {n : Nat} (h : ∀ g ∈ s'.ownBlock.toList, g ∈ s.ownBlock.toList ∨ n ≤ g) : ∀ g ∈ StB r m s' o, g ∈ StB r m s o ∨ n ≤ g := fun g hg => by
  unfold StB at hg ⊢
  rcases List.mem_append.1 hg with h1 | h1
  · rcases List.mem_append.1 h1 with h2 | h2
    · exact .inl (List.mem_append_left _ (List.mem_append_left _ h2))
    · exact (h g h2).imp (fun h => List.mem_append_left _ (List.mem_append_right _ h)) id
  · exact .inl (List.mem_append_right _ h1)
/-- what a step of a state that is owned leaves: only its rows are touched -/
def SqEnd (r m s o : Value) (base : Nat) (x : StR) (w : World) (e : Ending) (w' : World) : Prop := ∃ r' m' s' o', e = .returned (.agg #[.int .i64 x.pc, r', m', s', .int .i64 x.inn, o', .int .i64 x.cd, .int .i64 x.st]) ∧ StO w' base x r' m' s' o' ∧ Apart (StB r m s o) w w' ∧ ∀ g ∈ StB r' m' s' o', g ∈ StB r m s o ∨ w.heap.size ≤ g
/-- what a step of a state that is owned leaves -/
def SpEnd (base : Nat) (x : StR) (w : World) (e : Ending) (w' : World) : Prop := Below base w w' ∧ ∃ r m s o, e = .returned (.agg #[.int .i64 x.pc, r, m, s, .int .i64 x.inn, o, .int .i64 x.cd, .int .i64 x.st]) ∧ StO w' base x r m s o
theorem SpEnd.st {x : StR} {w w' : World} {e : Ending} (h : SpEnd w.heap.size x w e w') : StEnd x w e w' := by
  obtain ⟨hb, r, m, s, o, rfl, ho⟩ := h
  obtain ⟨q1, c1, rfl⟩ := own_slice ho.1
  obtain ⟨q2, c2, rfl⟩ := own_slice ho.2.1
  obtain ⟨q3, c3, rfl⟩ := own_slice ho.2.2.1
  obtain ⟨q4, c4, rfl⟩ := own_slice ho.2.2.2.1
  exact ⟨hb, q1, c1, q2, c2, q3, c3, q4, c4, rfl, ho⟩
theorem set8_heap (w : World) (b k : Nat) (hk : k ≠ b) (v0 v1 v2 v3 v4 v5 v6 v7 : Value) : ((((((((w.setCell ⟨b, 0, none⟩ v0).setCell ⟨b, 1, none⟩ v1).setCell ⟨b, 2, none⟩ v2).setCell ⟨b, 3, none⟩ v3).setCell ⟨b, 4, none⟩ v4).setCell ⟨b, 5, none⟩ v5).setCell ⟨b, 6, none⟩ v6).setCell ⟨b, 7, none⟩ v7).heap[k]? = w.heap[k]? := by
  rw [heap_setCell_other _ _ _ _ hk, heap_setCell_other _ _ _ _ hk, heap_setCell_other _ _ _ _ hk, heap_setCell_other _ _ _ _ hk, heap_setCell_other _ _ _ _ hk, heap_setCell_other _ _ _ _ hk, heap_setCell_other _ _ _ _ hk, heap_setCell_other _ _ _ _ hk]
theorem StO.set8 {w : World} {base b : Nat} {x : StR} {r m s o : Value} (h : StO w base x r m s o) (hb : b ∉ StB r m s o) (v0 v1 v2 v3 v4 v5 v6 v7 : Value) : StO ((((((((w.setCell ⟨b, 0, none⟩ v0).setCell ⟨b, 1, none⟩ v1).setCell ⟨b, 2, none⟩ v2).setCell ⟨b, 3, none⟩ v3).setCell ⟨b, 4, none⟩ v4).setCell ⟨b, 5, none⟩ v5).setCell ⟨b, 6, none⟩ v6).setCell ⟨b, 7, none⟩ v7) base x r m s o :=
  h.same fun g hg => set8_heap w b g (fun e => hb (by rw [← e]; exact hg)) _ _ _ _ _ _ _ _
end Go.Proofs.YthmababifgaejaaGreatDoor
namespace Go.Proofs.YthmababifgaejaaGreatDoor
open Go.ChangeShapes Go.WideShapes Go.ChangeAt Go.RowKit
/-- there is a state -/
noncomputable def epB (vw vm vi : Int) (L : List InsR) (x : PaR) (l : List Int) : Bool := hpB vw vm vi L x l && ((x.R.evs (inV vw l)).isSome && ((x.M.evs (inV vw l)).isSome && (x.O.evs (inV vw l)).isSome))
/-- the state that a path has -/
def epT (vw : Int) (x : PaR) (l : List Int) : StR := ⟨x.pc, (x.R.evs (inV vw l)).getD [], (x.M.evs (inV vw l)).getD [], x.S, x.inn, (x.O.evs (inV vw l)).getD [], x.cd, x.st⟩
noncomputable def epV (vw vm vi : Int) (L : List InsR) (x : PaR) (l : List Int) : StR := if epB vw vm vi L x l = true then epT vw x l else zeroSt
/-- a state that owns its memory, and whether there is one -/
def EpEnd (y : StR) (b : Bool) (w : World) (e : Ending) (w' : World) : Prop := Below w.heap.size w w' ∧ ∃ rq rc mq mc sq sc oq oc, e = .returned (.tuple #[.agg #[.int .i64 y.pc, .slice rq y.R.length rc, .slice mq y.M.length mc, .slice sq y.S.length sc, .int .i64 y.inn, .slice oq y.O.length oc, .int .i64 y.cd, .int .i64 y.st], .bool b]) ∧ StO w' w.heap.size y (.slice rq y.R.length rc) (.slice mq y.M.length mc) (.slice sq y.S.length sc) (.slice oq y.O.length oc)
theorem ep_zero {w w' : World} (hb : Below w.heap.size w w') : EpEnd zeroSt false w (.returned (.tuple #[.agg #[.int .i64 0, .slice none 0 0, .slice none 0 0, .slice none 0 0, .int .i64 0, .slice none 0 0, .int .i64 0, .int .i64 0], .bool false])) w' := by
  exact ⟨hb, none, 0, none, 0, none, 0, none, 0, rfl, World.ownsRow_nil _ _ _ _, World.ownsRow_nil _ _ _ _, World.ownsRow_nil _ _ _ _, World.ownsRow_nil _ _ _ _, by simp [Value.ownBlock]⟩
theorem one_nodup (v : Value) : v.ownBlock.toList.Nodup := by
  cases v.ownBlock <;> simp
theorem nodup_ev {a b c d : Value} {n1 n2 n3 : Nat} (h12 : n1 ≤ n2) (h23 : n2 ≤ n3) (ha : ∀ g ∈ a.ownBlock.toList, g < n1) (hb : ∀ g ∈ b.ownBlock.toList, n1 ≤ g ∧ g < n2) (hc : ∀ g ∈ c.ownBlock.toList, n3 ≤ g) (hd : ∀ g ∈ d.ownBlock.toList, n2 ≤ g ∧ g < n3) : (StB a b c d).Nodup := by
  unfold StB
  rw [List.nodup_append, List.nodup_append, List.nodup_append]
  refine ⟨⟨⟨one_nodup a, one_nodup b, fun x hx y hy => ?_⟩, one_nodup c, fun x hx y hy => ?_⟩, one_nodup d, fun x hx y hy => ?_⟩
  · have := ha x hx; have := hb y hy; omega
  · have := hc y hy
    rcases List.mem_append.1 hx with h | h
    · have := ha x h; omega
    · have := hb x h; omega
  · have := hd y hy
    rcases List.mem_append.1 hx with h | h
    · rcases List.mem_append.1 h with h | h
      · have := ha x h; omega
      · have := hb x h; omega
    · have := hc x h; omega
theorem all_cell (L : List Int) : ∀ u ∈ IntL.all L, u.oneCell' = true := fun u hu => by
  rw [IntL.all_map] at hu
  obtain ⟨x, _, rfl⟩ := List.mem_map.1 hu
  rfl
end Go.Proofs.YthmababifgaejaaGreatDoor
namespace Go.Proofs.YthmababifgaejaaGreatDoor
open Go.ChangeShapes Go.WideShapes Go.ChangeAt Go.RowKit
def itB (n : Int) : ByteArray := ⟨(Lib.itoa n).toArray⟩
/-- an operand behind a text -/
def wrV (o : Int) (s : ByteArray) (n : Int) : ByteArray := if o = 1 then s ++ ⟨#[32, 114]⟩ ++ itB n else if o = 2 ∨ o = 3 then s ++ ⟨#[32]⟩ ++ itB n else s
end Go.Proofs.YthmababifgaejaaGreatDoor
