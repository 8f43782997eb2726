/- What MakeClause makes of a list of numbers: found one by one, or by sorting. No condition. -/
import Derived.Test.YtkoeegeplginkaaClM
import Derived.Lib.SlicesCompact
namespace Go.Proofs.Ytkoeegeplginkaa
open Go.ChangeShapes Go.WideShapes Go.RowKit
theorem iabs_or (x : Int) : (x < 0 ∧ iabs x = -x) ∨ (0 ≤ x ∧ iabs x = x) := by unfold iabs; split <;> omega
/-- one literal is ahead of another: by their variables, then by themselves -/
def lexB (x y : Int) : Bool := decide (iabs x < iabs y) || (decide (iabs x = iabs y) && decide (x < y))
theorem lexB_iff {x y : Int} : lexB x y = true ↔ iabs x < iabs y ∨ (iabs x = iabs y ∧ x < y) := by simp [lexB]
theorem lexB_not {x y : Int} : lexB x y = false ↔ iabs y < iabs x ∨ (iabs x = iabs y ∧ y ≤ x) := by
  rw [← Bool.not_eq_true, lexB_iff]; omega
theorem lexB_trans {x y z : Int} (h1 : lexB x y = true) (h2 : lexB y z = true) : lexB x z = true := by
  rw [lexB_iff] at *; omega
theorem comp_mem (d : Array Int) (hs : ∀ i j, i < j → j < d.size → lexB d[j]! d[i]! = false) : ∀ m, m ≤ d.size →
    (Lib.compactUpTo d m).Pairwise (fun x y => lexB x y = true) ∧ ∀ x, x ∈ Lib.compactUpTo d m ↔ ∃ j, j < m ∧ d[j]! = x
  | 0, _ => by
    have h0 : Lib.compactUpTo d 0 = [] := rfl
    rw [h0]
    exact ⟨List.Pairwise.nil, fun x => ⟨fun h => by simp at h, fun ⟨j, hj, _⟩ => absurd hj (Nat.not_lt_zero _)⟩⟩
  | m + 1, hm => by
    obtain ⟨ih1, ih2⟩ := comp_mem d hs m (by omega)
    rw [Lib.compactUpTo_succ]
    by_cases hk : Lib.keeps d m = true
    · rw [if_pos hk]
      have hk' : m = 0 ∨ d[m]! ≠ d[m - 1]! := by unfold Lib.keeps at hk; simpa using hk
      refine ⟨?_, fun x => ?_⟩
      · rw [List.pairwise_append]
        refine ⟨ih1, List.pairwise_singleton _ _, fun x hx y hy => ?_⟩
        rw [List.mem_singleton] at hy
        subst hy
        obtain ⟨j, hj, rfl⟩ := (ih2 x).1 hx
        rcases hk' with h | h
        · omega
        · have h2 := hs (m - 1) m (by omega) (by omega)
          by_cases hjm : j = m - 1
          · subst hjm
            rw [lexB_iff]; rw [lexB_not] at h2
            have e1 := iabs_or d[m]!
            have e2 := iabs_or d[m - 1]!
            omega
          · have h1 := hs j (m - 1) (by omega) (by omega)
            rw [lexB_iff]; rw [lexB_not] at h1 h2
            have e1 := iabs_or d[m]!
            have e2 := iabs_or d[m - 1]!
            have e3 := iabs_or d[j]!
            omega
      · rw [List.mem_append, ih2, List.mem_singleton]
        constructor
        · rintro (⟨j, hj, rfl⟩ | rfl)
          · exact ⟨j, by omega, rfl⟩
          · exact ⟨m, by omega, rfl⟩
        · rintro ⟨j, hj, rfl⟩
          by_cases h : j = m
          · subst h; exact .inr rfl
          · exact .inl ⟨j, by omega, rfl⟩
    · rw [if_neg hk, List.append_nil]
      have hk' : ¬ (m = 0 ∨ d[m]! ≠ d[m - 1]!) := by unfold Lib.keeps at hk; simpa using hk
      refine ⟨ih1, fun x => (ih2 x).trans ⟨?_, ?_⟩⟩
      · rintro ⟨j, hj, rfl⟩; exact ⟨j, by omega, rfl⟩
      · rintro ⟨j, hj, rfl⟩
        by_cases h : j = m
        · subst h
          exact ⟨j - 1, by omega, by
            have : d[j]! = d[j - 1]! := by
              refine Classical.byContradiction fun hn => hk' (.inr hn)
            exact this.symm⟩
        · exact ⟨j, by omega, rfl⟩
theorem asc_iff : ∀ (l : List Int) (a : Int), ascB a l = true ↔ (∀ x ∈ l, a < iabs x) ∧ l.Pairwise (fun x y => iabs x < iabs y)
  | [], a => by simp [ascB]
  | x :: l, a => by
    have ih := asc_iff l (iabs x)
    show (decide (a < iabs x) && ascB (iabs x) l) = true ↔ _
    rw [Bool.and_eq_true, ih, decide_eq_true_eq, List.pairwise_cons]
    constructor
    · rintro ⟨h1, h2, h3⟩
      refine ⟨fun y hy => ?_, h2, h3⟩
      rcases List.mem_cons.1 hy with rfl | hy
      · exact h1
      · have := h2 y hy; omega
    · rintro ⟨h1, h2, h3⟩
      exact ⟨h1 x (List.mem_cons_self ..), h2, h3⟩
theorem asc_uniq : ∀ (l m : List Int), l.Pairwise (fun x y => iabs x < iabs y) → m.Pairwise (fun x y => iabs x < iabs y) → (∀ x, x ∈ l ↔ x ∈ m) → l = m
  | [], [], _, _, _ => rfl
  | [], y :: m, _, _, h => by have := (h y).2 (List.mem_cons_self ..); simp at this
  | x :: l, [], _, _, h => by have := (h x).1 (List.mem_cons_self ..); simp at this
  | x :: l, y :: m, h1, h2, h => by
    obtain ⟨a1, a2⟩ := List.pairwise_cons.1 h1
    obtain ⟨b1, b2⟩ := List.pairwise_cons.1 h2
    have e : x = y := by
      rcases List.mem_cons.1 ((h x).1 (List.mem_cons_self ..)) with e | hx
      · exact e
      · rcases List.mem_cons.1 ((h y).2 (List.mem_cons_self ..)) with e | hy
        · exact e.symm
        · have := a1 y hy; have := b1 x hx; omega
    subst e
    rw [asc_uniq l m a2 b2 fun z => ?_]
    constructor
    · intro hz
      rcases List.mem_cons.1 ((h z).1 (List.mem_cons_of_mem _ hz)) with e | hz'
      · subst e; have := a1 z hz; omega
      · exact hz'
    · intro hz
      rcases List.mem_cons.1 ((h z).2 (List.mem_cons_of_mem _ hz)) with e | hz'
      · subst e; have := b1 z hz; omega
      · exact hz'
/-- where a literal belongs -/
def atOf (x : Int) : List Int → Nat
  | [] => 0
  | y :: l => if iabs y < iabs x then atOf x l + 1 else 0
theorem atOf_le (x : Int) : ∀ l, atOf x l ≤ l.length
  | [] => Nat.le_refl _
  | y :: l => by unfold atOf; split <;> simp [atOf_le x l]
theorem atOf_lt (x : Int) : ∀ (l : List Int) (j : Nat) (h : j < l.length), j < atOf x l → iabs l[j] < iabs x
  | [], j, h, _ => absurd h (Nat.not_lt_zero _)
  | y :: l, 0, _, h2 => by unfold atOf at h2; split at h2 <;> first | assumption | omega
  | y :: l, j + 1, h, h2 => by
    unfold atOf at h2
    split at h2
    · exact atOf_lt x l j (by simpa using h) (by omega)
    · omega
theorem atOf_ge (x : Int) : ∀ (l : List Int) (h : atOf x l < l.length), ¬ iabs l[atOf x l] < iabs x
  | [], h => absurd h (Nat.not_lt_zero _)
  | y :: l, h => by
    by_cases hc : iabs y < iabs x
    · have e : atOf x (y :: l) = atOf x l + 1 := by conv => lhs; unfold atOf; rw [if_pos hc]
      have h' : atOf x l < l.length := by rw [e] at h; simpa using h
      have := atOf_ge x l h'
      simp only [e, List.getElem_cons_succ]
      exact this
    · have e : atOf x (y :: l) = 0 := by conv => lhs; unfold atOf; rw [if_neg hc]
      simp only [e, List.getElem_cons_zero]
      exact hc
/-- what comes of a list of literals and one more -/
def insC (out : List Int) (x : Int) : Option (List Int) :=
  if out[atOf x out]? = some x then some out else if out[atOf x out]? = some (-x) then none else some (out.take (atOf x out) ++ x :: out.drop (atOf x out))
def mkFold : List Int → List Int → Option (List Int)
  | out, [] => some out
  | out, x :: l => if litB 400 x = true then (match insC out x with | none => none | some o => mkFold o l) else none
theorem insC_some {out o : List Int} {x : Int} (hp : out.Pairwise (fun x y => iabs x < iabs y)) (h : insC out x = some o) :
    o.Pairwise (fun x y => iabs x < iabs y) ∧ ∀ z, z ∈ o ↔ z ∈ out ∨ z = x := by
  unfold insC at h
  split at h
  · rename_i h1
    cases h
    refine ⟨hp, fun z => ⟨.inl, ?_⟩⟩
    rintro (h | rfl)
    · exact h
    · exact List.mem_of_getElem? h1
  · split at h
    · cases h
    · rename_i h1 h2
      cases h
      have hle := atOf_le x out
      have hlt := atOf_lt x out
      have hge := atOf_ge x out
      generalize atOf x out = a at *
      refine ⟨?_, fun z => ?_⟩
      · have hp' := hp
        rw [← List.take_append_drop a out, List.pairwise_append] at hp'
        obtain ⟨p1, p2, p3⟩ := hp'
        rw [List.pairwise_append, List.pairwise_cons]
        have ht : ∀ y ∈ out.take a, iabs y < iabs x := by
          intro y hy
          obtain ⟨j, hj, rfl⟩ := List.getElem_of_mem hy
          rw [List.getElem_take]
          have hj' : j < a ∧ j < out.length := by rw [List.length_take] at hj; omega
          exact hlt j hj'.2 hj'.1
        have hd : ∀ y ∈ out.drop a, iabs x < iabs y := by
          by_cases ha : a < out.length
          · have e := List.drop_eq_getElem_cons ha
            have g1 : out[a] ≠ x := fun hh => h1 (by rw [List.getElem?_eq_getElem ha, hh])
            have g2 : out[a] ≠ -x := fun hh => h2 (by rw [List.getElem?_eq_getElem ha, hh])
            have g3 := hge ha
            have g4 : iabs x < iabs out[a] := by
              have e1 := iabs_or out[a]
              have e2 := iabs_or x
              omega
            rw [e] at p2 ⊢
            obtain ⟨q1, q2⟩ := List.pairwise_cons.1 p2
            intro y hy
            rcases List.mem_cons.1 hy with rfl | hy
            · exact g4
            · have := q1 y hy; omega
          · rw [List.drop_eq_nil_of_le (by omega)]
            intro y hy; simp at hy
        refine ⟨p1, ⟨hd, p2⟩, fun u hu v hv => ?_⟩
        rcases List.mem_cons.1 hv with rfl | hv
        · exact ht u hu
        · exact p3 u hu v hv
      · have : z ∈ out ↔ z ∈ out.take a ∨ z ∈ out.drop a := by rw [← List.mem_append, List.take_append_drop]
        rw [this, List.mem_append, List.mem_cons]
        constructor
        · rintro (h | rfl | h)
          · exact .inl (.inl h)
          · exact .inr rfl
          · exact .inl (.inr h)
        · rintro ((h | h) | rfl)
          · exact .inl h
          · exact .inr (.inr h)
          · exact .inr (.inl rfl)
theorem insC_none {out : List Int} {x : Int} (h : insC out x = none) : -x ∈ out := by
  unfold insC at h
  split at h
  · cases h
  · split at h
    · rename_i h1 h2; exact List.mem_of_getElem? h2
    · cases h
theorem mkFold_some : ∀ (l out o : List Int), out.Pairwise (fun x y => iabs x < iabs y) → mkFold out l = some o → o.Pairwise (fun x y => iabs x < iabs y) ∧ (∀ z, z ∈ o ↔ z ∈ out ∨ z ∈ l) ∧ litsB 400 l = true
  | [], out, o, hp, h => by cases h; exact ⟨hp, fun z => by simp, rfl⟩
  | x :: l, out, o, hp, h => by
    unfold mkFold at h
    split at h
    · rename_i hx
      split at h
      · cases h
      · rename_i o1 h1
        obtain ⟨q1, q2⟩ := insC_some hp h1
        obtain ⟨r1, r2, r3⟩ := mkFold_some l o1 o q1 h
        refine ⟨r1, fun z => ?_, ?_⟩
        · rw [r2, q2, List.mem_cons, or_assoc]
        · unfold litsB at r3 ⊢; rw [List.all_cons, hx, r3]; rfl
    · cases h
theorem mkFold_none : ∀ (l out : List Int), out.Pairwise (fun x y => iabs x < iabs y) → mkFold out l = none → litsB 400 l = false ∨ ∃ x, x ∈ l ∧ litB 400 x = true ∧ (-x ∈ out ∨ -x ∈ l)
  | [], out, hp, h => by cases h
  | x :: l, out, hp, h => by
    unfold mkFold at h
    split at h
    · rename_i hx
      split at h
      · rename_i h1
        exact .inr ⟨x, List.mem_cons_self .., hx, .inl (insC_none h1)⟩
      · rename_i o1 h1
        obtain ⟨q1, q2⟩ := insC_some hp h1
        rcases mkFold_none l o1 q1 h with h | ⟨y, hy, hl, hn⟩
        · exact .inl (by unfold litsB at h ⊢; rw [List.all_cons, h, Bool.and_false])
        · refine .inr ⟨y, List.mem_cons_of_mem _ hy, hl, ?_⟩
          rcases hn with hn | hn
          · rcases (q2 _).1 hn with h | h
            · exact .inl h
            · exact .inr (by rw [h]; exact List.mem_cons_self ..)
          · exact .inr (List.mem_cons_of_mem _ hn)
    · rename_i hx
      exact .inl (by unfold litsB; rw [List.all_cons]; simp at hx; simp [hx])
theorem insC_len {out o : List Int} {x : Int} (h : insC out x = some o) : o.length ≤ out.length + 1 := by
  unfold insC at h
  split at h
  · cases h; omega
  · split at h
    · cases h
    · cases h
      have := atOf_le x out
      simp only [List.length_append, List.length_take, List.length_cons, List.length_drop]; omega
theorem mkFold_len : ∀ (l out o : List Int), mkFold out l = some o → o.length ≤ out.length + l.length
  | [], out, o, h => by cases h; simp
  | x :: l, out, o, h => by
    unfold mkFold at h
    split at h
    · split at h
      · cases h
      · rename_i o1 h1
        have := insC_len h1
        have := mkFold_len l o1 o h
        simp only [List.length_cons]; omega
    · cases h
theorem litsB_mem {n : Int} {l : List Int} (h : litsB n l = true) {x : Int} (hx : x ∈ l) : x ≠ 0 ∧ -n ≤ x ∧ x ≤ n := by
  have := List.all_eq_true.1 h x hx
  unfold litB at this
  simpa using this
theorem iabs_neg (x : Int) : iabs (-x) = iabs x := by unfold iabs; split <;> split <;> omega
/-- what MakeClause makes of a list of numbers -/
def mcV (l : List Int) : Option (List Int) := mkFold [] l
theorem mc_bad {l : List Int} (h : litsB 400 l = false) : mcV l = none := by
  cases e : mcV l with
  | none => rfl
  | some o => have := (mkFold_some l [] o List.Pairwise.nil e).2.2; rw [h] at this; cases this
/-- .. found by sorting the list and leaving out what stands twice -/
theorem mc_sorted {l : List Int} {d : Array Int} (h : litsB 400 l = true) (hm : ∀ x, x ∈ d.toList ↔ x ∈ l) (hs : ∀ i j, i < j → j < d.size → lexB d[j]! d[i]! = false) :
    mcV l = (if clB 400 (Lib.compactUpTo d d.size) = true then some (Lib.compactUpTo d d.size) else none) := by
  obtain ⟨c1, c2⟩ := comp_mem d hs d.size (Nat.le_refl _)
  generalize hC : Lib.compactUpTo d d.size = c at *
  have hmem : ∀ x, x ∈ c ↔ x ∈ l := by
    intro x
    rw [c2, ← hm, Array.mem_toList_iff, Array.mem_iff_getElem]
    constructor
    · rintro ⟨j, hj, rfl⟩; exact ⟨j, hj, by rw [getElem!_pos d j hj]⟩
    · rintro ⟨j, hj, rfl⟩; exact ⟨j, hj, by rw [getElem!_pos d j hj]⟩
  have hlc : litsB 400 c = true := by
    unfold litsB
    rw [List.all_eq_true]
    intro x hx
    exact List.all_eq_true.1 h x ((hmem x).1 hx)
  have hcl : clB 400 c = ascB 0 c := by unfold clB; rw [hlc, Bool.true_and]
  rw [hcl]
  by_cases ha : ascB 0 c = true
  · rw [if_pos ha]
    obtain ⟨_, a2⟩ := (asc_iff c 0).1 ha
    cases e : mcV l with
    | none =>
      exfalso
      rcases mkFold_none l [] List.Pairwise.nil e with hb | ⟨x, hx, hl, hn⟩
      · rw [h] at hb; cases hb
      · have hn : -x ∈ l := by rcases hn with hn | hn; · simp at hn
                               · exact hn
        have hx0 : x ≠ 0 := (litsB_mem h hx).1
        have m1 := (hmem _).2 hx
        have m2 := (hmem _).2 hn
        obtain ⟨i, hi, e1⟩ := List.getElem_of_mem m1
        obtain ⟨j, hj, e2⟩ := List.getElem_of_mem m2
        have hab := iabs_neg x
        rcases Nat.lt_trichotomy i j with hij | hij | hij
        · have := List.pairwise_iff_getElem.1 a2 i j hi hj hij
          rw [e1, e2] at this; omega
        · subst hij; rw [e1] at e2; omega
        · have := List.pairwise_iff_getElem.1 a2 j i hj hi hij
          rw [e1, e2] at this; omega
    | some o =>
      obtain ⟨p1, p2, _⟩ := mkFold_some l [] o List.Pairwise.nil e
      rw [asc_uniq o c p1 a2 fun z => by rw [p2, hmem]; simp]
  · rw [if_neg ha]
    cases e : mcV l with
    | none => rfl
    | some o =>
      exfalso
      obtain ⟨p1, p2, _⟩ := mkFold_some l [] o List.Pairwise.nil e
      apply ha
      rw [asc_iff]
      refine ⟨fun x hx => ?_, ?_⟩
      · have := (litsB_mem hlc hx).1
        unfold iabs; split <;> omega
      · rw [List.pairwise_iff_getElem]
        intro i j hi hj hij
        have hx := List.pairwise_iff_getElem.1 c1 i j hi hj hij
        rw [lexB_iff] at hx
        rcases hx with hx | ⟨hx, hlt⟩
        · exact hx
        · exfalso
          have m1 : c[i] ∈ o := by rw [p2]; exact .inr ((hmem _).1 (List.getElem_mem hi))
          have m2 : c[j] ∈ o := by rw [p2]; exact .inr ((hmem _).1 (List.getElem_mem hj))
          obtain ⟨u, hu, e1⟩ := List.getElem_of_mem m1
          obtain ⟨v, hv, e2⟩ := List.getElem_of_mem m2
          rcases Nat.lt_trichotomy u v with huv | huv | huv
          · have := List.pairwise_iff_getElem.1 p1 u v hu hv huv
            rw [e1, e2] at this; omega
          · subst huv; rw [e1] at e2; omega
          · have := List.pairwise_iff_getElem.1 p1 v u hv hu huv
            rw [e1, e2] at this; omega
end Go.Proofs.Ytkoeegeplginkaa
