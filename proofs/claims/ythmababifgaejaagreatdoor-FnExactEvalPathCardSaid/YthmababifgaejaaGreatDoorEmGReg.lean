/- A region in whatever order, while something is kept of the worlds (C): what reads the same in all such worlds is taken first; what is left is met one by one. No condition. What the specification's l06Values returns. No condition. -/
import Derived.Test.YthmababifgaejaaGreatDoorEmGFmt
import Derived.Test.YthmababifgaejaaGreatDoorEmGHvM
namespace Go.Proofs.YthmababifgaejaaGreatDoor
open Go.ChangeShapes Go.WideShapes
/-- a step that gives v and turns nothing: by itself, or by a call that gives v and turns nothing -/
def GivesC (P : Program) (r : Sem Next) (v : Value) (w : World) : Prop :=
  r.run P w = .ok (.value v) w ∨ ∃ f args, r.run P w = .ok (.enter f args) w ∧ Calls P f args w fun e w' => e = .returned v ∧ w = w'
/-- an operation that gives v and turns nothing, in all worlds of which C holds -/
def YieldsC (P : Program) (ops : Array Oper) (C : World → Prop) (o : Oper) (v : Value) (a : Act) : Prop :=
  (Region.wanted o (yielded ops a.tmps) = true ∧ ∀ w, C w → GivesC P (execOp a.eval o) v w) ∨ (Region.wanted o (yielded ops a.tmps) = false ∧ v = undef)
theorem YieldsC.wpOp {P : Program} {ops : Array Oper} {C : World → Prop} {Q : Exit → Act → World → Prop} {i : Nat} {o : Oper} {v : Value} {a : Act} (hi : ops[i]? = some o) (hy : YieldsC P ops C o v a) {K : Act → World → Prop} {w : World} (hC : C w) (h : K (a.put o.dst v) w) : wpOp P ops Q i K a w := by
  unfold Go.wpOp
  simp only [hi]
  rcases hy with ⟨hw, hv⟩ | ⟨hw, rfl⟩
  · simp only [hw, if_true]
    refine .inl ?_
    unfold Oper.wp
    rcases hv w hC with h1 | ⟨f, args, h1, h2⟩
    · simp only [h1, Oper.upon]; exact h
    · simp only [h1, Oper.upon]
      refine Calls.mono h2 fun e w' he => ?_
      obtain ⟨rfl, rfl⟩ := he
      exact h
  · simp only [hw, Bool.false_eq_true, if_false]; exact h
theorem YieldsC.of_same {P : Program} {ops : Array Oper} {C : World → Prop} {o : Oper} {v : Value} {a a' : Act} (hy : YieldsC P ops C o v a) (he : execOp a'.eval o = execOp a.eval o) (hw : Region.wanted o (yielded ops a'.tmps) = Region.wanted o (yielded ops a.tmps)) : YieldsC P ops C o v a' := by
  unfold YieldsC at *
  rw [he, hw]
  exact hy
/-- an operation behind one that gives v gives what it would give ahead of it -/
theorem wpOp_putC {P : Program} {ops : Array Oper} {C : World → Prop} {Q : Exit → Act → World → Prop} {j : Nat} {oi oj : Oper} {v : Value} (hj : ops[j]? = some oj) (hap : oi.apart ops oj = true) (hsi : ∀ cs b, oi.op ≠ .select cs b) (hsj : ∀ cs b, oj.op ≠ .select cs b)
    (hQ : ∀ c a w, Q (.panic c) (a.put oi.dst v) w → Q (.panic c) a w) {K : Act → World → Prop} {a : Act} {w : World} (hy : YieldsC P ops C oi v a) (h : wpOp P ops Q j K (a.put oi.dst v) w) :
    wpOp P ops Q j (fun a' w' => YieldsC P ops C oi v a' ∧ K (a'.put oi.dst v) w') a w := by
  obtain ⟨h1, h2, h3⟩ := Oper.apart_spec hap
  have keep : ∀ (a : Act), YieldsC P ops C oi v a → ∀ u, YieldsC P ops C oi v (a.put oj.dst u) := fun a hy u => hy.of_same (execOp_put oi hsi a oj.dst u h3) (wanted_put oi a oj.dst u h3)
  have keepD : ∀ d, YieldsC P ops C oi v { a with defers := d :: a.defers } := fun d => hy.of_same rfl rfl
  unfold wpOp at *
  simp only [hj] at *
  rw [wanted_put oj a oi.dst v h1] at h
  by_cases hw : Region.wanted oj (yielded ops a.tmps) = true
  · simp only [hw, if_true] at h ⊢
    rcases h with h | ⟨hasks, hlets⟩
    · refine .inl ?_
      unfold Oper.wp at *
      rw [execOp_put oj hsj a oi.dst v h1] at h
      generalize (execOp a.eval oj).run P w = r at *
      cases r with
      | ok n w' =>
        cases n <;> simp only [Oper.upon] at h ⊢
        case value u => exact ⟨keep a hy u, by rw [← Act.put_comm a v u h2]; exact h⟩
        case skip => exact ⟨keep a hy _, by rw [← Act.put_comm a v undef h2]; exact h⟩
        case defer d =>
          refine ⟨keep _ (keepD d) _, ?_⟩
          rw [← Act.put_comm _ v undef h2, ← Act.put_defers]
          exact h
        case enter f args =>
          refine Calls.mono h fun e w'' he => ?_
          cases e with
          | returned u => exact ⟨keep a hy u, by rw [← Act.put_comm a v u h2]; exact he⟩
          | panicked c => exact hQ _ _ _ he
          | outgrown => exact he
        case row row args => exact Rows.mono h fun u w'' he => ⟨keep a hy u, by rw [← Act.put_comm a v u h2]; exact he⟩
      | halt x w' =>
        cases x <;> simp only [Oper.upon] at h ⊢
        case panic u => exact hQ _ _ _ h
    · exact .inr ⟨by unfold Oper.asks at *; rw [execOp_put oj hsj a oi.dst v h1] at hasks; exact hasks, hlets⟩
  · simp only [hw] at h ⊢
    exact ⟨keep a hy _, by rw [← Act.put_comm a v undef h2]; exact h⟩
/-- the region from here on, in whatever order, C kept by each operation -/
def wpAnyC (P : Program) (ops : Array Oper) (C : World → Prop) (Q : Exit → Act → World → Prop) : Nat → Array Bool → Act → World → Prop
  | 0, listed, a, w => Region.ready .any ops listed = [] ∧ Q .normal a w
  | f + 1, listed, a, w => (Region.ready .any ops listed = [] → Q .normal a w) ∧ ∀ i ∈ Region.ready .any ops listed, wpOp P ops Q i (fun a' w' => C w' ∧ wpAnyC P ops C Q f (listed.setIfInBounds i true) a' w') a w
theorem any_of_c {P : Program} {ops : Array Oper} {C : World → Prop} {Q : Exit → Act → World → Prop} : ∀ (f : Nat) (listed : Array Bool) (a : Act) (w : World), wpAnyC P ops C Q f listed a w → wpAny P .any ops Q f listed a w
  | 0, _, _, _, h => h
  | f + 1, _, _, _, h => ⟨h.1, fun i hi => wpOp_mono (fun a' w' h' => any_of_c f _ a' w' h'.2) (h.2 i hi)⟩
theorem first_c {P : Program} {ops : Array Oper} {C : World → Prop} {Q : Exit → Act → World → Prop} {i : Nat} {oi : Oper} {v : Value} (hi : ops[i]? = some oi) (hsel : Region.noSelect ops = true) (hQ : ∀ c a w, Q (.panic c) (a.put oi.dst v) w → Q (.panic c) a w) :
    ∀ (fuel : Nat) (listed : Array Bool) (a : Act) (w : World), C w →
      (∀ j oj, ops[j]? = some oj → j ≠ i → listed.getD j true = false → (∀ e ∈ oj.after, Region.binds .any e = true → e.on ≠ i) → oi.apart ops oj = true) →
      i ∈ Region.ready .any ops listed → YieldsC P ops C oi v a → wpAnyC P ops C Q fuel (listed.setIfInBounds i true) (a.put oi.dst v) w → wpAnyC P ops C Q (fuel + 1) listed a w := by
  have hs := Region.noSelect_spec hsel
  intro fuel
  induction fuel with
  | zero =>
    intro listed a w hC _ hr hy H
    refine ⟨fun h => (by rw [h] at hr; cases hr), fun j hj => ?_⟩
    by_cases hji : j = i
    · subst hji; exact hy.wpOp hi hC ⟨hC, H⟩
    · have := ready_mono hj hji
      rw [H.1] at this
      cases this
  | succ fuel ih =>
    intro listed a w hC hfree hr hy H
    refine ⟨fun h => (by rw [h] at hr; cases hr), fun j hj => ?_⟩
    by_cases hji : j = i
    · subst hji; exact hy.wpOp hi hC ⟨hC, H⟩
    · have h1 := H.2 j (ready_mono hj hji)
      obtain ⟨hjun, oj, hoj, hall⟩ := mem_ready.1 hj
      have hnot : ∀ e ∈ oj.after, Region.binds .any e = true → e.on ≠ i := fun e he hb heq => by
        have h3 := hall e he hb
        rw [heq, getD_both (mem_ready.1 hr).1] at h3
        cases h3
      have h2 := wpOp_putC hoj (hfree j oj hoj hji hjun hnot) (fun cs b => hs i oi cs b hi) (fun cs b => hs j oj cs b hoj) hQ hy h1
      refine wpOp_mono (fun a' w' h3 => ⟨h3.2.1, ih (listed.setIfInBounds j true) a' w' h3.2.1 (fun k ok hk hki hun hno => ?_) (ready_mono hr (Ne.symm hji)) h3.1 ?_⟩) h2
      · refine hfree k ok hk hki ?_ hno
        by_cases hjk : j = k
        · subst hjk; exact hjun
        · rw [getD_set_ne true hjk] at hun; exact hun
      · rw [Array.setIfInBounds_comm _ _ hji]; exact h3.2.2
/-- an operation that reads the same in all such worlds is taken first -/
theorem take_c {P : Program} {ops : Array Oper} {C : World → Prop} {Q : Exit → Act → World → Prop} {i : Nat} {oi : Oper} {v : Value} {fuel : Nat} {listed : Array Bool} {a : Act} {w : World} (hi : ops[i]? = some oi) (hs : Region.noSelect ops = true) (hf : Region.free .any ops listed i = true) (hr : (Region.ready .any ops listed).contains i = true)
    (hQ : ∀ c a w, Q (.panic c) (a.put oi.dst v) w → Q (.panic c) a w) (hC : C w) (hw : Region.wanted oi (yielded ops a.tmps) = true) (hy : ∀ w, C w → (execOp a.eval oi).run P w = .ok (.value v) w) (h : wpAnyC P ops C Q fuel (listed.setIfInBounds i true) (a.put oi.dst v) w) : wpAnyC P ops C Q (fuel + 1) listed a w :=
  first_c hi hs hQ fuel listed a w hC (Region.free_spec hi hf) (by simpa using hr) (.inl ⟨hw, fun w h => .inl (hy w h)⟩) h
/-- a call that gives the same in all such worlds and turns nothing is taken first -/
theorem take_k {P : Program} {ops : Array Oper} {C : World → Prop} {Q : Exit → Act → World → Prop} {i : Nat} {oi : Oper} {v : Value} {fuel : Nat} {listed : Array Bool} {a : Act} {w : World} (hi : ops[i]? = some oi) (hs : Region.noSelect ops = true) (hf : Region.free .any ops listed i = true) (hr : (Region.ready .any ops listed).contains i = true)
    (hQ : ∀ c a w, Q (.panic c) (a.put oi.dst v) w → Q (.panic c) a w) (hC : C w) (hw : Region.wanted oi (yielded ops a.tmps) = true) (hy : ∀ w, C w → ∃ f args, (execOp a.eval oi).run P w = .ok (.enter f args) w ∧ Calls P f args w fun e w' => e = .returned v ∧ w = w') (h : wpAnyC P ops C Q fuel (listed.setIfInBounds i true) (a.put oi.dst v) w) : wpAnyC P ops C Q (fuel + 1) listed a w :=
  first_c hi hs hQ fuel listed a w hC (Region.free_spec hi hf) (by simpa using hr) (.inl ⟨hw, fun w h => .inr (hy w h)⟩) h
/-- one operation alone can come -/
theorem one_c {P : Program} {ops : Array Oper} {C : World → Prop} {Q : Exit → Act → World → Prop} {i : Nat} {fuel : Nat} {listed : Array Bool} {a : Act} {w : World} (hr : Region.ready .any ops listed = [i]) (h : wpOp P ops Q i (fun a' w' => C w' ∧ wpAnyC P ops C Q fuel (listed.setIfInBounds i true) a' w') a w) : wpAnyC P ops C Q (fuel + 1) listed a w :=
  ⟨fun h0 => (by rw [hr] at h0; cases h0), fun j hj => by rw [hr] at hj; obtain rfl := List.mem_singleton.1 hj; exact h⟩
/-- one of two -/
theorem two_c {P : Program} {ops : Array Oper} {C : World → Prop} {Q : Exit → Act → World → Prop} {i k : Nat} {fuel : Nat} {listed : Array Bool} {a : Act} {w : World} (hr : Region.ready .any ops listed = [i, k]) (h : wpOp P ops Q i (fun a' w' => C w' ∧ wpAnyC P ops C Q fuel (listed.setIfInBounds i true) a' w') a w) (h2 : wpOp P ops Q k (fun a' w' => C w' ∧ wpAnyC P ops C Q fuel (listed.setIfInBounds k true) a' w') a w) : wpAnyC P ops C Q (fuel + 1) listed a w :=
  ⟨fun h0 => (by rw [hr] at h0; cases h0), fun j hj => by
    rw [hr] at hj
    rcases List.mem_cons.1 hj with rfl | hj
    · exact h
    · obtain rfl := List.mem_singleton.1 hj; exact h2⟩
theorem done_c {P : Program} {ops : Array Oper} {C : World → Prop} {Q : Exit → Act → World → Prop} {listed : Array Bool} {a : Act} {w : World} (hr : Region.ready .any ops listed = []) (h : Q .normal a w) : ∀ fuel, wpAnyC P ops C Q fuel listed a w
  | 0 => ⟨hr, h⟩
  | _ + 1 => ⟨fun _ => h, by rw [hr]; simp⟩
/-- behind one operation -/
def KPost (K : Act → World → Prop) (Q : Exit → Act → World → Prop) : Exit → Act → World → Prop
  | .normal, a, w => K a w
  | e, a, w => Q e a w
theorem k_out {K : Act → World → Prop} {Q : Exit → Act → World → Prop} (e : Exit) (a : Act) (w : World) (h : e ≠ .normal) (hq : KPost K Q e a w) : Q e a w := by
  cases e <;> first | exact absurd rfl h | exact hq
/-- one operation, walked as a list of one -/
theorem op_list {P : Program} {ops : Array Oper} {Q : Exit → Act → World → Prop} {i : Nat} {o : Oper} {K : Act → World → Prop} {a : Act} {w : World} (hi : ops[i]? = some o) (h : wpList P ops (KPost K Q) [o] a w) : wpOp P ops Q i K a w := by
  unfold wpOp
  simp only [hi]
  unfold wpList at h
  split at h
  · rename_i hwt
    rw [if_pos hwt]
    rcases h with h | ⟨h1, h2⟩
    · exact .inl (wp_post k_out h)
    · exact .inr ⟨h1, lets_post k_out h2⟩
  · rename_i hwt
    rw [if_neg hwt]; exact h
theorem region_c {P : Program} {ops : Array Oper} (C : World → Prop) {id : Nat} {Q : Exit → Act → World → Prop} {a : Act} {w : World} (hm : P.follows .mixedOrders = true) (h : wpAnyC P ops C Q ops.size (Array.replicate ops.size false) a w.drew) : (Code.region id ops true).wp P Q a w :=
  wp_region_any hm (any_of_c _ _ _ _ h)
/-- none of some operations is listed yet -/
def noneYet (S : List Nat) (listed : Array Bool) : Bool := S.all fun k => !listed.getD k true
/-- each of some operations stands behind one -/
def behindB (ops : Array Oper) (S : List Nat) (i : Nat) : Bool := S.all fun k => match ops[k]? with | some o => o.after.any fun e => Region.binds .any e && e.on == i | none => false
theorem noneYet_set {S : List Nat} {listed : Array Bool} {j : Nat} (h : noneYet S listed = true) (hj : j ∉ S) : noneYet S (listed.setIfInBounds j true) = true := by
  unfold noneYet at *
  rw [List.all_eq_true] at *
  intro k hk
  have := h k hk
  rw [getD_set_ne true (show j ≠ k from fun e => hj (by rw [e]; exact hk))]
  exact this
theorem behind_not {ops : Array Oper} {S : List Nat} {i : Nat} {listed : Array Bool} (hb : behindB ops S i = true) (hi : listed.getD i false = false) {j : Nat} (hj : j ∈ Region.ready .any ops listed) : j ∉ S := fun hS => by
  unfold behindB at hb
  rw [List.all_eq_true] at hb
  have h := hb j hS
  obtain ⟨_, oj, hoj, hall⟩ := mem_ready.1 hj
  rw [hoj] at h
  simp only [Array.any_eq_true', Bool.and_eq_true, beq_iff_eq] at h
  obtain ⟨e, he, h1, h2⟩ := h
  have h3 := hall e he h1
  rw [h2, hi] at h3
  cases h3
/-- the region from here on, in whatever order, C kept by each operation until one of S comes -/
def wpAnyS (P : Program) (ops : Array Oper) (S : List Nat) (C : World → Prop) (Q : Exit → Act → World → Prop) : Nat → Array Bool → Act → World → Prop
  | 0, listed, a, w => Region.ready .any ops listed = [] ∧ Q .normal a w
  | f + 1, listed, a, w => (Region.ready .any ops listed = [] → Q .normal a w) ∧ ∀ i ∈ Region.ready .any ops listed, wpOp P ops Q i (fun a' w' => (noneYet S (listed.setIfInBounds i true) = true → C w') ∧ wpAnyS P ops S C Q f (listed.setIfInBounds i true) a' w') a w
theorem any_of_s {P : Program} {ops : Array Oper} {S : List Nat} {C : World → Prop} {Q : Exit → Act → World → Prop} : ∀ (f : Nat) (listed : Array Bool) (a : Act) (w : World), wpAnyS P ops S C Q f listed a w → wpAny P .any ops Q f listed a w
  | 0, _, _, _, h => h
  | f + 1, _, _, _, h => ⟨h.1, fun i hi => wpOp_mono (fun a' w' h' => any_of_s f _ a' w' h'.2) (h.2 i hi)⟩
theorem first_s {P : Program} {ops : Array Oper} {S : List Nat} {C : World → Prop} {Q : Exit → Act → World → Prop} {i : Nat} {oi : Oper} {v : Value} (hi : ops[i]? = some oi) (hsel : Region.noSelect ops = true) (hbe : behindB ops S i = true) (hQ : ∀ c a w, Q (.panic c) (a.put oi.dst v) w → Q (.panic c) a w) :
    ∀ (fuel : Nat) (listed : Array Bool) (a : Act) (w : World), C w → noneYet S listed = true →
      (∀ j oj, ops[j]? = some oj → j ≠ i → listed.getD j true = false → (∀ e ∈ oj.after, Region.binds .any e = true → e.on ≠ i) → oi.apart ops oj = true) →
      i ∈ Region.ready .any ops listed → YieldsC P ops C oi v a → wpAnyS P ops S C Q fuel (listed.setIfInBounds i true) (a.put oi.dst v) w → wpAnyS P ops S C Q (fuel + 1) listed a w := by
  have hs := Region.noSelect_spec hsel
  intro fuel
  induction fuel with
  | zero =>
    intro listed a w hC _ _ hr hy H
    refine ⟨fun h => (by rw [h] at hr; cases hr), fun j hj => ?_⟩
    by_cases hji : j = i
    · subst hji; exact hy.wpOp hi hC ⟨fun _ => hC, H⟩
    · have := ready_mono hj hji
      rw [H.1] at this
      cases this
  | succ fuel ih =>
    intro listed a w hC hN hfree hr hy H
    refine ⟨fun h => (by rw [h] at hr; cases hr), fun j hj => ?_⟩
    by_cases hji : j = i
    · subst hji; exact hy.wpOp hi hC ⟨fun _ => hC, H⟩
    · have h1 := H.2 j (ready_mono hj hji)
      have hiS := behind_not hbe (getD_both (mem_ready.1 hr).1) hr
      have hjS := behind_not hbe (getD_both (mem_ready.1 hr).1) hj
      obtain ⟨hjun, oj, hoj, hall⟩ := mem_ready.1 hj
      have hnot : ∀ e ∈ oj.after, Region.binds .any e = true → e.on ≠ i := fun e he hb heq => by
        have h3 := hall e he hb
        rw [heq, getD_both (mem_ready.1 hr).1] at h3
        cases h3
      have h2 := wpOp_putC hoj (hfree j oj hoj hji hjun hnot) (fun cs b => hs i oi cs b hi) (fun cs b => hs j oj cs b hoj) hQ hy h1
      refine wpOp_mono (fun a' w' h3 => ?_) h2
      have hC' := h3.2.1 (noneYet_set (noneYet_set hN hiS) hjS)
      refine ⟨fun _ => hC', ih (listed.setIfInBounds j true) a' w' hC' (noneYet_set hN hjS) (fun k ok hk hki hun hno => ?_) (ready_mono hr (Ne.symm hji)) h3.1 ?_⟩
      · refine hfree k ok hk hki ?_ hno
        by_cases hjk : j = k
        · subst hjk; exact hjun
        · rw [getD_set_ne true hjk] at hun; exact hun
      · rw [Array.setIfInBounds_comm _ _ hji]; exact h3.2.2
/-- an operation that reads the same in all such worlds is taken first -/
theorem take_s {P : Program} {ops : Array Oper} {S : List Nat} {C : World → Prop} {Q : Exit → Act → World → Prop} {i : Nat} {oi : Oper} {v : Value} {fuel : Nat} {listed : Array Bool} {a : Act} {w : World} (hi : ops[i]? = some oi) (hc : (Region.noSelect ops && (behindB ops S i && (noneYet S listed && (Region.free .any ops listed i && (Region.ready .any ops listed).contains i)))) = true)
    (hQ : ∀ c a w, Q (.panic c) (a.put oi.dst v) w → Q (.panic c) a w) (hC : C w) (hw : Region.wanted oi (yielded ops a.tmps) = true) (hy : ∀ w, C w → (execOp a.eval oi).run P w = .ok (.value v) w) (h : wpAnyS P ops S C Q fuel (listed.setIfInBounds i true) (a.put oi.dst v) w) : wpAnyS P ops S C Q (fuel + 1) listed a w := by
  simp only [Bool.and_eq_true] at hc
  obtain ⟨hs, hb, hn, hf, hr⟩ := hc
  exact first_s hi hs hb hQ fuel listed a w hC hn (Region.free_spec hi hf) (by simpa using hr) (.inl ⟨hw, fun w h => .inl (hy w h)⟩) h
/-- a call that gives the same in all such worlds and turns nothing is taken first -/
theorem take_sk {P : Program} {ops : Array Oper} {S : List Nat} {C : World → Prop} {Q : Exit → Act → World → Prop} {i : Nat} {oi : Oper} {v : Value} {fuel : Nat} {listed : Array Bool} {a : Act} {w : World} (hi : ops[i]? = some oi) (hc : (Region.noSelect ops && (behindB ops S i && (noneYet S listed && (Region.free .any ops listed i && (Region.ready .any ops listed).contains i)))) = true)
    (hQ : ∀ c a w, Q (.panic c) (a.put oi.dst v) w → Q (.panic c) a w) (hC : C w) (hw : Region.wanted oi (yielded ops a.tmps) = true) (hy : ∀ w, C w → ∃ f args, (execOp a.eval oi).run P w = .ok (.enter f args) w ∧ Calls P f args w fun e w' => e = .returned v ∧ w = w') (h : wpAnyS P ops S C Q fuel (listed.setIfInBounds i true) (a.put oi.dst v) w) : wpAnyS P ops S C Q (fuel + 1) listed a w := by
  simp only [Bool.and_eq_true] at hc
  obtain ⟨hs, hb, hn, hf, hr⟩ := hc
  exact first_s hi hs hb hQ fuel listed a w hC hn (Region.free_spec hi hf) (by simpa using hr) (.inl ⟨hw, fun w h => .inr (hy w h)⟩) h
theorem noneYet_skip {S : List Nat} {listed : Array Bool} {i : Nat} (h : noneYet S listed = true) (hi : S.contains i = false) : noneYet S (listed.setIfInBounds i true) = true := noneYet_set h (fun h' => by rw [List.contains_iff_mem.2 h'] at hi; cases hi)
theorem noneYet_undo {S : List Nat} {listed : Array Bool} {i : Nat} (hi : S.contains i = false) (h : noneYet S (listed.setIfInBounds i true) = true) : noneYet S listed = true := by
  unfold noneYet at *
  rw [List.all_eq_true] at *
  intro k hk
  have := h k hk
  rw [getD_set_ne true (show i ≠ k from fun e => by rw [List.contains_iff_mem.2 (by rw [e]; exact hk)] at hi; cases hi)] at this
  exact this
theorem first_p {P : Program} {ops : Array Oper} {S : List Nat} {C : World → Prop} {Q : Exit → Act → World → Prop} {i : Nat} {oi : Oper} {v : Value} (hi : ops[i]? = some oi) (hsel : Region.noSelect ops = true) (hiS : S.contains i = false) (hQ : ∀ c a w, Q (.panic c) (a.put oi.dst v) w → Q (.panic c) a w) :
    ∀ (fuel : Nat) (listed : Array Bool) (a : Act) (w : World), (noneYet S listed = true → C w) →
      (∀ j oj, ops[j]? = some oj → j ≠ i → listed.getD j true = false → (∀ e ∈ oj.after, Region.binds .any e = true → e.on ≠ i) → oi.apart ops oj = true) →
      i ∈ Region.ready .any ops listed → YieldsC P ops (fun _ => True) oi v a → wpAnyS P ops S C Q fuel (listed.setIfInBounds i true) (a.put oi.dst v) w → wpAnyS P ops S C Q (fuel + 1) listed a w := by
  have hs := Region.noSelect_spec hsel
  intro fuel
  induction fuel with
  | zero =>
    intro listed a w hC _ hr hy H
    refine ⟨fun h => (by rw [h] at hr; cases hr), fun j hj => ?_⟩
    by_cases hji : j = i
    · subst hji; exact hy.wpOp hi trivial ⟨fun h => hC (noneYet_undo hiS h), H⟩
    · have := ready_mono hj hji
      rw [H.1] at this
      cases this
  | succ fuel ih =>
    intro listed a w hC hfree hr hy H
    refine ⟨fun h => (by rw [h] at hr; cases hr), fun j hj => ?_⟩
    by_cases hji : j = i
    · subst hji; exact hy.wpOp hi trivial ⟨fun h => hC (noneYet_undo hiS h), H⟩
    · have h1 := H.2 j (ready_mono hj hji)
      obtain ⟨hjun, oj, hoj, hall⟩ := mem_ready.1 hj
      have hnot : ∀ e ∈ oj.after, Region.binds .any e = true → e.on ≠ i := fun e he hb heq => by
        have h3 := hall e he hb
        rw [heq, getD_both (mem_ready.1 hr).1] at h3
        cases h3
      have h2 := wpOp_putC hoj (hfree j oj hoj hji hjun hnot) (fun cs b => hs i oi cs b hi) (fun cs b => hs j oj cs b hoj) hQ hy h1
      refine wpOp_mono (fun a' w' h3 => ?_) h2
      have hC' : noneYet S (listed.setIfInBounds j true) = true → C w' := fun h => h3.2.1 (by rw [Array.setIfInBounds_comm _ _ (Ne.symm hji)]; exact noneYet_skip h hiS)
      refine ⟨hC', ih (listed.setIfInBounds j true) a' w' hC' (fun k ok hk hki hun hno => ?_) (ready_mono hr (Ne.symm hji)) h3.1 ?_⟩
      · refine hfree k ok hk hki ?_ hno
        by_cases hjk : j = k
        · subst hjk; exact hjun
        · rw [getD_set_ne true hjk] at hun; exact hun
      · rw [Array.setIfInBounds_comm _ _ hji]; exact h3.2.2
/-- an operation that gives the same in whatever world is taken first -/
theorem take_p {P : Program} {ops : Array Oper} {S : List Nat} {C : World → Prop} {Q : Exit → Act → World → Prop} {i : Nat} {oi : Oper} {v : Value} {fuel : Nat} {listed : Array Bool} {a : Act} {w : World} (hi : ops[i]? = some oi) (hc : (Region.noSelect ops && (!S.contains i && (Region.free .any ops listed i && (Region.ready .any ops listed).contains i))) = true)
    (hQ : ∀ c a w, Q (.panic c) (a.put oi.dst v) w → Q (.panic c) a w) (hC : C w) (hw : Region.wanted oi (yielded ops a.tmps) = true) (hy : ∀ w, (execOp a.eval oi).run P w = .ok (.value v) w) (h : wpAnyS P ops S C Q fuel (listed.setIfInBounds i true) (a.put oi.dst v) w) : wpAnyS P ops S C Q (fuel + 1) listed a w := by
  simp only [Bool.and_eq_true, Bool.not_eq_true'] at hc
  obtain ⟨hs, hn, hf, hr⟩ := hc
  exact first_p hi hs hn hQ fuel listed a w (fun _ => hC) (Region.free_spec hi hf) (by simpa using hr) (.inl ⟨hw, fun w _ => .inl (hy w)⟩) h
/-- one operation alone can come -/
theorem one_s {P : Program} {ops : Array Oper} {S : List Nat} {C : World → Prop} {Q : Exit → Act → World → Prop} {i : Nat} {fuel : Nat} {listed : Array Bool} {a : Act} {w : World} (hr : Region.ready .any ops listed = [i]) (h : wpOp P ops Q i (fun a' w' => (noneYet S (listed.setIfInBounds i true) = true → C w') ∧ wpAnyS P ops S C Q fuel (listed.setIfInBounds i true) a' w') a w) : wpAnyS P ops S C Q (fuel + 1) listed a w :=
  ⟨fun h0 => (by rw [hr] at h0; cases h0), fun j hj => by rw [hr] at hj; obtain rfl := List.mem_singleton.1 hj; exact h⟩
/-- one of two -/
theorem two_s {P : Program} {ops : Array Oper} {S : List Nat} {C : World → Prop} {Q : Exit → Act → World → Prop} {i k : Nat} {fuel : Nat} {listed : Array Bool} {a : Act} {w : World} (hr : Region.ready .any ops listed = [i, k]) (h : wpOp P ops Q i (fun a' w' => (noneYet S (listed.setIfInBounds i true) = true → C w') ∧ wpAnyS P ops S C Q fuel (listed.setIfInBounds i true) a' w') a w) (h2 : wpOp P ops Q k (fun a' w' => (noneYet S (listed.setIfInBounds k true) = true → C w') ∧ wpAnyS P ops S C Q fuel (listed.setIfInBounds k true) a' w') a w) : wpAnyS P ops S C Q (fuel + 1) listed a w :=
  ⟨fun h0 => (by rw [hr] at h0; cases h0), fun j hj => by
    rw [hr] at hj
    rcases List.mem_cons.1 hj with rfl | hj
    · exact h
    · obtain rfl := List.mem_singleton.1 hj; exact h2⟩
theorem done_s {P : Program} {ops : Array Oper} {S : List Nat} {C : World → Prop} {Q : Exit → Act → World → Prop} {listed : Array Bool} {a : Act} {w : World} (hr : Region.ready .any ops listed = []) (h : Q .normal a w) : ∀ fuel, wpAnyS P ops S C Q fuel listed a w
  | 0 => ⟨hr, h⟩
  | _ + 1 => ⟨fun _ => h, by rw [hr]; simp⟩
theorem late_s {b : Bool} (hb : b = false) {p : Prop} : b = true → p := fun h => by rw [hb] at h; cases h
theorem region_s {P : Program} {ops : Array Oper} (S : List Nat) (C : World → Prop) {id : Nat} {Q : Exit → Act → World → Prop} {a : Act} {w : World} (hm : P.follows .mixedOrders = true) (h : wpAnyS P ops S C Q ops.size (Array.replicate ops.size false) a w.drew) : (Code.region id ops true).wp P Q a w :=
  wp_region_any hm (any_of_s _ _ _ _ h)
end Go.Proofs.YthmababifgaejaaGreatDoor
namespace Go.Proofs.YthmababifgaejaaGreatDoor
open Go.ChangeShapes Go.WideShapes Go.ChangeAt Go.RowKit
open ValueR (all costs)
set_option maxRecDepth 100000 in
set_option maxHeartbeats 4000000 in
theorem s_values (vw vm vi : Int) (nL : Nat) (q : Option Addr) (cap : Nat) (l : List Int) (li : Value) (w : World) (hls : Cs.Shows w 0 1 li l.length (IntL.all l)) (h3 : l.length ≤ 3) :
    Calls Tryz.prog 24 #[.agg #[.int .i64 vw, .int .i64 vm, .int .i64 vi, .slice q nL cap], li] w (ValEnd (inV vw l) w) := by
  have hml : maxLen = 9223372036854775807 := rfl
  obtain ⟨i0, hi, hz0, hz1, hz2⟩ := info_parts zero_Value
  have HSH := Lib.hid hls
  obtain ⟨_, lq, lcap, rfl, _⟩ := hls
  have HR := Lib.hid (in_row HSH.out)
  have HL := Lib.hid (inV_len vw l)
  have HG := Lib.hid (fun j (h : j < l.length) => inV_get vw l j h)
  unfold ValEnd
  have HB0 := Lib.hid ((Below.refl w.heap.size w).alloc (Nat.le_refl _) (.cells #[.int .i64 vw, .int .i64 vm, .int .i64 vi, .slice q nL cap] 37))
  have X0 := Lib.hid (cell4_alloc w 37 (.int .i64 vw) (.int .i64 vm) (.int .i64 vi) (.slice q nL cap))
  obtain ⟨w0, hw0⟩ : ∃ w0, w0 = w.alloc (.cells #[.int .i64 vw, .int .i64 vm, .int .i64 vi, .slice q nL cap] 37) := ⟨_, rfl⟩
  have hs0 : w0.heap.size = w.heap.size + 1 := by rw [hw0]; simp
  rw [← hw0] at HB0 X0
  have O0 := Lib.hid (show (w0.alloc (.cells #[] 79)).ownsRow (w.heap.size + 1) 79 3 (.slice (some ⟨w0.heap.size, 0, none⟩) 0 0) 0 [] by
    have := World.ownsRow_lit (base := w.heap.size + 1) (e := 79) (size := 3) w0 #[] 0 (by omega) (by decide) rfl
    simpa using this)
  obtain ⟨n, hn⟩ : ∃ n, l.length = n := ⟨_, rfl⟩
  have HV := Lib.hid (show (inV vw l).length = n from HL.out.trans hn)
  have HI := Lib.hid (fun j (h : j < n) => show j < l.length by rw [hn]; exact h)
  rw [HL.out]
  rw [hn] at h3 ⊢
  clear hn HL
  have hz3 : n ≤ 3 := h3
  have HW0 := Lib.hid (show Below w.heap.size w (w0.alloc (.cells #[] 79)) from HB0.out.alloc HB0.out.size _)
  have HX0 := Lib.hid (X0.out.below ((Below.refl _ _).alloc (Nat.le_refl _) (.cells #[] 79)))
  go_enter Tryz.func24, Tryz.ntmps24
  go_wp2_with fail
  rw [← hw0]
  clear hw0
  go_loopw [5, 11] (fun u i wr => ∃ (j : Nat), j ≤ n ∧ i = .int .i64 j ∧ wr.ownsRow (w.heap.size + 1) 79 3 u j (all ((inV vw l).take j)) ∧ Below w.heap.size w wr ∧ Cell4 wr w.heap.size (.int .i64 vw) (.int .i64 vm) (.int .i64 vi) (.slice q nL cap)) (fun _ i _ => n - (intOf i).toNat)
  case atStart => exact ⟨0, Nat.zero_le _, rfl, by rw [List.take_zero]; have h := O0.out; rw [hs0] at h; exact h, HW0.out, HX0.out⟩
  case round =>
    obtain ⟨j, hj, rfl, ho, hb, hx⟩ := hrel
    have HB := Lib.hid hb
    have HX := Lib.hid hx
    have HO := Lib.hid ho
    clear hb hx ho
    by_cases hjn : j < n
    · have hjl := HI.out j hjn
      obtain ⟨b, o, rfl, hbl, hc⟩ := HR.out j hjl
      have c0 := hc wr HB.out
      have hg := HG.out j hjl
      have hws := HB.out.size
      have hwl : w.heap.size < wr.heap.size := World.block_lt_of_cell? _ _ HX.out.1
      have hbl2 : b < wr.heap.size := by omega
      have HT := Lib.hid (show all ((inV vw l).take (j + 1)) = all ((inV vw l).take j) ++ [.string (inNm j), .int .i64 vw, .int .i64 l[j]] by
        have h2 : j < (inV vw l).length := by rw [HV.out]; exact hjn
        rw [List.take_succ_eq_append_getElem h2]
        rw [List.getElem?_eq_getElem h2] at hg
        rw [Option.some.inj hg]
        unfold all
        rw [List.flatMap_append]
        rfl)
      have KF := Lib.hid (fun W => show Calls Tryz.prog 41 #[.int .i64 j] W fun e w' => e = .returned (.string (itB j)) ∧ Below W.heap.size W w' from s_fmt j (by omega) (by omega) W)
      have HE := Lib.hid (in_text (show j < 3 by omega))
      have hzt := itB_sz (j : Int) (by omega) (by omega)
      have hzi : (⟨#[105]⟩ : ByteArray).size = 1 := rfl
      clear hg hc
      generalize l[j] = y at *
      generalize inNm j = nm at *
      generalize itB (j : Int) = tx at *
      have hki : (j : Int) < (n : Int) := by omega
      obtain ⟨hq, hcp⟩ : ∃ hq hcp, u5 = .slice hq j hcp := by
        rcases HO.out.2 with ⟨h1, h2⟩ | ⟨g, cw, cur, h1, _⟩
        · exact ⟨none, 0, by rw [h1, h2]⟩
        · exact ⟨_, _, h1⟩
      obtain ⟨hcp, rfl⟩ := hcp
      go_wp2
      clear c0
      have CD := Lib.hid (show Below wr.heap.size wr wr.drew from (Below.refl _ _).drew)
      have CH := Lib.hid (Below.refl (w.heap.size + 1) wr.drew)
      refine region_s [] (fun V => Below (w.heap.size + 1) wr.drew V) (by kernel_rfl) ?_
      refine take_s (i := 0) (v := .slice hq j hcp) rfl (by kernel_rfl) (fun _ _ _ h => h) CH.out rfl (fun V hV => ?_) ?_
      · have x0 := (hV.cell (p := ⟨w.heap.size, 0, none⟩) (show w.heap.size < _ by omega)).trans HX.out.1
        go_simp
      refine take_s (i := 1) (v := .int .i64 j) rfl (by kernel_rfl) (fun _ _ _ h => h) CH.out rfl (fun V hV => ?_) ?_
      · have x0 := (hV.cell (p := ⟨w.heap.size, 0, none⟩) (show w.heap.size < _ by omega)).trans HX.out.1
        go_simp
      refine take_s (i := 4) (v := .pointer (some ⟨w.heap.size, 0, none⟩)) rfl (by kernel_rfl) (fun _ _ _ h => h) CH.out rfl (fun V hV => ?_) ?_
      · have x0 := (hV.cell (p := ⟨w.heap.size, 0, none⟩) (show w.heap.size < _ by omega)).trans HX.out.1
        go_simp
      refine take_s (i := 5) (v := .int .i64 vw) rfl (by kernel_rfl) (fun _ _ _ h => h) CH.out rfl (fun V hV => ?_) ?_
      · have x0 := (hV.cell (p := ⟨w.heap.size, 0, none⟩) (show w.heap.size < _ by omega)).trans HX.out.1
        go_simp
      refine take_s (i := 6) (v := .int .i64 y) rfl (by kernel_rfl) (fun _ _ _ h => h) CH.out rfl (fun V hV => ?_) ?_
      · have x0 := (hV.cell (p := ⟨w.heap.size, 0, none⟩) (show w.heap.size < _ by omega)).trans HX.out.1
        go_simp
      refine one_s (i := 2) (by kernel_rfl) (op_list rfl ?_)
      go_wp2_with fail
      refine (KF.out _).mono ?_
      rintro e w1 ⟨rfl, hb1⟩
      have CO := Lib.hid (CD.out.trans hb1)
      replace CH := Lib.hid (CH.out.trans (hb1.mono (show w.heap.size + 1 ≤ wr.drew.heap.size from hwl)))
      clear hb1
      go_wp2
      refine ⟨fun _ => CH.out, ?_⟩
      refine one_s (i := 3) (by kernel_rfl) (op_list rfl ?_)
      go_wp2
      refine ⟨fun _ => CH.out, ?_⟩
      refine one_s (i := 7) (by kernel_rfl) (op_list rfl ?_)
      go_wp2
      refine ⟨fun _ => CH.out, ?_⟩
      have O1 := Lib.hid (own_keep HO.out CO.out)
      have hs1 : w.heap.size + 1 ≤ w1.heap.size := Nat.le_trans hwl CO.out.size
      have HB1 := Lib.hid (HB.out.trans (CO.out.mono HB.out.size))
      refine one_s (i := 8) (by kernel_rfl) (op_list rfl ?_)
      go_wp2
      rw [HE.out]
      refine ⟨fun _ => CH.out.alloc hs1 _, ?_⟩
      refine one_s (i := 9) (by kernel_rfl) (op_list rfl ?_)
      refine wpList_append_own _ rfl _ _ 56 rfl (w.heap.size + 1) 79 i0 (.agg #[.string ByteArray.empty, .int .i64 0, .int .i64 0]) 3 32 Tryz.underlying56 hi hz0 hz1 hz2 rfl (by decide) _ j _ rfl (O1.out.alloc _) ⟨_, 0, none⟩ 1 1 [.string nm, .int .i64 vw, .int .i64 y] rfl rfl ?c1 ?c2 ?c3 ?c4 ?c5 ?_
      case c1 =>
        intro k u hk
        match k, hk with
        | 0, hk => simp at hk; subst hk; simp [Addr.add]
        | 1, hk => simp at hk; subst hk; simp [Addr.add]
        | 2, hk => simp at hk; subst hk; simp [Addr.add]
      case c2 => intro u hu; simp at hu; rcases hu with rfl | rfl | rfl <;> rfl
      case c3 => unfold maxLen; omega
      case c4 => omega
      case c5 => simp; omega
      intro v' w9 hown' hgrow _
      have R1 := Lib.hid hown'
      have R2 := Lib.hid ((HB1.out.alloc HB1.out.size (.cells #[.string nm, .int .i64 vw, .int .i64 y] 79)).grown hgrow (by have := HB1.out.size; simp; omega) (fun q hq => Nat.le_trans (by omega) ((O1.out.lt q hq).1)))
      have R3 := Lib.hid ((CH.out.alloc hs1 (.cells #[.string nm, .int .i64 vw, .int .i64 y] 79)).grown hgrow (by simp; omega) (fun q hq => ((O1.out.lt q hq).1)))
      clear hown' hgrow
      go_wp2
      refine ⟨fun _ => R3.out, ?_⟩
      refine one_s (i := 10) (by kernel_rfl) (op_list rfl ?_)
      go_wp2
      refine ⟨fun _ => R3.out, done_s (by kernel_rfl) ?_ _⟩
      have HX9 := Lib.hid (show Cell4 w9 w.heap.size (.int .i64 vw) (.int .i64 vm) (.int .i64 vi) (.slice q nL cap) from by
        obtain ⟨h0, h1, h2, h3⟩ := HX.out
        have e : ∀ o, w9.cell? ⟨w.heap.size, o, none⟩ = wr.cell? ⟨w.heap.size, o, none⟩ := fun o => R3.out.cell (p := ⟨w.heap.size, o, none⟩) (Nat.lt_succ_self _)
        exact ⟨(e 0).trans h0, (e 1).trans h1, (e 2).trans h2, (e 3).trans h3⟩)
      go_wp2
      go_roundw
      case rel => exact ⟨j + 1, by omega, by go_num, by rw [HT.out]; exact R1.out, R2.out, HX9.out⟩
      case measure => simp [intOf]; omega
    · have ej : j = n := by omega
      subst ej
      have hki : ¬ ((j : Int) < (j : Int)) := by omega
      have HTK := Lib.hid (show (inV vw l).take j = inV vw l by rw [← HV.out, List.take_length])
      obtain ⟨hq, hcp⟩ : ∃ hq hcp, u5 = .slice hq j hcp := by
        rcases HO.out.2 with ⟨h1, h2⟩ | ⟨g, cw, cur, h1, _⟩
        · exact ⟨none, 0, by rw [h1, h2]⟩
        · exact ⟨_, _, h1⟩
      obtain ⟨hcp, rfl⟩ := hcp
      go_wp2
      go_ret
      have ho := HO.out
      rw [HTK.out] at ho
      exact ⟨HB.out, _, _, rfl, (Cs.shows_of_owns ho).down (Nat.zero_le _)⟩
end Go.Proofs.YthmababifgaejaaGreatDoor
