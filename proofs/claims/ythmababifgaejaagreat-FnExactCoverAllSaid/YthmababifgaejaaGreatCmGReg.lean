/- A region in whatever order, while something is kept of the worlds (C): what reads the same in all such worlds is taken first; what is left is met one by one. No condition. Proofs as forests: a slice of nodes, each of which bears a slice of nodes. No condition. -/
import Derived.Test.YthmababifgaejaaGreatCmGUn1
import Derived.Test.YthmababifgaejaaGreatCmGCs
namespace Go.Proofs.YthmababifgaejaaGreat
open Go.ChangeShapes Go.WideShapes
/-- a step that gives v and turns nothing: by itself, or by a call that gives v and turns nothing -/
def GivesC (P : Program) (r : Sem Next) (v : Value) (w : World) : Prop :=
  r.run P w = .ok (.value v) w ∨ ∃ f args, r.run P w = .ok (.enter f args) w ∧ Calls P f args w fun e w' => e = .returned v ∧ w = w'
/-- an operation that gives v and turns nothing, in all worlds of which C holds -/
def YieldsC (P : Program) (ops : Array Oper) (C : World → Prop) (o : Oper) (v : Value) (a : Act) : Prop :=
  (Region.wanted o (yielded ops a.tmps) = true ∧ ∀ w, C w → GivesC P (execOp a.eval o) v w) ∨ (Region.wanted o (yielded ops a.tmps) = false ∧ v = undef)
theorem YieldsC.wpOp {P : Program} {ops : Array Oper} {C : World → Prop} {Q : Exit → Act → World → Prop} {i : Nat} {o : Oper} {v : Value} {a : Act} (hi : ops[i]? = some o) (hy : YieldsC P ops C o v a) {K : Act → World → Prop} {w : World} (hC : C w) (h : K (a.put o.dst v) w) : wpOp P ops Q i K a w := by
  unfold Go.wpOp
  simp only [hi]
  rcases hy with ⟨hw, hv⟩ | ⟨hw, rfl⟩
  · simp only [hw, if_true]
    refine .inl ?_
    unfold Oper.wp
    rcases hv w hC with h1 | ⟨f, args, h1, h2⟩
    · simp only [h1, Oper.upon]; exact h
    · simp only [h1, Oper.upon]
      refine Calls.mono h2 fun e w' he => ?_
      obtain ⟨rfl, rfl⟩ := he
      exact h
  · simp only [hw, Bool.false_eq_true, if_false]; exact h
theorem YieldsC.of_same {P : Program} {ops : Array Oper} {C : World → Prop} {o : Oper} {v : Value} {a a' : Act} (hy : YieldsC P ops C o v a) (he : execOp a'.eval o = execOp a.eval o) (hw : Region.wanted o (yielded ops a'.tmps) = Region.wanted o (yielded ops a.tmps)) : YieldsC P ops C o v a' := by
  unfold YieldsC at *
  rw [he, hw]
  exact hy
/-- an operation behind one that gives v gives what it would give ahead of it -/
theorem wpOp_putC {P : Program} {ops : Array Oper} {C : World → Prop} {Q : Exit → Act → World → Prop} {j : Nat} {oi oj : Oper} {v : Value} (hj : ops[j]? = some oj) (hap : oi.apart ops oj = true) (hsi : ∀ cs b, oi.op ≠ .select cs b) (hsj : ∀ cs b, oj.op ≠ .select cs b)
    (hQ : ∀ c a w, Q (.panic c) (a.put oi.dst v) w → Q (.panic c) a w) {K : Act → World → Prop} {a : Act} {w : World} (hy : YieldsC P ops C oi v a) (h : wpOp P ops Q j K (a.put oi.dst v) w) :
    wpOp P ops Q j (fun a' w' => YieldsC P ops C oi v a' ∧ K (a'.put oi.dst v) w') a w := by
  obtain ⟨h1, h2, h3⟩ := Oper.apart_spec hap
  have keep : ∀ (a : Act), YieldsC P ops C oi v a → ∀ u, YieldsC P ops C oi v (a.put oj.dst u) := fun a hy u => hy.of_same (execOp_put oi hsi a oj.dst u h3) (wanted_put oi a oj.dst u h3)
  have keepD : ∀ d, YieldsC P ops C oi v { a with defers := d :: a.defers } := fun d => hy.of_same rfl rfl
  unfold wpOp at *
  simp only [hj] at *
  rw [wanted_put oj a oi.dst v h1] at h
  by_cases hw : Region.wanted oj (yielded ops a.tmps) = true
  · simp only [hw, if_true] at h ⊢
    rcases h with h | ⟨hasks, hlets⟩
    · refine .inl ?_
      unfold Oper.wp at *
      rw [execOp_put oj hsj a oi.dst v h1] at h
      generalize (execOp a.eval oj).run P w = r at *
      cases r with
      | ok n w' =>
        cases n <;> simp only [Oper.upon] at h ⊢
        case value u => exact ⟨keep a hy u, by rw [← Act.put_comm a v u h2]; exact h⟩
        case skip => exact ⟨keep a hy _, by rw [← Act.put_comm a v undef h2]; exact h⟩
        case defer d =>
          refine ⟨keep _ (keepD d) _, ?_⟩
          rw [← Act.put_comm _ v undef h2, ← Act.put_defers]
          exact h
        case enter f args =>
          refine Calls.mono h fun e w'' he => ?_
          cases e with
          | returned u => exact ⟨keep a hy u, by rw [← Act.put_comm a v u h2]; exact he⟩
          | panicked c => exact hQ _ _ _ he
          | outgrown => exact he
        case row row args => exact Rows.mono h fun u w'' he => ⟨keep a hy u, by rw [← Act.put_comm a v u h2]; exact he⟩
      | halt x w' =>
        cases x <;> simp only [Oper.upon] at h ⊢
        case panic u => exact hQ _ _ _ h
    · exact .inr ⟨by unfold Oper.asks at *; rw [execOp_put oj hsj a oi.dst v h1] at hasks; exact hasks, hlets⟩
  · simp only [hw] at h ⊢
    exact ⟨keep a hy _, by rw [← Act.put_comm a v undef h2]; exact h⟩
/-- the region from here on, in whatever order, C kept by each operation -/
def wpAnyC (P : Program) (ops : Array Oper) (C : World → Prop) (Q : Exit → Act → World → Prop) : Nat → Array Bool → Act → World → Prop
  | 0, listed, a, w => Region.ready .any ops listed = [] ∧ Q .normal a w
  | f + 1, listed, a, w => (Region.ready .any ops listed = [] → Q .normal a w) ∧ ∀ i ∈ Region.ready .any ops listed, wpOp P ops Q i (fun a' w' => C w' ∧ wpAnyC P ops C Q f (listed.setIfInBounds i true) a' w') a w
theorem any_of_c {P : Program} {ops : Array Oper} {C : World → Prop} {Q : Exit → Act → World → Prop} : ∀ (f : Nat) (listed : Array Bool) (a : Act) (w : World), wpAnyC P ops C Q f listed a w → wpAny P .any ops Q f listed a w
  | 0, _, _, _, h => h
  | f + 1, _, _, _, h => ⟨h.1, fun i hi => wpOp_mono (fun a' w' h' => any_of_c f _ a' w' h'.2) (h.2 i hi)⟩
theorem first_c {P : Program} {ops : Array Oper} {C : World → Prop} {Q : Exit → Act → World → Prop} {i : Nat} {oi : Oper} {v : Value} (hi : ops[i]? = some oi) (hsel : Region.noSelect ops = true) (hQ : ∀ c a w, Q (.panic c) (a.put oi.dst v) w → Q (.panic c) a w) :
    ∀ (fuel : Nat) (listed : Array Bool) (a : Act) (w : World), C w →
      (∀ j oj, ops[j]? = some oj → j ≠ i → listed.getD j true = false → (∀ e ∈ oj.after, Region.binds .any e = true → e.on ≠ i) → oi.apart ops oj = true) →
      i ∈ Region.ready .any ops listed → YieldsC P ops C oi v a → wpAnyC P ops C Q fuel (listed.setIfInBounds i true) (a.put oi.dst v) w → wpAnyC P ops C Q (fuel + 1) listed a w := by
  have hs := Region.noSelect_spec hsel
  intro fuel
  induction fuel with
  | zero =>
    intro listed a w hC _ hr hy H
    refine ⟨fun h => (by rw [h] at hr; cases hr), fun j hj => ?_⟩
    by_cases hji : j = i
    · subst hji; exact hy.wpOp hi hC ⟨hC, H⟩
    · have := ready_mono hj hji
      rw [H.1] at this
      cases this
  | succ fuel ih =>
    intro listed a w hC hfree hr hy H
    refine ⟨fun h => (by rw [h] at hr; cases hr), fun j hj => ?_⟩
    by_cases hji : j = i
    · subst hji; exact hy.wpOp hi hC ⟨hC, H⟩
    · have h1 := H.2 j (ready_mono hj hji)
      obtain ⟨hjun, oj, hoj, hall⟩ := mem_ready.1 hj
      have hnot : ∀ e ∈ oj.after, Region.binds .any e = true → e.on ≠ i := fun e he hb heq => by
        have h3 := hall e he hb
        rw [heq, getD_both (mem_ready.1 hr).1] at h3
        cases h3
      have h2 := wpOp_putC hoj (hfree j oj hoj hji hjun hnot) (fun cs b => hs i oi cs b hi) (fun cs b => hs j oj cs b hoj) hQ hy h1
      refine wpOp_mono (fun a' w' h3 => ⟨h3.2.1, ih (listed.setIfInBounds j true) a' w' h3.2.1 (fun k ok hk hki hun hno => ?_) (ready_mono hr (Ne.symm hji)) h3.1 ?_⟩) h2
      · refine hfree k ok hk hki ?_ hno
        by_cases hjk : j = k
        · subst hjk; exact hjun
        · rw [getD_set_ne true hjk] at hun; exact hun
      · rw [Array.setIfInBounds_comm _ _ hji]; exact h3.2.2
/-- an operation that reads the same in all such worlds is taken first -/
theorem take_c {P : Program} {ops : Array Oper} {C : World → Prop} {Q : Exit → Act → World → Prop} {i : Nat} {oi : Oper} {v : Value} {fuel : Nat} {listed : Array Bool} {a : Act} {w : World} (hi : ops[i]? = some oi) (hs : Region.noSelect ops = true) (hf : Region.free .any ops listed i = true) (hr : (Region.ready .any ops listed).contains i = true)
    (hQ : ∀ c a w, Q (.panic c) (a.put oi.dst v) w → Q (.panic c) a w) (hC : C w) (hw : Region.wanted oi (yielded ops a.tmps) = true) (hy : ∀ w, C w → (execOp a.eval oi).run P w = .ok (.value v) w) (h : wpAnyC P ops C Q fuel (listed.setIfInBounds i true) (a.put oi.dst v) w) : wpAnyC P ops C Q (fuel + 1) listed a w :=
  first_c hi hs hQ fuel listed a w hC (Region.free_spec hi hf) (by simpa using hr) (.inl ⟨hw, fun w h => .inl (hy w h)⟩) h
/-- a call that gives the same in all such worlds and turns nothing is taken first -/
theorem take_k {P : Program} {ops : Array Oper} {C : World → Prop} {Q : Exit → Act → World → Prop} {i : Nat} {oi : Oper} {v : Value} {fuel : Nat} {listed : Array Bool} {a : Act} {w : World} (hi : ops[i]? = some oi) (hs : Region.noSelect ops = true) (hf : Region.free .any ops listed i = true) (hr : (Region.ready .any ops listed).contains i = true)
    (hQ : ∀ c a w, Q (.panic c) (a.put oi.dst v) w → Q (.panic c) a w) (hC : C w) (hw : Region.wanted oi (yielded ops a.tmps) = true) (hy : ∀ w, C w → ∃ f args, (execOp a.eval oi).run P w = .ok (.enter f args) w ∧ Calls P f args w fun e w' => e = .returned v ∧ w = w') (h : wpAnyC P ops C Q fuel (listed.setIfInBounds i true) (a.put oi.dst v) w) : wpAnyC P ops C Q (fuel + 1) listed a w :=
  first_c hi hs hQ fuel listed a w hC (Region.free_spec hi hf) (by simpa using hr) (.inl ⟨hw, fun w h => .inr (hy w h)⟩) h
/-- one operation alone can come -/
theorem one_c {P : Program} {ops : Array Oper} {C : World → Prop} {Q : Exit → Act → World → Prop} {i : Nat} {fuel : Nat} {listed : Array Bool} {a : Act} {w : World} (hr : Region.ready .any ops listed = [i]) (h : wpOp P ops Q i (fun a' w' => C w' ∧ wpAnyC P ops C Q fuel (listed.setIfInBounds i true) a' w') a w) : wpAnyC P ops C Q (fuel + 1) listed a w :=
  ⟨fun h0 => (by rw [hr] at h0; cases h0), fun j hj => by rw [hr] at hj; obtain rfl := List.mem_singleton.1 hj; exact h⟩
/-- one of two -/
theorem two_c {P : Program} {ops : Array Oper} {C : World → Prop} {Q : Exit → Act → World → Prop} {i k : Nat} {fuel : Nat} {listed : Array Bool} {a : Act} {w : World} (hr : Region.ready .any ops listed = [i, k]) (h : wpOp P ops Q i (fun a' w' => C w' ∧ wpAnyC P ops C Q fuel (listed.setIfInBounds i true) a' w') a w) (h2 : wpOp P ops Q k (fun a' w' => C w' ∧ wpAnyC P ops C Q fuel (listed.setIfInBounds k true) a' w') a w) : wpAnyC P ops C Q (fuel + 1) listed a w :=
  ⟨fun h0 => (by rw [hr] at h0; cases h0), fun j hj => by
    rw [hr] at hj
    rcases List.mem_cons.1 hj with rfl | hj
    · exact h
    · obtain rfl := List.mem_singleton.1 hj; exact h2⟩
theorem done_c {P : Program} {ops : Array Oper} {C : World → Prop} {Q : Exit → Act → World → Prop} {listed : Array Bool} {a : Act} {w : World} (hr : Region.ready .any ops listed = []) (h : Q .normal a w) : ∀ fuel, wpAnyC P ops C Q fuel listed a w
  | 0 => ⟨hr, h⟩
  | _ + 1 => ⟨fun _ => h, by rw [hr]; simp⟩
/-- behind one operation -/
def KPost (K : Act → World → Prop) (Q : Exit → Act → World → Prop) : Exit → Act → World → Prop
  | .normal, a, w => K a w
  | e, a, w => Q e a w
theorem k_out {K : Act → World → Prop} {Q : Exit → Act → World → Prop} (e : Exit) (a : Act) (w : World) (h : e ≠ .normal) (hq : KPost K Q e a w) : Q e a w := by
  cases e <;> first | exact absurd rfl h | exact hq
/-- one operation, walked as a list of one -/
theorem op_list {P : Program} {ops : Array Oper} {Q : Exit → Act → World → Prop} {i : Nat} {o : Oper} {K : Act → World → Prop} {a : Act} {w : World} (hi : ops[i]? = some o) (h : wpList P ops (KPost K Q) [o] a w) : wpOp P ops Q i K a w := by
  unfold wpOp
  simp only [hi]
  unfold wpList at h
  split at h
  · rename_i hwt
    rw [if_pos hwt]
    rcases h with h | ⟨h1, h2⟩
    · exact .inl (wp_post k_out h)
    · exact .inr ⟨h1, lets_post k_out h2⟩
  · rename_i hwt
    rw [if_neg hwt]; exact h
theorem region_c {P : Program} {ops : Array Oper} (C : World → Prop) {id : Nat} {Q : Exit → Act → World → Prop} {a : Act} {w : World} (hm : P.follows .mixedOrders = true) (h : wpAnyC P ops C Q ops.size (Array.replicate ops.size false) a w.drew) : (Code.region id ops true).wp P Q a w :=
  wp_region_any hm (any_of_c _ _ _ _ h)
/-- none of some operations is listed yet -/
def noneYet (S : List Nat) (listed : Array Bool) : Bool := S.all fun k => !listed.getD k true
/-- each of some operations stands behind one -/
def behindB (ops : Array Oper) (S : List Nat) (i : Nat) : Bool := S.all fun k => match ops[k]? with | some o => o.after.any fun e => Region.binds .any e && e.on == i | none => false
theorem noneYet_set {S : List Nat} {listed : Array Bool} {j : Nat} (h : noneYet S listed = true) (hj : j ∉ S) : noneYet S (listed.setIfInBounds j true) = true := by
  unfold noneYet at *
  rw [List.all_eq_true] at *
  intro k hk
  have := h k hk
  rw [getD_set_ne true (show j ≠ k from fun e => hj (by rw [e]; exact hk))]
  exact this
theorem behind_not {ops : Array Oper} {S : List Nat} {i : Nat} {listed : Array Bool} (hb : behindB ops S i = true) (hi : listed.getD i false = false) {j : Nat} (hj : j ∈ Region.ready .any ops listed) : j ∉ S := fun hS => by
  unfold behindB at hb
  rw [List.all_eq_true] at hb
  have h := hb j hS
  obtain ⟨_, oj, hoj, hall⟩ := mem_ready.1 hj
  rw [hoj] at h
  simp only [Array.any_eq_true', Bool.and_eq_true, beq_iff_eq] at h
  obtain ⟨e, he, h1, h2⟩ := h
  have h3 := hall e he h1
  rw [h2, hi] at h3
  cases h3
/-- the region from here on, in whatever order, C kept by each operation until one of S comes -/
def wpAnyS (P : Program) (ops : Array Oper) (S : List Nat) (C : World → Prop) (Q : Exit → Act → World → Prop) : Nat → Array Bool → Act → World → Prop
  | 0, listed, a, w => Region.ready .any ops listed = [] ∧ Q .normal a w
  | f + 1, listed, a, w => (Region.ready .any ops listed = [] → Q .normal a w) ∧ ∀ i ∈ Region.ready .any ops listed, wpOp P ops Q i (fun a' w' => (noneYet S (listed.setIfInBounds i true) = true → C w') ∧ wpAnyS P ops S C Q f (listed.setIfInBounds i true) a' w') a w
theorem any_of_s {P : Program} {ops : Array Oper} {S : List Nat} {C : World → Prop} {Q : Exit → Act → World → Prop} : ∀ (f : Nat) (listed : Array Bool) (a : Act) (w : World), wpAnyS P ops S C Q f listed a w → wpAny P .any ops Q f listed a w
  | 0, _, _, _, h => h
  | f + 1, _, _, _, h => ⟨h.1, fun i hi => wpOp_mono (fun a' w' h' => any_of_s f _ a' w' h'.2) (h.2 i hi)⟩
theorem first_s {P : Program} {ops : Array Oper} {S : List Nat} {C : World → Prop} {Q : Exit → Act → World → Prop} {i : Nat} {oi : Oper} {v : Value} (hi : ops[i]? = some oi) (hsel : Region.noSelect ops = true) (hbe : behindB ops S i = true) (hQ : ∀ c a w, Q (.panic c) (a.put oi.dst v) w → Q (.panic c) a w) :
    ∀ (fuel : Nat) (listed : Array Bool) (a : Act) (w : World), C w → noneYet S listed = true →
      (∀ j oj, ops[j]? = some oj → j ≠ i → listed.getD j true = false → (∀ e ∈ oj.after, Region.binds .any e = true → e.on ≠ i) → oi.apart ops oj = true) →
      i ∈ Region.ready .any ops listed → YieldsC P ops C oi v a → wpAnyS P ops S C Q fuel (listed.setIfInBounds i true) (a.put oi.dst v) w → wpAnyS P ops S C Q (fuel + 1) listed a w := by
  have hs := Region.noSelect_spec hsel
  intro fuel
  induction fuel with
  | zero =>
    intro listed a w hC _ _ hr hy H
    refine ⟨fun h => (by rw [h] at hr; cases hr), fun j hj => ?_⟩
    by_cases hji : j = i
    · subst hji; exact hy.wpOp hi hC ⟨fun _ => hC, H⟩
    · have := ready_mono hj hji
      rw [H.1] at this
      cases this
  | succ fuel ih =>
    intro listed a w hC hN hfree hr hy H
    refine ⟨fun h => (by rw [h] at hr; cases hr), fun j hj => ?_⟩
    by_cases hji : j = i
    · subst hji; exact hy.wpOp hi hC ⟨fun _ => hC, H⟩
    · have h1 := H.2 j (ready_mono hj hji)
      have hiS := behind_not hbe (getD_both (mem_ready.1 hr).1) hr
      have hjS := behind_not hbe (getD_both (mem_ready.1 hr).1) hj
      obtain ⟨hjun, oj, hoj, hall⟩ := mem_ready.1 hj
      have hnot : ∀ e ∈ oj.after, Region.binds .any e = true → e.on ≠ i := fun e he hb heq => by
        have h3 := hall e he hb
        rw [heq, getD_both (mem_ready.1 hr).1] at h3
        cases h3
      have h2 := wpOp_putC hoj (hfree j oj hoj hji hjun hnot) (fun cs b => hs i oi cs b hi) (fun cs b => hs j oj cs b hoj) hQ hy h1
      refine wpOp_mono (fun a' w' h3 => ?_) h2
      have hC' := h3.2.1 (noneYet_set (noneYet_set hN hiS) hjS)
      refine ⟨fun _ => hC', ih (listed.setIfInBounds j true) a' w' hC' (noneYet_set hN hjS) (fun k ok hk hki hun hno => ?_) (ready_mono hr (Ne.symm hji)) h3.1 ?_⟩
      · refine hfree k ok hk hki ?_ hno
        by_cases hjk : j = k
        · subst hjk; exact hjun
        · rw [getD_set_ne true hjk] at hun; exact hun
      · rw [Array.setIfInBounds_comm _ _ hji]; exact h3.2.2
/-- an operation that reads the same in all such worlds is taken first -/
theorem take_s {P : Program} {ops : Array Oper} {S : List Nat} {C : World → Prop} {Q : Exit → Act → World → Prop} {i : Nat} {oi : Oper} {v : Value} {fuel : Nat} {listed : Array Bool} {a : Act} {w : World} (hi : ops[i]? = some oi) (hc : (Region.noSelect ops && (behindB ops S i && (noneYet S listed && (Region.free .any ops listed i && (Region.ready .any ops listed).contains i)))) = true)
    (hQ : ∀ c a w, Q (.panic c) (a.put oi.dst v) w → Q (.panic c) a w) (hC : C w) (hw : Region.wanted oi (yielded ops a.tmps) = true) (hy : ∀ w, C w → (execOp a.eval oi).run P w = .ok (.value v) w) (h : wpAnyS P ops S C Q fuel (listed.setIfInBounds i true) (a.put oi.dst v) w) : wpAnyS P ops S C Q (fuel + 1) listed a w := by
  simp only [Bool.and_eq_true] at hc
  obtain ⟨hs, hb, hn, hf, hr⟩ := hc
  exact first_s hi hs hb hQ fuel listed a w hC hn (Region.free_spec hi hf) (by simpa using hr) (.inl ⟨hw, fun w h => .inl (hy w h)⟩) h
/-- a call that gives the same in all such worlds and turns nothing is taken first -/
theorem take_sk {P : Program} {ops : Array Oper} {S : List Nat} {C : World → Prop} {Q : Exit → Act → World → Prop} {i : Nat} {oi : Oper} {v : Value} {fuel : Nat} {listed : Array Bool} {a : Act} {w : World} (hi : ops[i]? = some oi) (hc : (Region.noSelect ops && (behindB ops S i && (noneYet S listed && (Region.free .any ops listed i && (Region.ready .any ops listed).contains i)))) = true)
    (hQ : ∀ c a w, Q (.panic c) (a.put oi.dst v) w → Q (.panic c) a w) (hC : C w) (hw : Region.wanted oi (yielded ops a.tmps) = true) (hy : ∀ w, C w → ∃ f args, (execOp a.eval oi).run P w = .ok (.enter f args) w ∧ Calls P f args w fun e w' => e = .returned v ∧ w = w') (h : wpAnyS P ops S C Q fuel (listed.setIfInBounds i true) (a.put oi.dst v) w) : wpAnyS P ops S C Q (fuel + 1) listed a w := by
  simp only [Bool.and_eq_true] at hc
  obtain ⟨hs, hb, hn, hf, hr⟩ := hc
  exact first_s hi hs hb hQ fuel listed a w hC hn (Region.free_spec hi hf) (by simpa using hr) (.inl ⟨hw, fun w h => .inr (hy w h)⟩) h
theorem noneYet_skip {S : List Nat} {listed : Array Bool} {i : Nat} (h : noneYet S listed = true) (hi : S.contains i = false) : noneYet S (listed.setIfInBounds i true) = true := noneYet_set h (fun h' => by rw [List.contains_iff_mem.2 h'] at hi; cases hi)
theorem noneYet_undo {S : List Nat} {listed : Array Bool} {i : Nat} (hi : S.contains i = false) (h : noneYet S (listed.setIfInBounds i true) = true) : noneYet S listed = true := by
  unfold noneYet at *
  rw [List.all_eq_true] at *
  intro k hk
  have := h k hk
  rw [getD_set_ne true (show i ≠ k from fun e => by rw [List.contains_iff_mem.2 (by rw [e]; exact hk)] at hi; cases hi)] at this
  exact this
theorem first_p {P : Program} {ops : Array Oper} {S : List Nat} {C : World → Prop} {Q : Exit → Act → World → Prop} {i : Nat} {oi : Oper} {v : Value} (hi : ops[i]? = some oi) (hsel : Region.noSelect ops = true) (hiS : S.contains i = false) (hQ : ∀ c a w, Q (.panic c) (a.put oi.dst v) w → Q (.panic c) a w) :
    ∀ (fuel : Nat) (listed : Array Bool) (a : Act) (w : World), (noneYet S listed = true → C w) →
      (∀ j oj, ops[j]? = some oj → j ≠ i → listed.getD j true = false → (∀ e ∈ oj.after, Region.binds .any e = true → e.on ≠ i) → oi.apart ops oj = true) →
      i ∈ Region.ready .any ops listed → YieldsC P ops (fun _ => True) oi v a → wpAnyS P ops S C Q fuel (listed.setIfInBounds i true) (a.put oi.dst v) w → wpAnyS P ops S C Q (fuel + 1) listed a w := by
  have hs := Region.noSelect_spec hsel
  intro fuel
  induction fuel with
  | zero =>
    intro listed a w hC _ hr hy H
    refine ⟨fun h => (by rw [h] at hr; cases hr), fun j hj => ?_⟩
    by_cases hji : j = i
    · subst hji; exact hy.wpOp hi trivial ⟨fun h => hC (noneYet_undo hiS h), H⟩
    · have := ready_mono hj hji
      rw [H.1] at this
      cases this
  | succ fuel ih =>
    intro listed a w hC hfree hr hy H
    refine ⟨fun h => (by rw [h] at hr; cases hr), fun j hj => ?_⟩
    by_cases hji : j = i
    · subst hji; exact hy.wpOp hi trivial ⟨fun h => hC (noneYet_undo hiS h), H⟩
    · have h1 := H.2 j (ready_mono hj hji)
      obtain ⟨hjun, oj, hoj, hall⟩ := mem_ready.1 hj
      have hnot : ∀ e ∈ oj.after, Region.binds .any e = true → e.on ≠ i := fun e he hb heq => by
        have h3 := hall e he hb
        rw [heq, getD_both (mem_ready.1 hr).1] at h3
        cases h3
      have h2 := wpOp_putC hoj (hfree j oj hoj hji hjun hnot) (fun cs b => hs i oi cs b hi) (fun cs b => hs j oj cs b hoj) hQ hy h1
      refine wpOp_mono (fun a' w' h3 => ?_) h2
      have hC' : noneYet S (listed.setIfInBounds j true) = true → C w' := fun h => h3.2.1 (by rw [Array.setIfInBounds_comm _ _ (Ne.symm hji)]; exact noneYet_skip h hiS)
      refine ⟨hC', ih (listed.setIfInBounds j true) a' w' hC' (fun k ok hk hki hun hno => ?_) (ready_mono hr (Ne.symm hji)) h3.1 ?_⟩
      · refine hfree k ok hk hki ?_ hno
        by_cases hjk : j = k
        · subst hjk; exact hjun
        · rw [getD_set_ne true hjk] at hun; exact hun
      · rw [Array.setIfInBounds_comm _ _ hji]; exact h3.2.2
/-- an operation that gives the same in whatever world is taken first -/
theorem take_p {P : Program} {ops : Array Oper} {S : List Nat} {C : World → Prop} {Q : Exit → Act → World → Prop} {i : Nat} {oi : Oper} {v : Value} {fuel : Nat} {listed : Array Bool} {a : Act} {w : World} (hi : ops[i]? = some oi) (hc : (Region.noSelect ops && (!S.contains i && (Region.free .any ops listed i && (Region.ready .any ops listed).contains i))) = true)
    (hQ : ∀ c a w, Q (.panic c) (a.put oi.dst v) w → Q (.panic c) a w) (hC : C w) (hw : Region.wanted oi (yielded ops a.tmps) = true) (hy : ∀ w, (execOp a.eval oi).run P w = .ok (.value v) w) (h : wpAnyS P ops S C Q fuel (listed.setIfInBounds i true) (a.put oi.dst v) w) : wpAnyS P ops S C Q (fuel + 1) listed a w := by
  simp only [Bool.and_eq_true, Bool.not_eq_true'] at hc
  obtain ⟨hs, hn, hf, hr⟩ := hc
  exact first_p hi hs hn hQ fuel listed a w (fun _ => hC) (Region.free_spec hi hf) (by simpa using hr) (.inl ⟨hw, fun w _ => .inl (hy w)⟩) h
/-- one operation alone can come -/
theorem one_s {P : Program} {ops : Array Oper} {S : List Nat} {C : World → Prop} {Q : Exit → Act → World → Prop} {i : Nat} {fuel : Nat} {listed : Array Bool} {a : Act} {w : World} (hr : Region.ready .any ops listed = [i]) (h : wpOp P ops Q i (fun a' w' => (noneYet S (listed.setIfInBounds i true) = true → C w') ∧ wpAnyS P ops S C Q fuel (listed.setIfInBounds i true) a' w') a w) : wpAnyS P ops S C Q (fuel + 1) listed a w :=
  ⟨fun h0 => (by rw [hr] at h0; cases h0), fun j hj => by rw [hr] at hj; obtain rfl := List.mem_singleton.1 hj; exact h⟩
/-- one of two -/
theorem two_s {P : Program} {ops : Array Oper} {S : List Nat} {C : World → Prop} {Q : Exit → Act → World → Prop} {i k : Nat} {fuel : Nat} {listed : Array Bool} {a : Act} {w : World} (hr : Region.ready .any ops listed = [i, k]) (h : wpOp P ops Q i (fun a' w' => (noneYet S (listed.setIfInBounds i true) = true → C w') ∧ wpAnyS P ops S C Q fuel (listed.setIfInBounds i true) a' w') a w) (h2 : wpOp P ops Q k (fun a' w' => (noneYet S (listed.setIfInBounds k true) = true → C w') ∧ wpAnyS P ops S C Q fuel (listed.setIfInBounds k true) a' w') a w) : wpAnyS P ops S C Q (fuel + 1) listed a w :=
  ⟨fun h0 => (by rw [hr] at h0; cases h0), fun j hj => by
    rw [hr] at hj
    rcases List.mem_cons.1 hj with rfl | hj
    · exact h
    · obtain rfl := List.mem_singleton.1 hj; exact h2⟩
theorem done_s {P : Program} {ops : Array Oper} {S : List Nat} {C : World → Prop} {Q : Exit → Act → World → Prop} {listed : Array Bool} {a : Act} {w : World} (hr : Region.ready .any ops listed = []) (h : Q .normal a w) : ∀ fuel, wpAnyS P ops S C Q fuel listed a w
  | 0 => ⟨hr, h⟩
  | _ + 1 => ⟨fun _ => h, by rw [hr]; simp⟩
theorem late_s {b : Bool} (hb : b = false) {p : Prop} : b = true → p := fun h => by rw [hb] at h; cases h
theorem region_s {P : Program} {ops : Array Oper} (S : List Nat) (C : World → Prop) {id : Nat} {Q : Exit → Act → World → Prop} {a : Act} {w : World} (hm : P.follows .mixedOrders = true) (h : wpAnyS P ops S C Q ops.size (Array.replicate ops.size false) a w.drew) : (Code.region id ops true).wp P Q a w :=
  wp_region_any hm (any_of_s _ _ _ _ h)
end Go.Proofs.YthmababifgaejaaGreat
namespace Go.Proofs.YthmababifgaejaaGreat
open Go.ChangeShapes Go.WideShapes Go.RowKit
/-- a list of nodes: each one's number and kids, and what stands behind it -/
inductive Pf where
  | nil
  | cons (vr : Int) (k r : Pf)
namespace Pf
def len : Pf → Nat
  | .nil => 0
  | .cons _ _ r => r.len + 1
/-- numbers are ints, names are strings, all the way down -/
def Ok : Pf → Prop
  | .nil => True
  | .cons vr k r => (-9223372036854775808 ≤ vr ∧ vr ≤ 9223372036854775807) ∧ k.len ≤ maxLen ∧ k.Ok ∧ r.Ok
def OneOk (vr : Int) (k : Pf) : Prop := (-9223372036854775808 ≤ vr ∧ vr ≤ 9223372036854775807) ∧ k.len ≤ maxLen ∧ k.Ok
/-- the cells of the nodes -/
def cs (T : TypeId) : Pf → Cs
  | .nil => .nil
  | .cons vr k r => .val (.int .i64 vr) (.sl T 2 k.len (k.cs T) (r.cs T))
/-- the cells of one node -/
def one (T : TypeId) (vr : Int) (k : Pf) : Cs := .val (.int .i64 vr) (.sl T 2 k.len (k.cs T) .nil)
/-- what a budget pays for: a slice's nodes, the bytes of their names, and so on down -/
def cost : Pf → Nat
  | .nil => 0
  | .cons _ k r => 1 + k.cost + r.cost
/-- .. of the nodes of a slice without the nodes themselves -/
def rest : Pf → Nat
  | .nil => 0
  | .cons _ k r => k.cost + r.rest
theorem cost_eq : ∀ F : Pf, F.cost = F.len + F.rest
  | .nil => rfl
  | .cons _ _ r => by simp only [cost, len, rest, cost_eq r]; omega
/-- how many nodes there are, all the way down -/
def nodes : Pf → Nat
  | .nil => 0
  | .cons _ k r => 1 + k.nodes + r.nodes
theorem nodes_le : ∀ F : Pf, F.nodes ≤ F.cost
  | .nil => Nat.le_refl _
  | .cons _ k r => by have := nodes_le k; have := nodes_le r; simp only [nodes, cost]; omega
theorem len_le : ∀ F : Pf, F.len ≤ F.nodes
  | .nil => Nat.le_refl _
  | .cons _ k r => by have := len_le r; simp only [nodes, len]; omega
/-- the nodes, without those at the head of which they stand -/
def deep : Pf → Nat
  | .nil => 0
  | .cons _ k r => k.nodes + r.deep
theorem nodes_eq : ∀ F : Pf, F.nodes = F.len + F.deep
  | .nil => rfl
  | .cons _ _ r => by simp only [nodes, len, deep, nodes_eq r]; omega
def app : Pf → Pf → Pf
  | .nil, G => G
  | .cons vr k r, G => .cons vr k (r.app G)
def take : Pf → Nat → Pf
  | .nil, _ => .nil
  | .cons _ _ _, 0 => .nil
  | .cons vr k r, j + 1 => .cons vr k (r.take j)
def drop : Pf → Nat → Pf
  | F, 0 => F
  | .nil, _ + 1 => .nil
  | .cons _ _ r, j + 1 => r.drop j
/-- the node at an index -/
def At : Pf → Nat → Int → Pf → Prop
  | .nil, _, _, _ => False
  | .cons vr k _, 0, vr', k' => vr' = vr ∧ k' = k
  | .cons _ _ r, j + 1, vr', k' => r.At j vr' k'
theorem at_some : ∀ (F : Pf) (j : Nat), j < F.len → ∃ vr k, F.At j vr k
  | .nil, _, h => absurd h (Nat.not_lt_zero _)
  | .cons vr k _, 0, _ => ⟨vr, k, rfl, rfl⟩
  | .cons _ _ r, j + 1, h => at_some r j (by simp only [len] at h; omega)
theorem at_fun : ∀ (F : Pf) (j : Nat) {vr vr' : Int} {k k' : Pf}, F.At j vr k → F.At j vr' k' → vr = vr' ∧ k = k'
  | .nil, _, _, _, _, _, h, _ => h.elim
  | .cons _ _ _, 0, _, _, _, _, ⟨rfl, rfl⟩, ⟨rfl, rfl⟩ => ⟨rfl, rfl⟩
  | .cons _ _ r, j + 1, _, _, _, _, h, h' => at_fun r j h h'
theorem at_lt : ∀ (F : Pf) (j : Nat) {vr : Int} {k : Pf}, F.At j vr k → j < F.len
  | .nil, _, _, _, h => h.elim
  | .cons _ _ _, 0, _, _, _ => by simp only [len]; omega
  | .cons _ _ r, j + 1, _, _, h => by have := at_lt r j h; simp only [len]; omega
theorem at_ok : ∀ (F : Pf) (j : Nat) {vr : Int} {k : Pf}, F.At j vr k → F.Ok → OneOk vr k
  | .nil, _, _, _, h, _ => h.elim
  | .cons _ _ _, 0, _, _, ⟨rfl, rfl⟩, h => ⟨h.1, h.2.1, h.2.2.1⟩
  | .cons _ _ r, j + 1, _, _, h, hk => at_ok r j h hk.2.2.2
/-- what holds of the kids of all nodes -/
def AllK (p : Pf → Prop) : Pf → Prop
  | .nil => True
  | .cons _ k r => p k ∧ r.AllK p
theorem at_allK {p : Pf → Prop} : ∀ (F : Pf) (j : Nat) {vr : Int} {k : Pf}, F.At j vr k → F.AllK p → p k
  | .nil, _, _, _, h, _ => h.elim
  | .cons _ _ _, 0, _, _, ⟨_, rfl⟩, h => h.1
  | .cons _ _ r, j + 1, _, _, h, hk => at_allK r j h hk.2
/-- what holds of a slice's nodes if it holds of their kids, holds of all slices of nodes -/
theorem every {p : Pf → Prop} (h : ∀ F : Pf, F.AllK p → p F) : ∀ F : Pf, p F := by
  have key : ∀ F : Pf, F.AllK p := by
    intro F
    induction F with
    | nil => trivial
    | cons _ k r ihk ihr => exact ⟨h k ihk, ihr⟩
  exact fun F => h F (key F)
/-- the cost of the first j nodes of a slice, without those nodes themselves -/
def paid : Pf → Nat → Nat
  | .nil, _ => 0
  | .cons _ _ _, 0 => 0
  | .cons _ k r, j + 1 => k.cost + r.paid j
theorem paid_all : ∀ F : Pf, F.paid F.len = F.rest
  | .nil => rfl
  | .cons _ _ r => by simp only [len, paid, rest, paid_all r]
theorem paid_zero : ∀ F : Pf, F.paid 0 = 0
  | .nil => rfl
  | .cons _ _ _ => rfl
theorem at_paid : ∀ (F : Pf) (j : Nat) {vr : Int} {k : Pf}, F.At j vr k → F.paid (j + 1) = F.paid j + (k.cost) ∧ F.paid (j + 1) ≤ F.rest
  | .nil, _, _, _, h => h.elim
  | .cons _ _ r, 0, _, _, ⟨rfl, rfl⟩ => by simp only [paid, rest, paid_zero]; omega
  | .cons _ _ r, j + 1, _, _, h => by
    have := at_paid r j h
    simp only [paid, rest] at this ⊢; omega
theorem at_nodes : ∀ (F : Pf) (j : Nat) {vr : Int} {k : Pf}, F.At j vr k → (F.drop j).nodes = 1 + k.nodes + (F.drop (j + 1)).nodes ∧ k.nodes < F.nodes
  | .nil, _, _, _, h => h.elim
  | .cons _ _ r, 0, _, _, ⟨rfl, rfl⟩ => ⟨by cases r <;> rfl, by simp only [nodes]; omega⟩
  | .cons _ _ r, j + 1, _, _, h => by
    have := at_nodes r j h
    exact ⟨this.1, by simp only [nodes]; omega⟩
theorem at_deep : ∀ (F : Pf) (j : Nat) {vr : Int} {k : Pf}, F.At j vr k → (F.drop j).deep = k.nodes + (F.drop (j + 1)).deep
  | .nil, _, _, _, h => h.elim
  | .cons vr k r, 0, _, _, ⟨rfl, rfl⟩ => by show k.nodes + r.deep = k.nodes + (r.drop 0).deep; cases r <;> rfl
  | .cons _ _ r, j + 1, _, _, h => at_deep r j h
theorem take_at : ∀ (F : Pf) (j : Nat) {vr : Int} {k : Pf}, F.At j vr k → F.take (j + 1) = (F.take j).app (.cons vr k .nil)
  | .nil, _, _, _, h => h.elim
  | .cons _ _ r, 0, _, _, ⟨rfl, rfl⟩ => by cases r <;> rfl
  | .cons _ _ r, j + 1, _, _, h => by
    show Pf.cons _ _ (r.take (j + 1)) = Pf.cons _ _ ((r.take j).app _)
    rw [take_at r j h]
theorem drop_at : ∀ (F : Pf) (j : Nat) {vr : Int} {k : Pf}, F.At j vr k → F.drop j = .cons vr k (F.drop (j + 1))
  | .nil, _, _, _, h => h.elim
  | .cons _ _ r, 0, _, _, ⟨rfl, rfl⟩ => by cases r <;> rfl
  | .cons _ _ r, j + 1, _, _, h => drop_at r j h
/-- a stack of slices of nodes -/
def stk (T : TypeId) : List Pf → Cs
  | [] => .nil
  | F :: L => .sl T 2 F.len (F.cs T) (stk T L)
def total : List Pf → Nat
  | [] => 0
  | F :: L => F.nodes + total L
theorem stk_app (T : TypeId) : ∀ L M : List Pf, stk T (L ++ M) = (stk T L).app (stk T M)
  | [], _ => rfl
  | F :: L, M => by rw [List.cons_append, stk, stk, Cs.app, stk_app T L M]
theorem stk_len (T : TypeId) : ∀ L : List Pf, (stk T L).len = L.length
  | [] => rfl
  | F :: L => by rw [stk, Cs.len, stk_len T L]; rfl
theorem total_app : ∀ L M : List Pf, total (L ++ M) = total L + total M
  | [], M => by simp [total]
  | F :: L, M => by rw [List.cons_append, total, total, total_app L M]; omega
theorem drop_all : ∀ F : Pf, F.drop F.len = .nil
  | .nil => rfl
  | .cons _ _ r => drop_all r
theorem drop_zero : ∀ F : Pf, F.drop 0 = F
  | .nil => rfl
  | .cons _ _ _ => rfl
theorem take_all : ∀ F : Pf, F.take F.len = F
  | .nil => rfl
  | .cons _ _ r => by simp only [len, take, take_all r]
theorem take_zero : ∀ F : Pf, F.take 0 = .nil
  | .nil => rfl
  | .cons _ _ _ => rfl
theorem len_app : ∀ F G : Pf, (F.app G).len = F.len + G.len
  | .nil, G => by simp [app, len]
  | .cons _ _ r, G => by simp only [app, len, len_app r G]; omega
theorem len_take : ∀ (F : Pf) (j : Nat), j ≤ F.len → (F.take j).len = j
  | .nil, j, h => by simp only [len] at h; simp [take, len]; omega
  | .cons _ _ _, 0, _ => rfl
  | .cons _ _ r, j + 1, h => by simp only [take, len]; rw [len_take r j (by simp only [len] at h; omega)]
theorem cs_app (T : TypeId) : ∀ F G : Pf, (F.app G).cs T = (F.cs T).app (G.cs T)
  | .nil, _ => rfl
  | .cons _ _ r, G => by simp only [app, cs, Cs.app, cs_app T r G]
theorem cs_len (T : TypeId) : ∀ F : Pf, (F.cs T).len = F.len * 2
  | .nil => rfl
  | .cons _ _ r => by simp only [cs, Cs.len, len, cs_len T r]; omega
theorem cs_cons (T : TypeId) (vr : Int) (k r : Pf) : (Pf.cons vr k r).cs T = (one T vr k).app (r.cs T) := rfl
/-- the cells of the node at an index -/
theorem at_vs {w : World} {base : Nat} {T : TypeId} : ∀ (F : Pf) (j : Nat) {vr : Int} {k : Pf} {xs : List Value}, F.At j vr k → (F.cs T).Vs w base xs →
    ∃ v, xs[j * 2]? = some (.int .i64 vr) ∧ xs[j * 2 + 1]? = some v ∧ (k.cs T).Is w base 2 k.len v
  | .nil, _, _, _, _, h, _ => h.elim
  | .cons _ _ _, 0, _, _, _, ⟨rfl, rfl⟩, ⟨_, rfl, v, _, ys, rfl, h1, h2, _⟩ => ⟨v, rfl, rfl, ys, h1, h2⟩
  | .cons _ _ r, j + 1, _, _, _, h, ⟨_, rfl, _, xs', _, rfl, _, _, h3⟩ => by
    obtain ⟨v, e0, e1, e5⟩ := at_vs r j h h3
    refine ⟨v, ?_, ?_, e5⟩
    · rw [show (j + 1) * 2 = j * 2 + 1 + 1 by omega]; exact e0
    · rw [show (j + 1) * 2 + 1 = j * 2 + 1 + 1 + 1 by omega]; exact e1
/-- .. where the cells lie -/
theorem nth {w : World} {base b o : Nat} {T : TypeId} (F : Pf) {ys : List Value} (hv : (F.cs T).Vs w base ys) (hr : w.rangeAt b o ys) (j : Nat) (hj : j < F.len) :
    ∃ vr k v, F.At j vr k ∧ (k.cs T).Is w base 2 k.len v ∧ w.rangeAt b (o + j * 2) [.int .i64 vr, v] := by
  obtain ⟨vr, k, hat⟩ := at_some F j hj
  obtain ⟨v, e0, e1, e5⟩ := at_vs F j hat hv
  refine ⟨vr, k, v, hat, e5, fun i u hu => ?_⟩
  match i, hu with
  | 0, hu => cases hu; exact hr _ _ e0
  | 1, hu => cases hu; exact hr _ _ e1
  | i + 2, hu => simp at hu
/-- a slice of nodes: nil or empty, or it lies somewhere -/
theorem is_cases {w : World} {base : Nat} {T : TypeId} {F : Pf} {v : Value} (h : (F.cs T).Is w base 2 F.len v) : (F.len = 0 ∧ ∃ q cap, v = .slice q 0 cap) ∨ (0 < F.len ∧ ∃ b o cap ys, v = .slice (some ⟨b, o, none⟩) F.len cap ∧ F.len ≤ cap ∧ cap ≤ maxLen ∧ base ≤ b ∧ b < w.heap.size ∧ (F.cs T).Vs w base ys ∧ w.rangeAt b o ys) := by
  obtain ⟨ys, ⟨hl, q, cap, rfl, h1, h2, h3, h4⟩, hv⟩ := h
  by_cases h0 : F.len = 0
  · exact .inl ⟨h0, q, cap, by rw [h0]⟩
  · right
    refine ⟨by omega, ?_⟩
    cases q with
    | none => have := h3 rfl; omega
    | some a =>
      obtain ⟨b, o, sp⟩ := a
      obtain ⟨g1, g2, g3⟩ := h4 _ rfl
      have hsp : sp = none := g2 (by intro e; rw [e] at hl; simp at hl; omega)
      subst hsp
      obtain ⟨_, _, _, _, _, hr⟩ := nth F hv g3 0 (by omega)
      exact ⟨b, o, cap, ys, rfl, h1, h2, g1, World.block_lt_of_cell? w _ (hr 0 _ rfl), hv, g3⟩
theorem one_vs {w : World} {base : Nat} {T : TypeId} {vr : Int} {k : Pf} {xs : List Value} (h : (one T vr k).Vs w base xs) : ∃ v, xs = [.int .i64 vr, v] ∧ (k.cs T).Is w base 2 k.len v := by
  obtain ⟨_, rfl, v, _, ys, rfl, h1, h2, rfl⟩ := h
  exact ⟨v, rfl, ys, h1, h2⟩
theorem own_one {w : World} {base : Nat} {T : TypeId} {vr : Int} {k : Pf} {v : Value} {bs : List Nat} (h : (k.cs T).Has w base T 2 k.len v bs) : (one T vr k).Own w base [.int .i64 vr, v] bs := by
  obtain ⟨ys, b1, h1, h2, rfl⟩ := h
  exact ⟨_, rfl, v, _, ys, b1, [], rfl, h1, h2, ⟨rfl, rfl⟩, by simp⟩
theorem one_own {w : World} {base : Nat} {T : TypeId} {vr : Int} {k : Pf} {xs : List Value} {bs : List Nat} (h : (one T vr k).Own w base xs bs) : ∃ v, xs = [.int .i64 vr, v] ∧ (k.cs T).Has w base T 2 k.len v bs := by
  obtain ⟨_, rfl, v, _, ys, b1, b2, rfl, h1, h2, ⟨rfl, rfl⟩, rfl⟩ := h
  exact ⟨v, rfl, ys, b1, h1, h2, by simp⟩
section
variable {P : Program} {tS tT : TypeId} {f0 f4 : Field}
theorem open_both (hS : P.underlying tS = some (.slice tT)) (hT : P.underlying tT = some (.struct #[f0, f4])) (hC : P.cellsOf tT = 2)
    (h0 : P.underlying f0.type = some (.int .i64)) (h4 : f4.type = tS) :
    ∀ (m : Nat), (∀ C, Cs.Ty P m tS C → ∃ F : Pf, C = .sl tT 2 F.len (F.cs tT) .nil ∧ F.Ok ∧ F.len ≤ maxLen) ∧ (∀ C, Cs.Ty P m tT C → ∃ vr k, C = one tT vr k ∧ OneOk vr k) := by
  intro m
  induction m with
  | zero => exact ⟨fun C h => h.elim, fun C h => h.elim⟩
  | succ m ih =>
    constructor
    · intro C h
      unfold Cs.Ty at h
      rw [hS] at h
      dsimp only at h
      rw [hC] at h
      obtain ⟨n, k, rfl, hn, hr⟩ := h
      have key : ∀ (n : Nat) (k : Cs), Cs.Rows (Cs.Ty P m tT) n k → ∃ F : Pf, F.len = n ∧ k = F.cs tT ∧ F.Ok := by
        intro n
        induction n with
        | zero => rintro k rfl; exact ⟨.nil, rfl, rfl, trivial⟩
        | succ n ihn =>
          rintro k ⟨c, r, rfl, hc, hr⟩
          obtain ⟨vr, kk, rfl, hok⟩ := ih.2 _ hc
          obtain ⟨F, rfl, rfl, hF⟩ := ihn _ hr
          exact ⟨.cons vr kk F, rfl, rfl, hok.1, hok.2.1, hok.2.2, hF⟩
      obtain ⟨F, rfl, rfl, hF⟩ := key n k hr
      exact ⟨F, rfl, hF, hn⟩
    · intro C h
      unfold Cs.Ty at h
      rw [hT] at h
      simp only [List.map, Cs.Fields] at h
      obtain ⟨c0, _, rfl, g0, c4, _, rfl, g4, rfl⟩ := h
      rw [h4] at g4
      obtain ⟨z0, rfl, w0⟩ := Fo.ty_int h0 g0
      obtain ⟨F, rfl, hF, hl⟩ := ih.1 _ g4
      exact ⟨z0, F, rfl, w0, hl, hF⟩
end
end Pf
/-- two cells at the head of a block -/
def Cell2 (w : World) (b : Nat) (c0 c1 : Value) : Prop := w.cell? ⟨b, 0, none⟩ = some c0 ∧ w.cell? ⟨b, 1, none⟩ = some c1
theorem Cell2.below {w w' : World} {b : Nat} {c0 c1 : Value} (h : Cell2 w b c0 c1) (hb : Below w.heap.size w w') : Cell2 w' b c0 c1 := by
  obtain ⟨h0, h1⟩ := h
  have hl := World.block_lt_of_cell? w _ h0
  have e : ∀ o, w'.cell? ⟨b, o, none⟩ = w.cell? ⟨b, o, none⟩ := fun o => hb.cell (p := ⟨b, o, none⟩) hl
  exact ⟨(e 0).trans h0, (e 1).trans h1⟩
theorem cell2_alloc (w : World) (T : TypeId) (c0 c1 : Value) : Cell2 (w.alloc (.cells #[c0, c1] T)) w.heap.size c0 c1 := by
  have h : ∀ j, (w.alloc (.cells #[c0, c1] T)).cell? ⟨w.heap.size, j, none⟩ = #[c0, c1][j]? := fun j => cell_of_row _ w.heap.size j _ T (0, 0) (heap_alloc_new w _)
  exact ⟨h 0, h 1⟩
end Go.Proofs.YthmababifgaejaaGreat
