/- What the unary operations on a word return. No condition. A region in whatever order: its first operations read alone, the next ones come one after the other, the last ones read alone again. No condition. -/
import Derived.Test.YthmababifgaejaaGreatCmBin
import Derived.Test.YthmababifgaejaaGreatCmGUnM
import Derived.Test.YthmababifgaejaaGreatRows
import Derived.StillTail
import Derived.StillTailTactics
import Derived.Deep.RegionWith
namespace Go.Proofs.YthmababifgaejaaGreat
open Go.ChangeShapes Go.WideShapes Go.ChangeAt Go.RowKit
set_option maxHeartbeats 2000000 in
theorem i_u1 (w a : Int) (h1 : 1 ≤ w) (h2 : w ≤ 16) (h3 : 0 ≤ a) (h4 : a ≤ 2 ^ w.toNat - 1) (W : World) :
    Calls Tryz.prog 105 #[.int .i64 1, .int .i64 w, .int .i64 a] W fun e W' => e = .returned (.int .i64 (2 ^ w.toNat - 1 - a)) ∧ W = W' := by
  obtain ⟨hp1, hp2⟩ := pw w h1 h2
  go_enter Tryz.func105, Tryz.ntmps105
  go_wp2
  go_ret
  exact ⟨rfl, rfl⟩
set_option maxHeartbeats 2000000 in
theorem i_u2 (w a : Int) (h1 : 1 ≤ w) (h2 : w ≤ 16) (h3 : 0 ≤ a) (h4 : a ≤ 2 ^ w.toNat - 1) (W : World) :
    Calls Tryz.prog 105 #[.int .i64 2, .int .i64 w, .int .i64 a] W fun e W' => e = .returned (.int .i64 (mask w (-a))) ∧ W = W' := by
  obtain ⟨hp1, hp2⟩ := pw w h1 h2
  go_enter Tryz.func105, Tryz.ntmps105
  go_wp2
  go_ret
  exact ⟨rfl, rfl⟩
set_option maxHeartbeats 2000000 in
theorem s_u1 (w a : Int) (h1 : 1 ≤ w) (h2 : w ≤ 16) (h3 : 0 ≤ a) (h4 : a ≤ 2 ^ w.toNat - 1) (W : World) :
    Calls Tryz.prog 48 #[.int .i64 1, .int .i64 w, .int .i64 a] W fun e W' => e = .returned (.int .i64 (2 ^ w.toNat - 1 - a)) ∧ W = W' := by
  obtain ⟨hp1, hp2⟩ := pw w h1 h2
  go_enter Tryz.func48, Tryz.ntmps48
  go_wp2
  go_ret
  exact ⟨rfl, rfl⟩
set_option maxHeartbeats 2000000 in
theorem s_u2 (w a : Int) (h1 : 1 ≤ w) (h2 : w ≤ 16) (h3 : 0 ≤ a) (h4 : a ≤ 2 ^ w.toNat - 1) (W : World) :
    Calls Tryz.prog 48 #[.int .i64 2, .int .i64 w, .int .i64 a] W fun e W' => e = .returned (.int .i64 (mask w (-a))) ∧ W = W' := by
  obtain ⟨hp1, hp2⟩ := pw w h1 h2
  go_enter Tryz.func48, Tryz.ntmps48
  go_wp2
  go_ret
  exact ⟨rfl, rfl⟩
theorem i_un (op w a : Int) (ho : op = 1 ∨ op = 2) (h1 : 1 ≤ w) (h2 : w ≤ 16) (h3 : 0 ≤ a) (h4 : a ≤ 2 ^ w.toNat - 1) (W : World) :
    Calls Tryz.prog 105 #[.int .i64 op, .int .i64 w, .int .i64 a] W fun e W' => e = .returned (.int .i64 (unM op w a)) ∧ W = W' := by
  rcases ho with rfl | rfl
  · exact i_u1 w a h1 h2 h3 h4 W
  · exact i_u2 w a h1 h2 h3 h4 W
theorem s_un (op w a : Int) (ho : op = 1 ∨ op = 2) (h1 : 1 ≤ w) (h2 : w ≤ 16) (h3 : 0 ≤ a) (h4 : a ≤ 2 ^ w.toNat - 1) (W : World) :
    Calls Tryz.prog 48 #[.int .i64 op, .int .i64 w, .int .i64 a] W fun e W' => e = .returned (.int .i64 (unM op w a)) ∧ W = W' := by
  rcases ho with rfl | rfl
  · exact s_u1 w a h1 h2 h3 h4 W
  · exact s_u2 w a h1 h2 h3 h4 W
end Go.Proofs.YthmababifgaejaaGreat
namespace Go.Proofs.YthmababifgaejaaGreat
open Go.ChangeShapes Go.WideShapes
/-- behind the operations in the middle: what is left reads alone -/
def MidPost (P : Program) (ops : Array Oper) (Q : Exit → Act → World → Prop) (tail : List Oper) : Exit → Act → World → Prop
  | .normal, a, w => wpStill P ops w (fun a' => Q .normal a' w) tail a
  | e, a, w => Q e a w
theorem mid_out {P : Program} {ops : Array Oper} {Q : Exit → Act → World → Prop} {tail : List Oper} (e : Exit) (a : Act) (w : World) (h : e ≠ .normal) (hq : MidPost P ops Q tail e a w) : Q e a w := by
  cases e <;> first | exact absurd rfl h | exact hq
theorem wp_post {P : Program} {o : Oper} {a : Act} {w : World} {K : Act → World → Prop} {Q Q' : Exit → Act → World → Prop} (h : ∀ e a w, e ≠ .normal → Q' e a w → Q e a w) (hh : o.wp P a w K Q') : o.wp P a w K Q := by
  unfold Oper.wp at *
  generalize (execOp a.eval o).run P w = r at *
  cases r with
  | ok n w' =>
    cases n <;> simp only [Oper.upon] at hh ⊢
    case enter f args =>
      refine hh.mono fun e w'' he => ?_
      cases e with
      | returned v => exact he
      | panicked c => exact h _ _ _ (by intro e; cases e) he
      | outgrown => obtain ⟨a', w3, h3⟩ := he; exact ⟨a', w3, h _ _ _ (by intro e; cases e) h3⟩
    all_goals exact hh
  | halt x w' =>
    cases x <;> simp only [Oper.upon] at hh ⊢
    exact h _ _ _ (by intro e; cases e) hh
theorem lets_post {Q Q' : Exit → Act → World → Prop} (h : ∀ e a w, e ≠ .normal → Q' e a w → Q e a w) (hh : LetsOut Q') : LetsOut Q := by
  obtain ⟨a, w, h1⟩ := hh
  exact ⟨a, w, h _ _ _ (by intro e; cases e) h1⟩
def midB (md : Region.Mode) (ops : Array Oper) (t : Nat) : Nat → Nat → Array Bool → Bool
  | 0, k, listed => Region.lexFrom md ops t k listed
  | g + 1, k, listed => decide (Region.ready md ops listed = [k]) && midB md ops t g (k + 1) (listed.setIfInBounds k true)
theorem any_of_mid {P : Program} {md : Region.Mode} {ops : Array Oper} {Q : Exit → Act → World → Prop} (hsel : Region.noSelect ops = true) (tail : List Oper) : ∀ (l : List Oper) (k : Nat) (listed : Array Bool) (a : Act) (w : World),
    (∀ j, j < l.length → l[j]? = ops[k + j]?) → (∀ j, tail[j]? = ops[k + l.length + j]?) → midB md ops tail.length l.length k listed = true → wpList P ops (MidPost P ops Q tail) l a w → wpAny P md ops Q (l.length + tail.length) listed a w
  | [], k, listed, a, w, _, ht, hB, h => by
    have := wpAnyS_lex (P := P) (md := md) (w := w) (Q := fun a' => Q .normal a' w) hsel tail k listed a (fun j => by simpa using ht j) hB h
    rw [List.length_nil, Nat.zero_add]
    exact wpAny_of_still (fun _ h => h) _ _ _ this
  | o :: l, k, listed, a, w, hl, ht, hB, h => by
    have h0 : ops[k]? = some o := by simpa using (hl 0 (by simp)).symm
    simp only [List.length_cons, midB, Bool.and_eq_true, decide_eq_true_eq] at hB
    rw [List.length_cons, show l.length + 1 + tail.length = (l.length + tail.length) + 1 by omega]
    refine ⟨fun h1 => (by rw [hB.1] at h1; cases h1), fun i hi => ?_⟩
    rw [hB.1] at hi
    obtain rfl : i = k := by simpa using hi
    have hw : wpOp P ops Q i (wpList P ops (MidPost P ops Q tail) l) a w := by
      unfold wpOp
      simp only [h0]
      unfold wpList at h
      split at h
      · rename_i hwt
        rw [if_pos hwt]
        rcases h with h | ⟨h1, h2⟩
        · exact .inl (wp_post mid_out h)
        · exact .inr ⟨h1, lets_post mid_out h2⟩
      · rename_i hwt
        rw [if_neg hwt]; exact h
    refine wpOp_mono (fun a' w' h' => any_of_mid hsel tail l (i + 1) _ a' w' (fun j hj => ?_) (fun j => ?_) hB.2 h') hw
    · have := hl (j + 1) (by simp; omega)
      simpa [Nat.add_assoc, Nat.add_comm 1 j] using this
    · have := ht j
      rw [List.length_cons] at this
      rw [this]; congr 1; omega
/-- each of the first n operations is waited for, and what comes behind the n-th one waits for one of those from it on -/
def lateB (md : Region.Mode) (ops : Array Oper) (n : Nat) : Bool := Region.sinkB md ops n && (List.range ops.size).all fun t => decide (t ≤ n) || (List.range t).any fun j => decide (n ≤ j) && Region.waitsFor md ops t j
theorem late_head {md : Region.Mode} {ops : Array Oper} {n : Nat} {listed : Array Bool} (hB : Region.sinkB md ops n = true) (hn : n < ops.size) (inv : HeadInv md ops n listed) (hr : n ∈ Region.ready md ops listed) : ∀ (d i : Nat), n - i = d → i < n → listed.getD i false = true := by
  intro d
  induction d using Nat.strongRecOn with
  | _ d ih =>
    intro i hd hi
    obtain ⟨j, hj, hj2⟩ := List.any_eq_true.1 (List.all_eq_true.1 hB i (List.mem_range.2 hi))
    simp only [Bool.and_eq_true, decide_eq_true_eq] at hj2
    obtain ⟨oj, hoj, e, he, hb, hon⟩ := Region.waitsFor_spec hj2.2
    have hjn := List.mem_range.1 hj
    by_cases hjt : j = n
    · subst hjt
      obtain ⟨_, ot, hot, hall⟩ := mem_ready.1 hr
      obtain rfl : oj = ot := Option.some.inj (hoj.symm.trans hot)
      rw [← hon]; exact hall e he hb
    · have hl := ih (n - j) (by omega) j rfl (by omega)
      rw [← hon]; exact inv.closed j oj hoj hl e he hb
theorem late_spec {md : Region.Mode} {ops : Array Oper} {n : Nat} {listed : Array Bool} (hB : lateB md ops n = true) (hn : n < ops.size) (inv : HeadInv md ops n listed) {i : Nat} (hi : i < n) (hun : listed.getD i true = false) {t : Nat} (ht : n ≤ t) : t ∉ Region.ready md ops listed := by
  unfold lateB at hB
  rw [Bool.and_eq_true] at hB
  intro hr
  by_cases htn : t = n
  · subst htn
    have h1 := late_head hB.1 hn inv hr _ i rfl hi
    rw [getD_both hun] at h1; cases h1
  · obtain ⟨_, ot, hot, hall⟩ := mem_ready.1 hr
    have hts : t < ops.size := (Array.getElem?_eq_some_iff.1 hot).1
    have h1 := List.all_eq_true.1 hB.2 t (List.mem_range.2 hts)
    simp only [Bool.or_eq_true, decide_eq_true_eq] at h1
    rcases h1 with h1 | h1
    · omega
    · obtain ⟨j, hj, hj2⟩ := List.any_eq_true.1 h1
      simp only [Bool.and_eq_true, decide_eq_true_eq] at hj2
      obtain ⟨o', ho', e, he, hb, hon⟩ := Region.waitsFor_spec hj2.2
      obtain rfl : o' = ot := Option.some.inj (ho'.symm.trans hot)
      have h2 := hall e he hb
      have hjt := List.mem_range.1 hj
      rw [hon, getD_both (inv.tail j hj2.1 (by omega))] at h2
      cases h2
/-- an operation of the head that can come first may come first -/
theorem head_first {P : Program} {md : Region.Mode} {ops : Array Oper} {w : World} {n i : Nat} {oi : Oper} {v : Value} {L : Array Bool → Act → Prop} (hi : ops[i]? = some oi) (hsel : Region.noSelect ops = true) (hB : lateB md ops n = true) (hn : n < ops.size) (hin : i < n)
    (hdone : ∀ listed a, L listed a → ∀ j ∈ Region.ready md ops listed, n ≤ j) : ∀ (f : Nat) (listed : Array Bool) (a : Act), HeadInv md ops n listed →
      (∀ j oj, ops[j]? = some oj → j ≠ i → listed.getD j true = false → (∀ e ∈ oj.after, Region.binds md e = true → e.on ≠ i) → oi.apart ops oj = true) →
      i ∈ Region.ready md ops listed → YieldsAt P ops w oi v a → wpAnyL P md ops w n L f (listed.setIfInBounds i true) (a.put oi.dst v) → wpAnyL P md ops w n L (f + 1) listed a := by
  have hs := Region.noSelect_spec hsel
  intro f
  induction f with
  | zero =>
    intro listed a inv _ hr hy H
    have hun := (mem_ready.1 hr).1
    refine ⟨fun h => (by rw [h] at hr; cases hr), fun j hj => ?_⟩
    have hjn : j < n := Nat.lt_of_not_le fun h => late_spec hB hn inv hin hun h hj
    refine ⟨hjn, ?_⟩
    by_cases hji : j = i
    · subst hji; exact hy.stOp hi H
    · have := hdone _ _ H j (ready_mono hj hji); omega
  | succ f ih =>
    intro listed a inv hfree hr hy H
    have hun := (mem_ready.1 hr).1
    refine ⟨fun h => (by rw [h] at hr; cases hr), fun j hj => ?_⟩
    have hjn : j < n := Nat.lt_of_not_le fun h => late_spec hB hn inv hin hun h hj
    refine ⟨hjn, ?_⟩
    by_cases hji : j = i
    · subst hji; exact hy.stOp hi H
    · have h1 := (H.2 j (ready_mono hj hji)).2
      obtain ⟨hjun, oj, hoj, hall⟩ := mem_ready.1 hj
      have hnot : ∀ e ∈ oj.after, Region.binds md e = true → e.on ≠ i := fun e he hb heq => by
        have h3 := hall e he hb
        rw [heq, getD_both hun] at h3; cases h3
      have h2 := stOp_put hoj (hfree j oj hoj hji hjun hnot) (fun cs b => hs i oi cs b hi) (fun cs b => hs j oj cs b hoj) hy h1
      refine stOp_mono (fun a' h3 => ih (listed.setIfInBounds j true) a' (inv.set hj hjn) (fun k ok hk hki hunk hno => ?_) (ready_mono hr (Ne.symm hji)) h3.1 ?_) h2
      · refine hfree k ok hk hki ?_ hno
        by_cases hjk : j = k
        · subst hjk; exact hjun
        · rw [getD_set_ne true hjk] at hunk; exact hunk
      · rw [Array.setIfInBounds_comm _ _ hji]; exact h3.2
def headB (md : Region.Mode) (ops : Array Oper) (t m : Nat) : Nat → Nat → Array Bool → Bool
  | 0, k, listed => midB md ops t m k listed
  | f + 1, k, listed => (Region.ready md ops listed).contains k && Region.free md ops listed k && headB md ops t m f (k + 1) (listed.setIfInBounds k true)
theorem head_lex {P : Program} {md : Region.Mode} {ops : Array Oper} {w : World} {n t m : Nat} {Lq : Act → Prop} (hsel : Region.noSelect ops = true) (hB : lateB md ops n = true) (hn : n < ops.size) (hm : 0 < m) :
    ∀ (l : List Oper) (k : Nat) (listed : Array Bool) (a : Act), (∀ j, j < l.length → l[j]? = ops[k + j]?) → k + l.length = n → HeadInv md ops n listed → headB md ops t m l.length k listed = true → wpStill P ops w Lq l a →
    wpAnyL P md ops w n (fun listed' a' => midB md ops t m n listed' = true ∧ Lq a') l.length listed a
  | [], k, listed, a, _, hk, _, hb, h => by
    obtain rfl : k = n := by simpa using hk
    exact ⟨by simpa [headB] using hb, h⟩
  | o :: l, k, listed, a, hl, hk, inv, hb, h => by
    have h0 : ops[k]? = some o := by simpa using (hl 0 (by simp)).symm
    simp only [List.length_cons, headB, Bool.and_eq_true] at hb
    obtain ⟨⟨hr, hf⟩, hb'⟩ := hb
    have hkn : k < n := by simp only [List.length_cons] at hk; omega
    have hr' : k ∈ Region.ready md ops listed := by simpa using hr
    have hst : stOp P ops w k (wpStill P ops w Lq l) a := by unfold stOp; simp only [h0]; exact h
    obtain ⟨v, hy, hK⟩ := yieldsAt_of_stOp h0 hst
    refine head_first h0 hsel hB hn hkn (fun listed' a' hL j hj => ?_) l.length listed a inv (Region.free_spec h0 hf) hr' hy
      (head_lex hsel hB hn hm l (k + 1) _ _ (fun j hj => by have := hl (j + 1) (by simp; omega); simpa [Nat.add_assoc, Nat.add_comm 1 j] using this) (by simp only [List.length_cons] at hk; omega) (inv.set hr' hkn) hb' hK)
    obtain ⟨m', rfl⟩ : ∃ m', m = m' + 1 := ⟨m - 1, by omega⟩
    have hL1 := hL.1
    simp only [midB, Bool.and_eq_true, decide_eq_true_eq] at hL1
    rw [hL1.1] at hj
    have : j = n := by simpa using hj
    omega
def regionB (ops : Array Oper) (n m : Nat) : Bool := Region.noSelect ops && decide (n < ops.size) && decide (0 < m) && decide (n + m ≤ ops.size) && lateB .any ops n && headB .any ops (ops.size - (n + m)) m n 0 (Array.replicate ops.size false)
theorem wp_region_mid {P : Program} {id : Nat} {Q : Exit → Act → World → Prop} {a : Act} {w : World} {l : List Oper} (n m : Nat) (hm : P.follows .mixedOrders = true) (hB : regionB l.toArray n m = true)
    (h : wpStill P l.toArray { w with drawn := w.drawn + 1 } (fun a' => wpList P l.toArray (MidPost P l.toArray Q (l.drop (n + m))) ((l.drop n).take m) a' { w with drawn := w.drawn + 1 }) (l.take n) a) : (Code.region id l.toArray true).wp P Q a w := by
  simp only [regionB, Bool.and_eq_true, decide_eq_true_eq] at hB
  obtain ⟨⟨⟨⟨⟨hsel, hn⟩, h0⟩, hnm⟩, hl⟩, hh⟩ := hB
  have hn' : n < l.length := by simpa using hn
  have hnm' : n + m ≤ l.length := by simpa using hnm
  have htl : (l.take n).length = n := by simp; omega
  have hmd : ((l.drop n).take m).length = m := by simp; omega
  have hdl : (l.drop (n + m)).length = l.toArray.size - (n + m) := by simp
  have inv0 : HeadInv .any l.toArray n (Array.replicate l.toArray.size false) :=
    ⟨by simp, fun j oj _ hl => (by rw [getD_replicate_false] at hl; cases hl), fun t _ ht => getD_in (by simpa using ht) (getD_replicate_false _ _)⟩
  have H := head_lex (md := .any) (m := m) (t := l.toArray.size - (n + m)) hsel hl hn h0 (l.take n) 0 _ a (fun j hj => by
    have hj' : j < n := by rw [htl] at hj; exact hj
    simp [hj']) (by simpa using htl) inv0 (by rw [htl]; exact hh) h
  refine wp_region_any hm ?_
  have := wpAny_of_head (Q' := Q) (g := m + (l.toArray.size - (n + m))) (fun listed a' hL => by
    have := any_of_mid (md := .any) (Q := Q) hsel (l.drop (n + m)) ((l.drop n).take m) n listed a' { w with drawn := w.drawn + 1 } (fun j hj => by
      rw [hmd] at hj
      rw [List.getElem?_take_of_lt hj, List.getElem?_drop]; simp) (fun j => by
      rw [hmd, List.getElem?_drop]; simp) (by rw [hdl, hmd]; exact hL.1) hL.2
    rwa [hdl, hmd] at this) _ _ _ H
  rw [htl, show n + (m + (l.toArray.size - (n + m))) = l.toArray.size by omega] at this
  exact this
end Go.Proofs.YthmababifgaejaaGreat
