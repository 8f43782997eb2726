/- What terms stand for, and that it is a word. No condition. -/
import Derived.Test.YtkoeegeplginkaaWord
import Derived.Test.YtkoeegeplginkaaTk
import Derived.Test.YtkoeegeplginkaaSearch
import Derived.Test.YtkoeegeplginkaaVlOk
namespace Go.Proofs.Ytkoeegeplginkaa
open Go.ChangeShapes Go.WideShapes Go.RowKit
/-- the word of an operation on words, for kids of some widths -/
def appM (op wd n : Int) : List Int → List Int → Int
  | [a], [x] => if op = 1 ∨ op = 2 then unM op a x else if op = 19 then cutM x n wd else widenM a x wd (decide (op = 21))
  | [a, b], [x, y] => if op = 18 then joinM x b y else binM op a x y
  | [_, _, _], [x, y, z] => if x = 1 then y else z
  | _, _ => 0
/-- the word that a variable has -/
def valOf (V : List ValueR) (nm : ByteArray) (wd : Int) : Option Int := match V[pos V nm]? with
  | some r => if r.f0 = nm ∧ r.f1 = wd then some r.f2 else none
  | none => none
namespace Fo
/-- the words of the nodes of a slice; none if a variable has none -/
def evs (V : List ValueR) : Fo → Option (List Int)
  | .nil => some []
  | .cons op wd n nm k r => (if op = 0 then some n else if op = 22 then valOf V nm wd else (k.evs V).map (appM op wd n k.ws)).bind fun x => (r.evs V).map (x :: ·)
end Fo
/-- .. of one node -/
def evOne (V : List ValueR) (op wd n : Int) (nm : ByteArray) (k : Fo) : Option Int := if op = 0 then some n else if op = 22 then valOf V nm wd else (k.evs V).map (appM op wd n k.ws)
theorem evs_cons (V : List ValueR) (op wd n : Int) (nm : ByteArray) (k r : Fo) : (Fo.cons op wd n nm k r).evs V = (evOne V op wd n nm k).bind fun x => (r.evs V).map (x :: ·) := rfl
theorem evs_len (V : List ValueR) : ∀ (F : Fo) (xs : List Int), F.evs V = some xs → xs.length = F.len
  | .nil, xs, h => by cases h; rfl
  | .cons op wd n nm k r, xs, h => by
    rw [evs_cons] at h
    obtain ⟨x, _, h⟩ := Option.bind_eq_some_iff.1 h
    obtain ⟨ys, hy, rfl⟩ := Option.map_eq_some_iff.1 h
    simp [Fo.len, evs_len V r ys hy]
theorem list1 {l : List Int} (h : l.length = 1) : ∃ a, l = [a] := by
  match l, h with
  | [a], _ => exact ⟨a, rfl⟩
theorem list2 {l : List Int} (h : l.length = 2) : ∃ a b, l = [a, b] := by
  match l, h with
  | [a, b], _ => exact ⟨a, b, rfl⟩
theorem list3 {l : List Int} (h : l.length = 3) : ∃ a b c, l = [a, b, c] := by
  match l, h with
  | [a, b, c], _ => exact ⟨a, b, c, rfl⟩
theorem wf1 (op wd n a : Int) : wfB op wd n [a] = if op = 19 then decide (0 ≤ n) && decide (n ≤ wrap64 (a - wd)) else if op = 20 ∨ op = 21 then decide (a ≤ wd) else decide (a = wd) := rfl
theorem wf2 (op wd n a b : Int) : wfB op wd n [a, b] = if op = 18 then decide (wrap64 (a + b) = wd) else if 14 ≤ op ∧ op ≤ 16 then decide (wd = 1) && decide (a = b) else decide (a = wd) && decide (b = wd) := rfl
theorem wf3 (op wd n a b c : Int) : wfB op wd n [a, b, c] = (decide (a = 1) && decide (b = wd) && decide (c = wd)) := rfl
/-- what the widths of a node that fits are -/
theorem fit_shape {op wd n : Int} {nm : ByteArray} {l : List Int} (h : fitB op wd n nm l = true) (h0 : op ≠ 0) (h22 : op ≠ 22) (hl : ∀ a ∈ l, 1 ≤ a ∧ a ≤ 16) :
    (1 ≤ wd ∧ wd ≤ 16) ∧ (((op = 1 ∨ op = 2) ∧ l = [wd]) ∨ (3 ≤ op ∧ op ≤ 13 ∧ l = [wd, wd]) ∨ (∃ a, 14 ≤ op ∧ op ≤ 16 ∧ wd = 1 ∧ l = [a, a] ∧ 1 ≤ a ∧ a ≤ 16) ∨ (op = 17 ∧ l = [1, wd, wd]) ∨ (∃ a b, op = 18 ∧ l = [a, b] ∧ a + b = wd ∧ 1 ≤ a ∧ 1 ≤ b) ∨ (∃ a, op = 19 ∧ l = [a] ∧ 0 ≤ n ∧ n + wd ≤ a ∧ a ≤ 16) ∨ (∃ a, (op = 20 ∨ op = 21) ∧ l = [a] ∧ 1 ≤ a ∧ a ≤ wd)) := by
  unfold fitB at h
  rw [if_neg h0, if_neg h22] at h
  simp only [Bool.and_eq_true, decide_eq_true_eq] at h
  obtain ⟨⟨⟨⟨hw, hk⟩, _⟩, _⟩, hf⟩ := h
  have hw : 1 ≤ wd ∧ wd ≤ 16 := of_decide_eq_true hw
  refine ⟨hw, ?_⟩
  have k1 : kc op = 1 → l.length = 1 := fun e => by omega
  have k2 : kc op = 2 → l.length = 2 := fun e => by omega
  have k3 : kc op = 3 → l.length = 3 := fun e => by omega
  rcases op_cases op with rfl | h | h | h | h | h | h | h | h | h | rfl | h
  · exact absurd rfl h0
  all_goals try exact absurd rfl h22
  · subst h
    obtain ⟨a, rfl⟩ := list1 (k1 (by decide))
    rw [wf1] at hf
    left; refine ⟨.inl rfl, ?_⟩; simp at hf; rw [hf]
  · subst h
    obtain ⟨a, rfl⟩ := list1 (k1 (by decide))
    rw [wf1] at hf
    left; refine ⟨.inr rfl, ?_⟩; simp at hf; rw [hf]
  · right; left
    obtain ⟨a, b, rfl⟩ := list2 (k2 (by unfold kc; rw [if_neg (by omega), if_neg (by omega), if_neg (by omega), if_pos (by omega)]))
    rw [wf2, if_neg (by omega), if_neg (by omega)] at hf
    simp only [Bool.and_eq_true, decide_eq_true_eq] at hf
    exact ⟨h.1, h.2, by rw [hf.1, hf.2]⟩
  · right; right; left
    obtain ⟨a, b, rfl⟩ := list2 (k2 (by unfold kc; rw [if_neg (by omega), if_neg (by omega), if_neg (by omega), if_pos (by omega)]))
    rw [wf2, if_neg (by omega), if_pos (by omega)] at hf
    simp only [Bool.and_eq_true, decide_eq_true_eq] at hf
    have := hl a (by simp)
    exact ⟨a, h.1, h.2, hf.1, by rw [hf.2], this.1, this.2⟩
  · subst h
    right; right; right; left
    obtain ⟨a, b, c, rfl⟩ := list3 (k3 (by decide))
    rw [wf3] at hf
    simp only [Bool.and_eq_true, decide_eq_true_eq] at hf
    exact ⟨rfl, by rw [hf.1.1, hf.1.2, hf.2]⟩
  · subst h
    right; right; right; right; left
    obtain ⟨a, b, rfl⟩ := list2 (k2 (by decide))
    rw [wf2, if_pos rfl] at hf
    have h1 := hl a (by simp)
    have h2 := hl b (by simp)
    have hf := of_decide_eq_true hf
    rw [IntWalk.wrap64_in _ ⟨by omega, by omega⟩] at hf
    exact ⟨a, b, rfl, rfl, hf, h1.1, h2.1⟩
  · subst h
    right; right; right; right; right; left
    obtain ⟨a, rfl⟩ := list1 (k1 (by decide))
    rw [wf1, if_pos rfl] at hf
    have h1 := hl a (by simp)
    simp only [Bool.and_eq_true, decide_eq_true_eq] at hf
    rw [IntWalk.wrap64_in _ ⟨by omega, by omega⟩] at hf
    exact ⟨a, rfl, rfl, hf.1, by omega, h1.2⟩
  · subst h
    right; right; right; right; right; right
    obtain ⟨a, rfl⟩ := list1 (k1 (by decide))
    rw [wf1, if_neg (by decide), if_pos (.inl rfl)] at hf
    have h1 := hl a (by simp)
    exact ⟨a, .inl rfl, rfl, h1.1, of_decide_eq_true hf⟩
  · subst h
    right; right; right; right; right; right
    obtain ⟨a, rfl⟩ := list1 (k1 (by decide))
    rw [wf1, if_neg (by decide), if_pos (.inr rfl)] at hf
    have h1 := hl a (by simp)
    exact ⟨a, .inr rfl, rfl, h1.1, of_decide_eq_true hf⟩
  · exfalso
    have : kc op = -1 := by unfold kc; rw [if_neg (by omega), if_neg (by omega), if_neg (by omega), if_neg (by omega)]
    omega
/-- words of some widths -/
def AreW : List Int → List Int → Prop
  | [], [] => True
  | w :: ws, x :: xs => IsW w x ∧ AreW ws xs
  | _, _ => False
theorem app1 (op wd n a x : Int) : appM op wd n [a] [x] = if op = 1 ∨ op = 2 then unM op a x else if op = 19 then cutM x n wd else widenM a x wd (decide (op = 21)) := rfl
theorem app2 (op wd n a b x y : Int) : appM op wd n [a, b] [x, y] = if op = 18 then joinM x b y else binM op a x y := rfl
theorem app3 (op wd n a b c x y z : Int) : appM op wd n [a, b, c] [x, y, z] = if x = 1 then y else z := rfl
theorem app_w {op wd n : Int} {nm : ByteArray} {l xs : List Int} (h : fitB op wd n nm l = true) (h0 : op ≠ 0) (h22 : op ≠ 22) (hl : ∀ a ∈ l, 1 ≤ a ∧ a ≤ 16) (hx : AreW l xs) : IsW wd (appM op wd n l xs) := by
  obtain ⟨hw, hs⟩ := fit_shape h h0 h22 hl
  rcases hs with ⟨ho, rfl⟩ | ⟨h1, h2, rfl⟩ | ⟨a, h1, h2, rfl, rfl, _, _⟩ | ⟨rfl, rfl⟩ | ⟨a, b, rfl, rfl, rfl, _, _⟩ | ⟨a, rfl, rfl, _, _, _⟩ | ⟨a, ho, rfl, _, _⟩
  · match xs, hx with
    | [x], ⟨hx, _⟩ => rw [app1, if_pos ho]; exact un_w ho hx
  · match xs, hx with
    | [x, y], ⟨hx, hy, _⟩ =>
      rw [app2, if_neg (by omega)]
      have := bin_w (op := op) ⟨h1, by omega⟩ hx hy
      unfold rw2 at this
      rwa [if_neg (by omega)] at this
  · match xs, hx with
    | [x, y], ⟨hx, hy, _⟩ =>
      rw [app2, if_neg (by omega)]
      have := bin_w (op := op) ⟨by omega, h2⟩ hx hy
      unfold rw2 at this
      rwa [if_pos (by omega)] at this
  · match xs, hx with
    | [x, y, z], ⟨_, hy, hz, _⟩ => rw [app3]; split; exact hy; exact hz
  · match xs, hx with
    | [x, y], ⟨hx, hy, _⟩ => rw [app2, if_pos rfl]; exact join_w hx hy hw.2
  · match xs, hx with
    | [x], ⟨hx, _⟩ => rw [app1, if_neg (by decide), if_pos rfl]; exact cut_w hw.1 hw.2
  · match xs, hx with
    | [x], ⟨hx, _⟩ => rw [app1, if_neg (by omega), if_neg (by omega)]; exact widen_w hx (by assumption) hw.2
theorem ws_ok : ∀ F : Fo, F.allB = true → ∀ a ∈ F.ws, 1 ≤ a ∧ a ≤ 16
  | .nil, _, a, h => by simp [Fo.ws] at h
  | .cons op wd n nm k r, hb, a, h => by
    simp only [Fo.allB, Bool.and_eq_true] at hb
    simp only [Fo.ws, List.mem_cons] at h
    rcases h with rfl | h
    · have := hb.1.1
      unfold fitB at this
      simp only [Bool.and_eq_true] at this
      exact of_decide_eq_true this.1.1.1.1
    · exact ws_ok r hb.2 a h
theorem val_w {V : List ValueR} (hV : VlOk V) {nm : ByteArray} {wd x : Int} (h : valOf V nm wd = some x) : IsW wd x := by
  unfold valOf at h
  split at h
  · rename_i r hr
    split at h
    · rename_i hc
      cases h
      obtain ⟨_, h2, _⟩ := hV.2 _ r hr
      rw [← hc.2]
      exact isW_of h2
    · cases h
  · cases h
theorem evs_w {V : List ValueR} (hV : VlOk V) : ∀ (F : Fo) (xs : List Int), F.allB = true → F.evs V = some xs → AreW F.ws xs
  | .nil, xs, _, h => by cases h; trivial
  | .cons op wd n nm k r, xs, hb, h => by
    simp only [Fo.allB, Bool.and_eq_true] at hb
    rw [evs_cons] at h
    obtain ⟨x, hx, h⟩ := Option.bind_eq_some_iff.1 h
    obtain ⟨ys, hy, rfl⟩ := Option.map_eq_some_iff.1 h
    refine ⟨?_, evs_w hV r ys hb.2 hy⟩
    unfold evOne at hx
    split at hx
    · rename_i h0
      subst h0
      cases hx
      have := hb.1.1
      unfold fitB at this
      simp only [Bool.and_eq_true] at this
      have h2 := this.2
      rw [if_pos trivial] at h2
      exact isW_of h2
    · split at hx
      · exact val_w hV hx
      · rename_i h0 h22
        obtain ⟨zs, hz, rfl⟩ := Option.map_eq_some_iff.1 hx
        exact app_w hb.1.1 h0 h22 (ws_ok k hb.1.2) (evs_w hV k zs hb.1.2 hz)
end Go.Proofs.Ytkoeegeplginkaa
