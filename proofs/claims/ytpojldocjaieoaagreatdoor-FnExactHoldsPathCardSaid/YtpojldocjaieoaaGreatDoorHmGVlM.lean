/- The model of ValuesOk: whether a list is one of values. No condition. What terms stand for, and that it is a word. No condition. -/
import Derived.Test.YtpojldocjaieoaaGreatDoorHmGFits
import Derived.Test.YtpojldocjaieoaaGreatDoorHmGWk
import Derived.WalkSpells
import Derived.Test.YtpojldocjaieoaaGreatDoorHmGBin
import Derived.Test.YtpojldocjaieoaaGreatDoorHmGWord
import Derived.Test.YtpojldocjaieoaaGreatDoorHmGUn
namespace Go.Proofs.YtpojldocjaieoaaGreatDoor
open Go.ChangeShapes Go.WideShapes Go.ChangeAt Go.RowKit
open ValueR (all costs)
def VlGood (L : List ValueR) (j : Nat) : Prop := ∀ r, L[j]? = some r → nmB r.f0 = true ∧ wkB r.f1 r.f2 = true ∧ ∀ i p, j = i + 1 → L[i]? = some p → Op.bytesLess p.f0.toList r.f0.toList = true
def VlOk (L : List ValueR) : Prop := L.length ≤ 30 ∧ ∀ j, VlGood L j
open Classical in
noncomputable def vlB (L : List ValueR) : Bool := decide (VlOk L)
theorem vlB_true {L : List ValueR} (h : VlOk L) : vlB L = true := by simp [vlB, h]
theorem vlB_false {L : List ValueR} (h : ¬ VlOk L) : vlB L = false := by simp [vlB, h]
theorem vlB_bad {L : List ValueR} {j : Nat} {r : ValueR} (hr : L[j]? = some r) (h : nmB r.f0 = false ∨ wkB r.f1 r.f2 = false) : vlB L = false := vlB_false fun hk => by
  obtain ⟨h1, h2, _⟩ := hk.2 j r hr
  rcases h with h | h
  · rw [h] at h1; cases h1
  · rw [h] at h2; cases h2
theorem vlB_down {L : List ValueR} {i : Nat} {p r : ValueR} (hp : L[i]? = some p) (hr : L[i + 1]? = some r) (h : Op.bytesLess p.f0.toList r.f0.toList = false) : vlB L = false := vlB_false fun hk => by
  have := (hk.2 (i + 1) r hr).2.2 i p rfl hp
  rw [h] at this; cases this
theorem good0 {L : List ValueR} {r : ValueR} (hr : L[0]? = some r) (h1 : nmB r.f0 = true) (h2 : wkB r.f1 r.f2 = true) : VlGood L 0 := fun r' hr' => by
  rw [hr] at hr'; cases hr'
  exact ⟨h1, h2, fun i p e => by cases e⟩
theorem good1 {L : List ValueR} {i : Nat} {p r : ValueR} (hp : L[i]? = some p) (hr : L[i + 1]? = some r) (h1 : nmB r.f0 = true) (h2 : wkB r.f1 r.f2 = true) (h3 : Op.bytesLess p.f0.toList r.f0.toList = true) : VlGood L (i + 1) := fun r' hr' => by
  rw [hr] at hr'; cases hr'
  exact ⟨h1, h2, fun j q e hq => by cases e; rw [hp] at hq; cases hq; exact h3⟩
def GoodTo (L : List ValueR) (k : Nat) : Prop := ∀ j, j < k → VlGood L j
theorem GoodTo.succ {L : List ValueR} {k : Nat} (h : GoodTo L k) (hg : VlGood L k) : GoodTo L (k + 1) := fun j hj => by
  by_cases e : j = k
  · subst e; exact hg
  · exact h j (by omega)
theorem good_all {L : List ValueR} (h : GoodTo L L.length) (hl : L.length ≤ 30) : vlB L = true := vlB_true ⟨hl, fun j => by
  by_cases hj : j < L.length
  · exact h j hj
  · intro r hr; rw [List.getElem?_eq_none (by omega)] at hr; cases hr⟩
end Go.Proofs.YtpojldocjaieoaaGreatDoor
namespace Go.Proofs.YtpojldocjaieoaaGreatDoor
open Go.ChangeShapes Go.WideShapes Go.RowKit
/-- the word of an operation on words, for kids of some widths -/
def appM (op wd n : Int) : List Int → List Int → Int
  | [a], [x] => if op = 1 ∨ op = 2 then unM op a x else if op = 19 then cutM x n wd else widenM a x wd (decide (op = 21))
  | [a, b], [x, y] => if op = 18 then joinM x b y else binM op a x y
  | [_, _, _], [x, y, z] => if x = 1 then y else z
  | _, _ => 0
/-- the word that a variable has -/
def valOf (V : List ValueR) (nm : ByteArray) (wd : Int) : Option Int := match V[pos V nm]? with
  | some r => if r.f0 = nm ∧ r.f1 = wd then some r.f2 else none
  | none => none
namespace Fo
/-- the words of the nodes of a slice; none if a variable has none -/
def evs (V : List ValueR) : Fo → Option (List Int)
  | .nil => some []
  | .cons op wd n nm k r => (if op = 0 then some n else if op = 22 then valOf V nm wd else (k.evs V).map (appM op wd n k.ws)).bind fun x => (r.evs V).map (x :: ·)
end Fo
/-- .. of one node -/
def evOne (V : List ValueR) (op wd n : Int) (nm : ByteArray) (k : Fo) : Option Int := if op = 0 then some n else if op = 22 then valOf V nm wd else (k.evs V).map (appM op wd n k.ws)
theorem evs_cons (V : List ValueR) (op wd n : Int) (nm : ByteArray) (k r : Fo) : (Fo.cons op wd n nm k r).evs V = (evOne V op wd n nm k).bind fun x => (r.evs V).map (x :: ·) := rfl
theorem evs_len (V : List ValueR) : ∀ (F : Fo) (xs : List Int), F.evs V = some xs → xs.length = F.len
  | .nil, xs, h => by cases h; rfl
  | .cons op wd n nm k r, xs, h => by
    rw [evs_cons] at h
    obtain ⟨x, _, h⟩ := Option.bind_eq_some_iff.1 h
    obtain ⟨ys, hy, rfl⟩ := Option.map_eq_some_iff.1 h
    simp [Fo.len, evs_len V r ys hy]
def AreW : List Int → List Int → Prop
  | [], [] => True
  | w :: ws, x :: xs => IsW w x ∧ AreW ws xs
  | _, _ => False
theorem app1 (op wd n a x : Int) : appM op wd n [a] [x] = if op = 1 ∨ op = 2 then unM op a x else if op = 19 then cutM x n wd else widenM a x wd (decide (op = 21)) := rfl
theorem app2 (op wd n a b x y : Int) : appM op wd n [a, b] [x, y] = if op = 18 then joinM x b y else binM op a x y := rfl
theorem app3 (op wd n a b c x y z : Int) : appM op wd n [a, b, c] [x, y, z] = if x = 1 then y else z := rfl
theorem app_w {op wd n : Int} {nm : ByteArray} {l xs : List Int} (h : fitB op wd n nm l = true) (h0 : op ≠ 0) (h22 : op ≠ 22) (hl : ∀ a ∈ l, 1 ≤ a ∧ a ≤ 16) (hx : AreW l xs) : IsW wd (appM op wd n l xs) := by
  obtain ⟨hw, hs⟩ := fit_shape h h0 h22 hl
  rcases hs with ⟨ho, rfl⟩ | ⟨h1, h2, rfl⟩ | ⟨a, h1, h2, rfl, rfl, _, _⟩ | ⟨rfl, rfl⟩ | ⟨a, b, rfl, rfl, rfl, _, _⟩ | ⟨a, rfl, rfl, _, _, _⟩ | ⟨a, ho, rfl, _, _⟩
  · match xs, hx with
    | [x], ⟨hx, _⟩ => rw [app1, if_pos ho]; exact un_w ho hx
  · match xs, hx with
    | [x, y], ⟨hx, hy, _⟩ =>
      rw [app2, if_neg (by omega)]
      have := bin_w (op := op) ⟨h1, by omega⟩ hx hy
      unfold rw2 at this
      rwa [if_neg (by omega)] at this
  · match xs, hx with
    | [x, y], ⟨hx, hy, _⟩ =>
      rw [app2, if_neg (by omega)]
      have := bin_w (op := op) ⟨by omega, h2⟩ hx hy
      unfold rw2 at this
      rwa [if_pos (by omega)] at this
  · match xs, hx with
    | [x, y, z], ⟨_, hy, hz, _⟩ => rw [app3]; split; exact hy; exact hz
  · match xs, hx with
    | [x, y], ⟨hx, hy, _⟩ => rw [app2, if_pos rfl]; exact join_w hx hy hw.2
  · match xs, hx with
    | [x], ⟨hx, _⟩ => rw [app1, if_neg (by decide), if_pos rfl]; exact cut_w hw.1 hw.2
  · match xs, hx with
    | [x], ⟨hx, _⟩ => rw [app1, if_neg (by omega), if_neg (by omega)]; exact widen_w hx (by assumption) hw.2
theorem val_w {V : List ValueR} (hV : VlOk V) {nm : ByteArray} {wd x : Int} (h : valOf V nm wd = some x) : IsW wd x := by
  unfold valOf at h
  split at h
  · rename_i r hr
    split at h
    · rename_i hc
      cases h
      obtain ⟨_, h2, _⟩ := hV.2 _ r hr
      rw [← hc.2]
      exact isW_of h2
    · cases h
  · cases h
theorem evs_w {V : List ValueR} (hV : VlOk V) : ∀ (F : Fo) (xs : List Int), F.allB = true → F.evs V = some xs → AreW F.ws xs
  | .nil, xs, _, h => by cases h; trivial
  | .cons op wd n nm k r, xs, hb, h => by
    simp only [Fo.allB, Bool.and_eq_true] at hb
    rw [evs_cons] at h
    obtain ⟨x, hx, h⟩ := Option.bind_eq_some_iff.1 h
    obtain ⟨ys, hy, rfl⟩ := Option.map_eq_some_iff.1 h
    refine ⟨?_, evs_w hV r ys hb.2 hy⟩
    unfold evOne at hx
    split at hx
    · rename_i h0
      subst h0
      cases hx
      have := hb.1.1
      unfold fitB at this
      simp only [Bool.and_eq_true] at this
      have h2 := this.2
      rw [if_pos trivial] at h2
      exact isW_of h2
    · split at hx
      · exact val_w hV hx
      · rename_i h0 h22
        obtain ⟨zs, hz, rfl⟩ := Option.map_eq_some_iff.1 hx
        exact app_w hb.1.1 h0 h22 (ws_ok k hb.1.2) (evs_w hV k zs hb.1.2 hz)
end Go.Proofs.YtpojldocjaieoaaGreatDoor
