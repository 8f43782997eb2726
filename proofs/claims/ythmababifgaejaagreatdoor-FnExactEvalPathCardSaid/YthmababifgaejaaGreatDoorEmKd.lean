/- The kids of a node that fits, where they lie; what a variable has among values; words of a forest, piece by piece. No condition. -/
import Derived.Test.YthmababifgaejaaGreatDoorEmGEv
namespace Go.Proofs.YthmababifgaejaaGreatDoor
open Go.ChangeShapes Go.WideShapes Go.RowKit
theorem kid_ws {w : World} {T : TypeId} {k : Fo} {s : Value} {l : List Int} (his : (k.cs T).Is w 0 5 k.len s) (hw : k.ws = l) (hl : 0 < l.length) :
    ∃ b o cap, s = .slice (some ⟨b, o, none⟩) l.length cap ∧ b < w.heap.size ∧ ∀ j x, l[j]? = some x → w.cell? ⟨b, o + j * 5 + 1, none⟩ = some (.int .i64 x) := by
  have hlen := k.ws_len
  rw [hw] at hlen
  rcases Fo.is_cases his with ⟨h, _⟩ | ⟨_, b, o, cap, ys, rfl, _, _, _, hbl, hvs, hr⟩
  · omega
  · refine ⟨b, o, cap, by rw [hlen], hbl, fun j x hx => ?_⟩
    have hj := (List.getElem?_eq_some_iff.1 hx).1
    obtain ⟨v, h1, h2⟩ := width_at hvs hr j (by omega)
    rw [hw, hx] at h1
    cases h1
    exact h2
theorem asc_of {V : List ValueR} (h : VlOk V) : Asc V := by
  unfold Asc
  rw [List.pairwise_iff_getElem]
  have key : ∀ (d i : Nat) (h1 : i < V.length) (h2 : i + d + 1 < V.length), Op.bytesLess V[i].f0.toList V[i + d + 1].f0.toList = true := by
    intro d
    induction d with
    | zero => intro i h1 h2; exact (h.2 (i + 1) V[i + 1] (List.getElem?_eq_getElem h2)).2.2 i V[i] rfl (List.getElem?_eq_getElem h1)
    | succ d ih =>
      intro i h1 h2
      have a := ih i h1 (by omega)
      have b := (h.2 (i + (d + 1) + 1) V[i + (d + 1) + 1] (List.getElem?_eq_getElem h2)).2.2 (i + d + 1) V[i + d + 1] rfl (List.getElem?_eq_getElem (by omega))
      exact less_trans _ _ _ a b
  intro i j hi hj hij
  have := key (j - i - 1) i hi (by omega)
  have e : i + (j - i - 1) + 1 = j := by omega
  simpa only [e] using this
theorem val_cases (V : List ValueR) (nm : ByteArray) (wd : Int) : (isAt V nm = false ∧ valOf V nm wd = none) ∨ (isAt V nm = true ∧ ∃ h : pos V nm < V.length, V[pos V nm].f0 = nm ∧ ((V[pos V nm].f1 = wd ∧ valOf V nm wd = some V[pos V nm].f2) ∨ (V[pos V nm].f1 ≠ wd ∧ valOf V nm wd = none))) := by
  unfold isAt valOf
  by_cases h : pos V nm < V.length
  · rw [List.getElem?_eq_getElem h]
    dsimp only
    by_cases h1 : V[pos V nm].f0 = nm
    · right
      refine ⟨decide_eq_true h1, h, h1, ?_⟩
      by_cases h2 : V[pos V nm].f1 = wd
      · exact .inl ⟨h2, by rw [if_pos ⟨h1, h2⟩]⟩
      · exact .inr ⟨h2, by rw [if_neg (fun hh => h2 hh.2)]⟩
    · exact .inl ⟨decide_eq_false h1, by rw [if_neg (fun hh => h1 hh.1)]⟩
  · rw [List.getElem?_eq_none (by omega)]
    exact .inl ⟨rfl, rfl⟩
theorem evs_split (V : List ValueR) : ∀ (F : Fo) (j : Nat), F.evs V = ((F.take j).evs V).bind fun xs => ((F.drop j).evs V).map (xs ++ ·)
  | .nil, 0 => by simp [Fo.take, Fo.drop, Fo.evs]
  | .nil, _ + 1 => by simp [Fo.take, Fo.drop, Fo.evs]
  | .cons op wd n nm k r, 0 => by simp [Fo.take, Fo.drop, Fo.evs]
  | .cons op wd n nm k r, j + 1 => by
    simp only [Fo.take, Fo.drop, evs_cons]
    rw [evs_split V r j]
    cases evOne V op wd n nm k with
    | none => rfl
    | some x =>
      cases (r.take j).evs V with
      | none => rfl
      | some xs =>
        cases (r.drop j).evs V with
        | none => rfl
        | some ys => simp
theorem evs_next {V : List ValueR} {F : Fo} {j : Nat} {op wd n : Int} {nm : ByteArray} {k : Fo} {xs : List Int} (h : F.At j op wd n nm k) (hx : (F.take j).evs V = some xs) : (∀ x, evOne V op wd n nm k = some x → (F.take (j + 1)).evs V = some (xs ++ [x])) ∧ (evOne V op wd n nm k = none → F.evs V = none) := by
  constructor
  · intro x hx1
    have hl : (F.take j).len = j := Fo.len_take F j (by have := Fo.at_lt F j h; omega)
    rw [Fo.take_at F j h, evs_split V _ j]
    have e1 : ((F.take j).app (.cons op wd n nm k .nil)).take j = F.take j := by
      have : ∀ (A B : Fo), (A.app B).take A.len = A := by
        intro A
        induction A with
        | nil => intro B; cases B <;> rfl
        | cons _ _ _ _ _ r _ ih => intro B; simp only [Fo.app, Fo.len, Fo.take, ih]
      have h2 := this (F.take j) (.cons op wd n nm k .nil)
      rwa [hl] at h2
    have e2 : ((F.take j).app (.cons op wd n nm k .nil)).drop j = .cons op wd n nm k .nil := by
      have : ∀ (A B : Fo), (A.app B).drop A.len = B := by
        intro A
        induction A with
        | nil => intro B; cases B <;> rfl
        | cons _ _ _ _ _ r _ ih => intro B; simp only [Fo.app, Fo.len, Fo.drop, ih]
      have h2 := this (F.take j) (.cons op wd n nm k .nil)
      rwa [hl] at h2
    rw [e1, e2, hx, evs_cons, hx1]
    rfl
  · intro hn
    rw [evs_split V F j, hx, Fo.drop_at F j h, evs_cons, hn]
    rfl
/-- what is returned -/
def evV (r : Option Int) : Value := .tuple #[.int .i64 (r.getD 0), .bool r.isSome]
end Go.Proofs.YthmababifgaejaaGreatDoor
