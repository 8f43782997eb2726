/- The order of terms, and what the specification's CompareTerms returns. No condition. -/
import Derived.Test.YtimjkgciakbolaaFlat
import Derived.Test.YtimjkgciakbolaaCmp
import Derived.Deep.RegionWith
namespace Go.Proofs.Ytimjkgciakbolaa
open Go.ChangeShapes Go.WideShapes Go.ChangeAt Go.RowKit
def sgn (a b : Int) : Int := if a < b then -1 else if b < a then 1 else 0
theorem sgn_cases (a b : Int) : (a < b ∧ sgn a b = -1) ∨ (b < a ∧ sgn a b = 1) ∨ (a = b ∧ sgn a b = 0) := by
  unfold sgn
  by_cases h : a < b
  · exact .inl ⟨h, by rw [if_pos h]⟩
  · by_cases h2 : b < a
    · exact .inr (.inl ⟨h2, by rw [if_neg h, if_pos h2]⟩)
    · exact .inr (.inr ⟨by omega, by rw [if_neg h, if_neg h2]⟩)
/-- two nodes without their kids -/
def cmpN (op wd n : Int) (nm : ByteArray) (op' wd' n' : Int) (nm' : ByteArray) : Int :=
  if sgn op op' ≠ 0 then sgn op op' else if sgn wd wd' ≠ 0 then sgn wd wd' else if sgn n n' ≠ 0 then sgn n n' else cmpS nm nm'
namespace Fo
def cmp : Fo → Fo → Int
  | .nil, .nil => 0
  | .nil, .cons _ _ _ _ _ _ => -1
  | .cons _ _ _ _ _ _, .nil => 1
  | .cons op wd n nm k r, .cons op' wd' n' nm' k' r' => if cmpN op wd n nm op' wd' n' nm' ≠ 0 then cmpN op wd n nm op' wd' n' nm' else if k.cmp k' ≠ 0 then k.cmp k' else r.cmp r'
end Fo
/-- two terms -/
def cmpOne (op wd n : Int) (nm : ByteArray) (k : Fo) (op' wd' n' : Int) (nm' : ByteArray) (k' : Fo) : Int := if cmpN op wd n nm op' wd' n' nm' ≠ 0 then cmpN op wd n nm op' wd' n' nm' else k.cmp k'
theorem cmp_nil (G : Fo) : Fo.nil.cmp G = sgn 0 (G.len : Int) := by
  cases G with
  | nil => rfl
  | cons => unfold Fo.cmp sgn; rw [if_pos (by simp only [Fo.len]; omega)]
theorem cmp_len (F : Fo) : F.cmp .nil = sgn (F.len : Int) 0 := by
  cases F with
  | nil => rfl
  | cons => unfold Fo.cmp sgn; rw [if_neg (by simp only [Fo.len]; omega), if_pos (by simp only [Fo.len]; omega)]
theorem cmp_at {F G : Fo} {j : Nat} {op wd n op' wd' n' : Int} {nm nm' : ByteArray} {k k' : Fo} (h : F.At j op wd n nm k) (h' : G.At j op' wd' n' nm' k') : (F.drop j).cmp (G.drop j) = if cmpOne op wd n nm k op' wd' n' nm' k' ≠ 0 then cmpOne op wd n nm k op' wd' n' nm' k' else (F.drop (j + 1)).cmp (G.drop (j + 1)) := by
  rw [Fo.drop_at F j h, Fo.drop_at G j h']
  unfold cmpOne
  show (if _ then _ else _) = _
  by_cases h1 : cmpN op wd n nm op' wd' n' nm' ≠ 0
  · rw [if_pos h1, if_pos h1, if_pos h1]
  · rw [if_neg h1, if_neg h1]
theorem drop_past : ∀ (F : Fo) (j : Nat), F.len ≤ j → F.drop j = .nil
  | .nil, 0, _ => rfl
  | .nil, _ + 1, _ => rfl
  | .cons _ _ _ _ _ _, 0, h => by simp [Fo.len] at h
  | .cons _ _ _ _ _ r, j + 1, h => drop_past r j (by simp only [Fo.len] at h; omega)
theorem cmp_small (F : Fo) : ∀ G : Fo, F.cmp G = -1 ∨ F.cmp G = 0 ∨ F.cmp G = 1 := by
  have hs : ∀ a b : Int, sgn a b = -1 ∨ sgn a b = 0 ∨ sgn a b = 1 := by intro a b; rcases sgn_cases a b with h | h | h <;> simp [h.2]
  have hc : ∀ a b : ByteArray, cmpS a b = -1 ∨ cmpS a b = 0 ∨ cmpS a b = 1 := by intro a b; rcases cmp_cases a b with ⟨_, h, _⟩ | ⟨_, h, _⟩ | ⟨_, h, _⟩ <;> simp [h]
  induction F with
  | nil => intro G; cases G <;> simp [Fo.cmp]
  | cons op wd n nm k r ihk ihr =>
    intro G
    cases G with
    | nil => simp [Fo.cmp]
    | cons op' wd' n' nm' k' r' =>
      unfold Fo.cmp
      split
      · unfold cmpN
        split
        · exact hs _ _
        · split
          · exact hs _ _
          · split
            · exact hs _ _
            · exact hc _ _
      · split
        · exact ihk k'
        · exact ihr r'
theorem cmpN_small (op wd n : Int) (nm : ByteArray) (op' wd' n' : Int) (nm' : ByteArray) : cmpN op wd n nm op' wd' n' nm' = -1 ∨ cmpN op wd n nm op' wd' n' nm' = 0 ∨ cmpN op wd n nm op' wd' n' nm' = 1 := by
  have := cmp_small (.cons op wd n nm .nil .nil) (.cons op' wd' n' nm' .nil .nil)
  unfold Fo.cmp at this
  by_cases h : cmpN op wd n nm op' wd' n' nm' ≠ 0
  · rwa [if_pos h] at this
  · exact .inr (.inl (by simpa using h))
set_option maxRecDepth 100000 in
theorem s_sign (a b : Int) (w : World) : Calls Try.prog 46 #[.int .i64 a, .int .i64 b] w fun e w' => e = .returned (.int .i64 (sgn a b)) ∧ w = w' := by
  rcases sgn_cases a b with ⟨h1, h2⟩ | ⟨h1, h2⟩ | ⟨h1, h2⟩
  all_goals
    rw [h2]
    clear h2
    go_enter Try.func46, Try.ntmps46
    go_wp2
    go_ret
    exact ⟨rfl, rfl⟩
set_option maxRecDepth 100000 in
theorem i_sign (a b : Int) (w : World) : Calls Try.prog 48 #[.int .i64 a, .int .i64 b] w fun e w' => e = .returned (.int .i64 (sgn a b)) ∧ w = w' := by
  rcases sgn_cases a b with ⟨h1, h2⟩ | ⟨h1, h2⟩ | ⟨h1, h2⟩
  all_goals
    rw [h2]
    clear h2
    go_enter Try.func48, Try.ntmps48
    go_wp2
    go_ret
    exact ⟨rfl, rfl⟩
end Go.Proofs.Ytimjkgciakbolaa
