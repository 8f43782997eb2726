/- A stack of pairs of slices of terms, and what a comparison of it says. No condition. -/
import Derived.Test.YtimjkgciakbolaaCmI
namespace Go.Proofs.Ytimjkgciakbolaa
open Go.ChangeShapes Go.WideShapes Go.ChangeAt Go.RowKit
/-- what a stack of pairs says: the first is the top -/
def cmpL : List (Fo × Fo) → Int
  | [] => 0
  | (F, G) :: L => if F.cmp G ≠ 0 then F.cmp G else cmpL L
/-- how many rounds are left at most -/
def leftL : List (Fo × Fo) → Nat
  | [] => 0
  | (F, _) :: L => 2 * F.nodes + 1 + leftL L
/-- the slices as they lie, from the bottom on -/
def lieL : List (Fo × Fo) → List Fo
  | [] => []
  | (F, G) :: L => lieL L ++ [F, G]
theorem lieL_len : ∀ L : List (Fo × Fo), (lieL L).length = 2 * L.length
  | [] => rfl
  | (F, G) :: L => by simp only [lieL, List.length_append, lieL_len L, List.length_cons, List.length_nil]; omega
theorem cmp_end {F G : Fo} (h : F.len = 0 ∨ G.len = 0) : F.cmp G = sgn (F.len : Int) (G.len : Int) := by
  rcases h with h | h
  · cases F with
    | nil => exact cmp_nil G
    | cons => simp [Fo.len] at h
  · cases G with
    | nil => exact cmp_len F
    | cons => simp [Fo.len] at h
theorem cmpL_one (F G : Fo) : cmpL [(F, G)] = F.cmp G := by
  unfold cmpL
  by_cases h : F.cmp G ≠ 0
  · rw [if_pos h]
  · rw [if_neg h]; simp only [cmpL]; simpa using Eq.symm (by simpa using h)
theorem cmpL_pop {F G : Fo} {L : List (Fo × Fo)} (h : F.cmp G = 0) : cmpL ((F, G) :: L) = cmpL L := by
  show (if _ then _ else _) = _
  rw [if_neg (fun h' => h' h)]
theorem cmpL_out {F G : Fo} {L : List (Fo × Fo)} (h : F.cmp G ≠ 0) : cmpL ((F, G) :: L) = F.cmp G := by
  show (if _ then _ else _) = _
  rw [if_pos h]
theorem cmpL_step {F G : Fo} {L : List (Fo × Fo)} {op wd n op' wd' n' : Int} {nm nm' : ByteArray} {k k' : Fo} (h : F.At 0 op wd n nm k) (h' : G.At 0 op' wd' n' nm' k') :
    cmpL ((F, G) :: L) = if cmpN op wd n nm op' wd' n' nm' ≠ 0 then cmpN op wd n nm op' wd' n' nm' else cmpL ((k, k') :: (F.drop 1, G.drop 1) :: L) := by
  have e := cmp_at h h'
  rw [Fo.drop_zero, Fo.drop_zero] at e
  simp only [cmpL]
  rw [e]
  unfold cmpOne
  by_cases h1 : cmpN op wd n nm op' wd' n' nm' = 0
  · by_cases h2 : k.cmp k' = 0
    · simp [h1, h2]
    · simp [h1, h2]
  · simp [h1]
theorem leftL_step {F G : Fo} {L : List (Fo × Fo)} {op wd n : Int} {nm : ByteArray} {k k' : Fo} (h : F.At 0 op wd n nm k) : leftL ((k, k') :: (F.drop 1, G.drop 1) :: L) + 1 = leftL ((F, G) :: L) := by
  have e := Fo.drop_at F 0 h
  rw [Fo.drop_zero] at e
  have e2 : F.nodes = 1 + k.nodes + (F.drop 1).nodes := by
    conv => lhs; rw [e]
    simp only [Fo.nodes]
  simp only [leftL]
  omega
end Go.Proofs.Ytimjkgciakbolaa
