/- The model of BranchesOf. No condition. -/
import Derived.Test.YtnhagmjknfiphaaCmGPrM
namespace Go.Proofs.Ytnhagmjknfiphaa
open Go.ChangeShapes Go.WideShapes Go.ChangeAt Go.RowKit
/-- the places of branches among the first ones -/
def brL (L : List InsR) : Nat → List Int
  | 0 => []
  | n + 1 => if (L[n]?.map InsR.f0) = some 10 then brL L n ++ [(n : Int)] else brL L n
theorem brL_len (L : List InsR) : ∀ n, (brL L n).length ≤ n
  | 0 => Nat.le_refl _
  | n + 1 => by
    have := brL_len L n
    unfold brL
    split
    · rw [List.length_append]; simp only [List.length_singleton]; omega
    · omega
theorem brL_yes {L : List InsR} {n : Nat} (h : n < L.length) (h2 : L[n].f0 = 10) : brL L (n + 1) = brL L n ++ [(n : Int)] := by
  show (if _ then _ else _) = _
  rw [List.getElem?_eq_getElem h, if_pos (by simp [h2])]
theorem brL_no {L : List InsR} {n : Nat} (h : n < L.length) (h2 : ¬ L[n].f0 = 10) : brL L (n + 1) = brL L n := by
  show (if _ then _ else _) = _
  rw [List.getElem?_eq_getElem h, if_neg (by simp [h2])]
def brV (vw vm vi : Int) (L : List InsR) : List Int := if prB vw vm vi L = true then brL L L.length else []
theorem brV_len (vw vm vi : Int) (L : List InsR) : (brV vw vm vi L).length ≤ 40 := by
  unfold brV
  split
  · rename_i h
    obtain ⟨⟨-, -, -, -, -, -, -, -, h40⟩, -⟩ := pr_in h
    have := brL_len L L.length
    omega
  · simp
end Go.Proofs.Ytnhagmjknfiphaa
