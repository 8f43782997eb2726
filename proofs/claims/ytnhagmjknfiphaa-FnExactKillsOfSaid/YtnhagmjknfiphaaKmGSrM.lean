/- The model of SameRun. No condition. The model of KillsOf: the tests for which two programs run otherwise. No condition. -/
import Derived.Test.YtnhagmjknfiphaaCmGStR
import Derived.Test.YtnhagmjknfiphaaKmGIntSSb
import Derived.Test.YtnhagmjknfiphaaCmGRnM
namespace Go.Proofs.Ytnhagmjknfiphaa
open Go.ChangeShapes Go.WideShapes Go.ChangeAt Go.RowKit
def srB (x y : StR) : Bool := decide (x.cd = y.cd) && decide (x.O = y.O)
end Go.Proofs.Ytnhagmjknfiphaa
namespace Go.Proofs.Ytnhagmjknfiphaa
open Go.ChangeShapes Go.WideShapes Go.ChangeAt Go.RowKit
/-- whether the runs of two programs for a test are the same -/
def ksB (vw vm vi : Int) (L : List InsR) (vw' vm' vi' : Int) (L' : List InsR) (f : Int) (I : List Int) : Bool := srB (rnV vw vm vi L I f) (rnV vw' vm' vi' L' I f)
/-- the tests among the first ones for which they are not -/
def klL (vw vm vi : Int) (L : List InsR) (vw' vm' vi' : Int) (L' : List InsR) (f : Int) (T : List (List Int)) : Nat → List Int
  | 0 => []
  | n + 1 => if (T[n]?.map fun I => ksB vw vm vi L vw' vm' vi' L' f I) = some false then klL vw vm vi L vw' vm' vi' L' f T n ++ [(n : Int)] else klL vw vm vi L vw' vm' vi' L' f T n
def klV (vw vm vi : Int) (L : List InsR) (vw' vm' vi' : Int) (L' : List InsR) (f : Int) (T : List (List Int)) : List Int := if (aoB vw vm vi L T && aoB vw' vm' vi' L' T) = true then klL vw vm vi L vw' vm' vi' L' f T T.length else []
section
variable {vw vm vi vw' vm' vi' f : Int} {L L' : List InsR} {T : List (List Int)}
theorem klL_len : ∀ n, (klL vw vm vi L vw' vm' vi' L' f T n).length ≤ n
  | 0 => Nat.le_refl _
  | n + 1 => by
    have := klL_len n
    unfold klL
    split
    · rw [List.length_append]; simp only [List.length_singleton]; omega
    · omega
theorem klL_put {n : Nat} (h : n < T.length) (h2 : ksB vw vm vi L vw' vm' vi' L' f T[n] = false) : klL vw vm vi L vw' vm' vi' L' f T (n + 1) = klL vw vm vi L vw' vm' vi' L' f T n ++ [(n : Int)] := by
  show (if _ then _ else _) = _
  rw [List.getElem?_eq_getElem h, if_pos (by simp [h2])]
theorem klL_skip {n : Nat} (h : n < T.length) (h2 : ksB vw vm vi L vw' vm' vi' L' f T[n] = true) : klL vw vm vi L vw' vm' vi' L' f T (n + 1) = klL vw vm vi L vw' vm' vi' L' f T n := by
  show (if _ then _ else _) = _
  rw [List.getElem?_eq_getElem h, if_neg (by simp [h2])]
theorem klV_len : (klV vw vm vi L vw' vm' vi' L' f T).length ≤ T.length := by
  unfold klV
  split
  · exact klL_len _
  · simp
theorem ks_out (hf : ¬ (0 ≤ f ∧ f ≤ 400)) (I : List Int) : ksB vw vm vi L vw' vm' vi' L' f I = true := by
  have h : ∀ vw vm vi L, rnV vw vm vi L I f = zeroSt := fun vw vm vi L => by
    unfold rnV
    rw [if_neg]
    unfold rnB
    simp only [Bool.and_eq_true, decide_eq_true_eq]
    exact fun g => hf g.2
  unfold ksB
  rw [h, h]
  simp [srB]
theorem klL_out (hf : ¬ (0 ≤ f ∧ f ≤ 400)) : ∀ n, klL vw vm vi L vw' vm' vi' L' f T n = []
  | 0 => rfl
  | n + 1 => by
    show (if _ then _ else _) = _
    rw [if_neg, klL_out hf n]
    cases h : T[n]? with
    | none => simp
    | some I => simp [ks_out hf I]
theorem klV_fuel (hf : ¬ (0 ≤ f ∧ f ≤ 400)) : klV vw vm vi L vw' vm' vi' L' f T = [] := by
  unfold klV
  split
  · exact klL_out hf _
  · rfl
theorem in_prog {I : List Int} (h : prB vw vm vi L = false) : inB vw vm vi L I = false := by
  unfold inB
  rw [h]
  rfl
theorem klV_none (h : prB vw vm vi L = false ∨ prB vw' vm' vi' L' = false ∨ aoB vw vm vi L T = false ∨ aoB vw' vm' vi' L' T = false) : klV vw vm vi L vw' vm' vi' L' f T = [] := by
  unfold klV
  cases T with
  | nil => simp [klL]
  | cons I T =>
    have ha : ∀ {vw vm vi L}, prB vw vm vi L = false → aoB vw vm vi L (I :: T) = false := fun hp => ao_no 0 (by simp) (by simpa using in_prog hp)
    rw [if_neg]
    intro g
    rw [Bool.and_eq_true] at g
    rcases h with h | h | h | h
    · rw [ha h] at g; cases g.1
    · rw [ha h] at g; cases g.2
    · rw [h] at g; cases g.1
    · rw [h] at g; cases g.2
theorem klV_yes (h : aoB vw vm vi L T = true) (h' : aoB vw' vm' vi' L' T = true) : klV vw vm vi L vw' vm' vi' L' f T = klL vw vm vi L vw' vm' vi' L' f T T.length := by
  unfold klV
  rw [h, h', if_pos (by rfl)]
end
theorem rn_long (vw vm vi : Int) (L : List InsR) (I : List Int) (f : Int) : (rnV vw vm vi L I f).Long := by
  have hml : maxLen = 9223372036854775807 := rfl
  have h := rn_cost vw vm vi L I f
  have e : (rnV vw vm vi L I f).cost = (rnV vw vm vi L I f).R.length + (rnV vw vm vi L I f).M.length + (rnV vw vm vi L I f).S.length + (rnV vw vm vi L I f).O.length := rfl
  exact ⟨by omega, by omega, by omega, by omega⟩
end Go.Proofs.Ytnhagmjknfiphaa
