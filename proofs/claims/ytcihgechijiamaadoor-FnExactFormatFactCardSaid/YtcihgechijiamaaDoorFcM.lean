/- The model of what is a fact of a program. No condition. -/
import Derived.Test.YtcihgechijiamaaDoorPrM
namespace Go.Proofs.YtcihgechijiamaaDoor
open Go.ChangeShapes Go.WideShapes Go.ChangeAt Go.RowKit
/-- what the second register of a fact is, and what its number is -/
def fkB (k : Int) : Int := if k = 4 then 2 else if k = 2 ∨ k = 5 ∨ k = 6 then 1 else 0
def fkN (k : Int) : Int := if k = 1 ∨ k = 3 ∨ k = 4 ∨ k = 5 then 2 else 0
/-- what else is asked of a fact of this kind -/
def fkX (w k a b n : Int) : Bool := if k = 2 ∨ k = 5 then decide (a < b) else if k = 3 then decide (n < 2 ^ w.toNat - 1) else if k = 4 then decide (b < w) && decide (n ≤ 1) else if k = 6 then decide (a ≠ b) else true
/-- the fact is one of the program -/
def fcB (vw vm vi : Int) (L : List InsR) (k a b n : Int) : Bool := prB vw vm vi L && (decide (1 ≤ k ∧ k ≤ 6) && (opB 1 a vw L.length && (opB (fkB k) b vw L.length && (opB (fkN k) n vw L.length && fkX vw k a b n))))
theorem fk_cases (k : Int) : k = 1 ∨ k = 2 ∨ k = 3 ∨ k = 4 ∨ k = 5 ∨ k = 6 ∨ (k < 1 ∨ 6 < k) := by omega
theorem fc_bad {vw vm vi : Int} {L : List InsR} {k a b n : Int} (h : prB vw vm vi L = false) : fcB vw vm vi L k a b n = false := by
  unfold fcB
  rw [h]
  rfl
theorem fc_out {vw vm vi : Int} {L : List InsR} {k a b n : Int} (h : k < 1 ∨ 6 < k) : fcB vw vm vi L k a b n = false := by
  unfold fcB
  rw [show decide (1 ≤ k ∧ k ≤ 6) = false from decide_eq_false (by omega)]
  simp
theorem fc_in {vw vm vi : Int} {L : List InsR} {k a b n : Int} (hp : prB vw vm vi L = true) (h1 : 1 ≤ k) (h2 : k ≤ 6) : fcB vw vm vi L k a b n = (opB 1 a vw L.length && (opB (fkB k) b vw L.length && (opB (fkN k) n vw L.length && fkX vw k a b n))) := by
  unfold fcB
  rw [hp, decide_eq_true ⟨h1, h2⟩]
  rfl
theorem fc_reg {vw vm vi : Int} {L : List InsR} {k a b n : Int} (h : (decide (0 ≤ a) && decide (a ≤ 3)) = false) : fcB vw vm vi L k a b n = false := by
  unfold fcB
  rw [opB_reg, h]
  simp
theorem wk_in {vw n : Int} (hw : 2 ≤ vw ∧ vw ≤ 8) (h0 : 0 ≤ n) (h1 : n ≤ 3) : wkB vw n = true := by
  have hp : (4 : Int) ≤ 2 ^ vw.toNat := by
    have : vw = 2 ∨ vw = 3 ∨ vw = 4 ∨ vw = 5 ∨ vw = 6 ∨ vw = 7 ∨ vw = 8 := by omega
    rcases this with h | h | h | h | h | h | h <;> subst h <;> decide
  exact decide_eq_true ⟨by omega, by omega, h0, by omega⟩
theorem wk_lt {vw b : Int} (hw : 2 ≤ vw ∧ vw ≤ 8) (h0 : 0 ≤ b) (h1 : b < vw) : wkB vw b = true := by
  have hp : vw ≤ 2 ^ vw.toNat := by
    have : vw = 2 ∨ vw = 3 ∨ vw = 4 ∨ vw = 5 ∨ vw = 6 ∨ vw = 7 ∨ vw = 8 := by omega
    rcases this with h | h | h | h | h | h | h <;> subst h <;> decide
  exact decide_eq_true ⟨by omega, by omega, h0, by omega⟩
theorem wk_ge {vw b : Int} (h : wkB vw b = true) : 0 ≤ b := (of_decide_eq_true h : IsWk vw b).2.2.1
section
variable {vw vm vi : Int} {L : List InsR} {a b n : Int}
theorem fc_1 (hp : prB vw vm vi L = true) (ha : (decide (0 ≤ a) && decide (a ≤ 3)) = true) : (decide (b = 0) && wkB vw n) = fcB vw vm vi L 1 a b n := by
  rw [fc_in hp (by omega) (by omega), opB_reg, ha]
  show _ = (true && (decide (b = 0) && (wkB vw n && true)))
  simp
theorem fc_2 (hp : prB vw vm vi L = true) (ha : (decide (0 ≤ a) && decide (a ≤ 3)) = true) : ((decide (0 ≤ b) && decide (b ≤ 3)) && (decide (a < b) && decide (n = 0))) = fcB vw vm vi L 2 a b n := by
  rw [fc_in hp (by omega) (by omega), opB_reg, ha]
  show _ = (true && ((decide (0 ≤ b) && decide (b ≤ 3)) && (decide (n = 0) && decide (a < b))))
  generalize (decide (0 ≤ b) && decide (b ≤ 3)) = x
  generalize decide (a < b) = y
  generalize decide (n = 0) = z
  cases x <;> cases y <;> cases z <;> rfl
theorem fc_3 (hp : prB vw vm vi L = true) (ha : (decide (0 ≤ a) && decide (a ≤ 3)) = true) : (decide (b = 0) && (wkB vw n && decide (n < 2 ^ vw.toNat - 1))) = fcB vw vm vi L 3 a b n := by
  rw [fc_in hp (by omega) (by omega), opB_reg, ha]
  rfl
theorem fc_4 (hp : prB vw vm vi L = true) (ha : (decide (0 ≤ a) && decide (a ≤ 3)) = true) : ((decide (0 ≤ b) && decide (b ≤ vw - 1)) && (decide (0 ≤ n) && decide (n ≤ 1))) = fcB vw vm vi L 4 a b n := by
  rw [fc_in hp (by omega) (by omega), opB_reg, ha]
  show _ = (true && (wkB vw b && (wkB vw n && (decide (b < vw) && decide (n ≤ 1)))))
  obtain ⟨⟨g1, g2, _⟩, _⟩ := pr_in hp
  rw [Bool.eq_iff_iff]
  simp only [Bool.and_eq_true, decide_eq_true_eq, true_and]
  constructor
  · rintro ⟨⟨h1, h2⟩, h3, h4⟩
    exact ⟨wk_lt ⟨g1, g2⟩ h1 (by omega), wk_in ⟨g1, g2⟩ h3 (by omega), by omega, h4⟩
  · rintro ⟨h1, h2, h3, h4⟩
    exact ⟨⟨wk_ge h1, by omega⟩, wk_ge h2, h4⟩
theorem fc_5 (hp : prB vw vm vi L = true) (ha : (decide (0 ≤ a) && decide (a ≤ 3)) = true) : ((decide (0 ≤ b) && decide (b ≤ 3)) && (decide (a < b) && wkB vw n)) = fcB vw vm vi L 5 a b n := by
  rw [fc_in hp (by omega) (by omega), opB_reg, ha]
  show _ = (true && ((decide (0 ≤ b) && decide (b ≤ 3)) && (wkB vw n && decide (a < b))))
  generalize (decide (0 ≤ b) && decide (b ≤ 3)) = x
  generalize decide (a < b) = y
  generalize wkB vw n = z
  cases x <;> cases y <;> cases z <;> rfl
theorem fc_6 (hp : prB vw vm vi L = true) (ha : (decide (0 ≤ a) && decide (a ≤ 3)) = true) : ((decide (0 ≤ b) && decide (b ≤ 3)) && (decide (a ≠ b) && decide (n = 0))) = fcB vw vm vi L 6 a b n := by
  rw [fc_in hp (by omega) (by omega), opB_reg, ha]
  show _ = (true && ((decide (0 ≤ b) && decide (b ≤ 3)) && (decide (n = 0) && decide (a ≠ b))))
  generalize (decide (0 ≤ b) && decide (b ≤ 3)) = x
  generalize decide (a ≠ b) = y
  generalize decide (n = 0) = z
  cases x <;> cases y <;> cases z <;> rfl
end
end Go.Proofs.YtcihgechijiamaaDoor
