/- Contracts of WordOk, widthOk and their model: whether a number is a word. -/
import Derived.Test.YtbbalmeglgecgaaRows
import Derived.WalkKit
import Derived.ProofKit
import Derived.OpenShut
import Derived.Handy
import Derived.Lib.Hide
import Derived.Below
import Derived.IntWalk
import Derived.WalkLawsBesides
import Derived.WalkSmall
namespace Go.Proofs.Ytbbalmeglgecgaa
open Go.ChangeShapes Go.WideShapes Go.ChangeAt Go.RowKit
theorem pw (w : Int) (h1 : 1 ≤ w) (h2 : w ≤ 16) : 2 ≤ (2 : Int) ^ w.toNat ∧ (2 : Int) ^ w.toNat ≤ 65536 := by
  have : w = 1 ∨ w = 2 ∨ w = 3 ∨ w = 4 ∨ w = 5 ∨ w = 6 ∨ w = 7 ∨ w = 8 ∨ w = 9 ∨ w = 10 ∨ w = 11 ∨ w = 12 ∨ w = 13 ∨ w = 14 ∨ w = 15 ∨ w = 16 := by omega
  rcases this with h | h | h | h | h | h | h | h | h | h | h | h | h | h | h | h <;> subst h <;> decide
def IsWk (w a : Int) : Prop := 1 ≤ w ∧ w ≤ 16 ∧ 0 ≤ a ∧ a ≤ 2 ^ w.toNat - 1
instance (w a : Int) : Decidable (IsWk w a) := by unfold IsWk; infer_instance
/-- whether a number is a word of so many bits -/
def wkB (w a : Int) : Bool := decide (IsWk w a)
theorem ok_cases (w a : Int) : (w < 1 ∧ wkB w a = false) ∨ (1 ≤ w ∧ 16 < w ∧ wkB w a = false) ∨ (1 ≤ w ∧ w ≤ 16 ∧ a < 0 ∧ wkB w a = false) ∨ (1 ≤ w ∧ w ≤ 16 ∧ 0 ≤ a ∧ 2 ^ w.toNat - 1 < a ∧ wkB w a = false) ∨ (1 ≤ w ∧ w ≤ 16 ∧ 0 ≤ a ∧ a ≤ 2 ^ w.toNat - 1 ∧ wkB w a = true) := by
  by_cases h : IsWk w a
  · have : wkB w a = true := decide_eq_true h
    obtain ⟨h1, h2, h3, h4⟩ := h
    exact .inr (.inr (.inr (.inr ⟨h1, h2, h3, h4, this⟩)))
  · have hf : wkB w a = false := decide_eq_false h
    unfold IsWk at h
    by_cases h1 : 1 ≤ w
    · by_cases h2 : w ≤ 16
      · obtain ⟨q1, q2⟩ := pw w h1 h2
        by_cases h3 : 0 ≤ a
        · exact .inr (.inr (.inr (.inl ⟨h1, h2, h3, by omega, hf⟩)))
        · exact .inr (.inr (.inl ⟨h1, h2, by omega, hf⟩))
      · exact .inr (.inl ⟨h1, by omega, hf⟩)
    · exact .inl ⟨by omega, hf⟩
/-- whether a number is a width -/
def wdB (w : Int) : Bool := decide (1 ≤ w ∧ w ≤ 16)
theorem wd_cases (w : Int) : (w < 1 ∧ wdB w = false) ∨ (1 ≤ w ∧ 16 < w ∧ wdB w = false) ∨ (1 ≤ w ∧ w ≤ 16 ∧ wdB w = true) := by
  unfold wdB
  by_cases h : 1 ≤ w
  · by_cases h' : w ≤ 16
    · exact .inr (.inr ⟨h, h', by simp; omega⟩)
    · exact .inr (.inl ⟨h, by omega, by simp; omega⟩)
  · exact .inl ⟨by omega, by simp; omega⟩
theorem wk_wd {w a : Int} (h : wkB w a = true) : wdB w = true := by
  have : IsWk w a := of_decide_eq_true h
  exact decide_eq_true ⟨this.1, this.2.1⟩
theorem s_wk (w a : Int) (W : World) : Calls Try.prog 85 #[.int .i64 w, .int .i64 a] W fun e W' => e = .returned (.bool (wkB w a)) ∧ W = W' := by
  rcases ok_cases w a with ⟨h1, he⟩ | ⟨h1, h2, he⟩ | ⟨h1, h2, h3, he⟩ | ⟨h1, h2, h3, h4, he⟩ | ⟨h1, h2, h3, h4, he⟩
  · rw [he]
    clear he
    go_enter Try.func85, Try.ntmps85
    go_wp2
    all_goals go_ret
    all_goals exact ⟨rfl, rfl⟩
  · rw [he]
    clear he
    have hx : decide (w ≤ 16) = false := by simp; omega
    go_enter Try.func85, Try.ntmps85
    go_wp2
    all_goals go_ret
    all_goals exact ⟨rfl, rfl⟩
  · rw [he]
    clear he
    obtain ⟨hp1, hp2⟩ := pw w h1 h2
    go_enter Try.func85, Try.ntmps85
    go_wp2
    all_goals go_ret
    all_goals exact ⟨rfl, rfl⟩
  · rw [he]
    clear he
    obtain ⟨hp1, hp2⟩ := pw w h1 h2
    have hx : decide (a ≤ 2 ^ w.toNat - 1) = false := by simp; omega
    go_enter Try.func85, Try.ntmps85
    go_wp2
    all_goals go_ret
    all_goals exact ⟨rfl, rfl⟩
  · rw [he]
    clear he
    obtain ⟨hp1, hp2⟩ := pw w h1 h2
    go_enter Try.func85, Try.ntmps85
    go_wp2
    all_goals go_ret
    all_goals exact ⟨rfl, rfl⟩
theorem i_wk (w a : Int) (W : World) : Calls Try.prog 57 #[.int .i64 w, .int .i64 a] W fun e W' => e = .returned (.bool (wkB w a)) ∧ W = W' := by
  rcases ok_cases w a with ⟨h1, he⟩ | ⟨h1, h2, he⟩ | ⟨h1, h2, h3, he⟩ | ⟨h1, h2, h3, h4, he⟩ | ⟨h1, h2, h3, h4, he⟩
  · rw [he]
    clear he
    go_enter Try.func57, Try.ntmps57
    go_wp2
    all_goals go_ret
    all_goals exact ⟨rfl, rfl⟩
  · rw [he]
    clear he
    have hx : decide (w ≤ 16) = false := by simp; omega
    go_enter Try.func57, Try.ntmps57
    go_wp2
    all_goals go_ret
    all_goals exact ⟨rfl, rfl⟩
  · rw [he]
    clear he
    obtain ⟨hp1, hp2⟩ := pw w h1 h2
    go_enter Try.func57, Try.ntmps57
    go_wp2
    all_goals go_ret
    all_goals exact ⟨rfl, rfl⟩
  · rw [he]
    clear he
    obtain ⟨hp1, hp2⟩ := pw w h1 h2
    have hx : decide (a ≤ 2 ^ w.toNat - 1) = false := by simp; omega
    go_enter Try.func57, Try.ntmps57
    go_wp2
    all_goals go_ret
    all_goals exact ⟨rfl, rfl⟩
  · rw [he]
    clear he
    obtain ⟨hp1, hp2⟩ := pw w h1 h2
    go_enter Try.func57, Try.ntmps57
    go_wp2
    all_goals go_ret
    all_goals exact ⟨rfl, rfl⟩
theorem i_wd (w : Int) (W : World) : Calls Try.prog 58 #[.int .i64 w] W fun e W' => e = .returned (.bool (wdB w)) ∧ W = W' := by
  rcases wd_cases w with ⟨h1, he⟩ | ⟨h1, h2, he⟩ | ⟨h1, h2, he⟩
  all_goals
    rw [he]
    clear he
  · go_enter Try.func58, Try.ntmps58
    go_wp2
    go_ret
    exact ⟨rfl, rfl⟩
  · have hx : decide (w ≤ 16) = false := by simp; omega
    go_enter Try.func58, Try.ntmps58
    go_wp2
    go_ret
    exact ⟨rfl, rfl⟩
  · go_enter Try.func58, Try.ntmps58
    go_wp2
    go_ret
    exact ⟨rfl, rfl⟩
theorem s_wd (w : Int) (W : World) : Calls Try.prog 49 #[.int .i64 w, .int .i64 1, .int .i64 16] W fun e W' => e = .returned (.bool (wdB w)) ∧ W = W' := by
  rcases wd_cases w with ⟨h1, he⟩ | ⟨h1, h2, he⟩ | ⟨h1, h2, he⟩
  all_goals
    rw [he]
    clear he
  · go_enter Try.func49, Try.ntmps49
    go_wp2
    go_ret
    exact ⟨rfl, rfl⟩
  · have hx : decide (w ≤ 16) = false := by simp; omega
    go_enter Try.func49, Try.ntmps49
    go_wp2
    go_ret
    exact ⟨rfl, rfl⟩
  · go_enter Try.func49, Try.ntmps49
    go_wp2
    go_ret
    exact ⟨rfl, rfl⟩
end Go.Proofs.Ytbbalmeglgecgaa
