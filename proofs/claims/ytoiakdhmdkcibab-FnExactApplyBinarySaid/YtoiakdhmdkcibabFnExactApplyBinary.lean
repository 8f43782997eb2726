/- Proved: for every input the law FnExactApplyBinary returns true and leaves everything as it was: ApplyBinary answers as its model does, for all integers. No condition. -/
import Derived.Test.YtoiakdhmdkcibabRows
import Derived.WalkKit
import Derived.ProofKit
import Derived.OpenShut
namespace Go.Proofs.Ytoiakdhmdkcibab.fnExactApplyBinary
open Go.ChangeShapes Go.WideShapes Go.ChangeAt Go.RowKit
set_option linter.unusedVariables false      -- a walk need not use every 'w<i>' (that an integer argument fits its kind)

theorem own : ownKnob Try.prog.godebug = none := by kernel_rfl

theorem pw (w : Int) (h1 : 1 ≤ w) (h2 : w ≤ 16) : 2 ≤ (2 : Int) ^ w.toNat ∧ (2 : Int) ^ w.toNat ≤ 65536 := by
  have : w = 1 ∨ w = 2 ∨ w = 3 ∨ w = 4 ∨ w = 5 ∨ w = 6 ∨ w = 7 ∨ w = 8 ∨ w = 9 ∨ w = 10 ∨ w = 11 ∨ w = 12 ∨ w = 13 ∨ w = 14 ∨ w = 15 ∨ w = 16 := by omega
  rcases this with h | h | h | h | h | h | h | h | h | h | h | h | h | h | h | h <;> subst h <;> decide
theorem ok_cases (w a : Int) : w < 1 ∨ (1 ≤ w ∧ 16 < w) ∨ (1 ≤ w ∧ w ≤ 16 ∧ a < 0) ∨ (1 ≤ w ∧ w ≤ 16 ∧ 0 ≤ a ∧ 2 ^ w.toNat - 1 < a) ∨ (1 ≤ w ∧ w ≤ 16 ∧ 0 ≤ a ∧ a ≤ 2 ^ w.toNat - 1) := by
  by_cases h : 1 ≤ w
  · by_cases h' : w ≤ 16
    · obtain ⟨q1, q2⟩ := pw w h h'
      omega
    · omega
  · omega
theorem high_bit (w a : Int) (h1 : 1 ≤ w) (h2 : w ≤ 16) (h3 : 0 ≤ a) (h4 : a ≤ 2 ^ w.toNat - 1) : ((a / 2 ^ (w.toNat - 1) == 0) = true ∧ (a / 2 ^ (w.toNat - 1) == 1) = false) ∨ ((a / 2 ^ (w.toNat - 1) == 0) = false ∧ (a / 2 ^ (w.toNat - 1) == 1) = true) := by
  have e : (2 : Int) ^ w.toNat = 2 * 2 ^ (w.toNat - 1) := by
    have : w.toNat = (w.toNat - 1) + 1 := by omega
    rw [this, Int.pow_succ]; simp; omega
  have hp : 0 < (2 : Int) ^ (w.toNat - 1) := Int.pow_pos (by decide)
  rw [e] at h4
  generalize (2 : Int) ^ (w.toNat - 1) = p at *
  have hd : a / p = 0 ∨ a / p = 1 := by
    have q1 : 0 ≤ a / p := Int.ediv_nonneg h3 (by omega)
    have q2 : a / p < 2 := Int.ediv_lt_of_lt_mul hp (by omega)
    omega
  rcases hd with h | h <;> rw [h] <;> simp
set_option maxHeartbeats 2000000 in
theorem bad_first (op w a b : Int) (hn : ¬ (1 ≤ w ∧ w ≤ 16 ∧ 0 ≤ a ∧ a ≤ 2 ^ w.toNat - 1)) (W : World) :
    Calls Try.prog 3 #[.int .i64 op, .int .i64 w, .int .i64 a, .int .i64 b] W fun e W' => e = .returned (.bool true) ∧ Grown W W' := by
  rcases ok_cases w a with h1 | ⟨h1, h2⟩ | ⟨h1, h2, h3⟩ | ⟨h1, h2, h3, h4⟩ | ⟨h1, h2, h3, h4⟩
  · go_enter Try.func3, Try.ntmps3
    go_wp2
    all_goals go_ret
    all_goals exact ⟨rfl, Grown.refl _⟩
  · have hx : decide (w ≤ 16) = false := by simp; omega
    clear hn
    go_enter Try.func3, Try.ntmps3
    go_wp2
    all_goals go_ret
    all_goals exact ⟨rfl, Grown.refl _⟩
  · obtain ⟨hp1, hp2⟩ := pw w h1 h2
    clear hn
    go_enter Try.func3, Try.ntmps3
    go_wp2
    all_goals go_ret
    all_goals exact ⟨rfl, Grown.refl _⟩
  · obtain ⟨hp1, hp2⟩ := pw w h1 h2
    have hx : decide (a ≤ 2 ^ w.toNat - 1) = false := by simp; omega
    clear hn
    go_enter Try.func3, Try.ntmps3
    go_wp2
    all_goals go_ret
    all_goals exact ⟨rfl, Grown.refl _⟩
  · obtain ⟨hp1, hp2⟩ := pw w h1 h2
    exact absurd ⟨h1, h2, h3, h4⟩ hn
set_option maxHeartbeats 2000000 in
theorem bad_second (op w a b : Int) (h1 : 1 ≤ w) (h2 : w ≤ 16) (h3 : 0 ≤ a) (h4 : a ≤ 2 ^ w.toNat - 1) (hn : ¬ (0 ≤ b ∧ b ≤ 2 ^ w.toNat - 1)) (W : World) :
    Calls Try.prog 3 #[.int .i64 op, .int .i64 w, .int .i64 a, .int .i64 b] W fun e W' => e = .returned (.bool true) ∧ Grown W W' := by
  obtain ⟨hp1, hp2⟩ := pw w h1 h2
  by_cases k3 : 0 ≤ b
  · have k4 : 2 ^ w.toNat - 1 < b := by omega
    have hx : decide (b ≤ 2 ^ w.toNat - 1) = false := by simp; omega
    clear hn
    go_enter Try.func3, Try.ntmps3
    go_wp2
    all_goals go_ret
    all_goals exact ⟨rfl, Grown.refl _⟩
  · have k3' : b < 0 := by omega
    clear hn k3
    go_enter Try.func3, Try.ntmps3
    go_wp2
    all_goals go_ret
    all_goals exact ⟨rfl, Grown.refl _⟩
set_option maxHeartbeats 2000000 in
theorem op_3 (w a b : Int) (h1 : 1 ≤ w) (h2 : w ≤ 16) (h3 : 0 ≤ a) (h4 : a ≤ 2 ^ w.toNat - 1) (k3 : 0 ≤ b) (k4 : b ≤ 2 ^ w.toNat - 1) (W : World) :
    Calls Try.prog 3 #[.int .i64 3, .int .i64 w, .int .i64 a, .int .i64 b] W fun e W' => e = .returned (.bool true) ∧ Grown W W' := by
  obtain ⟨hp1, hp2⟩ := pw w h1 h2
  go_enter Try.func3, Try.ntmps3
  go_wp2
  all_goals go_ret
  all_goals exact ⟨rfl, Grown.refl _⟩
set_option maxHeartbeats 2000000 in
theorem op_4 (w a b : Int) (h1 : 1 ≤ w) (h2 : w ≤ 16) (h3 : 0 ≤ a) (h4 : a ≤ 2 ^ w.toNat - 1) (k3 : 0 ≤ b) (k4 : b ≤ 2 ^ w.toNat - 1) (W : World) :
    Calls Try.prog 3 #[.int .i64 4, .int .i64 w, .int .i64 a, .int .i64 b] W fun e W' => e = .returned (.bool true) ∧ Grown W W' := by
  obtain ⟨hp1, hp2⟩ := pw w h1 h2
  go_enter Try.func3, Try.ntmps3
  go_wp2
  all_goals go_ret
  all_goals exact ⟨rfl, Grown.refl _⟩
set_option maxHeartbeats 2000000 in
theorem op_5 (w a b : Int) (h1 : 1 ≤ w) (h2 : w ≤ 16) (h3 : 0 ≤ a) (h4 : a ≤ 2 ^ w.toNat - 1) (k3 : 0 ≤ b) (k4 : b ≤ 2 ^ w.toNat - 1) (W : World) :
    Calls Try.prog 3 #[.int .i64 5, .int .i64 w, .int .i64 a, .int .i64 b] W fun e W' => e = .returned (.bool true) ∧ Grown W W' := by
  obtain ⟨hp1, hp2⟩ := pw w h1 h2
  go_enter Try.func3, Try.ntmps3
  go_wp2
  all_goals go_ret
  all_goals exact ⟨rfl, Grown.refl _⟩
set_option maxHeartbeats 2000000 in
theorem op_8 (w a b : Int) (h1 : 1 ≤ w) (h2 : w ≤ 16) (h3 : 0 ≤ a) (h4 : a ≤ 2 ^ w.toNat - 1) (k3 : 0 ≤ b) (k4 : b ≤ 2 ^ w.toNat - 1) (W : World) :
    Calls Try.prog 3 #[.int .i64 8, .int .i64 w, .int .i64 a, .int .i64 b] W fun e W' => e = .returned (.bool true) ∧ Grown W W' := by
  obtain ⟨hp1, hp2⟩ := pw w h1 h2
  go_enter Try.func3, Try.ntmps3
  go_wp2
  all_goals go_ret
  all_goals exact ⟨rfl, Grown.refl _⟩
set_option maxHeartbeats 2000000 in
theorem op_9 (w a b : Int) (h1 : 1 ≤ w) (h2 : w ≤ 16) (h3 : 0 ≤ a) (h4 : a ≤ 2 ^ w.toNat - 1) (k3 : 0 ≤ b) (k4 : b ≤ 2 ^ w.toNat - 1) (W : World) :
    Calls Try.prog 3 #[.int .i64 9, .int .i64 w, .int .i64 a, .int .i64 b] W fun e W' => e = .returned (.bool true) ∧ Grown W W' := by
  obtain ⟨hp1, hp2⟩ := pw w h1 h2
  go_enter Try.func3, Try.ntmps3
  go_wp2
  all_goals go_ret
  all_goals exact ⟨rfl, Grown.refl _⟩
set_option maxHeartbeats 2000000 in
theorem op_10 (w a b : Int) (h1 : 1 ≤ w) (h2 : w ≤ 16) (h3 : 0 ≤ a) (h4 : a ≤ 2 ^ w.toNat - 1) (k3 : 0 ≤ b) (k4 : b ≤ 2 ^ w.toNat - 1) (W : World) :
    Calls Try.prog 3 #[.int .i64 10, .int .i64 w, .int .i64 a, .int .i64 b] W fun e W' => e = .returned (.bool true) ∧ Grown W W' := by
  obtain ⟨hp1, hp2⟩ := pw w h1 h2
  go_enter Try.func3, Try.ntmps3
  go_wp2
  all_goals go_ret
  all_goals exact ⟨rfl, Grown.refl _⟩
set_option maxHeartbeats 2000000 in
theorem op_6 (w a b : Int) (h1 : 1 ≤ w) (h2 : w ≤ 16) (h3 : 0 ≤ a) (h4 : a ≤ 2 ^ w.toNat - 1) (k3 : 0 ≤ b) (k4 : b ≤ 2 ^ w.toNat - 1) (W : World) :
    Calls Try.prog 3 #[.int .i64 6, .int .i64 w, .int .i64 a, .int .i64 b] W fun e W' => e = .returned (.bool true) ∧ Grown W W' := by
  obtain ⟨hp1, hp2⟩ := pw w h1 h2
  by_cases h5 : b = 0
  · subst h5
    go_enter Try.func3, Try.ntmps3
    go_wp2
    all_goals go_ret
    all_goals exact ⟨rfl, Grown.refl _⟩
  · have h6 : 1 ≤ b := by omega
    have h7 : (b == 0) = false := by simpa using h5
    clear h5
    go_enter Try.func3, Try.ntmps3
    go_wp2
    all_goals go_ret
    all_goals exact ⟨rfl, Grown.refl _⟩
set_option maxHeartbeats 2000000 in
theorem op_7 (w a b : Int) (h1 : 1 ≤ w) (h2 : w ≤ 16) (h3 : 0 ≤ a) (h4 : a ≤ 2 ^ w.toNat - 1) (k3 : 0 ≤ b) (k4 : b ≤ 2 ^ w.toNat - 1) (W : World) :
    Calls Try.prog 3 #[.int .i64 7, .int .i64 w, .int .i64 a, .int .i64 b] W fun e W' => e = .returned (.bool true) ∧ Grown W W' := by
  obtain ⟨hp1, hp2⟩ := pw w h1 h2
  by_cases h5 : b = 0
  · subst h5
    go_enter Try.func3, Try.ntmps3
    go_wp2
    all_goals go_ret
    all_goals exact ⟨rfl, Grown.refl _⟩
  · have h6 : 1 ≤ b := by omega
    have h7 : (b == 0) = false := by simpa using h5
    clear h5
    go_enter Try.func3, Try.ntmps3
    go_wp2
    all_goals go_ret
    all_goals exact ⟨rfl, Grown.refl _⟩
set_option maxHeartbeats 2000000 in
theorem op_11 (w a b : Int) (h1 : 1 ≤ w) (h2 : w ≤ 16) (h3 : 0 ≤ a) (h4 : a ≤ 2 ^ w.toNat - 1) (k3 : 0 ≤ b) (k4 : b ≤ 2 ^ w.toNat - 1) (W : World) :
    Calls Try.prog 3 #[.int .i64 11, .int .i64 w, .int .i64 a, .int .i64 b] W fun e W' => e = .returned (.bool true) ∧ Grown W W' := by
  obtain ⟨hp1, hp2⟩ := pw w h1 h2
  by_cases h5 : w ≤ b
  · go_enter Try.func3, Try.ntmps3
    go_wp2
    all_goals go_ret
    all_goals exact ⟨rfl, Grown.refl _⟩
  · have h6 : b < w := by omega
    clear h5
    go_enter Try.func3, Try.ntmps3
    go_wp2
    all_goals go_ret
    all_goals exact ⟨rfl, Grown.refl _⟩
set_option maxHeartbeats 2000000 in
theorem op_12 (w a b : Int) (h1 : 1 ≤ w) (h2 : w ≤ 16) (h3 : 0 ≤ a) (h4 : a ≤ 2 ^ w.toNat - 1) (k3 : 0 ≤ b) (k4 : b ≤ 2 ^ w.toNat - 1) (W : World) :
    Calls Try.prog 3 #[.int .i64 12, .int .i64 w, .int .i64 a, .int .i64 b] W fun e W' => e = .returned (.bool true) ∧ Grown W W' := by
  obtain ⟨hp1, hp2⟩ := pw w h1 h2
  by_cases h5 : w ≤ b
  · go_enter Try.func3, Try.ntmps3
    go_wp2
    all_goals go_ret
    all_goals exact ⟨rfl, Grown.refl _⟩
  · have h6 : b < w := by omega
    clear h5
    go_enter Try.func3, Try.ntmps3
    go_wp2
    all_goals go_ret
    all_goals exact ⟨rfl, Grown.refl _⟩
set_option maxHeartbeats 2000000 in
theorem op_13 (w a b : Int) (h1 : 1 ≤ w) (h2 : w ≤ 16) (h3 : 0 ≤ a) (h4 : a ≤ 2 ^ w.toNat - 1) (k3 : 0 ≤ b) (k4 : b ≤ 2 ^ w.toNat - 1) (W : World) :
    Calls Try.prog 3 #[.int .i64 13, .int .i64 w, .int .i64 a, .int .i64 b] W fun e W' => e = .returned (.bool true) ∧ Grown W W' := by
  obtain ⟨hp1, hp2⟩ := pw w h1 h2
  rcases high_bit w a h1 h2 h3 h4 with ⟨hb0, hb1⟩ | ⟨hb0, hb1⟩
  · by_cases h5 : w ≤ b
    · have hm : min b (w - 1) = w - 1 := by omega
      go_enter Try.func3, Try.ntmps3
      go_wp2
      all_goals go_ret
      all_goals exact ⟨rfl, Grown.refl _⟩
    · have h6 : b < w := by omega
      have hm : min b (w - 1) = b := by omega
      clear h5
      go_enter Try.func3, Try.ntmps3
      go_wp2
      all_goals go_ret
      all_goals exact ⟨rfl, Grown.refl _⟩
  · by_cases h5 : w ≤ b
    · have hm : min b (w - 1) = w - 1 := by omega
      go_enter Try.func3, Try.ntmps3
      go_wp2
      all_goals go_ret
      all_goals exact ⟨rfl, Grown.refl _⟩
    · have h6 : b < w := by omega
      have hm : min b (w - 1) = b := by omega
      clear h5
      go_enter Try.func3, Try.ntmps3
      go_wp2
      all_goals go_ret
      all_goals exact ⟨rfl, Grown.refl _⟩
set_option maxHeartbeats 2000000 in
theorem op_14 (w a b : Int) (h1 : 1 ≤ w) (h2 : w ≤ 16) (h3 : 0 ≤ a) (h4 : a ≤ 2 ^ w.toNat - 1) (k3 : 0 ≤ b) (k4 : b ≤ 2 ^ w.toNat - 1) (W : World) :
    Calls Try.prog 3 #[.int .i64 14, .int .i64 w, .int .i64 a, .int .i64 b] W fun e W' => e = .returned (.bool true) ∧ Grown W W' := by
  obtain ⟨hp1, hp2⟩ := pw w h1 h2
  by_cases h5 : a = b
  · subst h5
    go_enter Try.func3, Try.ntmps3
    go_wp2
    all_goals go_ret
    all_goals exact ⟨rfl, Grown.refl _⟩
  · have h7 : (a == b) = false := by simpa using h5
    clear h5
    go_enter Try.func3, Try.ntmps3
    go_wp2
    all_goals go_ret
    all_goals exact ⟨rfl, Grown.refl _⟩
set_option maxHeartbeats 2000000 in
theorem op_15 (w a b : Int) (h1 : 1 ≤ w) (h2 : w ≤ 16) (h3 : 0 ≤ a) (h4 : a ≤ 2 ^ w.toNat - 1) (k3 : 0 ≤ b) (k4 : b ≤ 2 ^ w.toNat - 1) (W : World) :
    Calls Try.prog 3 #[.int .i64 15, .int .i64 w, .int .i64 a, .int .i64 b] W fun e W' => e = .returned (.bool true) ∧ Grown W W' := by
  obtain ⟨hp1, hp2⟩ := pw w h1 h2
  by_cases h5 : a < b
  · go_enter Try.func3, Try.ntmps3
    go_wp2
    all_goals go_ret
    all_goals exact ⟨rfl, Grown.refl _⟩
  · have h6 : b ≤ a := by omega
    clear h5
    go_enter Try.func3, Try.ntmps3
    go_wp2
    all_goals go_ret
    all_goals exact ⟨rfl, Grown.refl _⟩
set_option maxHeartbeats 2000000 in
theorem op_16 (w a b : Int) (h1 : 1 ≤ w) (h2 : w ≤ 16) (h3 : 0 ≤ a) (h4 : a ≤ 2 ^ w.toNat - 1) (k3 : 0 ≤ b) (k4 : b ≤ 2 ^ w.toNat - 1) (W : World) :
    Calls Try.prog 3 #[.int .i64 16, .int .i64 w, .int .i64 a, .int .i64 b] W fun e W' => e = .returned (.bool true) ∧ Grown W W' := by
  obtain ⟨hp1, hp2⟩ := pw w h1 h2
  rcases high_bit w a h1 h2 h3 h4 with ⟨hb0, hb1⟩ | ⟨hb0, hb1⟩
  · rcases high_bit w b h1 h2 k3 k4 with ⟨hc0, hc1⟩ | ⟨hc0, hc1⟩
    · by_cases h5 : a < b
      · go_enter Try.func3, Try.ntmps3
        go_wp2
        all_goals go_ret
        all_goals exact ⟨rfl, Grown.refl _⟩
      · have h6 : b ≤ a := by omega
        clear h5
        go_enter Try.func3, Try.ntmps3
        go_wp2
        all_goals go_ret
        all_goals exact ⟨rfl, Grown.refl _⟩
    · by_cases h5 : a < b - 2 ^ w.toNat
      · go_enter Try.func3, Try.ntmps3
        go_wp2
        all_goals go_ret
        all_goals exact ⟨rfl, Grown.refl _⟩
      · have h6 : b - 2 ^ w.toNat ≤ a := by omega
        clear h5
        go_enter Try.func3, Try.ntmps3
        go_wp2
        all_goals go_ret
        all_goals exact ⟨rfl, Grown.refl _⟩
  · rcases high_bit w b h1 h2 k3 k4 with ⟨hc0, hc1⟩ | ⟨hc0, hc1⟩
    · by_cases h5 : a - 2 ^ w.toNat < b
      · go_enter Try.func3, Try.ntmps3
        go_wp2
        all_goals go_ret
        all_goals exact ⟨rfl, Grown.refl _⟩
      · have h6 : b ≤ a - 2 ^ w.toNat := by omega
        clear h5
        go_enter Try.func3, Try.ntmps3
        go_wp2
        all_goals go_ret
        all_goals exact ⟨rfl, Grown.refl _⟩
    · by_cases h5 : a - 2 ^ w.toNat < b - 2 ^ w.toNat
      · go_enter Try.func3, Try.ntmps3
        go_wp2
        all_goals go_ret
        all_goals exact ⟨rfl, Grown.refl _⟩
      · have h6 : b - 2 ^ w.toNat ≤ a - 2 ^ w.toNat := by omega
        clear h5
        go_enter Try.func3, Try.ntmps3
        go_wp2
        all_goals go_ret
        all_goals exact ⟨rfl, Grown.refl _⟩
set_option maxHeartbeats 2000000 in
theorem op_other (op w a b : Int) (h1 : 1 ≤ w) (h2 : w ≤ 16) (h3 : 0 ≤ a) (h4 : a ≤ 2 ^ w.toNat - 1) (k3 : 0 ≤ b) (k4 : b ≤ 2 ^ w.toNat - 1) (q3 : op ≠ 3) (q4 : op ≠ 4) (q5 : op ≠ 5) (q6 : op ≠ 6) (q7 : op ≠ 7) (q8 : op ≠ 8) (q9 : op ≠ 9) (q10 : op ≠ 10) (q11 : op ≠ 11) (q12 : op ≠ 12) (q13 : op ≠ 13) (q14 : op ≠ 14) (q15 : op ≠ 15) (q16 : op ≠ 16) (W : World) :
    Calls Try.prog 3 #[.int .i64 op, .int .i64 w, .int .i64 a, .int .i64 b] W fun e W' => e = .returned (.bool true) ∧ Grown W W' := by
  obtain ⟨hp1, hp2⟩ := pw w h1 h2
  have r3 : (op == 3) = false := by simpa using q3
  have r4 : (op == 4) = false := by simpa using q4
  have r5 : (op == 5) = false := by simpa using q5
  have r6 : (op == 6) = false := by simpa using q6
  have r7 : (op == 7) = false := by simpa using q7
  have r8 : (op == 8) = false := by simpa using q8
  have r9 : (op == 9) = false := by simpa using q9
  have r10 : (op == 10) = false := by simpa using q10
  have r11 : (op == 11) = false := by simpa using q11
  have r12 : (op == 12) = false := by simpa using q12
  have r13 : (op == 13) = false := by simpa using q13
  have r14 : (op == 14) = false := by simpa using q14
  have r15 : (op == 15) = false := by simpa using q15
  have r16 : (op == 16) = false := by simpa using q16
  clear q3 q4 q5 q6 q7 q8 q9 q10 q11 q12 q13 q14 q15 q16
  go_enter Try.func3, Try.ntmps3
  go_wp2
  all_goals go_ret
  all_goals exact ⟨rfl, Grown.refl _⟩

/-! ### STEP 1: THE WALK: the Go text returns true. 'Grown w w'': the world has at most new blocks (Derived/RowKit3.lean). Part the cases AHEAD of 'go_enter' where a test parts the walk; take each callee by a contract of your own. -/
set_option maxHeartbeats 2000000 in
theorem walk (a0 : Int) (a1 : Int) (a2 : Int) (a3 : Int) (w0 : (Lit.int .i64 a0).wf = true) (w1 : (Lit.int .i64 a1).wf = true) (w2 : (Lit.int .i64 a2).wf = true) (w3 : (Lit.int .i64 a3).wf = true) (w : World) :
    Calls Try.prog 3 #[.int .i64 a0, .int .i64 a1, .int .i64 a2, .int .i64 a3] w fun e w' => e = .returned (.bool true) ∧ Grown w w' := by
  by_cases ha : 1 ≤ a1 ∧ a1 ≤ 16 ∧ 0 ≤ a2 ∧ a2 ≤ 2 ^ a1.toNat - 1
  · obtain ⟨h1, h2, h3, h4⟩ := ha
    by_cases hb : 0 ≤ a3 ∧ a3 ≤ 2 ^ a1.toNat - 1
    · obtain ⟨k3, k4⟩ := hb
      by_cases q3 : a0 = 3
      · subst q3; exact op_3 a1 a2 a3 h1 h2 h3 h4 k3 k4 w
      by_cases q4 : a0 = 4
      · subst q4; exact op_4 a1 a2 a3 h1 h2 h3 h4 k3 k4 w
      by_cases q5 : a0 = 5
      · subst q5; exact op_5 a1 a2 a3 h1 h2 h3 h4 k3 k4 w
      by_cases q6 : a0 = 6
      · subst q6; exact op_6 a1 a2 a3 h1 h2 h3 h4 k3 k4 w
      by_cases q7 : a0 = 7
      · subst q7; exact op_7 a1 a2 a3 h1 h2 h3 h4 k3 k4 w
      by_cases q8 : a0 = 8
      · subst q8; exact op_8 a1 a2 a3 h1 h2 h3 h4 k3 k4 w
      by_cases q9 : a0 = 9
      · subst q9; exact op_9 a1 a2 a3 h1 h2 h3 h4 k3 k4 w
      by_cases q10 : a0 = 10
      · subst q10; exact op_10 a1 a2 a3 h1 h2 h3 h4 k3 k4 w
      by_cases q11 : a0 = 11
      · subst q11; exact op_11 a1 a2 a3 h1 h2 h3 h4 k3 k4 w
      by_cases q12 : a0 = 12
      · subst q12; exact op_12 a1 a2 a3 h1 h2 h3 h4 k3 k4 w
      by_cases q13 : a0 = 13
      · subst q13; exact op_13 a1 a2 a3 h1 h2 h3 h4 k3 k4 w
      by_cases q14 : a0 = 14
      · subst q14; exact op_14 a1 a2 a3 h1 h2 h3 h4 k3 k4 w
      by_cases q15 : a0 = 15
      · subst q15; exact op_15 a1 a2 a3 h1 h2 h3 h4 k3 k4 w
      by_cases q16 : a0 = 16
      · subst q16; exact op_16 a1 a2 a3 h1 h2 h3 h4 k3 k4 w
      exact op_other a0 a1 a2 a3 h1 h2 h3 h4 k3 k4 q3 q4 q5 q6 q7 q8 q9 q10 q11 q12 q13 q14 q15 q16 w
    · exact bad_second a0 a1 a2 a3 h1 h2 h3 h4 hb w
  · exact bad_first a0 a1 a2 a3 ha w

/-! ### THE ROW's STEP: WRITTEN OUT: LEAVE IT -/
set_option maxRecDepth 100000 in
theorem lifted (os : Os) (started : os.Started) (H : Type) (enc : TypeId × Value → H) :
    ReturnsInHanded {} Try.checked os 3 .any (Rows.fnExactApplyBinarySpec.pre6 enc Try.prog Try.f3 Rows.fnExactApplyBinaryRow.domain false) (Rows.fnExactApplyBinarySpec.post enc Try.prog Try.f3 false true false false) := by
  refine returnsInHanded_of_change (C := Try.checked) own started (by kernel_rfl) Try.func3
    (ChangeSpec.witness6 (enc := enc) (C := Try.checked) false ⟨#[], #[.int .i64 0, .int .i64 0, .int .i64 0, .int .i64 0], []⟩ 8 (by kernel_rfl) (by kernel_rfl) (by kernel_rfl) (by kernel_rfl)) ?_
  intro W base args ds gs before hval0 hW hcnd _
  have hval : ∀ (j : Nat) t v, Try.f3.params[j]? = some t → args[j]? = some v → Value.okWide Try.prog W .any base t v := hval0
  have hW' := hW
  obtain ⟨p, q, hA0, hV, rfl, hfz, hnd⟩ := hW
  have hA : DataW.TrodAll enc Try.prog W 0 (fun _ => true) true Try.f3.params.toList args.toList ds p := hA0
  rw [Try.params3] at hA hval
  obtain ⟨v0, vs0, d0, ds0, p0, q0, hargs, rfl, rfl, h0, r0⟩ := trodAll_cons hA
  obtain ⟨v1, vs1, d1, ds1, p1, q1, rfl, rfl, rfl, h1, r1⟩ := trodAll_cons r0
  obtain ⟨v2, vs2, d2, ds2, p2, q2, rfl, rfl, rfl, h2, r2⟩ := trodAll_cons r1
  obtain ⟨v3, vs3, d3, ds3, p3, q3, rfl, rfl, rfl, h3, r3⟩ := trodAll_cons r2
  obtain ⟨rfl, rfl, rfl⟩ := trodAll_nil r3
  obtain rfl : args = #[v0, v1, v2, v3] := by cases args; simp_all
  obtain ⟨rfl, rfl⟩ := trodVars_none hV
  obtain ⟨a0, rfl, rfl, rfl, w0⟩ := open_int Try.underlying3 (hval 0 3 v0 rfl rfl) h0
  obtain ⟨a1, rfl, rfl, rfl, w1⟩ := open_int Try.underlying3 (hval 1 3 v1 rfl rfl) h1
  obtain ⟨a2, rfl, rfl, rfl, w2⟩ := open_int Try.underlying3 (hval 2 3 v2 rfl rfl) h2
  obtain ⟨a3, rfl, rfl, rfl, w3⟩ := open_int Try.underlying3 (hval 3 3 v3 rfl rfl) h3
  clear hA0 hval0
  simp only [List.append_nil] at hW'
  refine (walk a0 a1 a2 a3 w0 w1 w2 w3 W).mono fun e W' ⟨he, hg⟩ => ?_
  subst he
  exact ⟨_, rfl, post_of_same (pa := []) (pv := []) hW' (fun _ _ _ => (trodAll_cons_mk (shut_bool Try.underlying4 _) trodAll_mk0)) (fun sp _ => (trodAll_cons_mk (shut_int Try.underlying3 w0) (trodAll_cons_mk (shut_int Try.underlying3 w1) (trodAll_cons_mk (shut_int Try.underlying3 w2) (trodAll_cons_mk (shut_int Try.underlying3 w3) trodAll_mk0))))) (fun _ _ => rfl) rfl
    (hg.frame _) hg.2.1 (ok_one (by kernel_rfl) rfl (okWide_bool_mk Try.underlying4 _))⟩

theorem over : Rows.fnExactApplyBinaryRow.holds Try.pinned (OpenSpec.ofChange Rows.fnExactApplyBinarySpec) :=
  OpenClaim.holds_of_wide 3 Try.f3 rfl rfl rfl rfl rfl rfl rfl ⟨rfl, rfl, rfl, rfl, rfl⟩ rfl rfl rfl rfl rfl (by kernel_rfl) Try.func3 (by kernel_rfl)
    (of_decide_eq_true (by kernel_rfl)) (by unfold Func.isWrapper; first | (rw [if_pos (by decide +kernel)]; kernel_rfl) | (rw [if_neg (by decide +kernel)]; exact ⟨rfl, rfl⟩))
    (fun os started H enc _ => lifted os started H enc)

/-- ████ THE STATEMENT ████ -/
theorem proved : Rows.FnExactApplyBinarySaid :=
  over
#print axioms proved
end Go.Proofs.Ytoiakdhmdkcibab.fnExactApplyBinary
