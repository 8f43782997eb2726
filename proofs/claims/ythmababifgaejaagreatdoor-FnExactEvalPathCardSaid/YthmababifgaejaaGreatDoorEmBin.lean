/- What the operations on two words return. No condition. -/
import Derived.Test.YthmababifgaejaaGreatDoorEmGPaM
namespace Go.Proofs.YthmababifgaejaaGreatDoor
open Go.ChangeShapes Go.WideShapes Go.ChangeAt Go.RowKit
set_option maxHeartbeats 2000000 in
theorem i_b3 (w a b : Int) (h1 : 1 ≤ w) (h2 : w ≤ 16) (h3 : 0 ≤ a) (h4 : a ≤ 2 ^ w.toNat - 1) (k3 : 0 ≤ b) (k4 : b ≤ 2 ^ w.toNat - 1) (W : World) :
    Calls Tryz.prog 76 #[.int .i64 3, .int .i64 w, .int .i64 a, .int .i64 b] W fun e W' => e = .returned (.int .i64 (mask w (a + b))) ∧ W = W' := by
  obtain ⟨hp1, hp2⟩ := pw w h1 h2
  go_enter Tryz.func76, Tryz.ntmps76
  go_wp2
  go_ret
  exact ⟨rfl, rfl⟩
set_option maxHeartbeats 2000000 in
theorem i_b4 (w a b : Int) (h1 : 1 ≤ w) (h2 : w ≤ 16) (h3 : 0 ≤ a) (h4 : a ≤ 2 ^ w.toNat - 1) (k3 : 0 ≤ b) (k4 : b ≤ 2 ^ w.toNat - 1) (W : World) :
    Calls Tryz.prog 76 #[.int .i64 4, .int .i64 w, .int .i64 a, .int .i64 b] W fun e W' => e = .returned (.int .i64 (mask w (a - b))) ∧ W = W' := by
  obtain ⟨hp1, hp2⟩ := pw w h1 h2
  go_enter Tryz.func76, Tryz.ntmps76
  go_wp2
  go_ret
  exact ⟨rfl, rfl⟩
set_option maxHeartbeats 2000000 in
theorem i_b5 (w a b : Int) (h1 : 1 ≤ w) (h2 : w ≤ 16) (h3 : 0 ≤ a) (h4 : a ≤ 2 ^ w.toNat - 1) (k3 : 0 ≤ b) (k4 : b ≤ 2 ^ w.toNat - 1) (W : World) :
    Calls Tryz.prog 76 #[.int .i64 5, .int .i64 w, .int .i64 a, .int .i64 b] W fun e W' => e = .returned (.int .i64 (mask w (wrap64 (a * b)))) ∧ W = W' := by
  obtain ⟨hp1, hp2⟩ := pw w h1 h2
  go_enter Tryz.func76, Tryz.ntmps76
  go_wp2
  go_ret
  exact ⟨rfl, rfl⟩
set_option maxHeartbeats 2000000 in
theorem i_b8 (w a b : Int) (h1 : 1 ≤ w) (h2 : w ≤ 16) (h3 : 0 ≤ a) (h4 : a ≤ 2 ^ w.toNat - 1) (k3 : 0 ≤ b) (k4 : b ≤ 2 ^ w.toNat - 1) (W : World) :
    Calls Tryz.prog 76 #[.int .i64 8, .int .i64 w, .int .i64 a, .int .i64 b] W fun e W' => e = .returned (.int .i64 (bits .and .i64 a b)) ∧ W = W' := by
  obtain ⟨hp1, hp2⟩ := pw w h1 h2
  go_enter Tryz.func76, Tryz.ntmps76
  go_wp2
  go_ret
  exact ⟨rfl, rfl⟩
set_option maxHeartbeats 2000000 in
theorem i_b9 (w a b : Int) (h1 : 1 ≤ w) (h2 : w ≤ 16) (h3 : 0 ≤ a) (h4 : a ≤ 2 ^ w.toNat - 1) (k3 : 0 ≤ b) (k4 : b ≤ 2 ^ w.toNat - 1) (W : World) :
    Calls Tryz.prog 76 #[.int .i64 9, .int .i64 w, .int .i64 a, .int .i64 b] W fun e W' => e = .returned (.int .i64 (bits .or .i64 a b)) ∧ W = W' := by
  obtain ⟨hp1, hp2⟩ := pw w h1 h2
  go_enter Tryz.func76, Tryz.ntmps76
  go_wp2
  go_ret
  exact ⟨rfl, rfl⟩
set_option maxHeartbeats 2000000 in
theorem i_b10 (w a b : Int) (h1 : 1 ≤ w) (h2 : w ≤ 16) (h3 : 0 ≤ a) (h4 : a ≤ 2 ^ w.toNat - 1) (k3 : 0 ≤ b) (k4 : b ≤ 2 ^ w.toNat - 1) (W : World) :
    Calls Tryz.prog 76 #[.int .i64 10, .int .i64 w, .int .i64 a, .int .i64 b] W fun e W' => e = .returned (.int .i64 (bits .xor .i64 a b)) ∧ W = W' := by
  obtain ⟨hp1, hp2⟩ := pw w h1 h2
  go_enter Tryz.func76, Tryz.ntmps76
  go_wp2
  go_ret
  exact ⟨rfl, rfl⟩
set_option maxHeartbeats 2000000 in
theorem i_b6z (w a b : Int) (h1 : 1 ≤ w) (h2 : w ≤ 16) (h3 : 0 ≤ a) (h4 : a ≤ 2 ^ w.toNat - 1) (k3 : 0 ≤ b) (k4 : b ≤ 2 ^ w.toNat - 1) (h5 : b = 0) (W : World) :
    Calls Tryz.prog 76 #[.int .i64 6, .int .i64 w, .int .i64 a, .int .i64 b] W fun e W' => e = .returned (.int .i64 (2 ^ w.toNat - 1)) ∧ W = W' := by
  obtain ⟨hp1, hp2⟩ := pw w h1 h2
  subst h5
  have hx : decide ((1 : Int) ≤ 2 ^ w.toNat) = true := by simp; omega
  go_enter Tryz.func76, Tryz.ntmps76
  go_wp2
  go_ret
  exact ⟨rfl, rfl⟩
set_option maxHeartbeats 2000000 in
theorem i_b6n (w a b : Int) (h1 : 1 ≤ w) (h2 : w ≤ 16) (h3 : 0 ≤ a) (h4 : a ≤ 2 ^ w.toNat - 1) (k3 : 0 ≤ b) (k4 : b ≤ 2 ^ w.toNat - 1) (h5 : ¬ b = 0) (W : World) :
    Calls Tryz.prog 76 #[.int .i64 6, .int .i64 w, .int .i64 a, .int .i64 b] W fun e W' => e = .returned (.int .i64 (a / b)) ∧ W = W' := by
  obtain ⟨hp1, hp2⟩ := pw w h1 h2
  have h6 : 1 ≤ b := by omega
  have h7 : (b == 0) = false := by simpa using h5
  clear h5
  go_enter Tryz.func76, Tryz.ntmps76
  go_wp2
  go_ret
  exact ⟨rfl, rfl⟩
set_option maxHeartbeats 2000000 in
theorem i_b7z (w a b : Int) (h1 : 1 ≤ w) (h2 : w ≤ 16) (h3 : 0 ≤ a) (h4 : a ≤ 2 ^ w.toNat - 1) (k3 : 0 ≤ b) (k4 : b ≤ 2 ^ w.toNat - 1) (h5 : b = 0) (W : World) :
    Calls Tryz.prog 76 #[.int .i64 7, .int .i64 w, .int .i64 a, .int .i64 b] W fun e W' => e = .returned (.int .i64 (a)) ∧ W = W' := by
  obtain ⟨hp1, hp2⟩ := pw w h1 h2
  subst h5
  have hx : decide ((1 : Int) ≤ 2 ^ w.toNat) = true := by simp; omega
  go_enter Tryz.func76, Tryz.ntmps76
  go_wp2
  go_ret
  exact ⟨rfl, rfl⟩
set_option maxHeartbeats 2000000 in
theorem i_b7n (w a b : Int) (h1 : 1 ≤ w) (h2 : w ≤ 16) (h3 : 0 ≤ a) (h4 : a ≤ 2 ^ w.toNat - 1) (k3 : 0 ≤ b) (k4 : b ≤ 2 ^ w.toNat - 1) (h5 : ¬ b = 0) (W : World) :
    Calls Tryz.prog 76 #[.int .i64 7, .int .i64 w, .int .i64 a, .int .i64 b] W fun e W' => e = .returned (.int .i64 (a % b)) ∧ W = W' := by
  obtain ⟨hp1, hp2⟩ := pw w h1 h2
  have h6 : 1 ≤ b := by omega
  have h7 : (b == 0) = false := by simpa using h5
  clear h5
  go_enter Tryz.func76, Tryz.ntmps76
  go_wp2
  go_ret
  exact ⟨rfl, rfl⟩
set_option maxHeartbeats 2000000 in
theorem i_b11g (w a b : Int) (h1 : 1 ≤ w) (h2 : w ≤ 16) (h3 : 0 ≤ a) (h4 : a ≤ 2 ^ w.toNat - 1) (k3 : 0 ≤ b) (k4 : b ≤ 2 ^ w.toNat - 1) (h5 : w ≤ b) (W : World) :
    Calls Tryz.prog 76 #[.int .i64 11, .int .i64 w, .int .i64 a, .int .i64 b] W fun e W' => e = .returned (.int .i64 (0)) ∧ W = W' := by
  obtain ⟨hp1, hp2⟩ := pw w h1 h2
  go_enter Tryz.func76, Tryz.ntmps76
  go_wp2
  go_ret
  exact ⟨rfl, rfl⟩
set_option maxHeartbeats 2000000 in
theorem i_b11l (w a b : Int) (h1 : 1 ≤ w) (h2 : w ≤ 16) (h3 : 0 ≤ a) (h4 : a ≤ 2 ^ w.toNat - 1) (k3 : 0 ≤ b) (k4 : b ≤ 2 ^ w.toNat - 1) (h6 : b < w) (W : World) :
    Calls Tryz.prog 76 #[.int .i64 11, .int .i64 w, .int .i64 a, .int .i64 b] W fun e W' => e = .returned (.int .i64 (mask w (wrap64 (a * 2 ^ b.toNat)))) ∧ W = W' := by
  obtain ⟨hp1, hp2⟩ := pw w h1 h2
  go_enter Tryz.func76, Tryz.ntmps76
  go_wp2
  go_ret
  exact ⟨rfl, rfl⟩
set_option maxHeartbeats 2000000 in
theorem i_b12g (w a b : Int) (h1 : 1 ≤ w) (h2 : w ≤ 16) (h3 : 0 ≤ a) (h4 : a ≤ 2 ^ w.toNat - 1) (k3 : 0 ≤ b) (k4 : b ≤ 2 ^ w.toNat - 1) (h5 : w ≤ b) (W : World) :
    Calls Tryz.prog 76 #[.int .i64 12, .int .i64 w, .int .i64 a, .int .i64 b] W fun e W' => e = .returned (.int .i64 (0)) ∧ W = W' := by
  obtain ⟨hp1, hp2⟩ := pw w h1 h2
  go_enter Tryz.func76, Tryz.ntmps76
  go_wp2
  go_ret
  exact ⟨rfl, rfl⟩
set_option maxHeartbeats 2000000 in
theorem i_b12l (w a b : Int) (h1 : 1 ≤ w) (h2 : w ≤ 16) (h3 : 0 ≤ a) (h4 : a ≤ 2 ^ w.toNat - 1) (k3 : 0 ≤ b) (k4 : b ≤ 2 ^ w.toNat - 1) (h6 : b < w) (W : World) :
    Calls Tryz.prog 76 #[.int .i64 12, .int .i64 w, .int .i64 a, .int .i64 b] W fun e W' => e = .returned (.int .i64 (a / 2 ^ b.toNat)) ∧ W = W' := by
  obtain ⟨hp1, hp2⟩ := pw w h1 h2
  go_enter Tryz.func76, Tryz.ntmps76
  go_wp2
  go_ret
  exact ⟨rfl, rfl⟩
set_option maxHeartbeats 2000000 in
theorem i_b13gp (w a b : Int) (h1 : 1 ≤ w) (h2 : w ≤ 16) (h3 : 0 ≤ a) (h4 : a ≤ 2 ^ w.toNat - 1) (k3 : 0 ≤ b) (k4 : b ≤ 2 ^ w.toNat - 1) (h5 : w ≤ b) (_ha0 : (a / 2 ^ (w.toNat - 1) == 0) = true) (_ha1 : (a / 2 ^ (w.toNat - 1) == 1) = false) (W : World) :
    Calls Tryz.prog 76 #[.int .i64 13, .int .i64 w, .int .i64 a, .int .i64 b] W fun e W' => e = .returned (.int .i64 (mask w (a / 2 ^ (w.toNat - 1)))) ∧ W = W' := by
  obtain ⟨hp1, hp2⟩ := pw w h1 h2
  have hm : min b (w - 1) = w - 1 := by omega
  go_enter Tryz.func76, Tryz.ntmps76
  go_wp2
  go_ret
  exact ⟨rfl, rfl⟩
set_option maxHeartbeats 2000000 in
theorem i_b13lp (w a b : Int) (h1 : 1 ≤ w) (h2 : w ≤ 16) (h3 : 0 ≤ a) (h4 : a ≤ 2 ^ w.toNat - 1) (k3 : 0 ≤ b) (k4 : b ≤ 2 ^ w.toNat - 1) (h6 : b < w) (_ha0 : (a / 2 ^ (w.toNat - 1) == 0) = true) (_ha1 : (a / 2 ^ (w.toNat - 1) == 1) = false) (W : World) :
    Calls Tryz.prog 76 #[.int .i64 13, .int .i64 w, .int .i64 a, .int .i64 b] W fun e W' => e = .returned (.int .i64 (mask w (a / 2 ^ b.toNat))) ∧ W = W' := by
  obtain ⟨hp1, hp2⟩ := pw w h1 h2
  have hm : min b (w - 1) = b := by omega
  go_enter Tryz.func76, Tryz.ntmps76
  go_wp2
  go_ret
  exact ⟨rfl, rfl⟩
set_option maxHeartbeats 2000000 in
theorem i_b13gm (w a b : Int) (h1 : 1 ≤ w) (h2 : w ≤ 16) (h3 : 0 ≤ a) (h4 : a ≤ 2 ^ w.toNat - 1) (k3 : 0 ≤ b) (k4 : b ≤ 2 ^ w.toNat - 1) (h5 : w ≤ b) (_ha0 : (a / 2 ^ (w.toNat - 1) == 0) = false) (_ha1 : (a / 2 ^ (w.toNat - 1) == 1) = true) (W : World) :
    Calls Tryz.prog 76 #[.int .i64 13, .int .i64 w, .int .i64 a, .int .i64 b] W fun e W' => e = .returned (.int .i64 (mask w ((a - 2 ^ w.toNat) / 2 ^ (w.toNat - 1)))) ∧ W = W' := by
  obtain ⟨hp1, hp2⟩ := pw w h1 h2
  have hm : min b (w - 1) = w - 1 := by omega
  go_enter Tryz.func76, Tryz.ntmps76
  go_wp2
  go_ret
  exact ⟨rfl, rfl⟩
set_option maxHeartbeats 2000000 in
theorem i_b13lm (w a b : Int) (h1 : 1 ≤ w) (h2 : w ≤ 16) (h3 : 0 ≤ a) (h4 : a ≤ 2 ^ w.toNat - 1) (k3 : 0 ≤ b) (k4 : b ≤ 2 ^ w.toNat - 1) (h6 : b < w) (_ha0 : (a / 2 ^ (w.toNat - 1) == 0) = false) (_ha1 : (a / 2 ^ (w.toNat - 1) == 1) = true) (W : World) :
    Calls Tryz.prog 76 #[.int .i64 13, .int .i64 w, .int .i64 a, .int .i64 b] W fun e W' => e = .returned (.int .i64 (mask w ((a - 2 ^ w.toNat) / 2 ^ b.toNat))) ∧ W = W' := by
  obtain ⟨hp1, hp2⟩ := pw w h1 h2
  have hm : min b (w - 1) = b := by omega
  go_enter Tryz.func76, Tryz.ntmps76
  go_wp2
  go_ret
  exact ⟨rfl, rfl⟩
set_option maxHeartbeats 2000000 in
theorem i_b14e (w a b : Int) (h1 : 1 ≤ w) (h2 : w ≤ 16) (h3 : 0 ≤ a) (h4 : a ≤ 2 ^ w.toNat - 1) (k3 : 0 ≤ b) (k4 : b ≤ 2 ^ w.toNat - 1) (h5 : a = b) (W : World) :
    Calls Tryz.prog 76 #[.int .i64 14, .int .i64 w, .int .i64 a, .int .i64 b] W fun e W' => e = .returned (.int .i64 (1)) ∧ W = W' := by
  obtain ⟨hp1, hp2⟩ := pw w h1 h2
  subst h5
  go_enter Tryz.func76, Tryz.ntmps76
  go_wp2
  go_ret
  exact ⟨rfl, rfl⟩
set_option maxHeartbeats 2000000 in
theorem i_b14n (w a b : Int) (h1 : 1 ≤ w) (h2 : w ≤ 16) (h3 : 0 ≤ a) (h4 : a ≤ 2 ^ w.toNat - 1) (k3 : 0 ≤ b) (k4 : b ≤ 2 ^ w.toNat - 1) (h5 : ¬ a = b) (W : World) :
    Calls Tryz.prog 76 #[.int .i64 14, .int .i64 w, .int .i64 a, .int .i64 b] W fun e W' => e = .returned (.int .i64 (0)) ∧ W = W' := by
  obtain ⟨hp1, hp2⟩ := pw w h1 h2
  have h7 : (a == b) = false := by simpa using h5
  clear h5
  go_enter Tryz.func76, Tryz.ntmps76
  go_wp2
  go_ret
  exact ⟨rfl, rfl⟩
set_option maxHeartbeats 2000000 in
theorem i_b15l (w a b : Int) (h1 : 1 ≤ w) (h2 : w ≤ 16) (h3 : 0 ≤ a) (h4 : a ≤ 2 ^ w.toNat - 1) (k3 : 0 ≤ b) (k4 : b ≤ 2 ^ w.toNat - 1) (h5 : a < b) (W : World) :
    Calls Tryz.prog 76 #[.int .i64 15, .int .i64 w, .int .i64 a, .int .i64 b] W fun e W' => e = .returned (.int .i64 (1)) ∧ W = W' := by
  obtain ⟨hp1, hp2⟩ := pw w h1 h2
  go_enter Tryz.func76, Tryz.ntmps76
  go_wp2
  go_ret
  exact ⟨rfl, rfl⟩
set_option maxHeartbeats 2000000 in
theorem i_b15g (w a b : Int) (h1 : 1 ≤ w) (h2 : w ≤ 16) (h3 : 0 ≤ a) (h4 : a ≤ 2 ^ w.toNat - 1) (k3 : 0 ≤ b) (k4 : b ≤ 2 ^ w.toNat - 1) (h5 : b ≤ a) (W : World) :
    Calls Tryz.prog 76 #[.int .i64 15, .int .i64 w, .int .i64 a, .int .i64 b] W fun e W' => e = .returned (.int .i64 (0)) ∧ W = W' := by
  obtain ⟨hp1, hp2⟩ := pw w h1 h2
  go_enter Tryz.func76, Tryz.ntmps76
  go_wp2
  go_ret
  exact ⟨rfl, rfl⟩
set_option maxHeartbeats 2000000 in
theorem i_b16ppl (w a b : Int) (h1 : 1 ≤ w) (h2 : w ≤ 16) (h3 : 0 ≤ a) (h4 : a ≤ 2 ^ w.toNat - 1) (k3 : 0 ≤ b) (k4 : b ≤ 2 ^ w.toNat - 1) (_ha0 : (a / 2 ^ (w.toNat - 1) == 0) = true) (_ha1 : (a / 2 ^ (w.toNat - 1) == 1) = false) (_hb0 : (b / 2 ^ (w.toNat - 1) == 0) = true) (_hb1 : (b / 2 ^ (w.toNat - 1) == 1) = false) (h5 : a < b) (W : World) :
    Calls Tryz.prog 76 #[.int .i64 16, .int .i64 w, .int .i64 a, .int .i64 b] W fun e W' => e = .returned (.int .i64 (1)) ∧ W = W' := by
  obtain ⟨hp1, hp2⟩ := pw w h1 h2
  go_enter Tryz.func76, Tryz.ntmps76
  go_wp2
  go_ret
  exact ⟨rfl, rfl⟩
set_option maxHeartbeats 2000000 in
theorem i_b16ppg (w a b : Int) (h1 : 1 ≤ w) (h2 : w ≤ 16) (h3 : 0 ≤ a) (h4 : a ≤ 2 ^ w.toNat - 1) (k3 : 0 ≤ b) (k4 : b ≤ 2 ^ w.toNat - 1) (_ha0 : (a / 2 ^ (w.toNat - 1) == 0) = true) (_ha1 : (a / 2 ^ (w.toNat - 1) == 1) = false) (_hb0 : (b / 2 ^ (w.toNat - 1) == 0) = true) (_hb1 : (b / 2 ^ (w.toNat - 1) == 1) = false) (h5 : b ≤ a) (W : World) :
    Calls Tryz.prog 76 #[.int .i64 16, .int .i64 w, .int .i64 a, .int .i64 b] W fun e W' => e = .returned (.int .i64 (0)) ∧ W = W' := by
  obtain ⟨hp1, hp2⟩ := pw w h1 h2
  go_enter Tryz.func76, Tryz.ntmps76
  go_wp2
  go_ret
  exact ⟨rfl, rfl⟩
set_option maxHeartbeats 2000000 in
theorem i_b16pmg (w a b : Int) (h1 : 1 ≤ w) (h2 : w ≤ 16) (h3 : 0 ≤ a) (h4 : a ≤ 2 ^ w.toNat - 1) (k3 : 0 ≤ b) (k4 : b ≤ 2 ^ w.toNat - 1) (_ha0 : (a / 2 ^ (w.toNat - 1) == 0) = true) (_ha1 : (a / 2 ^ (w.toNat - 1) == 1) = false) (_hb0 : (b / 2 ^ (w.toNat - 1) == 0) = false) (_hb1 : (b / 2 ^ (w.toNat - 1) == 1) = true) (h5 : b - 2 ^ w.toNat ≤ a) (W : World) :
    Calls Tryz.prog 76 #[.int .i64 16, .int .i64 w, .int .i64 a, .int .i64 b] W fun e W' => e = .returned (.int .i64 (0)) ∧ W = W' := by
  obtain ⟨hp1, hp2⟩ := pw w h1 h2
  go_enter Tryz.func76, Tryz.ntmps76
  go_wp2
  go_ret
  exact ⟨rfl, rfl⟩
set_option maxHeartbeats 2000000 in
theorem i_b16mpl (w a b : Int) (h1 : 1 ≤ w) (h2 : w ≤ 16) (h3 : 0 ≤ a) (h4 : a ≤ 2 ^ w.toNat - 1) (k3 : 0 ≤ b) (k4 : b ≤ 2 ^ w.toNat - 1) (_ha0 : (a / 2 ^ (w.toNat - 1) == 0) = false) (_ha1 : (a / 2 ^ (w.toNat - 1) == 1) = true) (_hb0 : (b / 2 ^ (w.toNat - 1) == 0) = true) (_hb1 : (b / 2 ^ (w.toNat - 1) == 1) = false) (h5 : a - 2 ^ w.toNat < b) (W : World) :
    Calls Tryz.prog 76 #[.int .i64 16, .int .i64 w, .int .i64 a, .int .i64 b] W fun e W' => e = .returned (.int .i64 (1)) ∧ W = W' := by
  obtain ⟨hp1, hp2⟩ := pw w h1 h2
  go_enter Tryz.func76, Tryz.ntmps76
  go_wp2
  go_ret
  exact ⟨rfl, rfl⟩
set_option maxHeartbeats 2000000 in
theorem i_b16mml (w a b : Int) (h1 : 1 ≤ w) (h2 : w ≤ 16) (h3 : 0 ≤ a) (h4 : a ≤ 2 ^ w.toNat - 1) (k3 : 0 ≤ b) (k4 : b ≤ 2 ^ w.toNat - 1) (_ha0 : (a / 2 ^ (w.toNat - 1) == 0) = false) (_ha1 : (a / 2 ^ (w.toNat - 1) == 1) = true) (_hb0 : (b / 2 ^ (w.toNat - 1) == 0) = false) (_hb1 : (b / 2 ^ (w.toNat - 1) == 1) = true) (h5 : a - 2 ^ w.toNat < b - 2 ^ w.toNat) (W : World) :
    Calls Tryz.prog 76 #[.int .i64 16, .int .i64 w, .int .i64 a, .int .i64 b] W fun e W' => e = .returned (.int .i64 (1)) ∧ W = W' := by
  obtain ⟨hp1, hp2⟩ := pw w h1 h2
  go_enter Tryz.func76, Tryz.ntmps76
  go_wp2
  go_ret
  exact ⟨rfl, rfl⟩
set_option maxHeartbeats 2000000 in
theorem i_b16mmg (w a b : Int) (h1 : 1 ≤ w) (h2 : w ≤ 16) (h3 : 0 ≤ a) (h4 : a ≤ 2 ^ w.toNat - 1) (k3 : 0 ≤ b) (k4 : b ≤ 2 ^ w.toNat - 1) (_ha0 : (a / 2 ^ (w.toNat - 1) == 0) = false) (_ha1 : (a / 2 ^ (w.toNat - 1) == 1) = true) (_hb0 : (b / 2 ^ (w.toNat - 1) == 0) = false) (_hb1 : (b / 2 ^ (w.toNat - 1) == 1) = true) (h5 : b - 2 ^ w.toNat ≤ a - 2 ^ w.toNat) (W : World) :
    Calls Tryz.prog 76 #[.int .i64 16, .int .i64 w, .int .i64 a, .int .i64 b] W fun e W' => e = .returned (.int .i64 (0)) ∧ W = W' := by
  obtain ⟨hp1, hp2⟩ := pw w h1 h2
  go_enter Tryz.func76, Tryz.ntmps76
  go_wp2
  go_ret
  exact ⟨rfl, rfl⟩
set_option maxHeartbeats 2000000 in
theorem s_b3 (w a b : Int) (h1 : 1 ≤ w) (h2 : w ≤ 16) (h3 : 0 ≤ a) (h4 : a ≤ 2 ^ w.toNat - 1) (k3 : 0 ≤ b) (k4 : b ≤ 2 ^ w.toNat - 1) (W : World) :
    Calls Tryz.prog 81 #[.int .i64 3, .int .i64 w, .int .i64 a, .int .i64 b] W fun e W' => e = .returned (.int .i64 (mask w (a + b))) ∧ W = W' := by
  obtain ⟨hp1, hp2⟩ := pw w h1 h2
  go_enter Tryz.func81, Tryz.ntmps81
  go_wp2
  go_ret
  exact ⟨rfl, rfl⟩
set_option maxHeartbeats 2000000 in
theorem s_b4 (w a b : Int) (h1 : 1 ≤ w) (h2 : w ≤ 16) (h3 : 0 ≤ a) (h4 : a ≤ 2 ^ w.toNat - 1) (k3 : 0 ≤ b) (k4 : b ≤ 2 ^ w.toNat - 1) (W : World) :
    Calls Tryz.prog 81 #[.int .i64 4, .int .i64 w, .int .i64 a, .int .i64 b] W fun e W' => e = .returned (.int .i64 (mask w (a - b))) ∧ W = W' := by
  obtain ⟨hp1, hp2⟩ := pw w h1 h2
  go_enter Tryz.func81, Tryz.ntmps81
  go_wp2
  go_ret
  exact ⟨rfl, rfl⟩
set_option maxHeartbeats 2000000 in
theorem s_b5 (w a b : Int) (h1 : 1 ≤ w) (h2 : w ≤ 16) (h3 : 0 ≤ a) (h4 : a ≤ 2 ^ w.toNat - 1) (k3 : 0 ≤ b) (k4 : b ≤ 2 ^ w.toNat - 1) (W : World) :
    Calls Tryz.prog 81 #[.int .i64 5, .int .i64 w, .int .i64 a, .int .i64 b] W fun e W' => e = .returned (.int .i64 (mask w (wrap64 (a * b)))) ∧ W = W' := by
  obtain ⟨hp1, hp2⟩ := pw w h1 h2
  go_enter Tryz.func81, Tryz.ntmps81
  go_wp2
  go_ret
  exact ⟨rfl, rfl⟩
set_option maxHeartbeats 2000000 in
theorem s_b8 (w a b : Int) (h1 : 1 ≤ w) (h2 : w ≤ 16) (h3 : 0 ≤ a) (h4 : a ≤ 2 ^ w.toNat - 1) (k3 : 0 ≤ b) (k4 : b ≤ 2 ^ w.toNat - 1) (W : World) :
    Calls Tryz.prog 81 #[.int .i64 8, .int .i64 w, .int .i64 a, .int .i64 b] W fun e W' => e = .returned (.int .i64 (bits .and .i64 a b)) ∧ W = W' := by
  obtain ⟨hp1, hp2⟩ := pw w h1 h2
  go_enter Tryz.func81, Tryz.ntmps81
  go_wp2
  go_ret
  exact ⟨rfl, rfl⟩
set_option maxHeartbeats 2000000 in
theorem s_b9 (w a b : Int) (h1 : 1 ≤ w) (h2 : w ≤ 16) (h3 : 0 ≤ a) (h4 : a ≤ 2 ^ w.toNat - 1) (k3 : 0 ≤ b) (k4 : b ≤ 2 ^ w.toNat - 1) (W : World) :
    Calls Tryz.prog 81 #[.int .i64 9, .int .i64 w, .int .i64 a, .int .i64 b] W fun e W' => e = .returned (.int .i64 (bits .or .i64 a b)) ∧ W = W' := by
  obtain ⟨hp1, hp2⟩ := pw w h1 h2
  go_enter Tryz.func81, Tryz.ntmps81
  go_wp2
  go_ret
  exact ⟨rfl, rfl⟩
set_option maxHeartbeats 2000000 in
theorem s_b10 (w a b : Int) (h1 : 1 ≤ w) (h2 : w ≤ 16) (h3 : 0 ≤ a) (h4 : a ≤ 2 ^ w.toNat - 1) (k3 : 0 ≤ b) (k4 : b ≤ 2 ^ w.toNat - 1) (W : World) :
    Calls Tryz.prog 81 #[.int .i64 10, .int .i64 w, .int .i64 a, .int .i64 b] W fun e W' => e = .returned (.int .i64 (bits .xor .i64 a b)) ∧ W = W' := by
  obtain ⟨hp1, hp2⟩ := pw w h1 h2
  go_enter Tryz.func81, Tryz.ntmps81
  go_wp2
  go_ret
  exact ⟨rfl, rfl⟩
set_option maxHeartbeats 2000000 in
theorem s_b6z (w a b : Int) (h1 : 1 ≤ w) (h2 : w ≤ 16) (h3 : 0 ≤ a) (h4 : a ≤ 2 ^ w.toNat - 1) (k3 : 0 ≤ b) (k4 : b ≤ 2 ^ w.toNat - 1) (h5 : b = 0) (W : World) :
    Calls Tryz.prog 81 #[.int .i64 6, .int .i64 w, .int .i64 a, .int .i64 b] W fun e W' => e = .returned (.int .i64 (2 ^ w.toNat - 1)) ∧ W = W' := by
  obtain ⟨hp1, hp2⟩ := pw w h1 h2
  subst h5
  have hx : decide ((1 : Int) ≤ 2 ^ w.toNat) = true := by simp; omega
  go_enter Tryz.func81, Tryz.ntmps81
  go_wp2
  go_ret
  exact ⟨rfl, rfl⟩
set_option maxHeartbeats 2000000 in
theorem s_b6n (w a b : Int) (h1 : 1 ≤ w) (h2 : w ≤ 16) (h3 : 0 ≤ a) (h4 : a ≤ 2 ^ w.toNat - 1) (k3 : 0 ≤ b) (k4 : b ≤ 2 ^ w.toNat - 1) (h5 : ¬ b = 0) (W : World) :
    Calls Tryz.prog 81 #[.int .i64 6, .int .i64 w, .int .i64 a, .int .i64 b] W fun e W' => e = .returned (.int .i64 (a / b)) ∧ W = W' := by
  obtain ⟨hp1, hp2⟩ := pw w h1 h2
  have h6 : 1 ≤ b := by omega
  have h7 : (b == 0) = false := by simpa using h5
  clear h5
  go_enter Tryz.func81, Tryz.ntmps81
  go_wp2
  go_ret
  exact ⟨rfl, rfl⟩
set_option maxHeartbeats 2000000 in
theorem s_b7z (w a b : Int) (h1 : 1 ≤ w) (h2 : w ≤ 16) (h3 : 0 ≤ a) (h4 : a ≤ 2 ^ w.toNat - 1) (k3 : 0 ≤ b) (k4 : b ≤ 2 ^ w.toNat - 1) (h5 : b = 0) (W : World) :
    Calls Tryz.prog 81 #[.int .i64 7, .int .i64 w, .int .i64 a, .int .i64 b] W fun e W' => e = .returned (.int .i64 (a)) ∧ W = W' := by
  obtain ⟨hp1, hp2⟩ := pw w h1 h2
  subst h5
  have hx : decide ((1 : Int) ≤ 2 ^ w.toNat) = true := by simp; omega
  go_enter Tryz.func81, Tryz.ntmps81
  go_wp2
  go_ret
  exact ⟨rfl, rfl⟩
set_option maxHeartbeats 2000000 in
theorem s_b7n (w a b : Int) (h1 : 1 ≤ w) (h2 : w ≤ 16) (h3 : 0 ≤ a) (h4 : a ≤ 2 ^ w.toNat - 1) (k3 : 0 ≤ b) (k4 : b ≤ 2 ^ w.toNat - 1) (h5 : ¬ b = 0) (W : World) :
    Calls Tryz.prog 81 #[.int .i64 7, .int .i64 w, .int .i64 a, .int .i64 b] W fun e W' => e = .returned (.int .i64 (a % b)) ∧ W = W' := by
  obtain ⟨hp1, hp2⟩ := pw w h1 h2
  have h6 : 1 ≤ b := by omega
  have h7 : (b == 0) = false := by simpa using h5
  clear h5
  go_enter Tryz.func81, Tryz.ntmps81
  go_wp2
  go_ret
  exact ⟨rfl, rfl⟩
set_option maxHeartbeats 2000000 in
theorem s_b11g (w a b : Int) (h1 : 1 ≤ w) (h2 : w ≤ 16) (h3 : 0 ≤ a) (h4 : a ≤ 2 ^ w.toNat - 1) (k3 : 0 ≤ b) (k4 : b ≤ 2 ^ w.toNat - 1) (h5 : w ≤ b) (W : World) :
    Calls Tryz.prog 81 #[.int .i64 11, .int .i64 w, .int .i64 a, .int .i64 b] W fun e W' => e = .returned (.int .i64 (0)) ∧ W = W' := by
  obtain ⟨hp1, hp2⟩ := pw w h1 h2
  go_enter Tryz.func81, Tryz.ntmps81
  go_wp2
  go_ret
  exact ⟨rfl, rfl⟩
set_option maxHeartbeats 2000000 in
theorem s_b11l (w a b : Int) (h1 : 1 ≤ w) (h2 : w ≤ 16) (h3 : 0 ≤ a) (h4 : a ≤ 2 ^ w.toNat - 1) (k3 : 0 ≤ b) (k4 : b ≤ 2 ^ w.toNat - 1) (h6 : b < w) (W : World) :
    Calls Tryz.prog 81 #[.int .i64 11, .int .i64 w, .int .i64 a, .int .i64 b] W fun e W' => e = .returned (.int .i64 (mask w (wrap64 (a * 2 ^ b.toNat)))) ∧ W = W' := by
  obtain ⟨hp1, hp2⟩ := pw w h1 h2
  go_enter Tryz.func81, Tryz.ntmps81
  go_wp2
  go_ret
  exact ⟨rfl, rfl⟩
set_option maxHeartbeats 2000000 in
theorem s_b12g (w a b : Int) (h1 : 1 ≤ w) (h2 : w ≤ 16) (h3 : 0 ≤ a) (h4 : a ≤ 2 ^ w.toNat - 1) (k3 : 0 ≤ b) (k4 : b ≤ 2 ^ w.toNat - 1) (h5 : w ≤ b) (W : World) :
    Calls Tryz.prog 81 #[.int .i64 12, .int .i64 w, .int .i64 a, .int .i64 b] W fun e W' => e = .returned (.int .i64 (0)) ∧ W = W' := by
  obtain ⟨hp1, hp2⟩ := pw w h1 h2
  go_enter Tryz.func81, Tryz.ntmps81
  go_wp2
  go_ret
  exact ⟨rfl, rfl⟩
set_option maxHeartbeats 2000000 in
theorem s_b12l (w a b : Int) (h1 : 1 ≤ w) (h2 : w ≤ 16) (h3 : 0 ≤ a) (h4 : a ≤ 2 ^ w.toNat - 1) (k3 : 0 ≤ b) (k4 : b ≤ 2 ^ w.toNat - 1) (h6 : b < w) (W : World) :
    Calls Tryz.prog 81 #[.int .i64 12, .int .i64 w, .int .i64 a, .int .i64 b] W fun e W' => e = .returned (.int .i64 (a / 2 ^ b.toNat)) ∧ W = W' := by
  obtain ⟨hp1, hp2⟩ := pw w h1 h2
  go_enter Tryz.func81, Tryz.ntmps81
  go_wp2
  go_ret
  exact ⟨rfl, rfl⟩
set_option maxHeartbeats 2000000 in
theorem s_b13gp (w a b : Int) (h1 : 1 ≤ w) (h2 : w ≤ 16) (h3 : 0 ≤ a) (h4 : a ≤ 2 ^ w.toNat - 1) (k3 : 0 ≤ b) (k4 : b ≤ 2 ^ w.toNat - 1) (h5 : w ≤ b) (_ha0 : (a / 2 ^ (w.toNat - 1) == 0) = true) (_ha1 : (a / 2 ^ (w.toNat - 1) == 1) = false) (W : World) :
    Calls Tryz.prog 81 #[.int .i64 13, .int .i64 w, .int .i64 a, .int .i64 b] W fun e W' => e = .returned (.int .i64 (mask w (a / 2 ^ (w.toNat - 1)))) ∧ W = W' := by
  obtain ⟨hp1, hp2⟩ := pw w h1 h2
  have hm : min b (w - 1) = w - 1 := by omega
  go_enter Tryz.func81, Tryz.ntmps81
  go_wp2
  go_ret
  exact ⟨rfl, rfl⟩
set_option maxHeartbeats 2000000 in
theorem s_b13lp (w a b : Int) (h1 : 1 ≤ w) (h2 : w ≤ 16) (h3 : 0 ≤ a) (h4 : a ≤ 2 ^ w.toNat - 1) (k3 : 0 ≤ b) (k4 : b ≤ 2 ^ w.toNat - 1) (h6 : b < w) (_ha0 : (a / 2 ^ (w.toNat - 1) == 0) = true) (_ha1 : (a / 2 ^ (w.toNat - 1) == 1) = false) (W : World) :
    Calls Tryz.prog 81 #[.int .i64 13, .int .i64 w, .int .i64 a, .int .i64 b] W fun e W' => e = .returned (.int .i64 (mask w (a / 2 ^ b.toNat))) ∧ W = W' := by
  obtain ⟨hp1, hp2⟩ := pw w h1 h2
  have hm : min b (w - 1) = b := by omega
  go_enter Tryz.func81, Tryz.ntmps81
  go_wp2
  go_ret
  exact ⟨rfl, rfl⟩
set_option maxHeartbeats 2000000 in
theorem s_b13gm (w a b : Int) (h1 : 1 ≤ w) (h2 : w ≤ 16) (h3 : 0 ≤ a) (h4 : a ≤ 2 ^ w.toNat - 1) (k3 : 0 ≤ b) (k4 : b ≤ 2 ^ w.toNat - 1) (h5 : w ≤ b) (_ha0 : (a / 2 ^ (w.toNat - 1) == 0) = false) (_ha1 : (a / 2 ^ (w.toNat - 1) == 1) = true) (W : World) :
    Calls Tryz.prog 81 #[.int .i64 13, .int .i64 w, .int .i64 a, .int .i64 b] W fun e W' => e = .returned (.int .i64 (mask w ((a - 2 ^ w.toNat) / 2 ^ (w.toNat - 1)))) ∧ W = W' := by
  obtain ⟨hp1, hp2⟩ := pw w h1 h2
  have hm : min b (w - 1) = w - 1 := by omega
  go_enter Tryz.func81, Tryz.ntmps81
  go_wp2
  go_ret
  exact ⟨rfl, rfl⟩
set_option maxHeartbeats 2000000 in
theorem s_b13lm (w a b : Int) (h1 : 1 ≤ w) (h2 : w ≤ 16) (h3 : 0 ≤ a) (h4 : a ≤ 2 ^ w.toNat - 1) (k3 : 0 ≤ b) (k4 : b ≤ 2 ^ w.toNat - 1) (h6 : b < w) (_ha0 : (a / 2 ^ (w.toNat - 1) == 0) = false) (_ha1 : (a / 2 ^ (w.toNat - 1) == 1) = true) (W : World) :
    Calls Tryz.prog 81 #[.int .i64 13, .int .i64 w, .int .i64 a, .int .i64 b] W fun e W' => e = .returned (.int .i64 (mask w ((a - 2 ^ w.toNat) / 2 ^ b.toNat))) ∧ W = W' := by
  obtain ⟨hp1, hp2⟩ := pw w h1 h2
  have hm : min b (w - 1) = b := by omega
  go_enter Tryz.func81, Tryz.ntmps81
  go_wp2
  go_ret
  exact ⟨rfl, rfl⟩
set_option maxHeartbeats 2000000 in
theorem s_b14e (w a b : Int) (h1 : 1 ≤ w) (h2 : w ≤ 16) (h3 : 0 ≤ a) (h4 : a ≤ 2 ^ w.toNat - 1) (k3 : 0 ≤ b) (k4 : b ≤ 2 ^ w.toNat - 1) (h5 : a = b) (W : World) :
    Calls Tryz.prog 81 #[.int .i64 14, .int .i64 w, .int .i64 a, .int .i64 b] W fun e W' => e = .returned (.int .i64 (1)) ∧ W = W' := by
  obtain ⟨hp1, hp2⟩ := pw w h1 h2
  subst h5
  go_enter Tryz.func81, Tryz.ntmps81
  go_wp2
  go_ret
  exact ⟨rfl, rfl⟩
set_option maxHeartbeats 2000000 in
theorem s_b14n (w a b : Int) (h1 : 1 ≤ w) (h2 : w ≤ 16) (h3 : 0 ≤ a) (h4 : a ≤ 2 ^ w.toNat - 1) (k3 : 0 ≤ b) (k4 : b ≤ 2 ^ w.toNat - 1) (h5 : ¬ a = b) (W : World) :
    Calls Tryz.prog 81 #[.int .i64 14, .int .i64 w, .int .i64 a, .int .i64 b] W fun e W' => e = .returned (.int .i64 (0)) ∧ W = W' := by
  obtain ⟨hp1, hp2⟩ := pw w h1 h2
  have h7 : (a == b) = false := by simpa using h5
  clear h5
  go_enter Tryz.func81, Tryz.ntmps81
  go_wp2
  go_ret
  exact ⟨rfl, rfl⟩
set_option maxHeartbeats 2000000 in
theorem s_b15l (w a b : Int) (h1 : 1 ≤ w) (h2 : w ≤ 16) (h3 : 0 ≤ a) (h4 : a ≤ 2 ^ w.toNat - 1) (k3 : 0 ≤ b) (k4 : b ≤ 2 ^ w.toNat - 1) (h5 : a < b) (W : World) :
    Calls Tryz.prog 81 #[.int .i64 15, .int .i64 w, .int .i64 a, .int .i64 b] W fun e W' => e = .returned (.int .i64 (1)) ∧ W = W' := by
  obtain ⟨hp1, hp2⟩ := pw w h1 h2
  go_enter Tryz.func81, Tryz.ntmps81
  go_wp2
  go_ret
  exact ⟨rfl, rfl⟩
set_option maxHeartbeats 2000000 in
theorem s_b15g (w a b : Int) (h1 : 1 ≤ w) (h2 : w ≤ 16) (h3 : 0 ≤ a) (h4 : a ≤ 2 ^ w.toNat - 1) (k3 : 0 ≤ b) (k4 : b ≤ 2 ^ w.toNat - 1) (h5 : b ≤ a) (W : World) :
    Calls Tryz.prog 81 #[.int .i64 15, .int .i64 w, .int .i64 a, .int .i64 b] W fun e W' => e = .returned (.int .i64 (0)) ∧ W = W' := by
  obtain ⟨hp1, hp2⟩ := pw w h1 h2
  go_enter Tryz.func81, Tryz.ntmps81
  go_wp2
  go_ret
  exact ⟨rfl, rfl⟩
set_option maxHeartbeats 2000000 in
theorem s_b16ppl (w a b : Int) (h1 : 1 ≤ w) (h2 : w ≤ 16) (h3 : 0 ≤ a) (h4 : a ≤ 2 ^ w.toNat - 1) (k3 : 0 ≤ b) (k4 : b ≤ 2 ^ w.toNat - 1) (_ha0 : (a / 2 ^ (w.toNat - 1) == 0) = true) (_ha1 : (a / 2 ^ (w.toNat - 1) == 1) = false) (_hb0 : (b / 2 ^ (w.toNat - 1) == 0) = true) (_hb1 : (b / 2 ^ (w.toNat - 1) == 1) = false) (h5 : a < b) (W : World) :
    Calls Tryz.prog 81 #[.int .i64 16, .int .i64 w, .int .i64 a, .int .i64 b] W fun e W' => e = .returned (.int .i64 (1)) ∧ W = W' := by
  obtain ⟨hp1, hp2⟩ := pw w h1 h2
  go_enter Tryz.func81, Tryz.ntmps81
  go_wp2
  go_ret
  exact ⟨rfl, rfl⟩
set_option maxHeartbeats 2000000 in
theorem s_b16ppg (w a b : Int) (h1 : 1 ≤ w) (h2 : w ≤ 16) (h3 : 0 ≤ a) (h4 : a ≤ 2 ^ w.toNat - 1) (k3 : 0 ≤ b) (k4 : b ≤ 2 ^ w.toNat - 1) (_ha0 : (a / 2 ^ (w.toNat - 1) == 0) = true) (_ha1 : (a / 2 ^ (w.toNat - 1) == 1) = false) (_hb0 : (b / 2 ^ (w.toNat - 1) == 0) = true) (_hb1 : (b / 2 ^ (w.toNat - 1) == 1) = false) (h5 : b ≤ a) (W : World) :
    Calls Tryz.prog 81 #[.int .i64 16, .int .i64 w, .int .i64 a, .int .i64 b] W fun e W' => e = .returned (.int .i64 (0)) ∧ W = W' := by
  obtain ⟨hp1, hp2⟩ := pw w h1 h2
  go_enter Tryz.func81, Tryz.ntmps81
  go_wp2
  go_ret
  exact ⟨rfl, rfl⟩
set_option maxHeartbeats 2000000 in
theorem s_b16pmg (w a b : Int) (h1 : 1 ≤ w) (h2 : w ≤ 16) (h3 : 0 ≤ a) (h4 : a ≤ 2 ^ w.toNat - 1) (k3 : 0 ≤ b) (k4 : b ≤ 2 ^ w.toNat - 1) (_ha0 : (a / 2 ^ (w.toNat - 1) == 0) = true) (_ha1 : (a / 2 ^ (w.toNat - 1) == 1) = false) (_hb0 : (b / 2 ^ (w.toNat - 1) == 0) = false) (_hb1 : (b / 2 ^ (w.toNat - 1) == 1) = true) (h5 : b - 2 ^ w.toNat ≤ a) (W : World) :
    Calls Tryz.prog 81 #[.int .i64 16, .int .i64 w, .int .i64 a, .int .i64 b] W fun e W' => e = .returned (.int .i64 (0)) ∧ W = W' := by
  obtain ⟨hp1, hp2⟩ := pw w h1 h2
  go_enter Tryz.func81, Tryz.ntmps81
  go_wp2
  go_ret
  exact ⟨rfl, rfl⟩
set_option maxHeartbeats 2000000 in
theorem s_b16mpl (w a b : Int) (h1 : 1 ≤ w) (h2 : w ≤ 16) (h3 : 0 ≤ a) (h4 : a ≤ 2 ^ w.toNat - 1) (k3 : 0 ≤ b) (k4 : b ≤ 2 ^ w.toNat - 1) (_ha0 : (a / 2 ^ (w.toNat - 1) == 0) = false) (_ha1 : (a / 2 ^ (w.toNat - 1) == 1) = true) (_hb0 : (b / 2 ^ (w.toNat - 1) == 0) = true) (_hb1 : (b / 2 ^ (w.toNat - 1) == 1) = false) (h5 : a - 2 ^ w.toNat < b) (W : World) :
    Calls Tryz.prog 81 #[.int .i64 16, .int .i64 w, .int .i64 a, .int .i64 b] W fun e W' => e = .returned (.int .i64 (1)) ∧ W = W' := by
  obtain ⟨hp1, hp2⟩ := pw w h1 h2
  go_enter Tryz.func81, Tryz.ntmps81
  go_wp2
  go_ret
  exact ⟨rfl, rfl⟩
set_option maxHeartbeats 2000000 in
theorem s_b16mml (w a b : Int) (h1 : 1 ≤ w) (h2 : w ≤ 16) (h3 : 0 ≤ a) (h4 : a ≤ 2 ^ w.toNat - 1) (k3 : 0 ≤ b) (k4 : b ≤ 2 ^ w.toNat - 1) (_ha0 : (a / 2 ^ (w.toNat - 1) == 0) = false) (_ha1 : (a / 2 ^ (w.toNat - 1) == 1) = true) (_hb0 : (b / 2 ^ (w.toNat - 1) == 0) = false) (_hb1 : (b / 2 ^ (w.toNat - 1) == 1) = true) (h5 : a - 2 ^ w.toNat < b - 2 ^ w.toNat) (W : World) :
    Calls Tryz.prog 81 #[.int .i64 16, .int .i64 w, .int .i64 a, .int .i64 b] W fun e W' => e = .returned (.int .i64 (1)) ∧ W = W' := by
  obtain ⟨hp1, hp2⟩ := pw w h1 h2
  go_enter Tryz.func81, Tryz.ntmps81
  go_wp2
  go_ret
  exact ⟨rfl, rfl⟩
set_option maxHeartbeats 2000000 in
theorem s_b16mmg (w a b : Int) (h1 : 1 ≤ w) (h2 : w ≤ 16) (h3 : 0 ≤ a) (h4 : a ≤ 2 ^ w.toNat - 1) (k3 : 0 ≤ b) (k4 : b ≤ 2 ^ w.toNat - 1) (_ha0 : (a / 2 ^ (w.toNat - 1) == 0) = false) (_ha1 : (a / 2 ^ (w.toNat - 1) == 1) = true) (_hb0 : (b / 2 ^ (w.toNat - 1) == 0) = false) (_hb1 : (b / 2 ^ (w.toNat - 1) == 1) = true) (h5 : b - 2 ^ w.toNat ≤ a - 2 ^ w.toNat) (W : World) :
    Calls Tryz.prog 81 #[.int .i64 16, .int .i64 w, .int .i64 a, .int .i64 b] W fun e W' => e = .returned (.int .i64 (0)) ∧ W = W' := by
  obtain ⟨hp1, hp2⟩ := pw w h1 h2
  go_enter Tryz.func81, Tryz.ntmps81
  go_wp2
  go_ret
  exact ⟨rfl, rfl⟩
theorem i_bin (op w a b : Int) (ho : 3 ≤ op ∧ op ≤ 16) (h1 : 1 ≤ w) (h2 : w ≤ 16) (h3 : 0 ≤ a) (h4 : a ≤ 2 ^ w.toNat - 1) (k3 : 0 ≤ b) (k4 : b ≤ 2 ^ w.toNat - 1) (W : World) :
    Calls Tryz.prog 76 #[.int .i64 op, .int .i64 w, .int .i64 a, .int .i64 b] W fun e W' => e = .returned (.int .i64 (binM op w a b)) ∧ W = W' := by
  have hop : op = 3 ∨ op = 4 ∨ op = 5 ∨ op = 6 ∨ op = 7 ∨ op = 8 ∨ op = 9 ∨ op = 10 ∨ op = 11 ∨ op = 12 ∨ op = 13 ∨ op = 14 ∨ op = 15 ∨ op = 16 := by omega
  have ha := high_bit w a h1 h2 h3 h4
  have hb := high_bit w b h1 h2 k3 k4
  rcases hop with rfl | rfl | rfl | rfl | rfl | rfl | rfl | rfl | rfl | rfl | rfl | rfl | rfl | rfl
  · exact i_b3 w a b h1 h2 h3 h4 k3 k4 W
  · exact i_b4 w a b h1 h2 h3 h4 k3 k4 W
  · exact i_b5 w a b h1 h2 h3 h4 k3 k4 W
  · by_cases h : b = 0
    · rw [bin_6z w a b h]; exact i_b6z w a b h1 h2 h3 h4 k3 k4 h W
    · rw [bin_6n w a b h]; exact i_b6n w a b h1 h2 h3 h4 k3 k4 h W
  · by_cases h : b = 0
    · rw [bin_7z w a b h]; exact i_b7z w a b h1 h2 h3 h4 k3 k4 h W
    · rw [bin_7n w a b h]; exact i_b7n w a b h1 h2 h3 h4 k3 k4 h W
  · exact i_b8 w a b h1 h2 h3 h4 k3 k4 W
  · exact i_b9 w a b h1 h2 h3 h4 k3 k4 W
  · exact i_b10 w a b h1 h2 h3 h4 k3 k4 W
  · by_cases h : b < w
    · rw [bin_11l w a b h]; exact i_b11l w a b h1 h2 h3 h4 k3 k4 h W
    · rw [bin_11g w a b h]; exact i_b11g w a b h1 h2 h3 h4 k3 k4 (by omega) W
  · by_cases h : b < w
    · rw [bin_12l w a b h]; exact i_b12l w a b h1 h2 h3 h4 k3 k4 h W
    · rw [bin_12g w a b h]; exact i_b12g w a b h1 h2 h3 h4 k3 k4 (by omega) W
  · rcases ha with ⟨p0, p1⟩ | ⟨p0, p1⟩
    · by_cases h : b < w
      · rw [bin_13lp w a b h p1]; exact i_b13lp w a b h1 h2 h3 h4 k3 k4 h p0 p1 W
      · rw [bin_13gp w a b h p1]; exact i_b13gp w a b h1 h2 h3 h4 k3 k4 (by omega) p0 p1 W
    · by_cases h : b < w
      · rw [bin_13lm w a b h p1]; exact i_b13lm w a b h1 h2 h3 h4 k3 k4 h p0 p1 W
      · rw [bin_13gm w a b h p1]; exact i_b13gm w a b h1 h2 h3 h4 k3 k4 (by omega) p0 p1 W
  · by_cases h : a = b
    · rw [bin_14e w a b h]; exact i_b14e w a b h1 h2 h3 h4 k3 k4 h W
    · rw [bin_14n w a b h]; exact i_b14n w a b h1 h2 h3 h4 k3 k4 h W
  · by_cases h : a < b
    · rw [bin_15l w a b h]; exact i_b15l w a b h1 h2 h3 h4 k3 k4 h W
    · rw [bin_15g w a b h]; exact i_b15g w a b h1 h2 h3 h4 k3 k4 (by omega) W
  · rcases ha with ⟨p0, p1⟩ | ⟨p0, p1⟩ <;> rcases hb with ⟨q0, q1⟩ | ⟨q0, q1⟩
    · by_cases h : a < b
      · rw [bin_16 w a b a b (sg_p w a p1) (sg_p w b q1), if_pos h]; exact i_b16ppl w a b h1 h2 h3 h4 k3 k4 p0 p1 q0 q1 h W
      · rw [bin_16 w a b a b (sg_p w a p1) (sg_p w b q1), if_neg h]; exact i_b16ppg w a b h1 h2 h3 h4 k3 k4 p0 p1 q0 q1 (by omega) W
    · by_cases h : a < b - 2 ^ w.toNat
      · rw [bin_16 w a b _ _ (sg_p w a p1) (sg_m w b q1), if_pos h]; exact absurd h (by omega)
      · rw [bin_16 w a b _ _ (sg_p w a p1) (sg_m w b q1), if_neg h]; exact i_b16pmg w a b h1 h2 h3 h4 k3 k4 p0 p1 q0 q1 (by omega) W
    · by_cases h : a - 2 ^ w.toNat < b
      · rw [bin_16 w a b _ _ (sg_m w a p1) (sg_p w b q1), if_pos h]; exact i_b16mpl w a b h1 h2 h3 h4 k3 k4 p0 p1 q0 q1 h W
      · rw [bin_16 w a b _ _ (sg_m w a p1) (sg_p w b q1), if_neg h]; exact absurd h (by omega)
    · by_cases h : a - 2 ^ w.toNat < b - 2 ^ w.toNat
      · rw [bin_16 w a b _ _ (sg_m w a p1) (sg_m w b q1), if_pos h]; exact i_b16mml w a b h1 h2 h3 h4 k3 k4 p0 p1 q0 q1 h W
      · rw [bin_16 w a b _ _ (sg_m w a p1) (sg_m w b q1), if_neg h]; exact i_b16mmg w a b h1 h2 h3 h4 k3 k4 p0 p1 q0 q1 (by omega) W
theorem s_bin (op w a b : Int) (ho : 3 ≤ op ∧ op ≤ 16) (h1 : 1 ≤ w) (h2 : w ≤ 16) (h3 : 0 ≤ a) (h4 : a ≤ 2 ^ w.toNat - 1) (k3 : 0 ≤ b) (k4 : b ≤ 2 ^ w.toNat - 1) (W : World) :
    Calls Tryz.prog 81 #[.int .i64 op, .int .i64 w, .int .i64 a, .int .i64 b] W fun e W' => e = .returned (.int .i64 (binM op w a b)) ∧ W = W' := by
  have hop : op = 3 ∨ op = 4 ∨ op = 5 ∨ op = 6 ∨ op = 7 ∨ op = 8 ∨ op = 9 ∨ op = 10 ∨ op = 11 ∨ op = 12 ∨ op = 13 ∨ op = 14 ∨ op = 15 ∨ op = 16 := by omega
  have ha := high_bit w a h1 h2 h3 h4
  have hb := high_bit w b h1 h2 k3 k4
  rcases hop with rfl | rfl | rfl | rfl | rfl | rfl | rfl | rfl | rfl | rfl | rfl | rfl | rfl | rfl
  · exact s_b3 w a b h1 h2 h3 h4 k3 k4 W
  · exact s_b4 w a b h1 h2 h3 h4 k3 k4 W
  · exact s_b5 w a b h1 h2 h3 h4 k3 k4 W
  · by_cases h : b = 0
    · rw [bin_6z w a b h]; exact s_b6z w a b h1 h2 h3 h4 k3 k4 h W
    · rw [bin_6n w a b h]; exact s_b6n w a b h1 h2 h3 h4 k3 k4 h W
  · by_cases h : b = 0
    · rw [bin_7z w a b h]; exact s_b7z w a b h1 h2 h3 h4 k3 k4 h W
    · rw [bin_7n w a b h]; exact s_b7n w a b h1 h2 h3 h4 k3 k4 h W
  · exact s_b8 w a b h1 h2 h3 h4 k3 k4 W
  · exact s_b9 w a b h1 h2 h3 h4 k3 k4 W
  · exact s_b10 w a b h1 h2 h3 h4 k3 k4 W
  · by_cases h : b < w
    · rw [bin_11l w a b h]; exact s_b11l w a b h1 h2 h3 h4 k3 k4 h W
    · rw [bin_11g w a b h]; exact s_b11g w a b h1 h2 h3 h4 k3 k4 (by omega) W
  · by_cases h : b < w
    · rw [bin_12l w a b h]; exact s_b12l w a b h1 h2 h3 h4 k3 k4 h W
    · rw [bin_12g w a b h]; exact s_b12g w a b h1 h2 h3 h4 k3 k4 (by omega) W
  · rcases ha with ⟨p0, p1⟩ | ⟨p0, p1⟩
    · by_cases h : b < w
      · rw [bin_13lp w a b h p1]; exact s_b13lp w a b h1 h2 h3 h4 k3 k4 h p0 p1 W
      · rw [bin_13gp w a b h p1]; exact s_b13gp w a b h1 h2 h3 h4 k3 k4 (by omega) p0 p1 W
    · by_cases h : b < w
      · rw [bin_13lm w a b h p1]; exact s_b13lm w a b h1 h2 h3 h4 k3 k4 h p0 p1 W
      · rw [bin_13gm w a b h p1]; exact s_b13gm w a b h1 h2 h3 h4 k3 k4 (by omega) p0 p1 W
  · by_cases h : a = b
    · rw [bin_14e w a b h]; exact s_b14e w a b h1 h2 h3 h4 k3 k4 h W
    · rw [bin_14n w a b h]; exact s_b14n w a b h1 h2 h3 h4 k3 k4 h W
  · by_cases h : a < b
    · rw [bin_15l w a b h]; exact s_b15l w a b h1 h2 h3 h4 k3 k4 h W
    · rw [bin_15g w a b h]; exact s_b15g w a b h1 h2 h3 h4 k3 k4 (by omega) W
  · rcases ha with ⟨p0, p1⟩ | ⟨p0, p1⟩ <;> rcases hb with ⟨q0, q1⟩ | ⟨q0, q1⟩
    · by_cases h : a < b
      · rw [bin_16 w a b a b (sg_p w a p1) (sg_p w b q1), if_pos h]; exact s_b16ppl w a b h1 h2 h3 h4 k3 k4 p0 p1 q0 q1 h W
      · rw [bin_16 w a b a b (sg_p w a p1) (sg_p w b q1), if_neg h]; exact s_b16ppg w a b h1 h2 h3 h4 k3 k4 p0 p1 q0 q1 (by omega) W
    · by_cases h : a < b - 2 ^ w.toNat
      · rw [bin_16 w a b _ _ (sg_p w a p1) (sg_m w b q1), if_pos h]; exact absurd h (by omega)
      · rw [bin_16 w a b _ _ (sg_p w a p1) (sg_m w b q1), if_neg h]; exact s_b16pmg w a b h1 h2 h3 h4 k3 k4 p0 p1 q0 q1 (by omega) W
    · by_cases h : a - 2 ^ w.toNat < b
      · rw [bin_16 w a b _ _ (sg_m w a p1) (sg_p w b q1), if_pos h]; exact s_b16mpl w a b h1 h2 h3 h4 k3 k4 p0 p1 q0 q1 h W
      · rw [bin_16 w a b _ _ (sg_m w a p1) (sg_p w b q1), if_neg h]; exact absurd h (by omega)
    · by_cases h : a - 2 ^ w.toNat < b - 2 ^ w.toNat
      · rw [bin_16 w a b _ _ (sg_m w a p1) (sg_m w b q1), if_pos h]; exact s_b16mml w a b h1 h2 h3 h4 k3 k4 p0 p1 q0 q1 h W
      · rw [bin_16 w a b _ _ (sg_m w a p1) (sg_m w b q1), if_neg h]; exact s_b16mmg w a b h1 h2 h3 h4 k3 k4 p0 p1 q0 q1 (by omega) W
end Go.Proofs.YthmababifgaejaaGreatDoor
