/- What the unary operations on a word return. No condition. -/
import Derived.Test.YtbdkningngpgcaaUnM
namespace Go.Proofs.Ytbdkningngpgcaa
open Go.ChangeShapes Go.WideShapes Go.ChangeAt Go.RowKit
set_option maxHeartbeats 2000000 in
theorem i_u1 (w a : Int) (h1 : 1 ≤ w) (h2 : w ≤ 16) (h3 : 0 ≤ a) (h4 : a ≤ 2 ^ w.toNat - 1) (W : World) :
    Calls Try.prog 148 #[.int .i64 1, .int .i64 w, .int .i64 a] W fun e W' => e = .returned (.int .i64 (2 ^ w.toNat - 1 - a)) ∧ W = W' := by
  obtain ⟨hp1, hp2⟩ := pw w h1 h2
  go_enter Try.func148, Try.ntmps148
  go_wp2
  go_ret
  exact ⟨rfl, rfl⟩
set_option maxHeartbeats 2000000 in
theorem i_u2 (w a : Int) (h1 : 1 ≤ w) (h2 : w ≤ 16) (h3 : 0 ≤ a) (h4 : a ≤ 2 ^ w.toNat - 1) (W : World) :
    Calls Try.prog 148 #[.int .i64 2, .int .i64 w, .int .i64 a] W fun e W' => e = .returned (.int .i64 (mask w (-a))) ∧ W = W' := by
  obtain ⟨hp1, hp2⟩ := pw w h1 h2
  go_enter Try.func148, Try.ntmps148
  go_wp2
  go_ret
  exact ⟨rfl, rfl⟩
set_option maxHeartbeats 2000000 in
theorem s_u1 (w a : Int) (h1 : 1 ≤ w) (h2 : w ≤ 16) (h3 : 0 ≤ a) (h4 : a ≤ 2 ^ w.toNat - 1) (W : World) :
    Calls Try.prog 91 #[.int .i64 1, .int .i64 w, .int .i64 a] W fun e W' => e = .returned (.int .i64 (2 ^ w.toNat - 1 - a)) ∧ W = W' := by
  obtain ⟨hp1, hp2⟩ := pw w h1 h2
  go_enter Try.func91, Try.ntmps91
  go_wp2
  go_ret
  exact ⟨rfl, rfl⟩
set_option maxHeartbeats 2000000 in
theorem s_u2 (w a : Int) (h1 : 1 ≤ w) (h2 : w ≤ 16) (h3 : 0 ≤ a) (h4 : a ≤ 2 ^ w.toNat - 1) (W : World) :
    Calls Try.prog 91 #[.int .i64 2, .int .i64 w, .int .i64 a] W fun e W' => e = .returned (.int .i64 (mask w (-a))) ∧ W = W' := by
  obtain ⟨hp1, hp2⟩ := pw w h1 h2
  go_enter Try.func91, Try.ntmps91
  go_wp2
  go_ret
  exact ⟨rfl, rfl⟩
theorem i_un (op w a : Int) (ho : op = 1 ∨ op = 2) (h1 : 1 ≤ w) (h2 : w ≤ 16) (h3 : 0 ≤ a) (h4 : a ≤ 2 ^ w.toNat - 1) (W : World) :
    Calls Try.prog 148 #[.int .i64 op, .int .i64 w, .int .i64 a] W fun e W' => e = .returned (.int .i64 (unM op w a)) ∧ W = W' := by
  rcases ho with rfl | rfl
  · exact i_u1 w a h1 h2 h3 h4 W
  · exact i_u2 w a h1 h2 h3 h4 W
theorem s_un (op w a : Int) (ho : op = 1 ∨ op = 2) (h1 : 1 ≤ w) (h2 : w ≤ 16) (h3 : 0 ≤ a) (h4 : a ≤ 2 ^ w.toNat - 1) (W : World) :
    Calls Try.prog 91 #[.int .i64 op, .int .i64 w, .int .i64 a] W fun e W' => e = .returned (.int .i64 (unM op w a)) ∧ W = W' := by
  rcases ho with rfl | rfl
  · exact s_u1 w a h1 h2 h3 h4 W
  · exact s_u2 w a h1 h2 h3 h4 W
end Go.Proofs.Ytbdkningngpgcaa
