/- What the other operations on words return: ApplyUnary, JoinWords, CutWord, WidenWord. -/
import Derived.Test.YtkoeegeplginkaaBin
namespace Go.Proofs.Ytkoeegeplginkaa
open Go.ChangeShapes Go.WideShapes Go.ChangeAt Go.RowKit
theorem pow_add_toNat (w v : Int) (h1 : 1 ≤ w) (g1 : 1 ≤ v) : (2 : Int) ^ (w + v).toNat = 2 ^ w.toNat * 2 ^ v.toNat := by
  have : (w + v).toNat = w.toNat + v.toNat := by omega
  rw [this, Int.pow_add]
theorem join_lt (w a v b : Int) (h1 : 1 ≤ w) (h3 : 0 ≤ a) (h4 : a ≤ 2 ^ w.toNat - 1) (g1 : 1 ≤ v) (_k3 : 0 ≤ b) (k4 : b ≤ 2 ^ v.toNat - 1) (g3 : w + v ≤ 16) : 0 ≤ a * 2 ^ v.toNat ∧ a * 2 ^ v.toNat + b ≤ 2 ^ (w + v).toNat - 1 ∧ (2 : Int) ^ (w + v).toNat ≤ 65536 := by
  have hp := (pw (w + v) (by omega) g3).2
  have e := pow_add_toNat w v h1 g1
  have hv : 0 < (2 : Int) ^ v.toNat := Int.pow_pos (by decide)
  have h5 : 0 ≤ a * 2 ^ v.toNat := Int.mul_nonneg h3 (by omega)
  have h6 : a * 2 ^ v.toNat ≤ (2 ^ w.toNat - 1) * 2 ^ v.toNat := Int.mul_le_mul_of_nonneg_right h4 (by omega)
  rw [Int.sub_mul, Int.one_mul] at h6
  rw [e] at hp ⊢
  generalize (2 : Int) ^ w.toNat * 2 ^ v.toNat = p at *
  omega
def unM (op w a : Int) : Int := if op = 1 then 2 ^ w.toNat - 1 - a else mask w (-a)
def joinM (a v b : Int) : Int := a * 2 ^ v.toNat + b
def cutM (a l n : Int) : Int := mask n (a / 2 ^ l.toNat)
def widenM (w a n : Int) (s : Bool) : Int := if s = true then mask n (sgM w a) else a
set_option maxHeartbeats 2000000 in
theorem i_u1 (w a : Int) (h1 : 1 ≤ w) (h2 : w ≤ 16) (h3 : 0 ≤ a) (h4 : a ≤ 2 ^ w.toNat - 1) (W : World) :
    Calls Try.prog 179 #[.int .i64 1, .int .i64 w, .int .i64 a] W fun e W' => e = .returned (.int .i64 (2 ^ w.toNat - 1 - a)) ∧ W = W' := by
  obtain ⟨hp1, hp2⟩ := pw w h1 h2
  go_enter Try.func179, Try.ntmps179
  go_wp2
  go_ret
  exact ⟨rfl, rfl⟩
set_option maxHeartbeats 2000000 in
theorem i_u2 (w a : Int) (h1 : 1 ≤ w) (h2 : w ≤ 16) (h3 : 0 ≤ a) (h4 : a ≤ 2 ^ w.toNat - 1) (W : World) :
    Calls Try.prog 179 #[.int .i64 2, .int .i64 w, .int .i64 a] W fun e W' => e = .returned (.int .i64 (mask w (-a))) ∧ W = W' := by
  obtain ⟨hp1, hp2⟩ := pw w h1 h2
  go_enter Try.func179, Try.ntmps179
  go_wp2
  go_ret
  exact ⟨rfl, rfl⟩
set_option maxHeartbeats 2000000 in
theorem i_join (w a v b : Int) (h1 : 1 ≤ w) (h2 : w ≤ 16) (h3 : 0 ≤ a) (h4 : a ≤ 2 ^ w.toNat - 1) (g1 : 1 ≤ v) (g2 : v ≤ 16) (k3 : 0 ≤ b) (k4 : b ≤ 2 ^ v.toNat - 1) (g3 : w + v ≤ 16) (W : World) :
    Calls Try.prog 180 #[.int .i64 w, .int .i64 a, .int .i64 v, .int .i64 b] W fun e W' => e = .returned (.int .i64 (a * 2 ^ v.toNat + b)) ∧ W = W' := by
  obtain ⟨hp1, hp2⟩ := pw w h1 h2
  obtain ⟨hp3, hp4⟩ := pw v g1 g2
  have hx := join_lt w a v b h1 h3 h4 g1 k3 k4 g3
  go_enter Try.func180, Try.ntmps180
  go_wp2
  go_ret
  exact ⟨rfl, rfl⟩
set_option maxHeartbeats 2000000 in
theorem i_cut (w a l n : Int) (h1 : 1 ≤ w) (h2 : w ≤ 16) (h3 : 0 ≤ a) (h4 : a ≤ 2 ^ w.toNat - 1) (g1 : 0 ≤ l) (g2 : 1 ≤ n) (g3 : l + n ≤ w) (W : World) :
    Calls Try.prog 181 #[.int .i64 w, .int .i64 a, .int .i64 l, .int .i64 n] W fun e W' => e = .returned (.int .i64 (mask n (a / 2 ^ l.toNat))) ∧ W = W' := by
  obtain ⟨hp1, hp2⟩ := pw w h1 h2
  have g4 : n ≤ w := by omega
  have g5 : l ≤ w - n := by omega
  obtain ⟨hp3, hp4⟩ := pw n g2 (by omega)
  have g6 : n ≤ 16 := by omega
  go_enter Try.func181, Try.ntmps181
  go_wp2
  go_ret
  exact ⟨rfl, rfl⟩
set_option maxHeartbeats 2000000 in
theorem i_widen_truep (w a n : Int) (h1 : 1 ≤ w) (h2 : w ≤ 16) (h3 : 0 ≤ a) (h4 : a ≤ 2 ^ w.toNat - 1) (g1 : w ≤ n) (g2 : n ≤ 16) (_ha0 : (a / 2 ^ (w.toNat - 1) == 0) = true) (_ha1 : (a / 2 ^ (w.toNat - 1) == 1) = false) (W : World) :
    Calls Try.prog 182 #[.int .i64 w, .int .i64 a, .int .i64 n, .bool true] W fun e W' => e = .returned (.int .i64 (mask n a)) ∧ W = W' := by
  obtain ⟨hp1, hp2⟩ := pw w h1 h2
  obtain ⟨hp3, hp4⟩ := pw n (by omega) g2
  have g3 : 1 ≤ n := by omega
  go_enter Try.func182, Try.ntmps182
  go_wp2
  go_ret
  exact ⟨rfl, rfl⟩
set_option maxHeartbeats 2000000 in
theorem i_widen_truem (w a n : Int) (h1 : 1 ≤ w) (h2 : w ≤ 16) (h3 : 0 ≤ a) (h4 : a ≤ 2 ^ w.toNat - 1) (g1 : w ≤ n) (g2 : n ≤ 16) (_ha0 : (a / 2 ^ (w.toNat - 1) == 0) = false) (_ha1 : (a / 2 ^ (w.toNat - 1) == 1) = true) (W : World) :
    Calls Try.prog 182 #[.int .i64 w, .int .i64 a, .int .i64 n, .bool true] W fun e W' => e = .returned (.int .i64 (mask n (a - 2 ^ w.toNat))) ∧ W = W' := by
  obtain ⟨hp1, hp2⟩ := pw w h1 h2
  obtain ⟨hp3, hp4⟩ := pw n (by omega) g2
  have g3 : 1 ≤ n := by omega
  go_enter Try.func182, Try.ntmps182
  go_wp2
  go_ret
  exact ⟨rfl, rfl⟩
set_option maxHeartbeats 2000000 in
theorem i_widen_false (w a n : Int) (h1 : 1 ≤ w) (h2 : w ≤ 16) (h3 : 0 ≤ a) (h4 : a ≤ 2 ^ w.toNat - 1) (g1 : w ≤ n) (g2 : n ≤ 16) (W : World) :
    Calls Try.prog 182 #[.int .i64 w, .int .i64 a, .int .i64 n, .bool false] W fun e W' => e = .returned (.int .i64 (a)) ∧ W = W' := by
  obtain ⟨hp1, hp2⟩ := pw w h1 h2
  obtain ⟨hp3, hp4⟩ := pw n (by omega) g2
  have g3 : 1 ≤ n := by omega
  go_enter Try.func182, Try.ntmps182
  go_wp2
  go_ret
  exact ⟨rfl, rfl⟩
set_option maxHeartbeats 2000000 in
theorem s_u1 (w a : Int) (h1 : 1 ≤ w) (h2 : w ≤ 16) (h3 : 0 ≤ a) (h4 : a ≤ 2 ^ w.toNat - 1) (W : World) :
    Calls Try.prog 172 #[.int .i64 1, .int .i64 w, .int .i64 a] W fun e W' => e = .returned (.int .i64 (2 ^ w.toNat - 1 - a)) ∧ W = W' := by
  obtain ⟨hp1, hp2⟩ := pw w h1 h2
  go_enter Try.func172, Try.ntmps172
  go_wp2
  go_ret
  exact ⟨rfl, rfl⟩
set_option maxHeartbeats 2000000 in
theorem s_u2 (w a : Int) (h1 : 1 ≤ w) (h2 : w ≤ 16) (h3 : 0 ≤ a) (h4 : a ≤ 2 ^ w.toNat - 1) (W : World) :
    Calls Try.prog 172 #[.int .i64 2, .int .i64 w, .int .i64 a] W fun e W' => e = .returned (.int .i64 (mask w (-a))) ∧ W = W' := by
  obtain ⟨hp1, hp2⟩ := pw w h1 h2
  go_enter Try.func172, Try.ntmps172
  go_wp2
  go_ret
  exact ⟨rfl, rfl⟩
set_option maxHeartbeats 2000000 in
theorem s_join (w a v b : Int) (h1 : 1 ≤ w) (h2 : w ≤ 16) (h3 : 0 ≤ a) (h4 : a ≤ 2 ^ w.toNat - 1) (g1 : 1 ≤ v) (g2 : v ≤ 16) (k3 : 0 ≤ b) (k4 : b ≤ 2 ^ v.toNat - 1) (g3 : w + v ≤ 16) (W : World) :
    Calls Try.prog 174 #[.int .i64 w, .int .i64 a, .int .i64 v, .int .i64 b] W fun e W' => e = .returned (.int .i64 (a * 2 ^ v.toNat + b)) ∧ W = W' := by
  obtain ⟨hp1, hp2⟩ := pw w h1 h2
  obtain ⟨hp3, hp4⟩ := pw v g1 g2
  have hx := join_lt w a v b h1 h3 h4 g1 k3 k4 g3
  go_enter Try.func174, Try.ntmps174
  go_wp2
  go_ret
  exact ⟨rfl, rfl⟩
set_option maxHeartbeats 2000000 in
theorem s_cut (w a l n : Int) (h1 : 1 ≤ w) (h2 : w ≤ 16) (h3 : 0 ≤ a) (h4 : a ≤ 2 ^ w.toNat - 1) (g1 : 0 ≤ l) (g2 : 1 ≤ n) (g3 : l + n ≤ w) (W : World) :
    Calls Try.prog 175 #[.int .i64 w, .int .i64 a, .int .i64 l, .int .i64 n] W fun e W' => e = .returned (.int .i64 (mask n (a / 2 ^ l.toNat))) ∧ W = W' := by
  obtain ⟨hp1, hp2⟩ := pw w h1 h2
  have g4 : n ≤ w := by omega
  have g5 : l ≤ w - n := by omega
  obtain ⟨hp3, hp4⟩ := pw n g2 (by omega)
  have g6 : n ≤ 16 := by omega
  go_enter Try.func175, Try.ntmps175
  go_wp2
  go_ret
  exact ⟨rfl, rfl⟩
set_option maxHeartbeats 2000000 in
theorem s_widen_truep (w a n : Int) (h1 : 1 ≤ w) (h2 : w ≤ 16) (h3 : 0 ≤ a) (h4 : a ≤ 2 ^ w.toNat - 1) (g1 : w ≤ n) (g2 : n ≤ 16) (_ha0 : (a / 2 ^ (w.toNat - 1) == 0) = true) (_ha1 : (a / 2 ^ (w.toNat - 1) == 1) = false) (W : World) :
    Calls Try.prog 176 #[.int .i64 w, .int .i64 a, .int .i64 n, .bool true] W fun e W' => e = .returned (.int .i64 (mask n a)) ∧ W = W' := by
  obtain ⟨hp1, hp2⟩ := pw w h1 h2
  obtain ⟨hp3, hp4⟩ := pw n (by omega) g2
  have g3 : 1 ≤ n := by omega
  go_enter Try.func176, Try.ntmps176
  go_wp2
  go_ret
  exact ⟨rfl, rfl⟩
set_option maxHeartbeats 2000000 in
theorem s_widen_truem (w a n : Int) (h1 : 1 ≤ w) (h2 : w ≤ 16) (h3 : 0 ≤ a) (h4 : a ≤ 2 ^ w.toNat - 1) (g1 : w ≤ n) (g2 : n ≤ 16) (_ha0 : (a / 2 ^ (w.toNat - 1) == 0) = false) (_ha1 : (a / 2 ^ (w.toNat - 1) == 1) = true) (W : World) :
    Calls Try.prog 176 #[.int .i64 w, .int .i64 a, .int .i64 n, .bool true] W fun e W' => e = .returned (.int .i64 (mask n (a - 2 ^ w.toNat))) ∧ W = W' := by
  obtain ⟨hp1, hp2⟩ := pw w h1 h2
  obtain ⟨hp3, hp4⟩ := pw n (by omega) g2
  have g3 : 1 ≤ n := by omega
  go_enter Try.func176, Try.ntmps176
  go_wp2
  go_ret
  exact ⟨rfl, rfl⟩
set_option maxHeartbeats 2000000 in
theorem s_widen_false (w a n : Int) (h1 : 1 ≤ w) (h2 : w ≤ 16) (h3 : 0 ≤ a) (h4 : a ≤ 2 ^ w.toNat - 1) (g1 : w ≤ n) (g2 : n ≤ 16) (W : World) :
    Calls Try.prog 176 #[.int .i64 w, .int .i64 a, .int .i64 n, .bool false] W fun e W' => e = .returned (.int .i64 (a)) ∧ W = W' := by
  obtain ⟨hp1, hp2⟩ := pw w h1 h2
  obtain ⟨hp3, hp4⟩ := pw n (by omega) g2
  have g3 : 1 ≤ n := by omega
  go_enter Try.func176, Try.ntmps176
  go_wp2
  go_ret
  exact ⟨rfl, rfl⟩
theorem i_un (op w a : Int) (ho : op = 1 ∨ op = 2) (h1 : 1 ≤ w) (h2 : w ≤ 16) (h3 : 0 ≤ a) (h4 : a ≤ 2 ^ w.toNat - 1) (W : World) :
    Calls Try.prog 179 #[.int .i64 op, .int .i64 w, .int .i64 a] W fun e W' => e = .returned (.int .i64 (unM op w a)) ∧ W = W' := by
  rcases ho with rfl | rfl
  · exact i_u1 w a h1 h2 h3 h4 W
  · exact i_u2 w a h1 h2 h3 h4 W
theorem i_widen (w a n : Int) (b : Bool) (h1 : 1 ≤ w) (h2 : w ≤ 16) (h3 : 0 ≤ a) (h4 : a ≤ 2 ^ w.toNat - 1) (g1 : w ≤ n) (g2 : n ≤ 16) (W : World) :
    Calls Try.prog 182 #[.int .i64 w, .int .i64 a, .int .i64 n, .bool b] W fun e W' => e = .returned (.int .i64 (widenM w a n b)) ∧ W = W' := by
  cases b with
  | false => exact i_widen_false w a n h1 h2 h3 h4 g1 g2 W
  | true =>
    unfold widenM
    rw [if_pos rfl]
    rcases high_bit w a h1 h2 h3 h4 with ⟨p0, p1⟩ | ⟨p0, p1⟩
    · rw [sg_p w a p1]; exact i_widen_truep w a n h1 h2 h3 h4 g1 g2 p0 p1 W
    · rw [sg_m w a p1]; exact i_widen_truem w a n h1 h2 h3 h4 g1 g2 p0 p1 W
theorem s_un (op w a : Int) (ho : op = 1 ∨ op = 2) (h1 : 1 ≤ w) (h2 : w ≤ 16) (h3 : 0 ≤ a) (h4 : a ≤ 2 ^ w.toNat - 1) (W : World) :
    Calls Try.prog 172 #[.int .i64 op, .int .i64 w, .int .i64 a] W fun e W' => e = .returned (.int .i64 (unM op w a)) ∧ W = W' := by
  rcases ho with rfl | rfl
  · exact s_u1 w a h1 h2 h3 h4 W
  · exact s_u2 w a h1 h2 h3 h4 W
theorem s_widen (w a n : Int) (b : Bool) (h1 : 1 ≤ w) (h2 : w ≤ 16) (h3 : 0 ≤ a) (h4 : a ≤ 2 ^ w.toNat - 1) (g1 : w ≤ n) (g2 : n ≤ 16) (W : World) :
    Calls Try.prog 176 #[.int .i64 w, .int .i64 a, .int .i64 n, .bool b] W fun e W' => e = .returned (.int .i64 (widenM w a n b)) ∧ W = W' := by
  cases b with
  | false => exact s_widen_false w a n h1 h2 h3 h4 g1 g2 W
  | true =>
    unfold widenM
    rw [if_pos rfl]
    rcases high_bit w a h1 h2 h3 h4 with ⟨p0, p1⟩ | ⟨p0, p1⟩
    · rw [sg_p w a p1]; exact s_widen_truep w a n h1 h2 h3 h4 g1 g2 p0 p1 W
    · rw [sg_m w a p1]; exact s_widen_truem w a n h1 h2 h3 h4 g1 g2 p0 p1 W
end Go.Proofs.Ytkoeegeplginkaa
