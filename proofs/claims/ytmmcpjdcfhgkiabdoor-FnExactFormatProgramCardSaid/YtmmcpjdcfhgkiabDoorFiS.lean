/- What the specification's l05RegName and l05Word return. No condition. -/
import Derived.Test.YtmmcpjdcfhgkiabDoorFiM
import Derived.Test.YtmmcpjdcfhgkiabDoorCell
import Derived.Test.YtmmcpjdcfhgkiabDoorFmt
namespace Go.Proofs.YtmmcpjdcfhgkiabDoor
open Go.ChangeShapes Go.WideShapes Go.ChangeAt Go.RowKit
theorem itB_len (n : Int) (h0 : -9223372036854775808 ≤ n) (h1 : n ≤ 9223372036854775807) : (itB n).size ≤ 21 := by
  have h : (itB n).size = (Lib.itoa n).length := by simp [itB, ByteArray.size]
  rw [h]
  unfold Lib.itoa
  split
  · have := dec_len n.natAbs (by omega)
    simp; omega
  · have := dec_len n.toNat (by omega)
    omega
def rgB (n : Int) : ByteArray := ⟨#[114]⟩ ++ itB n
set_option maxRecDepth 100000 in
theorem s_regname (n : Int) (h0 : -9223372036854775808 ≤ n) (h1 : n ≤ 9223372036854775807) (w : World) :
    Calls Tryd.prog 23 #[.int .i64 n] w fun e w' => e = .returned (.string (rgB n)) ∧ Below w.heap.size w w' := by
  have hz := itB_len n h0 h1
  have KF : Hid (Calls Tryd.prog 21 #[.int .i64 n] w fun e w' => e = .returned (.string (itB n)) ∧ Below w.heap.size w w') := Lib.hid (s_fmt n h0 h1 w)
  unfold rgB
  generalize itB n = t at *
  have hz2 : (⟨#[114]⟩ : ByteArray).size = 1 := rfl
  go_enter Tryd.func23, Tryd.ntmps23
  go_wp2_with (go_at_call 21; refine KF.out.mono ?_; rintro e w1 ⟨rfl, hb⟩)
  go_ret
  exact ⟨rfl, hb⟩
set_option maxRecDepth 100000 in
set_option maxHeartbeats 8000000 in
theorem s_word (op a b c wd size : Int) (hi : insB ⟨op, a, b, c⟩ wd size = true) (w : World) :
    Calls Tryd.prog 24 #[.agg #[.int .i64 op, .int .i64 a, .int .i64 b, .int .i64 c]] w fun e w' => e = .returned (.string (wdV op c)) ∧ Below w.heap.size w w' := by
  rcases op_cases op with rfl | rfl | rfl | rfl | rfl | rfl | rfl | rfl | rfl | rfl | rfl | rfl | rfl | rfl | hop
  case inr.inr.inr.inr.inr.inr.inr.inr.inr.inr.inr.inr.inr.inr => rw [ins_out (r := ⟨op, a, b, c⟩) hop] at hi; cases hi
  case inr.inr.inl =>
    rw [ins_in (r := ⟨3, a, b, c⟩) (show (1 : Int) ≤ 3 by omega) (show (3 : Int) ≤ 14 by omega)] at hi
    have h4 : opB 4 c wd size = true := ((Bool.and_eq_true _ _).mp ((Bool.and_eq_true _ _).mp hi).2).2
    rw [opB_oper, Bool.and_eq_true, decide_eq_true_eq, decide_eq_true_eq] at h4
    obtain ⟨k, rfl⟩ : ∃ k : Nat, c = k := ⟨c.toNat, by omega⟩
    have KO := Lib.hid (fun W => s_opName k (by omega) (by omega) W)
    have hw : wdV 3 (k : Int) = nm k := by unfold wdV; rw [if_pos rfl, Int.toNat_natCast]
    rw [hw]
    clear hi h4 hw
    go_enter Tryd.func24, Tryd.ntmps24
    go_wp2_with (go_at_call 37; refine (KO.out _).mono ?_; rintro e w1 ⟨rfl, rfl⟩)
    go_ret
    exact ⟨rfl, ((Below.refl _ _).alloc (Nat.le_refl _) _).alloc (by simp) _⟩
  all_goals
    clear hi
    go_enter Tryd.func24, Tryd.ntmps24
    go_wp2
    go_ret
    exact ⟨rfl, ((Below.refl _ _).alloc (Nat.le_refl _) _).alloc (by simp) _⟩
end Go.Proofs.YtmmcpjdcfhgkiabDoor
