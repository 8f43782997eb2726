/- What the specification's l05RegName returns. No condition. -/
import Derived.Test.YtcihgechijiamaaDoorWrM
import Derived.Test.YtcihgechijiamaaDoorCell
import Derived.Test.YtcihgechijiamaaDoorFmt
namespace Go.Proofs.YtcihgechijiamaaDoor
open Go.ChangeShapes Go.WideShapes Go.ChangeAt Go.RowKit
theorem itB_len (n : Int) (h0 : -9223372036854775808 ≤ n) (h1 : n ≤ 9223372036854775807) : (itB n).size ≤ 21 := by
  have h : (itB n).size = (Lib.itoa n).length := by simp [itB, ByteArray.size]
  rw [h]
  unfold Lib.itoa
  split
  · have := dec_len n.natAbs (by omega)
    simp; omega
  · have := dec_len n.toNat (by omega)
    omega
def rgB (n : Int) : ByteArray := ⟨#[114]⟩ ++ itB n
set_option maxRecDepth 100000 in
theorem s_regname (n : Int) (h0 : -9223372036854775808 ≤ n) (h1 : n ≤ 9223372036854775807) (w : World) :
    Calls Tryd.prog 43 #[.int .i64 n] w fun e w' => e = .returned (.string (rgB n)) ∧ Below w.heap.size w w' := by
  have hz := itB_len n h0 h1
  have KF : Hid (Calls Tryd.prog 45 #[.int .i64 n] w fun e w' => e = .returned (.string (itB n)) ∧ Below w.heap.size w w') := Lib.hid (s_fmt n h0 h1 w)
  unfold rgB
  generalize itB n = t at *
  have hz2 : (⟨#[114]⟩ : ByteArray).size = 1 := rfl
  go_enter Tryd.func43, Tryd.ntmps43
  go_wp2_with (go_at_call 45; refine KF.out.mono ?_; rintro e w1 ⟨rfl, hb⟩)
  go_ret
  exact ⟨rfl, hb⟩
end Go.Proofs.YtcihgechijiamaaDoor
