/- What the program's write of an operand returns. No condition but the table. -/
import Derived.Test.YtcihgechijiamaaDoorWrM
import Derived.Test.YtcihgechijiamaaDoorFmt
namespace Go.Proofs.YtcihgechijiamaaDoor
open Go.ChangeShapes Go.WideShapes Go.ChangeAt Go.RowKit
theorem itB_size (n : Int) (h0 : -9223372036854775808 ≤ n) (h1 : n ≤ 9223372036854775807) : (itB n).size ≤ 21 := by
  have h : (itB n).size = (Lib.itoa n).length := by simp [itB, ByteArray.size]
  rw [h]
  unfold Lib.itoa
  split
  · have := dec_len n.natAbs (by omega)
    simp; omega
  · have := dec_len n.toNat (by omega)
    omega
set_option maxRecDepth 100000 in
set_option maxHeartbeats 2000000 in
theorem i_write (o : Int) (s : ByteArray) (n : Int) (ho : o = 0 ∨ o = 1 ∨ o = 2 ∨ o = 3 ∨ o = 4) (h0 : -9223372036854775808 ≤ n) (h1 : n ≤ 9223372036854775807) (hs : s.size ≤ 100000) (w : World) (htab : Lib.TabIs Tryd.prog w "internal/strconv.uint64pow10" .u64 Lib.pow10Tab) :
    Calls Tryd.prog 47 #[.int .i64 o, .string s, .int .i64 n] w fun e w' => e = .returned (.string (wrV o s n)) ∧ Below w.heap.size w w' := by
  have hz := itB_size n h0 h1
  have KF : Hid (Calls Tryd.prog 73 #[.int .i64 n] w fun e w' => e = .returned (.string (itB n)) ∧ Below w.heap.size w w') := Lib.hid (i_fmt n h0 h1 w htab)
  clear htab
  unfold wrV
  generalize itB n = t at *
  rcases ho with rfl | rfl | rfl | rfl | rfl
  · go_enter Tryd.func47, Tryd.ntmps47
    go_wp2
    go_ret
    exact ⟨rfl, Below.refl _ _⟩
  · have hz2 : (s ++ (⟨#[32, 114]⟩ : ByteArray)).size = s.size + 2 := by simp; rfl
    go_enter Tryd.func47, Tryd.ntmps47
    go_wp2_with (go_at_call 73; refine KF.out.mono ?_; rintro e w1 ⟨rfl, hb⟩)
    go_ret
    exact ⟨rfl, hb⟩
  · have hz2 : (s ++ (⟨#[32]⟩ : ByteArray)).size = s.size + 1 := by simp; rfl
    go_enter Tryd.func47, Tryd.ntmps47
    go_wp2_with (go_at_call 73; refine KF.out.mono ?_; rintro e w1 ⟨rfl, hb⟩)
    go_ret
    exact ⟨rfl, hb⟩
  · have hz2 : (s ++ (⟨#[32]⟩ : ByteArray)).size = s.size + 1 := by simp; rfl
    go_enter Tryd.func47, Tryd.ntmps47
    go_wp2_with (go_at_call 73; refine KF.out.mono ?_; rintro e w1 ⟨rfl, hb⟩)
    go_ret
    exact ⟨rfl, hb⟩
  · go_enter Tryd.func47, Tryd.ntmps47
    go_wp2
    go_ret
    exact ⟨rfl, Below.refl _ _⟩
theorem wr_size (o : Int) (s : ByteArray) (n : Int) (h0 : -9223372036854775808 ≤ n) (h1 : n ≤ 9223372036854775807) : (wrV o s n).size ≤ s.size + 23 := by
  have := itB_size n h0 h1
  unfold wrV
  split
  · rw [ByteArray.size_append, ByteArray.size_append]
    have h : (⟨#[32, 114]⟩ : ByteArray).size = 2 := rfl
    omega
  · split
    · rw [ByteArray.size_append, ByteArray.size_append]
      have h : (⟨#[32]⟩ : ByteArray).size = 1 := rfl
      omega
    · omega
end Go.Proofs.YtcihgechijiamaaDoor
