/- The law FnExactFormatIns, walked by the contracts of all that it calls. -/
import Derived.Test.YtogmiahkccmfbacDoorFiF
import Derived.Test.YtogmiahkccmfbacDoorFiI
namespace Go.Proofs.YtogmiahkccmfbacDoor
open Go.ChangeShapes Go.WideShapes Go.ChangeAt Go.RowKit
set_option maxRecDepth 100000 in
set_option maxHeartbeats 2000000 in
theorem law_FnExactFormatIns (op a b c wd size : Int) (ha : -9223372036854775808 ≤ a ∧ a ≤ 9223372036854775807) (hb : -9223372036854775808 ≤ b ∧ b ≤ 9223372036854775807) (w : World) (htab : Lib.TabIs Tryd.prog w "internal/strconv.uint64pow10" .u64 Lib.pow10Tab) (hvar : w.var? Tryd.prog "loop.example/g03219/impl.opNames" = some nmCells) :
    Calls Tryd.prog 3 #[.agg #[.int .i64 op, .int .i64 a, .int .i64 b, .int .i64 c], .int .i64 wd, .int .i64 size] w fun e w' => e = .returned (.bool true) ∧ Below w.heap.size w w' := by
  have HB0 := Lib.hid ((Below.refl w.heap.size w).alloc (Nat.le_refl _) (.cells #[.int .i64 op, .int .i64 a, .int .i64 b, .int .i64 c] 23))
  have X0 := Lib.hid (cell4_alloc w 23 (.int .i64 op) (.int .i64 a) (.int .i64 b) (.int .i64 c))
  obtain ⟨w0, hw0⟩ : ∃ w0, w0 = w.alloc (.cells #[.int .i64 op, .int .i64 a, .int .i64 b, .int .i64 c] 23) := ⟨_, rfl⟩
  rw [← hw0] at HB0 X0
  have KT := Lib.hid (fun W => to_Ins_one ⟨op, a, b, c⟩ W)
  have KS := Lib.hid (fun W => s_format op a b c wd size ha hb W)
  have KI := Lib.hid (fun W (hw : Below w.heap.size w W) => i_format op a b c wd size ha hb W (var_below hw htab) (var_below hw hvar))
  generalize fiV ⟨op, a, b, c⟩ wd size = B at *
  clear htab hvar
  obtain ⟨x0, x1, x2, x3⟩ := X0.out
  rw [hw0] at x0 x1 x2 x3
  go_enter Tryd.func3, Tryd.ntmps3
  go_wp2_with fail
  rw [← hw0] at x0 x1 x2 x3 ⊢
  clear hw0
  refine (KT.out _).mono ?_
  rintro e w1 ⟨rfl, hbb⟩
  have HB1 := Lib.hid (HB0.out.trans (hbb.mono HB0.out.size))
  have X1 := Lib.hid (X0.out.below hbb)
  clear hbb x0 x1 x2 x3
  obtain ⟨x0, x1, x2, x3⟩ := X1.out
  go_wp2_with fail
  refine (KS.out _).mono ?_
  rintro e w2 ⟨rfl, hbb⟩
  have HB2 := Lib.hid (HB1.out.trans (hbb.mono HB1.out.size))
  have X2 := Lib.hid (X1.out.below hbb)
  clear hbb x0 x1 x2 x3
  obtain ⟨x0, x1, x2, x3⟩ := X2.out
  go_wp2_with fail
  refine (KT.out _).mono ?_
  rintro e w3 ⟨rfl, hbb⟩
  have HB3 := Lib.hid (HB2.out.trans (hbb.mono HB2.out.size))
  clear hbb x0 x1 x2 x3
  go_wp2_with fail
  refine (KI.out _ HB3.out).mono ?_
  rintro e w4 ⟨rfl, hbb⟩
  have HB4 := Lib.hid (HB3.out.trans (hbb.mono HB3.out.size))
  clear hbb
  go_wp2
  go_ret
  exact ⟨rfl, HB4.out⟩
end Go.Proofs.YtogmiahkccmfbacDoor
