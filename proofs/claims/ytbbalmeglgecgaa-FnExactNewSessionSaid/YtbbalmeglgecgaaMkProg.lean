/- The marks that the laws write into a program: markProgram. No condition. -/
import Derived.Test.YtbbalmeglgecgaaMkIns
import Derived.Test.YtbbalmeglgecgaaProgram
namespace Go.Proofs.Ytbbalmeglgecgaa
open Go.ChangeShapes Go.WideShapes Go.ChangeAt Go.RowKit
set_option maxRecDepth 100000 in
theorem mark_Program (vw vm vi : Int) (L : List InsR) (q : Option Addr) (cap k base : Nat) (w : World) (ho : w.ownsRow base 68 4 (.slice q L.length cap) L.length (InsR.all L)) (h1 : 1 ≤ k) (hk : k + 4 * L.length ≤ 1000000000000) :
    Calls Try.prog 32 #[.agg #[.int .i64 vw, .int .i64 vm, .int .i64 vi, .slice q L.length cap], .int .i64 k] w fun e w' => e = .returned (.int .i64 ((k + 4 * L.length : Nat) : Int)) ∧ w'.ownsRow base 68 4 (.slice q L.length cap) L.length (InsR.all (InsR.mkrs L k)) ∧ Apart (Value.slice q L.length cap).ownBlock.toList w w' := by
  have KM := Lib.hid (fun W (h : W.ownsRow base 68 4 (.slice q L.length cap) L.length (InsR.all L)) => mark_Ins L _ k base W h h1 hk)
  unfold MarkInsEnd at KM
  have HO := Lib.hid (ho.alloc (.cells #[.int .i64 vw, .int .i64 vm, .int .i64 vi, .slice q L.length cap] 24))
  have HA := Lib.hid (Apart.of_below (bs := (Value.slice q L.length cap).ownBlock.toList) ((Below.refl w.heap.size w).alloc (Nat.le_refl _) (.cells #[.int .i64 vw, .int .i64 vm, .int .i64 vi, .slice q L.length cap] 24)))
  generalize InsR.mkrs L k = M at *
  generalize hz : ((k + 4 * L.length : Nat) : Int) = z at *
  clear hk ho
  go_enter Try.func32, Try.ntmps32
  go_wp2_with (go_at_call 71; refine (KM.out _ HO.out).mono ?_; rintro e w1 ⟨rfl, ho1, ha1⟩)
  go_ret
  exact ⟨rfl, ho1, HA.out.trans ha1⟩
end Go.Proofs.Ytbbalmeglgecgaa
