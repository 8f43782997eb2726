/- The marks that the laws write into a circuit, and their reading: markCircuit, heldCircuit. No condition. -/
import Derived.Test.YtimjkgciakbolabMkGate
import Derived.Test.YtimjkgciakbolabCircuit
namespace Go.Proofs.Ytimjkgciakbolab
open Go.ChangeShapes Go.WideShapes Go.ChangeAt Go.RowKit
set_option maxRecDepth 100000 in
theorem mark_Circuit (I : Int) (L : List GateR) (q : Option Addr) (cap k base : Nat) (w : World) (ho : w.ownsRow base 48 2 (.slice q L.length cap) L.length (GateR.all L)) (h1 : 1 ≤ k) (hk : k + 2 * L.length ≤ 1000000000000) :
    Calls Try.prog 16 #[.agg #[.int .i64 I, .slice q L.length cap], .int .i64 k] w fun e w' => e = .returned (.int .i64 ((k + 2 * L.length : Nat) : Int)) ∧ w'.ownsRow base 48 2 (.slice q L.length cap) L.length (GateR.all (GateR.mkrs L k)) ∧ Apart (Value.slice q L.length cap).ownBlock.toList w w' := by
  have KM := Lib.hid (fun W (h : W.ownsRow base 48 2 (.slice q L.length cap) L.length (GateR.all L)) => mark_Gate L _ k base W h h1 hk)
  unfold MarkGateEnd at KM
  have HO := Lib.hid (ho.alloc (.cells #[.int .i64 I, .slice q L.length cap] 29))
  have HA := Lib.hid (Apart.of_below (bs := (Value.slice q L.length cap).ownBlock.toList) ((Below.refl w.heap.size w).alloc (Nat.le_refl _) (.cells #[.int .i64 I, .slice q L.length cap] 29)))
  generalize GateR.mkrs L k = M at *
  generalize hz : ((k + 2 * L.length : Nat) : Int) = z at *
  clear hk ho
  go_enter Try.func16, Try.ntmps16
  go_wp2_with (go_at_call 43; refine (KM.out _ HO.out).mono ?_; rintro e w1 ⟨rfl, ho1, ha1⟩)
  go_ret
  exact ⟨rfl, ho1, HA.out.trans ha1⟩
set_option maxRecDepth 100000 in
theorem held_Circuit (I : Int) (L : List GateR) (q : Option Addr) (cap k : Nat) (w : World) (hv : Cs.Shows w 0 2 (.slice q L.length cap) L.length (GateR.all (GateR.mkrs L k))) (h1 : 1 ≤ k) (hk : k + 2 * L.length ≤ 1000000000000) :
    Calls Try.prog 17 #[.agg #[.int .i64 I, .slice q L.length cap], .int .i64 k] w fun e w' => e = .returned (.int .i64 ((k + 2 * L.length : Nat) : Int)) ∧ Below w.heap.size w w' := by
  have KM := Lib.hid (fun W (hb : Below w.heap.size w W) => held_Gate L _ k W (hv.below hb) h1 hk)
  have HB := Lib.hid ((Below.refl w.heap.size w).alloc (Nat.le_refl _) (.cells #[.int .i64 I, .slice q L.length cap] 29))
  have hz0 : ¬ (((k + 2 * L.length : Nat) : Int) < 0) := by omega
  generalize hz : ((k + 2 * L.length : Nat) : Int) = z at *
  clear hk hv
  go_enter Try.func17, Try.ntmps17
  go_wp2_with (go_at_call 44; refine (KM.out _ HB.out).mono ?_; rintro e w1 ⟨rfl, hb1⟩)
  go_ret
  exact ⟨rfl, HB.out.trans (hb1.mono (by simp))⟩
end Go.Proofs.Ytimjkgciakbolab
