/- The marks that the laws write into a term, and their reading, where it has no kids. -/
import Derived.Test.YtgijgeailijejaaRows
import Derived.Test.YtgijgeailijejaaEqT
import Derived.WalkKit
import Derived.ProofKit
import Derived.OpenShut
import Derived.Handy
import Derived.Lib.Hide
import Derived.Below
import Derived.IntWalk
import Derived.WalkLawsBesides
import Derived.Deep.QuietTactic
import Derived.BigQuiet
import Derived.OwnWalk
import Derived.Laws.OwnMore
import Derived.Deep.OwnRows
import Derived.Deep.MidRow
import Derived.WalkSmall
import Derived.Outline
namespace Go.Proofs.Ytgijgeailijejaa
open Go.ChangeShapes Go.WideShapes Go.ChangeAt Go.RowKit
set_option maxRecDepth 100000 in
theorem mk0S (q : Option Addr) (c k : Nat) (w : World) : Calls Try.prog 59 #[.slice q 0 c, .int .i64 k] w fun e w' => e = .returned (.int .i64 k) ∧ w = w' := by
  go_enter Try.func59, Try.ntmps59
  go_wp2
  refine wp_loop_rounds 1 ?_
  rw [rounds_succ]
  go_wp2
  go_ret
  exact ⟨rfl, rfl⟩
theorem mk0 (op wd n : Int) (nm : ByteArray) (k : Nat) (w : World) : Calls Try.prog 24 #[.agg #[.int .i64 op, .int .i64 wd, .int .i64 n, .string nm, .slice none 0 0], .int .i64 k] w fun e w' => e = .returned (.int .i64 k) ∧ Below w.heap.size w w' := by
  have hk : ¬ ((k : Int) < 0) := by omega
  go_enter Try.func24, Try.ntmps24
  go_wp2_with (go_at_call 59; refine (mk0S _ _ _ _).mono ?_; rintro e w1 ⟨rfl, rfl⟩)
  go_ret
  exact ⟨rfl, (Below.refl _ _).alloc (Nat.le_refl _) _⟩
set_option maxRecDepth 100000 in
theorem hd0S (q : Option Addr) (c k : Nat) (w : World) : Calls Try.prog 76 #[.slice q 0 c, .int .i64 k] w fun e w' => e = .returned (.int .i64 k) ∧ w = w' := by
  go_enter Try.func76, Try.ntmps76
  go_wp2
  refine wp_loop_rounds 1 ?_
  rw [rounds_succ]
  go_wp2
  go_ret
  exact ⟨rfl, rfl⟩
theorem hd0 (op wd n : Int) (nm : ByteArray) (k : Nat) (w : World) : Calls Try.prog 35 #[.agg #[.int .i64 op, .int .i64 wd, .int .i64 n, .string nm, .slice none 0 0], .int .i64 k] w fun e w' => e = .returned (.int .i64 k) ∧ Below w.heap.size w w' := by
  have hk : ¬ ((k : Int) < 0) := by omega
  go_enter Try.func35, Try.ntmps35
  go_wp2_with (go_at_call 76; refine (hd0S _ _ _ _).mono ?_; rintro e w1 ⟨rfl, rfl⟩)
  go_ret
  exact ⟨rfl, (Below.refl _ _).alloc (Nat.le_refl _) _⟩
theorem nil_is (w : World) (T : TypeId) : (Fo.nil.cs T).Is w 0 5 Fo.nil.len (.slice none 0 0) := ⟨[], ⟨by rfl, none, 0, rfl, Nat.le_refl _, Nat.zero_le _, fun _ => rfl, fun a ha => by cases ha⟩, rfl⟩
theorem eq0 (op wd n : Int) (nm : ByteArray) (w : World) : Calls Try.prog 18 #[.agg #[.int .i64 op, .int .i64 wd, .int .i64 n, .string nm, .slice none 0 0], .agg #[.int .i64 op, .int .i64 wd, .int .i64 n, .string nm, .slice none 0 0]] w fun e w' => e = .returned (.bool true) ∧ Below w.heap.size w w' :=
  eq_one (k := Fo.nil) (eq_any _) op wd n nm _ _ w (nil_is w _) (nil_is w _) (Nat.zero_le _)
end Go.Proofs.Ytgijgeailijejaa
