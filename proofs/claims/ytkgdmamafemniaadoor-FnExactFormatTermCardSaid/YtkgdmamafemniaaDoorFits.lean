/- Contracts of kidCount, widthsFit and fits. -/
import Derived.Test.YtkgdmamafemniaaDoorTk
import Derived.WalkKit
import Derived.ProofKit
import Derived.OpenShut
import Derived.Handy
import Derived.Lib.Hide
import Derived.Below
import Derived.IntWalk
import Derived.WalkLawsBesides
import Derived.Deep.QuietTactic
import Derived.BigQuiet
import Derived.OwnWalk
import Derived.WalkSmall
import Derived.WalkSpells
import Derived.Outline
namespace Go.Proofs.YtkgdmamafemniaaDoor
open Go.ChangeShapes Go.WideShapes Go.ChangeAt Go.RowKit
set_option maxRecDepth 100000 in
set_option maxHeartbeats 2000000 in
theorem kid_count (op : Int) (w : World) : Calls Tryd.prog 69 #[.int .i64 op] w fun e w' => e = .returned (.int .i64 (kc op)) ∧ w = w' := by
  rcases op_cases op with rfl | rfl | rfl | ⟨h1, h2⟩ | ⟨h1, h2⟩ | rfl | rfl | rfl | rfl | rfl | rfl | h
  · go_enter Tryd.func69, Tryd.ntmps69
    go_wp2
    go_ret
    exact ⟨rfl, rfl⟩
  · go_enter Tryd.func69, Tryd.ntmps69
    go_wp2
    go_ret
    exact ⟨rfl, rfl⟩
  · go_enter Tryd.func69, Tryd.ntmps69
    go_wp2
    go_ret
    exact ⟨rfl, rfl⟩
  · have hk : kc op = 2 := by unfold kc; rw [if_neg (by omega), if_neg (by omega), if_neg (by omega), if_pos (by omega)]
    rw [hk]
    clear hk
    have e0 : ((op : Int) == 0) = false := by simp; omega
    have e22 : ((op : Int) == 22) = false := by simp; omega
    have e1 : ((op : Int) == 1) = false := by simp; omega
    have e2 : ((op : Int) == 2) = false := by simp; omega
    have e19 : ((op : Int) == 19) = false := by simp; omega
    have e20 : ((op : Int) == 20) = false := by simp; omega
    have e21 : ((op : Int) == 21) = false := by simp; omega
    have e17 : ((op : Int) == 17) = false := by simp; omega
    go_enter Tryd.func69, Tryd.ntmps69
    go_wp2
    go_ret
    exact ⟨rfl, rfl⟩
  · have hk : kc op = 2 := by unfold kc; rw [if_neg (by omega), if_neg (by omega), if_neg (by omega), if_pos (by omega)]
    rw [hk]
    clear hk
    have e0 : ((op : Int) == 0) = false := by simp; omega
    have e22 : ((op : Int) == 22) = false := by simp; omega
    have e1 : ((op : Int) == 1) = false := by simp; omega
    have e2 : ((op : Int) == 2) = false := by simp; omega
    have e19 : ((op : Int) == 19) = false := by simp; omega
    have e20 : ((op : Int) == 20) = false := by simp; omega
    have e21 : ((op : Int) == 21) = false := by simp; omega
    have e17 : ((op : Int) == 17) = false := by simp; omega
    go_enter Tryd.func69, Tryd.ntmps69
    go_wp2
    go_ret
    exact ⟨rfl, rfl⟩
  · go_enter Tryd.func69, Tryd.ntmps69
    go_wp2
    go_ret
    exact ⟨rfl, rfl⟩
  · go_enter Tryd.func69, Tryd.ntmps69
    go_wp2
    go_ret
    exact ⟨rfl, rfl⟩
  · go_enter Tryd.func69, Tryd.ntmps69
    go_wp2
    go_ret
    exact ⟨rfl, rfl⟩
  · go_enter Tryd.func69, Tryd.ntmps69
    go_wp2
    go_ret
    exact ⟨rfl, rfl⟩
  · go_enter Tryd.func69, Tryd.ntmps69
    go_wp2
    go_ret
    exact ⟨rfl, rfl⟩
  · go_enter Tryd.func69, Tryd.ntmps69
    go_wp2
    go_ret
    exact ⟨rfl, rfl⟩
  · have hk : kc op = -1 := by unfold kc; rw [if_neg (by omega), if_neg (by omega), if_neg (by omega), if_neg (by omega)]
    rw [hk]
    clear hk
    have e0 : ((op : Int) == 0) = false := by simp; omega
    have e22 : ((op : Int) == 22) = false := by simp; omega
    have e1 : ((op : Int) == 1) = false := by simp; omega
    have e2 : ((op : Int) == 2) = false := by simp; omega
    have e19 : ((op : Int) == 19) = false := by simp; omega
    have e20 : ((op : Int) == 20) = false := by simp; omega
    have e21 : ((op : Int) == 21) = false := by simp; omega
    have e17 : ((op : Int) == 17) = false := by simp; omega
    rcases h with h | h
    · have hx : decide (3 ≤ op) = false := by simp; omega
      go_enter Tryd.func69, Tryd.ntmps69
      go_wp2
      go_ret
      exact ⟨rfl, rfl⟩
    · have hx : decide (op ≤ 18) = false := by simp; omega
      have hy : 3 ≤ op := by omega
      go_enter Tryd.func69, Tryd.ntmps69
      go_wp2
      go_ret
      exact ⟨rfl, rfl⟩
set_option maxRecDepth 100000 in
set_option maxHeartbeats 2000000 in
theorem wf_1 (wd n x : Int) (nm : ByteArray) (b o cap : Nat) (w : World) (hbl : b < w.heap.size) (c0 : w.cell? ⟨b, o + 1, none⟩ = some (.int .i64 x))  :
    Calls Tryd.prog 72 #[.agg #[.int .i64 1, .int .i64 wd, .int .i64 n, .string nm, .slice (some ⟨b, o, none⟩) 1 cap]] w fun e w' => e = .returned (.bool (wfB 1 wd n [x])) ∧ Below w.heap.size w w' := by
  by_cases h : x = wd
  · subst h
    go_enter Tryd.func72, Tryd.ntmps72
    go_wp2
    go_quiet (fail)
    go_wp2
    go_ret
    exact ⟨ret_bool (by simp [wfB]), below_drewN ((Below.refl _ _).alloc (Nat.le_refl _) _) _⟩
  · have hx : ((x : Int) == wd) = false := by simpa using h
    go_enter Tryd.func72, Tryd.ntmps72
    go_wp2
    go_quiet (fail)
    go_wp2
    go_ret
    exact ⟨ret_bool (by simp [wfB, h]), below_drewN ((Below.refl _ _).alloc (Nat.le_refl _) _) _⟩
set_option maxRecDepth 100000 in
set_option maxHeartbeats 2000000 in
theorem wf_2 (wd n x : Int) (nm : ByteArray) (b o cap : Nat) (w : World) (hbl : b < w.heap.size) (c0 : w.cell? ⟨b, o + 1, none⟩ = some (.int .i64 x))  :
    Calls Tryd.prog 72 #[.agg #[.int .i64 2, .int .i64 wd, .int .i64 n, .string nm, .slice (some ⟨b, o, none⟩) 1 cap]] w fun e w' => e = .returned (.bool (wfB 2 wd n [x])) ∧ Below w.heap.size w w' := by
  by_cases h : x = wd
  · subst h
    go_enter Tryd.func72, Tryd.ntmps72
    go_wp2
    go_quiet (fail)
    go_wp2
    go_ret
    exact ⟨ret_bool (by simp [wfB]), below_drewN ((Below.refl _ _).alloc (Nat.le_refl _) _) _⟩
  · have hx : ((x : Int) == wd) = false := by simpa using h
    go_enter Tryd.func72, Tryd.ntmps72
    go_wp2
    go_quiet (fail)
    go_wp2
    go_ret
    exact ⟨ret_bool (by simp [wfB, h]), below_drewN ((Below.refl _ _).alloc (Nat.le_refl _) _) _⟩
set_option maxRecDepth 100000 in
set_option maxHeartbeats 2000000 in
theorem wf_19 (wd n x : Int) (nm : ByteArray) (b o cap : Nat) (w : World) (hbl : b < w.heap.size) (c0 : w.cell? ⟨b, o + 1, none⟩ = some (.int .i64 x))  :
    Calls Tryd.prog 72 #[.agg #[.int .i64 19, .int .i64 wd, .int .i64 n, .string nm, .slice (some ⟨b, o, none⟩) 1 cap]] w fun e w' => e = .returned (.bool (wfB 19 wd n [x])) ∧ Below w.heap.size w w' := by
  by_cases h : 0 ≤ n
  · have hx : decide (0 ≤ n) = true := decide_eq_true h
    go_enter Tryd.func72, Tryd.ntmps72
    go_wp2
    go_quiet (fail)
    go_wp2
    go_ret
    exact ⟨ret_bool (by simp [wfB, h]), below_drewN ((Below.refl _ _).alloc (Nat.le_refl _) _) _⟩
  · have hx : decide (0 ≤ n) = false := decide_eq_false h
    go_enter Tryd.func72, Tryd.ntmps72
    go_wp2
    go_quiet (fail)
    go_wp2
    go_ret
    exact ⟨ret_bool (by simp [wfB]; omega), below_drewN ((Below.refl _ _).alloc (Nat.le_refl _) _) _⟩
set_option maxRecDepth 100000 in
set_option maxHeartbeats 2000000 in
theorem wf_20 (wd n x : Int) (nm : ByteArray) (b o cap : Nat) (w : World) (hbl : b < w.heap.size) (c0 : w.cell? ⟨b, o + 1, none⟩ = some (.int .i64 x))  :
    Calls Tryd.prog 72 #[.agg #[.int .i64 20, .int .i64 wd, .int .i64 n, .string nm, .slice (some ⟨b, o, none⟩) 1 cap]] w fun e w' => e = .returned (.bool (wfB 20 wd n [x])) ∧ Below w.heap.size w w' := by
  go_enter Tryd.func72, Tryd.ntmps72
  go_wp2
  go_quiet (fail)
  go_wp2
  go_ret
  exact ⟨ret_bool (by simp [wfB]), below_drewN ((Below.refl _ _).alloc (Nat.le_refl _) _) _⟩
set_option maxRecDepth 100000 in
set_option maxHeartbeats 2000000 in
theorem wf_21 (wd n x : Int) (nm : ByteArray) (b o cap : Nat) (w : World) (hbl : b < w.heap.size) (c0 : w.cell? ⟨b, o + 1, none⟩ = some (.int .i64 x))  :
    Calls Tryd.prog 72 #[.agg #[.int .i64 21, .int .i64 wd, .int .i64 n, .string nm, .slice (some ⟨b, o, none⟩) 1 cap]] w fun e w' => e = .returned (.bool (wfB 21 wd n [x])) ∧ Below w.heap.size w w' := by
  go_enter Tryd.func72, Tryd.ntmps72
  go_wp2
  go_quiet (fail)
  go_wp2
  go_ret
  exact ⟨ret_bool (by simp [wfB]), below_drewN ((Below.refl _ _).alloc (Nat.le_refl _) _) _⟩
set_option maxRecDepth 100000 in
set_option maxHeartbeats 2000000 in
theorem wf_bin (op wd n x y : Int) (nm : ByteArray) (b o cap : Nat) (w : World) (hbl : b < w.heap.size) (c0 : w.cell? ⟨b, o + 1, none⟩ = some (.int .i64 x)) (c1 : w.cell? ⟨b, o + 5 + 1, none⟩ = some (.int .i64 y)) (h1 : 3 ≤ op) (h2 : op ≤ 13) :
    Calls Tryd.prog 72 #[.agg #[.int .i64 op, .int .i64 wd, .int .i64 n, .string nm, .slice (some ⟨b, o, none⟩) 2 cap]] w fun e w' => e = .returned (.bool (wfB op wd n [x, y])) ∧ Below w.heap.size w w' := by
  have e14 : ((op : Int) == 14) = false := by simp; omega
  have e15 : ((op : Int) == 15) = false := by simp; omega
  have e16 : ((op : Int) == 16) = false := by simp; omega
  have e17 : ((op : Int) == 17) = false := by simp; omega
  have e18 : ((op : Int) == 18) = false := by simp; omega
  have e19 : ((op : Int) == 19) = false := by simp; omega
  have e20 : ((op : Int) == 20) = false := by simp; omega
  have e21 : ((op : Int) == 21) = false := by simp; omega
  have g1 : ¬ op = 18 := by omega
  have g2 : ¬ (14 ≤ op ∧ op ≤ 16) := by omega
  have HG := Lib.hid (And.intro g1 g2)
  clear g1 g2
  by_cases h : x = wd
  · subst h
    go_enter Tryd.func72, Tryd.ntmps72
    go_wp2
    go_quiet (fail)
    go_wp2
    go_ret
    exact ⟨ret_bool (by obtain ⟨g1, g2⟩ := HG.out; simp [wfB, g1, g2]; try rfl), below_drewN ((Below.refl _ _).alloc (Nat.le_refl _) _) _⟩
  · have hx : ((x : Int) == wd) = false := by simpa using h
    go_enter Tryd.func72, Tryd.ntmps72
    go_wp2
    go_quiet (fail)
    go_wp2
    go_ret
    exact ⟨ret_bool (by obtain ⟨g1, g2⟩ := HG.out; simp [wfB, g1, g2, h]), below_drewN ((Below.refl _ _).alloc (Nat.le_refl _) _) _⟩
set_option maxRecDepth 100000 in
set_option maxHeartbeats 2000000 in
theorem wf_14 (wd n x y : Int) (nm : ByteArray) (b o cap : Nat) (w : World) (hbl : b < w.heap.size) (c0 : w.cell? ⟨b, o + 1, none⟩ = some (.int .i64 x)) (c1 : w.cell? ⟨b, o + 5 + 1, none⟩ = some (.int .i64 y))  :
    Calls Tryd.prog 72 #[.agg #[.int .i64 14, .int .i64 wd, .int .i64 n, .string nm, .slice (some ⟨b, o, none⟩) 2 cap]] w fun e w' => e = .returned (.bool (wfB 14 wd n [x, y])) ∧ Below w.heap.size w w' := by
  by_cases h : wd = 1
  · subst h
    go_enter Tryd.func72, Tryd.ntmps72
    go_wp2
    go_quiet (fail)
    go_wp2
    go_ret
    exact ⟨ret_bool (by simp [wfB]; try rfl), below_drewN ((Below.refl _ _).alloc (Nat.le_refl _) _) _⟩
  · have hx : ((wd : Int) == 1) = false := by simpa using h
    go_enter Tryd.func72, Tryd.ntmps72
    go_wp2
    go_quiet (fail)
    go_wp2
    go_ret
    exact ⟨ret_bool (by simp [wfB, h]), below_drewN ((Below.refl _ _).alloc (Nat.le_refl _) _) _⟩
set_option maxRecDepth 100000 in
set_option maxHeartbeats 2000000 in
theorem wf_15 (wd n x y : Int) (nm : ByteArray) (b o cap : Nat) (w : World) (hbl : b < w.heap.size) (c0 : w.cell? ⟨b, o + 1, none⟩ = some (.int .i64 x)) (c1 : w.cell? ⟨b, o + 5 + 1, none⟩ = some (.int .i64 y))  :
    Calls Tryd.prog 72 #[.agg #[.int .i64 15, .int .i64 wd, .int .i64 n, .string nm, .slice (some ⟨b, o, none⟩) 2 cap]] w fun e w' => e = .returned (.bool (wfB 15 wd n [x, y])) ∧ Below w.heap.size w w' := by
  by_cases h : wd = 1
  · subst h
    go_enter Tryd.func72, Tryd.ntmps72
    go_wp2
    go_quiet (fail)
    go_wp2
    go_ret
    exact ⟨ret_bool (by simp [wfB]; try rfl), below_drewN ((Below.refl _ _).alloc (Nat.le_refl _) _) _⟩
  · have hx : ((wd : Int) == 1) = false := by simpa using h
    go_enter Tryd.func72, Tryd.ntmps72
    go_wp2
    go_quiet (fail)
    go_wp2
    go_ret
    exact ⟨ret_bool (by simp [wfB, h]), below_drewN ((Below.refl _ _).alloc (Nat.le_refl _) _) _⟩
set_option maxRecDepth 100000 in
set_option maxHeartbeats 2000000 in
theorem wf_16 (wd n x y : Int) (nm : ByteArray) (b o cap : Nat) (w : World) (hbl : b < w.heap.size) (c0 : w.cell? ⟨b, o + 1, none⟩ = some (.int .i64 x)) (c1 : w.cell? ⟨b, o + 5 + 1, none⟩ = some (.int .i64 y))  :
    Calls Tryd.prog 72 #[.agg #[.int .i64 16, .int .i64 wd, .int .i64 n, .string nm, .slice (some ⟨b, o, none⟩) 2 cap]] w fun e w' => e = .returned (.bool (wfB 16 wd n [x, y])) ∧ Below w.heap.size w w' := by
  by_cases h : wd = 1
  · subst h
    go_enter Tryd.func72, Tryd.ntmps72
    go_wp2
    go_quiet (fail)
    go_wp2
    go_ret
    exact ⟨ret_bool (by simp [wfB]; try rfl), below_drewN ((Below.refl _ _).alloc (Nat.le_refl _) _) _⟩
  · have hx : ((wd : Int) == 1) = false := by simpa using h
    go_enter Tryd.func72, Tryd.ntmps72
    go_wp2
    go_quiet (fail)
    go_wp2
    go_ret
    exact ⟨ret_bool (by simp [wfB, h]), below_drewN ((Below.refl _ _).alloc (Nat.le_refl _) _) _⟩
set_option maxRecDepth 100000 in
set_option maxHeartbeats 2000000 in
theorem wf_18 (wd n x y : Int) (nm : ByteArray) (b o cap : Nat) (w : World) (hbl : b < w.heap.size) (c0 : w.cell? ⟨b, o + 1, none⟩ = some (.int .i64 x)) (c1 : w.cell? ⟨b, o + 5 + 1, none⟩ = some (.int .i64 y))  :
    Calls Tryd.prog 72 #[.agg #[.int .i64 18, .int .i64 wd, .int .i64 n, .string nm, .slice (some ⟨b, o, none⟩) 2 cap]] w fun e w' => e = .returned (.bool (wfB 18 wd n [x, y])) ∧ Below w.heap.size w w' := by
  go_enter Tryd.func72, Tryd.ntmps72
  go_wp2
  go_quiet (fail)
  go_wp2
  go_ret
  exact ⟨ret_bool (by simp only [wfB]; rw [Bool.eq_iff_iff]; simp), below_drewN ((Below.refl _ _).alloc (Nat.le_refl _) _) _⟩
set_option maxRecDepth 100000 in
set_option maxHeartbeats 2000000 in
theorem wf_17 (wd n x y z : Int) (nm : ByteArray) (b o cap : Nat) (w : World) (hbl : b < w.heap.size) (c0 : w.cell? ⟨b, o + 1, none⟩ = some (.int .i64 x)) (c1 : w.cell? ⟨b, o + 5 + 1, none⟩ = some (.int .i64 y)) (c2 : w.cell? ⟨b, o + 10 + 1, none⟩ = some (.int .i64 z))  :
    Calls Tryd.prog 72 #[.agg #[.int .i64 17, .int .i64 wd, .int .i64 n, .string nm, .slice (some ⟨b, o, none⟩) 3 cap]] w fun e w' => e = .returned (.bool (wfB 17 wd n [x, y, z])) ∧ Below w.heap.size w w' := by
  by_cases h : x = 1
  · subst h
    by_cases h : y = wd
    · subst h
      go_enter Tryd.func72, Tryd.ntmps72
      go_wp2
      go_quiet (fail)
      go_wp2
      go_quiet (fail)
      go_wp2
      go_ret
      exact ⟨ret_bool (by simp [wfB]; try rfl), below_drewN (below_drewN ((Below.refl _ _).alloc (Nat.le_refl _) _) _) _⟩
    · have hx : ((y : Int) == wd) = false := by simpa using h
      go_enter Tryd.func72, Tryd.ntmps72
      go_wp2
      go_quiet (fail)
      go_wp2
      go_quiet (fail)
      go_wp2
      go_ret
      exact ⟨ret_bool (by simp [wfB, h]), below_drewN (below_drewN ((Below.refl _ _).alloc (Nat.le_refl _) _) _) _⟩
  · have hx : ((x : Int) == 1) = false := by simpa using h
    go_enter Tryd.func72, Tryd.ntmps72
    go_wp2
    go_quiet (fail)
    go_wp2
    go_quiet (fail)
    go_wp2
    go_ret
    exact ⟨ret_bool (by simp [wfB, h]), below_drewN (below_drewN ((Below.refl _ _).alloc (Nat.le_refl _) _) _) _⟩
end Go.Proofs.YtkgdmamafemniaaDoor
