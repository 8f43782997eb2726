/- Contracts of kidCount, widthsFit and fits. The contract of fits: whether a node fits to its kids. -/
import Derived.Test.YthmababifgaejaaGreatDoorEmGWk
import Derived.WalkKit
import Derived.ProofKit
import Derived.OpenShut
import Derived.Handy
import Derived.Lib.Hide
import Derived.Below
import Derived.IntWalk
import Derived.WalkLawsBesides
import Derived.Deep.QuietTactic
import Derived.BigQuiet
import Derived.OwnWalk
import Derived.WalkSmall
import Derived.WalkSpells
import Derived.Outline
namespace Go.Proofs.YthmababifgaejaaGreatDoor
open Go.ChangeShapes Go.WideShapes Go.ChangeAt Go.RowKit
set_option maxRecDepth 100000 in
set_option maxHeartbeats 2000000 in
theorem kid_count (op : Int) (w : World) : Calls Tryz.prog 141 #[.int .i64 op] w fun e w' => e = .returned (.int .i64 (kc op)) ∧ w = w' := by
  rcases op_casesT op with rfl | rfl | rfl | ⟨h1, h2⟩ | ⟨h1, h2⟩ | rfl | rfl | rfl | rfl | rfl | rfl | h
  · go_enter Tryz.func141, Tryz.ntmps141
    go_wp2
    go_ret
    exact ⟨rfl, rfl⟩
  · go_enter Tryz.func141, Tryz.ntmps141
    go_wp2
    go_ret
    exact ⟨rfl, rfl⟩
  · go_enter Tryz.func141, Tryz.ntmps141
    go_wp2
    go_ret
    exact ⟨rfl, rfl⟩
  · have hk : kc op = 2 := by unfold kc; rw [if_neg (by omega), if_neg (by omega), if_neg (by omega), if_pos (by omega)]
    rw [hk]
    clear hk
    have e0 : ((op : Int) == 0) = false := by simp; omega
    have e22 : ((op : Int) == 22) = false := by simp; omega
    have e1 : ((op : Int) == 1) = false := by simp; omega
    have e2 : ((op : Int) == 2) = false := by simp; omega
    have e19 : ((op : Int) == 19) = false := by simp; omega
    have e20 : ((op : Int) == 20) = false := by simp; omega
    have e21 : ((op : Int) == 21) = false := by simp; omega
    have e17 : ((op : Int) == 17) = false := by simp; omega
    go_enter Tryz.func141, Tryz.ntmps141
    go_wp2
    go_ret
    exact ⟨rfl, rfl⟩
  · have hk : kc op = 2 := by unfold kc; rw [if_neg (by omega), if_neg (by omega), if_neg (by omega), if_pos (by omega)]
    rw [hk]
    clear hk
    have e0 : ((op : Int) == 0) = false := by simp; omega
    have e22 : ((op : Int) == 22) = false := by simp; omega
    have e1 : ((op : Int) == 1) = false := by simp; omega
    have e2 : ((op : Int) == 2) = false := by simp; omega
    have e19 : ((op : Int) == 19) = false := by simp; omega
    have e20 : ((op : Int) == 20) = false := by simp; omega
    have e21 : ((op : Int) == 21) = false := by simp; omega
    have e17 : ((op : Int) == 17) = false := by simp; omega
    go_enter Tryz.func141, Tryz.ntmps141
    go_wp2
    go_ret
    exact ⟨rfl, rfl⟩
  · go_enter Tryz.func141, Tryz.ntmps141
    go_wp2
    go_ret
    exact ⟨rfl, rfl⟩
  · go_enter Tryz.func141, Tryz.ntmps141
    go_wp2
    go_ret
    exact ⟨rfl, rfl⟩
  · go_enter Tryz.func141, Tryz.ntmps141
    go_wp2
    go_ret
    exact ⟨rfl, rfl⟩
  · go_enter Tryz.func141, Tryz.ntmps141
    go_wp2
    go_ret
    exact ⟨rfl, rfl⟩
  · go_enter Tryz.func141, Tryz.ntmps141
    go_wp2
    go_ret
    exact ⟨rfl, rfl⟩
  · go_enter Tryz.func141, Tryz.ntmps141
    go_wp2
    go_ret
    exact ⟨rfl, rfl⟩
  · have hk : kc op = -1 := by unfold kc; rw [if_neg (by omega), if_neg (by omega), if_neg (by omega), if_neg (by omega)]
    rw [hk]
    clear hk
    have e0 : ((op : Int) == 0) = false := by simp; omega
    have e22 : ((op : Int) == 22) = false := by simp; omega
    have e1 : ((op : Int) == 1) = false := by simp; omega
    have e2 : ((op : Int) == 2) = false := by simp; omega
    have e19 : ((op : Int) == 19) = false := by simp; omega
    have e20 : ((op : Int) == 20) = false := by simp; omega
    have e21 : ((op : Int) == 21) = false := by simp; omega
    have e17 : ((op : Int) == 17) = false := by simp; omega
    rcases h with h | h
    · have hx : decide (3 ≤ op) = false := by simp; omega
      go_enter Tryz.func141, Tryz.ntmps141
      go_wp2
      go_ret
      exact ⟨rfl, rfl⟩
    · have hx : decide (op ≤ 18) = false := by simp; omega
      have hy : 3 ≤ op := by omega
      go_enter Tryz.func141, Tryz.ntmps141
      go_wp2
      go_ret
      exact ⟨rfl, rfl⟩
set_option maxRecDepth 100000 in
set_option maxHeartbeats 2000000 in
theorem wf_1 (wd n x : Int) (nm : ByteArray) (b o cap : Nat) (w : World) (hbl : b < w.heap.size) (c0 : w.cell? ⟨b, o + 1, none⟩ = some (.int .i64 x))  :
    Calls Tryz.prog 143 #[.agg #[.int .i64 1, .int .i64 wd, .int .i64 n, .string nm, .slice (some ⟨b, o, none⟩) 1 cap]] w fun e w' => e = .returned (.bool (wfB 1 wd n [x])) ∧ Below w.heap.size w w' := by
  by_cases h : x = wd
  · subst h
    go_enter Tryz.func143, Tryz.ntmps143
    go_wp2
    go_quiet (fail)
    go_wp2
    go_ret
    exact ⟨ret_bool (by simp [wfB]), below_drewN ((Below.refl _ _).alloc (Nat.le_refl _) _) _⟩
  · have hx : ((x : Int) == wd) = false := by simpa using h
    go_enter Tryz.func143, Tryz.ntmps143
    go_wp2
    go_quiet (fail)
    go_wp2
    go_ret
    exact ⟨ret_bool (by simp [wfB, h]), below_drewN ((Below.refl _ _).alloc (Nat.le_refl _) _) _⟩
set_option maxRecDepth 100000 in
set_option maxHeartbeats 2000000 in
theorem wf_2 (wd n x : Int) (nm : ByteArray) (b o cap : Nat) (w : World) (hbl : b < w.heap.size) (c0 : w.cell? ⟨b, o + 1, none⟩ = some (.int .i64 x))  :
    Calls Tryz.prog 143 #[.agg #[.int .i64 2, .int .i64 wd, .int .i64 n, .string nm, .slice (some ⟨b, o, none⟩) 1 cap]] w fun e w' => e = .returned (.bool (wfB 2 wd n [x])) ∧ Below w.heap.size w w' := by
  by_cases h : x = wd
  · subst h
    go_enter Tryz.func143, Tryz.ntmps143
    go_wp2
    go_quiet (fail)
    go_wp2
    go_ret
    exact ⟨ret_bool (by simp [wfB]), below_drewN ((Below.refl _ _).alloc (Nat.le_refl _) _) _⟩
  · have hx : ((x : Int) == wd) = false := by simpa using h
    go_enter Tryz.func143, Tryz.ntmps143
    go_wp2
    go_quiet (fail)
    go_wp2
    go_ret
    exact ⟨ret_bool (by simp [wfB, h]), below_drewN ((Below.refl _ _).alloc (Nat.le_refl _) _) _⟩
set_option maxRecDepth 100000 in
set_option maxHeartbeats 2000000 in
theorem wf_19 (wd n x : Int) (nm : ByteArray) (b o cap : Nat) (w : World) (hbl : b < w.heap.size) (c0 : w.cell? ⟨b, o + 1, none⟩ = some (.int .i64 x))  :
    Calls Tryz.prog 143 #[.agg #[.int .i64 19, .int .i64 wd, .int .i64 n, .string nm, .slice (some ⟨b, o, none⟩) 1 cap]] w fun e w' => e = .returned (.bool (wfB 19 wd n [x])) ∧ Below w.heap.size w w' := by
  by_cases h : 0 ≤ n
  · have hx : decide (0 ≤ n) = true := decide_eq_true h
    go_enter Tryz.func143, Tryz.ntmps143
    go_wp2
    go_quiet (fail)
    go_wp2
    go_ret
    exact ⟨ret_bool (by simp [wfB, h]), below_drewN ((Below.refl _ _).alloc (Nat.le_refl _) _) _⟩
  · have hx : decide (0 ≤ n) = false := decide_eq_false h
    go_enter Tryz.func143, Tryz.ntmps143
    go_wp2
    go_quiet (fail)
    go_wp2
    go_ret
    exact ⟨ret_bool (by simp [wfB]; omega), below_drewN ((Below.refl _ _).alloc (Nat.le_refl _) _) _⟩
set_option maxRecDepth 100000 in
set_option maxHeartbeats 2000000 in
theorem wf_20 (wd n x : Int) (nm : ByteArray) (b o cap : Nat) (w : World) (hbl : b < w.heap.size) (c0 : w.cell? ⟨b, o + 1, none⟩ = some (.int .i64 x))  :
    Calls Tryz.prog 143 #[.agg #[.int .i64 20, .int .i64 wd, .int .i64 n, .string nm, .slice (some ⟨b, o, none⟩) 1 cap]] w fun e w' => e = .returned (.bool (wfB 20 wd n [x])) ∧ Below w.heap.size w w' := by
  go_enter Tryz.func143, Tryz.ntmps143
  go_wp2
  go_quiet (fail)
  go_wp2
  go_ret
  exact ⟨ret_bool (by simp [wfB]), below_drewN ((Below.refl _ _).alloc (Nat.le_refl _) _) _⟩
set_option maxRecDepth 100000 in
set_option maxHeartbeats 2000000 in
theorem wf_21 (wd n x : Int) (nm : ByteArray) (b o cap : Nat) (w : World) (hbl : b < w.heap.size) (c0 : w.cell? ⟨b, o + 1, none⟩ = some (.int .i64 x))  :
    Calls Tryz.prog 143 #[.agg #[.int .i64 21, .int .i64 wd, .int .i64 n, .string nm, .slice (some ⟨b, o, none⟩) 1 cap]] w fun e w' => e = .returned (.bool (wfB 21 wd n [x])) ∧ Below w.heap.size w w' := by
  go_enter Tryz.func143, Tryz.ntmps143
  go_wp2
  go_quiet (fail)
  go_wp2
  go_ret
  exact ⟨ret_bool (by simp [wfB]), below_drewN ((Below.refl _ _).alloc (Nat.le_refl _) _) _⟩
set_option maxRecDepth 100000 in
set_option maxHeartbeats 2000000 in
theorem wf_bin (op wd n x y : Int) (nm : ByteArray) (b o cap : Nat) (w : World) (hbl : b < w.heap.size) (c0 : w.cell? ⟨b, o + 1, none⟩ = some (.int .i64 x)) (c1 : w.cell? ⟨b, o + 5 + 1, none⟩ = some (.int .i64 y)) (h1 : 3 ≤ op) (h2 : op ≤ 13) :
    Calls Tryz.prog 143 #[.agg #[.int .i64 op, .int .i64 wd, .int .i64 n, .string nm, .slice (some ⟨b, o, none⟩) 2 cap]] w fun e w' => e = .returned (.bool (wfB op wd n [x, y])) ∧ Below w.heap.size w w' := by
  have e14 : ((op : Int) == 14) = false := by simp; omega
  have e15 : ((op : Int) == 15) = false := by simp; omega
  have e16 : ((op : Int) == 16) = false := by simp; omega
  have e17 : ((op : Int) == 17) = false := by simp; omega
  have e18 : ((op : Int) == 18) = false := by simp; omega
  have e19 : ((op : Int) == 19) = false := by simp; omega
  have e20 : ((op : Int) == 20) = false := by simp; omega
  have e21 : ((op : Int) == 21) = false := by simp; omega
  have g1 : ¬ op = 18 := by omega
  have g2 : ¬ (14 ≤ op ∧ op ≤ 16) := by omega
  have HG := Lib.hid (And.intro g1 g2)
  clear g1 g2
  by_cases h : x = wd
  · subst h
    go_enter Tryz.func143, Tryz.ntmps143
    go_wp2
    go_quiet (fail)
    go_wp2
    go_ret
    exact ⟨ret_bool (by obtain ⟨g1, g2⟩ := HG.out; simp [wfB, g1, g2]; try rfl), below_drewN ((Below.refl _ _).alloc (Nat.le_refl _) _) _⟩
  · have hx : ((x : Int) == wd) = false := by simpa using h
    go_enter Tryz.func143, Tryz.ntmps143
    go_wp2
    go_quiet (fail)
    go_wp2
    go_ret
    exact ⟨ret_bool (by obtain ⟨g1, g2⟩ := HG.out; simp [wfB, g1, g2, h]), below_drewN ((Below.refl _ _).alloc (Nat.le_refl _) _) _⟩
set_option maxRecDepth 100000 in
set_option maxHeartbeats 2000000 in
theorem wf_14 (wd n x y : Int) (nm : ByteArray) (b o cap : Nat) (w : World) (hbl : b < w.heap.size) (c0 : w.cell? ⟨b, o + 1, none⟩ = some (.int .i64 x)) (c1 : w.cell? ⟨b, o + 5 + 1, none⟩ = some (.int .i64 y))  :
    Calls Tryz.prog 143 #[.agg #[.int .i64 14, .int .i64 wd, .int .i64 n, .string nm, .slice (some ⟨b, o, none⟩) 2 cap]] w fun e w' => e = .returned (.bool (wfB 14 wd n [x, y])) ∧ Below w.heap.size w w' := by
  by_cases h : wd = 1
  · subst h
    go_enter Tryz.func143, Tryz.ntmps143
    go_wp2
    go_quiet (fail)
    go_wp2
    go_ret
    exact ⟨ret_bool (by simp [wfB]; try rfl), below_drewN ((Below.refl _ _).alloc (Nat.le_refl _) _) _⟩
  · have hx : ((wd : Int) == 1) = false := by simpa using h
    go_enter Tryz.func143, Tryz.ntmps143
    go_wp2
    go_quiet (fail)
    go_wp2
    go_ret
    exact ⟨ret_bool (by simp [wfB, h]), below_drewN ((Below.refl _ _).alloc (Nat.le_refl _) _) _⟩
set_option maxRecDepth 100000 in
set_option maxHeartbeats 2000000 in
theorem wf_15 (wd n x y : Int) (nm : ByteArray) (b o cap : Nat) (w : World) (hbl : b < w.heap.size) (c0 : w.cell? ⟨b, o + 1, none⟩ = some (.int .i64 x)) (c1 : w.cell? ⟨b, o + 5 + 1, none⟩ = some (.int .i64 y))  :
    Calls Tryz.prog 143 #[.agg #[.int .i64 15, .int .i64 wd, .int .i64 n, .string nm, .slice (some ⟨b, o, none⟩) 2 cap]] w fun e w' => e = .returned (.bool (wfB 15 wd n [x, y])) ∧ Below w.heap.size w w' := by
  by_cases h : wd = 1
  · subst h
    go_enter Tryz.func143, Tryz.ntmps143
    go_wp2
    go_quiet (fail)
    go_wp2
    go_ret
    exact ⟨ret_bool (by simp [wfB]; try rfl), below_drewN ((Below.refl _ _).alloc (Nat.le_refl _) _) _⟩
  · have hx : ((wd : Int) == 1) = false := by simpa using h
    go_enter Tryz.func143, Tryz.ntmps143
    go_wp2
    go_quiet (fail)
    go_wp2
    go_ret
    exact ⟨ret_bool (by simp [wfB, h]), below_drewN ((Below.refl _ _).alloc (Nat.le_refl _) _) _⟩
set_option maxRecDepth 100000 in
set_option maxHeartbeats 2000000 in
theorem wf_16 (wd n x y : Int) (nm : ByteArray) (b o cap : Nat) (w : World) (hbl : b < w.heap.size) (c0 : w.cell? ⟨b, o + 1, none⟩ = some (.int .i64 x)) (c1 : w.cell? ⟨b, o + 5 + 1, none⟩ = some (.int .i64 y))  :
    Calls Tryz.prog 143 #[.agg #[.int .i64 16, .int .i64 wd, .int .i64 n, .string nm, .slice (some ⟨b, o, none⟩) 2 cap]] w fun e w' => e = .returned (.bool (wfB 16 wd n [x, y])) ∧ Below w.heap.size w w' := by
  by_cases h : wd = 1
  · subst h
    go_enter Tryz.func143, Tryz.ntmps143
    go_wp2
    go_quiet (fail)
    go_wp2
    go_ret
    exact ⟨ret_bool (by simp [wfB]; try rfl), below_drewN ((Below.refl _ _).alloc (Nat.le_refl _) _) _⟩
  · have hx : ((wd : Int) == 1) = false := by simpa using h
    go_enter Tryz.func143, Tryz.ntmps143
    go_wp2
    go_quiet (fail)
    go_wp2
    go_ret
    exact ⟨ret_bool (by simp [wfB, h]), below_drewN ((Below.refl _ _).alloc (Nat.le_refl _) _) _⟩
set_option maxRecDepth 100000 in
set_option maxHeartbeats 2000000 in
theorem wf_18 (wd n x y : Int) (nm : ByteArray) (b o cap : Nat) (w : World) (hbl : b < w.heap.size) (c0 : w.cell? ⟨b, o + 1, none⟩ = some (.int .i64 x)) (c1 : w.cell? ⟨b, o + 5 + 1, none⟩ = some (.int .i64 y))  :
    Calls Tryz.prog 143 #[.agg #[.int .i64 18, .int .i64 wd, .int .i64 n, .string nm, .slice (some ⟨b, o, none⟩) 2 cap]] w fun e w' => e = .returned (.bool (wfB 18 wd n [x, y])) ∧ Below w.heap.size w w' := by
  go_enter Tryz.func143, Tryz.ntmps143
  go_wp2
  go_quiet (fail)
  go_wp2
  go_ret
  exact ⟨ret_bool (by simp only [wfB]; rw [Bool.eq_iff_iff]; simp), below_drewN ((Below.refl _ _).alloc (Nat.le_refl _) _) _⟩
set_option maxRecDepth 100000 in
set_option maxHeartbeats 2000000 in
theorem wf_17 (wd n x y z : Int) (nm : ByteArray) (b o cap : Nat) (w : World) (hbl : b < w.heap.size) (c0 : w.cell? ⟨b, o + 1, none⟩ = some (.int .i64 x)) (c1 : w.cell? ⟨b, o + 5 + 1, none⟩ = some (.int .i64 y)) (c2 : w.cell? ⟨b, o + 10 + 1, none⟩ = some (.int .i64 z))  :
    Calls Tryz.prog 143 #[.agg #[.int .i64 17, .int .i64 wd, .int .i64 n, .string nm, .slice (some ⟨b, o, none⟩) 3 cap]] w fun e w' => e = .returned (.bool (wfB 17 wd n [x, y, z])) ∧ Below w.heap.size w w' := by
  by_cases h : x = 1
  · subst h
    by_cases h : y = wd
    · subst h
      go_enter Tryz.func143, Tryz.ntmps143
      go_wp2
      go_quiet (fail)
      go_wp2
      go_quiet (fail)
      go_wp2
      go_ret
      exact ⟨ret_bool (by simp [wfB]; try rfl), below_drewN (below_drewN ((Below.refl _ _).alloc (Nat.le_refl _) _) _) _⟩
    · have hx : ((y : Int) == wd) = false := by simpa using h
      go_enter Tryz.func143, Tryz.ntmps143
      go_wp2
      go_quiet (fail)
      go_wp2
      go_quiet (fail)
      go_wp2
      go_ret
      exact ⟨ret_bool (by simp [wfB, h]), below_drewN (below_drewN ((Below.refl _ _).alloc (Nat.le_refl _) _) _) _⟩
  · have hx : ((x : Int) == 1) = false := by simpa using h
    go_enter Tryz.func143, Tryz.ntmps143
    go_wp2
    go_quiet (fail)
    go_wp2
    go_quiet (fail)
    go_wp2
    go_ret
    exact ⟨ret_bool (by simp [wfB, h]), below_drewN (below_drewN ((Below.refl _ _).alloc (Nat.le_refl _) _) _) _⟩
end Go.Proofs.YthmababifgaejaaGreatDoor
namespace Go.Proofs.YthmababifgaejaaGreatDoor
open Go.ChangeShapes Go.WideShapes Go.ChangeAt Go.RowKit
theorem widths_fit (op wd n : Int) (nm : ByteArray) (s : Value) (k : Fo) (w : World) (his : (k.cs 64).Is w 0 5 k.len s) (hk : (k.len : Int) = kc op) (h0 : op ≠ 0) (h22 : op ≠ 22) :
    Calls Tryz.prog 143 #[.agg #[.int .i64 op, .int .i64 wd, .int .i64 n, .string nm, s]] w fun e w' => e = .returned (.bool (wfB op wd n k.ws)) ∧ Below w.heap.size w w' := by
  have one : ∀ m : Nat, k.len = m → 0 < m → ∃ b o cap, s = .slice (some ⟨b, o, none⟩) m cap ∧ b < w.heap.size ∧ ∀ j, j < m → ∃ v, k.ws[j]? = some v ∧ w.cell? ⟨b, o + j * 5 + 1, none⟩ = some (.int .i64 v) := fun m hm hp => by
    rcases Fo.is_cases his with ⟨h, _⟩ | ⟨_, b, o, cap, ys, rfl, _, _, _, hbl, hvs, hr⟩
    · omega
    · exact ⟨b, o, cap, by rw [hm], hbl, fun j hj => width_at hvs hr j (by omega)⟩
  have hl := k.ws_len
  have is1 : k.len = 1 → ∃ b o cap x, s = .slice (some ⟨b, o, none⟩) 1 cap ∧ b < w.heap.size ∧ k.ws = [x] ∧ w.cell? ⟨b, o + 1, none⟩ = some (.int .i64 x) := fun h => by
    obtain ⟨b, o, cap, e, hb, hc⟩ := one 1 h (by omega)
    obtain ⟨x, hx, cx⟩ := hc 0 (by omega)
    rw [h] at hl
    match hw : k.ws, hl, hx with
    | [y], _, hx => cases hx; exact ⟨b, o, cap, x, e, hb, rfl, by simpa using cx⟩
  have is2 : k.len = 2 → ∃ b o cap x y, s = .slice (some ⟨b, o, none⟩) 2 cap ∧ b < w.heap.size ∧ k.ws = [x, y] ∧ w.cell? ⟨b, o + 1, none⟩ = some (.int .i64 x) ∧ w.cell? ⟨b, o + 5 + 1, none⟩ = some (.int .i64 y) := fun h => by
    obtain ⟨b, o, cap, e, hb, hc⟩ := one 2 h (by omega)
    obtain ⟨x, hx, cx⟩ := hc 0 (by omega)
    obtain ⟨y, hy, cy⟩ := hc 1 (by omega)
    rw [h] at hl
    match hw : k.ws, hl, hx, hy with
    | [a, b'], _, hx, hy => cases hx; cases hy; exact ⟨b, o, cap, x, y, e, hb, rfl, by simpa using cx, by simpa using cy⟩
  have is3 : k.len = 3 → ∃ b o cap x y z, s = .slice (some ⟨b, o, none⟩) 3 cap ∧ b < w.heap.size ∧ k.ws = [x, y, z] ∧ w.cell? ⟨b, o + 1, none⟩ = some (.int .i64 x) ∧ w.cell? ⟨b, o + 5 + 1, none⟩ = some (.int .i64 y) ∧ w.cell? ⟨b, o + 10 + 1, none⟩ = some (.int .i64 z) := fun h => by
    obtain ⟨b, o, cap, e, hb, hc⟩ := one 3 h (by omega)
    obtain ⟨x, hx, cx⟩ := hc 0 (by omega)
    obtain ⟨y, hy, cy⟩ := hc 1 (by omega)
    obtain ⟨z, hz, cz⟩ := hc 2 (by omega)
    rw [h] at hl
    match hw : k.ws, hl, hx, hy, hz with
    | [a, b', c'], _, hx, hy, hz => cases hx; cases hy; cases hz; exact ⟨b, o, cap, x, y, z, e, hb, rfl, by simpa using cx, by simpa using cy, by simpa using cz⟩
  rcases op_casesT op with rfl | rfl | rfl | ⟨h1, h2⟩ | ⟨h1, h2⟩ | rfl | rfl | rfl | rfl | rfl | rfl | h
  · exact absurd rfl h0
  · obtain ⟨b, o, cap, x, rfl, hb, hw, c0⟩ := is1 (by simp [kc] at hk; omega)
    rw [hw]
    exact wf_1 wd n x nm b o cap w hb c0
  · obtain ⟨b, o, cap, x, rfl, hb, hw, c0⟩ := is1 (by simp [kc] at hk; omega)
    rw [hw]
    exact wf_2 wd n x nm b o cap w hb c0
  · obtain ⟨b, o, cap, x, y, rfl, hb, hw, c0, c1⟩ := is2 (by unfold kc at hk; rw [if_neg (by omega), if_neg (by omega), if_neg (by omega), if_pos (by omega)] at hk; omega)
    rw [hw]
    exact wf_bin op wd n x y nm b o cap w hb c0 c1 h1 h2
  · obtain ⟨b, o, cap, x, y, rfl, hb, hw, c0, c1⟩ := is2 (by unfold kc at hk; rw [if_neg (by omega), if_neg (by omega), if_neg (by omega), if_pos (by omega)] at hk; omega)
    rw [hw]
    have e : op = 14 ∨ op = 15 ∨ op = 16 := by omega
    rcases e with rfl | rfl | rfl
    · exact wf_14 wd n x y nm b o cap w hb c0 c1
    · exact wf_15 wd n x y nm b o cap w hb c0 c1
    · exact wf_16 wd n x y nm b o cap w hb c0 c1
  · obtain ⟨b, o, cap, x, y, z, rfl, hb, hw, c0, c1, c2⟩ := is3 (by simp [kc] at hk; omega)
    rw [hw]
    exact wf_17 wd n x y z nm b o cap w hb c0 c1 c2
  · obtain ⟨b, o, cap, x, y, rfl, hb, hw, c0, c1⟩ := is2 (by simp [kc] at hk; omega)
    rw [hw]
    exact wf_18 wd n x y nm b o cap w hb c0 c1
  · obtain ⟨b, o, cap, x, rfl, hb, hw, c0⟩ := is1 (by simp [kc] at hk; omega)
    rw [hw]
    exact wf_19 wd n x nm b o cap w hb c0
  · obtain ⟨b, o, cap, x, rfl, hb, hw, c0⟩ := is1 (by simp [kc] at hk; omega)
    rw [hw]
    exact wf_20 wd n x nm b o cap w hb c0
  · obtain ⟨b, o, cap, x, rfl, hb, hw, c0⟩ := is1 (by simp [kc] at hk; omega)
    rw [hw]
    exact wf_21 wd n x nm b o cap w hb c0
  · exact absurd rfl h22
  · unfold kc at hk
    rw [if_neg (by omega), if_neg (by omega), if_neg (by omega), if_neg (by omega)] at hk
    omega
set_option maxRecDepth 100000 in
set_option maxHeartbeats 2000000 in
theorem fits_w (op wd n : Int) (nm : ByteArray) (s : Value) (k : Fo) (w : World) (his : (k.cs 64).Is w 0 5 k.len s) (h : wdB wd = false) :
    Calls Tryz.prog 133 #[.agg #[.int .i64 op, .int .i64 wd, .int .i64 n, .string nm, s]] w fun e w' => e = .returned (.bool (false)) ∧ Below w.heap.size w w' := by
  have HIS := Lib.hid his
  obtain ⟨_, ⟨_, q, cap, rfl, _⟩, _⟩ := his
  have KW := Lib.hid (fun W => i_wd wd W)
  have KC := Lib.hid (fun W => kid_count op W)
  rw [h] at KW
  clear h
  go_enter Tryz.func133, Tryz.ntmps133
  go_wp2
  go_quiet ((first | (go_at_call 97; exact quiet_eq (KW.out _))))
  go_wp2
  go_ret
  exact ⟨rfl, below_drewN ((Below.refl _ _).alloc (Nat.le_refl _) _) _⟩
set_option maxRecDepth 100000 in
set_option maxHeartbeats 2000000 in
theorem fits_k (op wd n : Int) (nm : ByteArray) (s : Value) (k : Fo) (w : World) (his : (k.cs 64).Is w 0 5 k.len s) (h : wdB wd = true) (hk : (k.len : Int) ≠ kc op) :
    Calls Tryz.prog 133 #[.agg #[.int .i64 op, .int .i64 wd, .int .i64 n, .string nm, s]] w fun e w' => e = .returned (.bool (false)) ∧ Below w.heap.size w w' := by
  have HIS := Lib.hid his
  obtain ⟨_, ⟨_, q, cap, rfl, _⟩, _⟩ := his
  have KW := Lib.hid (fun W => i_wd wd W)
  have KC := Lib.hid (fun W => kid_count op W)
  rw [h] at KW
  generalize kc op = c at *
  have hx : ((k.len : Int) == c) = false := by simpa using hk
  have hy : ((k.len : Int) != c) = true := by simpa using hk
  clear h hk
  go_enter Tryz.func133, Tryz.ntmps133
  go_wp2
  go_quiet ((first | (go_at_call 97; exact quiet_eq (KW.out _)) | (go_at_call 141; exact quiet_eq (KC.out _))))
  go_wp2
  go_ret
  exact ⟨rfl, below_drewN ((Below.refl _ _).alloc (Nat.le_refl _) _) _⟩
set_option maxRecDepth 100000 in
set_option maxHeartbeats 2000000 in
theorem fits_0_00 (wd : Int) (s : Value) (k : Fo) (w : World) (his : (k.cs 64).Is w 0 5 k.len s) (h : wdB wd = true) (hk : (k.len : Int) = kc 0) :
    Calls Tryz.prog 133 #[.agg #[.int .i64 0, .int .i64 wd, .int .i64 0, .string ⟨#[]⟩, s]] w fun e w' => e = .returned (.bool (wkB wd 0)) ∧ Below w.heap.size w w' := by
  have HIS := Lib.hid his
  obtain ⟨_, ⟨_, q, cap, rfl, _⟩, _⟩ := his
  have KW := Lib.hid (fun W => i_wd wd W)
  have KC := Lib.hid (fun W => kid_count 0 W)
  rw [h] at KW
  have KO := Lib.hid (fun W => i_wk wd 0 W)
  clear h
  have hkk := hk
  rw [← hk] at KC
  clear hkk hk
  go_enter Tryz.func133, Tryz.ntmps133
  go_wp2
  go_quiet ((first | (go_at_call 97; exact quiet_eq (KW.out _)) | (go_at_call 141; exact quiet_eq (KC.out _))))
  go_wp2_with (go_at_call 90; refine (KO.out _).mono ?_; rintro e w1 ⟨rfl, rfl⟩)
  go_ret
  exact ⟨by rfl, below_drewN ((Below.refl _ _).alloc (Nat.le_refl _) _) _⟩
set_option maxRecDepth 100000 in
set_option maxHeartbeats 2000000 in
theorem fits_0_01 (wd : Int) (nm : ByteArray) (s : Value) (k : Fo) (w : World) (his : (k.cs 64).Is w 0 5 k.len s) (h : wdB wd = true) (hk : (k.len : Int) = kc 0) (hnm : nm.toList.isEmpty = false) :
    Calls Tryz.prog 133 #[.agg #[.int .i64 0, .int .i64 wd, .int .i64 0, .string nm, s]] w fun e w' => e = .returned (.bool (false)) ∧ Below w.heap.size w w' := by
  have HIS := Lib.hid his
  obtain ⟨_, ⟨_, q, cap, rfl, _⟩, _⟩ := his
  have KW := Lib.hid (fun W => i_wd wd W)
  have KC := Lib.hid (fun W => kid_count 0 W)
  rw [h] at KW
  have hnm2 : (!nm.toList.isEmpty) = true := by rw [hnm]; rfl
  clear h
  have hkk := hk
  rw [← hk] at KC
  clear hkk hk
  go_enter Tryz.func133, Tryz.ntmps133
  go_wp2
  go_quiet ((first | (go_at_call 97; exact quiet_eq (KW.out _)) | (go_at_call 141; exact quiet_eq (KC.out _))))
  go_wp2
  go_ret
  exact ⟨by rfl, below_drewN ((Below.refl _ _).alloc (Nat.le_refl _) _) _⟩
set_option maxRecDepth 100000 in
set_option maxHeartbeats 2000000 in
theorem fits_0_10 (wd n : Int) (s : Value) (k : Fo) (w : World) (his : (k.cs 64).Is w 0 5 k.len s) (h : wdB wd = true) (hk : (k.len : Int) = kc 0) (hn : n ≠ 0) :
    Calls Tryz.prog 133 #[.agg #[.int .i64 0, .int .i64 wd, .int .i64 n, .string ⟨#[]⟩, s]] w fun e w' => e = .returned (.bool (wkB wd n)) ∧ Below w.heap.size w w' := by
  have HIS := Lib.hid his
  obtain ⟨_, ⟨_, q, cap, rfl, _⟩, _⟩ := his
  have KW := Lib.hid (fun W => i_wd wd W)
  have KC := Lib.hid (fun W => kid_count 0 W)
  rw [h] at KW
  have hn1 : ((n : Int) == 0) = false := by simpa using hn
  have hn2 : ((n : Int) != 0) = true := by simpa using hn
  clear hn
  have KO := Lib.hid (fun W => i_wk wd n W)
  clear h
  have hkk := hk
  rw [← hk] at KC
  clear hkk hk
  go_enter Tryz.func133, Tryz.ntmps133
  go_wp2
  go_quiet ((first | (go_at_call 97; exact quiet_eq (KW.out _)) | (go_at_call 141; exact quiet_eq (KC.out _))))
  go_wp2_with (go_at_call 90; refine (KO.out _).mono ?_; rintro e w1 ⟨rfl, rfl⟩)
  go_ret
  exact ⟨by rfl, below_drewN ((Below.refl _ _).alloc (Nat.le_refl _) _) _⟩
set_option maxRecDepth 100000 in
set_option maxHeartbeats 2000000 in
theorem fits_0_11 (wd n : Int) (nm : ByteArray) (s : Value) (k : Fo) (w : World) (his : (k.cs 64).Is w 0 5 k.len s) (h : wdB wd = true) (hk : (k.len : Int) = kc 0) (hn : n ≠ 0) (hnm : nm.toList.isEmpty = false) :
    Calls Tryz.prog 133 #[.agg #[.int .i64 0, .int .i64 wd, .int .i64 n, .string nm, s]] w fun e w' => e = .returned (.bool (false)) ∧ Below w.heap.size w w' := by
  have HIS := Lib.hid his
  obtain ⟨_, ⟨_, q, cap, rfl, _⟩, _⟩ := his
  have KW := Lib.hid (fun W => i_wd wd W)
  have KC := Lib.hid (fun W => kid_count 0 W)
  rw [h] at KW
  have hn1 : ((n : Int) == 0) = false := by simpa using hn
  have hn2 : ((n : Int) != 0) = true := by simpa using hn
  clear hn
  have hnm2 : (!nm.toList.isEmpty) = true := by rw [hnm]; rfl
  clear h
  have hkk := hk
  rw [← hk] at KC
  clear hkk hk
  go_enter Tryz.func133, Tryz.ntmps133
  go_wp2
  go_quiet ((first | (go_at_call 97; exact quiet_eq (KW.out _)) | (go_at_call 141; exact quiet_eq (KC.out _))))
  go_wp2
  go_ret
  exact ⟨by rfl, below_drewN ((Below.refl _ _).alloc (Nat.le_refl _) _) _⟩
set_option maxRecDepth 100000 in
set_option maxHeartbeats 2000000 in
theorem fits_22_00 (wd : Int) (s : Value) (k : Fo) (w : World) (his : (k.cs 64).Is w 0 5 k.len s) (h : wdB wd = true) (hk : (k.len : Int) = kc 22) (hsz : (⟨#[]⟩ : ByteArray).size ≤ 1048576) :
    Calls Tryz.prog 133 #[.agg #[.int .i64 22, .int .i64 wd, .int .i64 0, .string ⟨#[]⟩, s]] w fun e w' => e = .returned (.bool (nmB ⟨#[]⟩)) ∧ Below w.heap.size w w' := by
  have HIS := Lib.hid his
  obtain ⟨_, ⟨_, q, cap, rfl, _⟩, _⟩ := his
  have KW := Lib.hid (fun W => i_wd wd W)
  have KC := Lib.hid (fun W => kid_count 22 W)
  rw [h] at KW
  have KO := Lib.hid (fun W => i_isName ⟨#[]⟩ hsz W)
  clear h
  have hkk := hk
  rw [← hk] at KC
  clear hkk hk
  go_enter Tryz.func133, Tryz.ntmps133
  go_wp2
  go_quiet ((first | (go_at_call 97; exact quiet_eq (KW.out _)) | (go_at_call 141; exact quiet_eq (KC.out _))))
  go_wp2_with (go_at_call 142; refine (KO.out _).mono ?_; rintro e w1 ⟨rfl, hb1⟩)
  go_ret
  exact ⟨by rfl, (below_drewN ((Below.refl _ _).alloc (Nat.le_refl _) _) _).trans (hb1.mono (by simp))⟩
set_option maxRecDepth 100000 in
set_option maxHeartbeats 2000000 in
theorem fits_22_01 (wd : Int) (nm : ByteArray) (s : Value) (k : Fo) (w : World) (his : (k.cs 64).Is w 0 5 k.len s) (h : wdB wd = true) (hk : (k.len : Int) = kc 22) (hnm : nm.toList.isEmpty = false) (hsz : nm.size ≤ 1048576) :
    Calls Tryz.prog 133 #[.agg #[.int .i64 22, .int .i64 wd, .int .i64 0, .string nm, s]] w fun e w' => e = .returned (.bool (nmB nm)) ∧ Below w.heap.size w w' := by
  have HIS := Lib.hid his
  obtain ⟨_, ⟨_, q, cap, rfl, _⟩, _⟩ := his
  have KW := Lib.hid (fun W => i_wd wd W)
  have KC := Lib.hid (fun W => kid_count 22 W)
  rw [h] at KW
  have hnm2 : (!nm.toList.isEmpty) = true := by rw [hnm]; rfl
  have KO := Lib.hid (fun W => i_isName nm hsz W)
  clear h
  have hkk := hk
  rw [← hk] at KC
  clear hkk hk
  go_enter Tryz.func133, Tryz.ntmps133
  go_wp2
  go_quiet ((first | (go_at_call 97; exact quiet_eq (KW.out _)) | (go_at_call 141; exact quiet_eq (KC.out _))))
  go_wp2_with (go_at_call 142; refine (KO.out _).mono ?_; rintro e w1 ⟨rfl, hb1⟩)
  go_ret
  exact ⟨by rfl, (below_drewN ((Below.refl _ _).alloc (Nat.le_refl _) _) _).trans (hb1.mono (by simp))⟩
set_option maxRecDepth 100000 in
set_option maxHeartbeats 2000000 in
theorem fits_22_10 (wd n : Int) (s : Value) (k : Fo) (w : World) (his : (k.cs 64).Is w 0 5 k.len s) (h : wdB wd = true) (hk : (k.len : Int) = kc 22) (hn : n ≠ 0) :
    Calls Tryz.prog 133 #[.agg #[.int .i64 22, .int .i64 wd, .int .i64 n, .string ⟨#[]⟩, s]] w fun e w' => e = .returned (.bool (false)) ∧ Below w.heap.size w w' := by
  have HIS := Lib.hid his
  obtain ⟨_, ⟨_, q, cap, rfl, _⟩, _⟩ := his
  have KW := Lib.hid (fun W => i_wd wd W)
  have KC := Lib.hid (fun W => kid_count 22 W)
  rw [h] at KW
  have hn1 : ((n : Int) == 0) = false := by simpa using hn
  have hn2 : ((n : Int) != 0) = true := by simpa using hn
  clear hn
  clear h
  have hkk := hk
  rw [← hk] at KC
  clear hkk hk
  go_enter Tryz.func133, Tryz.ntmps133
  go_wp2
  go_quiet ((first | (go_at_call 97; exact quiet_eq (KW.out _)) | (go_at_call 141; exact quiet_eq (KC.out _))))
  go_wp2
  go_ret
  exact ⟨by rfl, below_drewN ((Below.refl _ _).alloc (Nat.le_refl _) _) _⟩
set_option maxRecDepth 100000 in
set_option maxHeartbeats 2000000 in
theorem fits_22_11 (wd n : Int) (nm : ByteArray) (s : Value) (k : Fo) (w : World) (his : (k.cs 64).Is w 0 5 k.len s) (h : wdB wd = true) (hk : (k.len : Int) = kc 22) (hn : n ≠ 0) (hnm : nm.toList.isEmpty = false) :
    Calls Tryz.prog 133 #[.agg #[.int .i64 22, .int .i64 wd, .int .i64 n, .string nm, s]] w fun e w' => e = .returned (.bool (false)) ∧ Below w.heap.size w w' := by
  have HIS := Lib.hid his
  obtain ⟨_, ⟨_, q, cap, rfl, _⟩, _⟩ := his
  have KW := Lib.hid (fun W => i_wd wd W)
  have KC := Lib.hid (fun W => kid_count 22 W)
  rw [h] at KW
  have hn1 : ((n : Int) == 0) = false := by simpa using hn
  have hn2 : ((n : Int) != 0) = true := by simpa using hn
  clear hn
  have hnm2 : (!nm.toList.isEmpty) = true := by rw [hnm]; rfl
  clear h
  have hkk := hk
  rw [← hk] at KC
  clear hkk hk
  go_enter Tryz.func133, Tryz.ntmps133
  go_wp2
  go_quiet ((first | (go_at_call 97; exact quiet_eq (KW.out _)) | (go_at_call 141; exact quiet_eq (KC.out _))))
  go_wp2
  go_ret
  exact ⟨by rfl, below_drewN ((Below.refl _ _).alloc (Nat.le_refl _) _) _⟩
set_option maxRecDepth 100000 in
set_option maxHeartbeats 2000000 in
theorem fits_19_00 (wd : Int) (s : Value) (k : Fo) (w : World) (his : (k.cs 64).Is w 0 5 k.len s) (h : wdB wd = true) (hk : (k.len : Int) = kc 19) :
    Calls Tryz.prog 133 #[.agg #[.int .i64 19, .int .i64 wd, .int .i64 0, .string ⟨#[]⟩, s]] w fun e w' => e = .returned (.bool (wfB 19 wd 0 k.ws)) ∧ Below w.heap.size w w' := by
  have HIS := Lib.hid his
  obtain ⟨_, ⟨_, q, cap, rfl, _⟩, _⟩ := his
  have KW := Lib.hid (fun W => i_wd wd W)
  have KC := Lib.hid (fun W => kid_count 19 W)
  rw [h] at KW
  have h0 : (19 : Int) ≠ 0 := by decide
  have h22 : (19 : Int) ≠ 22 := by decide
  have KO := Lib.hid (fun W (hb : Below w.heap.size w W) => widths_fit 19 wd 0 ⟨#[]⟩ _ k W (HIS.out.below hb) hk h0 h22)
  clear h h0 h22
  have hkk := hk
  rw [← hk] at KC
  clear hkk hk
  go_enter Tryz.func133, Tryz.ntmps133
  go_wp2
  go_quiet ((first | (go_at_call 97; exact quiet_eq (KW.out _)) | (go_at_call 141; exact quiet_eq (KC.out _))))
  go_wp2_with (go_at_call 143; refine (KO.out _ (below_drewN ((Below.refl _ _).alloc (Nat.le_refl _) _) _)).mono ?_; rintro e w1 ⟨rfl, hb1⟩)
  go_ret
  exact ⟨by rfl, (below_drewN ((Below.refl _ _).alloc (Nat.le_refl _) _) _).trans (hb1.mono (by simp))⟩
set_option maxRecDepth 100000 in
set_option maxHeartbeats 2000000 in
theorem fits_19_01 (wd : Int) (nm : ByteArray) (s : Value) (k : Fo) (w : World) (his : (k.cs 64).Is w 0 5 k.len s) (h : wdB wd = true) (hk : (k.len : Int) = kc 19) (hnm : nm.toList.isEmpty = false) :
    Calls Tryz.prog 133 #[.agg #[.int .i64 19, .int .i64 wd, .int .i64 0, .string nm, s]] w fun e w' => e = .returned (.bool (false)) ∧ Below w.heap.size w w' := by
  have HIS := Lib.hid his
  obtain ⟨_, ⟨_, q, cap, rfl, _⟩, _⟩ := his
  have KW := Lib.hid (fun W => i_wd wd W)
  have KC := Lib.hid (fun W => kid_count 19 W)
  rw [h] at KW
  have hnm2 : (!nm.toList.isEmpty) = true := by rw [hnm]; rfl
  have h0 : (19 : Int) ≠ 0 := by decide
  have h22 : (19 : Int) ≠ 22 := by decide
  clear h h0 h22
  have hkk := hk
  rw [← hk] at KC
  clear hkk hk
  go_enter Tryz.func133, Tryz.ntmps133
  go_wp2
  go_quiet ((first | (go_at_call 97; exact quiet_eq (KW.out _)) | (go_at_call 141; exact quiet_eq (KC.out _))))
  go_wp2
  go_ret
  exact ⟨by rfl, below_drewN ((Below.refl _ _).alloc (Nat.le_refl _) _) _⟩
set_option maxRecDepth 100000 in
set_option maxHeartbeats 2000000 in
theorem fits_19_10 (wd n : Int) (s : Value) (k : Fo) (w : World) (his : (k.cs 64).Is w 0 5 k.len s) (h : wdB wd = true) (hk : (k.len : Int) = kc 19) (hn : n ≠ 0) :
    Calls Tryz.prog 133 #[.agg #[.int .i64 19, .int .i64 wd, .int .i64 n, .string ⟨#[]⟩, s]] w fun e w' => e = .returned (.bool (wfB 19 wd n k.ws)) ∧ Below w.heap.size w w' := by
  have HIS := Lib.hid his
  obtain ⟨_, ⟨_, q, cap, rfl, _⟩, _⟩ := his
  have KW := Lib.hid (fun W => i_wd wd W)
  have KC := Lib.hid (fun W => kid_count 19 W)
  rw [h] at KW
  have hn1 : ((n : Int) == 0) = false := by simpa using hn
  have hn2 : ((n : Int) != 0) = true := by simpa using hn
  clear hn
  have h0 : (19 : Int) ≠ 0 := by decide
  have h22 : (19 : Int) ≠ 22 := by decide
  have KO := Lib.hid (fun W (hb : Below w.heap.size w W) => widths_fit 19 wd n ⟨#[]⟩ _ k W (HIS.out.below hb) hk h0 h22)
  clear h h0 h22
  have hkk := hk
  rw [← hk] at KC
  clear hkk hk
  go_enter Tryz.func133, Tryz.ntmps133
  go_wp2
  go_quiet ((first | (go_at_call 97; exact quiet_eq (KW.out _)) | (go_at_call 141; exact quiet_eq (KC.out _))))
  go_wp2_with (go_at_call 143; refine (KO.out _ (below_drewN ((Below.refl _ _).alloc (Nat.le_refl _) _) _)).mono ?_; rintro e w1 ⟨rfl, hb1⟩)
  go_ret
  exact ⟨by rfl, (below_drewN ((Below.refl _ _).alloc (Nat.le_refl _) _) _).trans (hb1.mono (by simp))⟩
set_option maxRecDepth 100000 in
set_option maxHeartbeats 2000000 in
theorem fits_19_11 (wd n : Int) (nm : ByteArray) (s : Value) (k : Fo) (w : World) (his : (k.cs 64).Is w 0 5 k.len s) (h : wdB wd = true) (hk : (k.len : Int) = kc 19) (hn : n ≠ 0) (hnm : nm.toList.isEmpty = false) :
    Calls Tryz.prog 133 #[.agg #[.int .i64 19, .int .i64 wd, .int .i64 n, .string nm, s]] w fun e w' => e = .returned (.bool (false)) ∧ Below w.heap.size w w' := by
  have HIS := Lib.hid his
  obtain ⟨_, ⟨_, q, cap, rfl, _⟩, _⟩ := his
  have KW := Lib.hid (fun W => i_wd wd W)
  have KC := Lib.hid (fun W => kid_count 19 W)
  rw [h] at KW
  have hn1 : ((n : Int) == 0) = false := by simpa using hn
  have hn2 : ((n : Int) != 0) = true := by simpa using hn
  clear hn
  have hnm2 : (!nm.toList.isEmpty) = true := by rw [hnm]; rfl
  have h0 : (19 : Int) ≠ 0 := by decide
  have h22 : (19 : Int) ≠ 22 := by decide
  clear h h0 h22
  have hkk := hk
  rw [← hk] at KC
  clear hkk hk
  go_enter Tryz.func133, Tryz.ntmps133
  go_wp2
  go_quiet ((first | (go_at_call 97; exact quiet_eq (KW.out _)) | (go_at_call 141; exact quiet_eq (KC.out _))))
  go_wp2
  go_ret
  exact ⟨by rfl, below_drewN ((Below.refl _ _).alloc (Nat.le_refl _) _) _⟩
set_option maxRecDepth 100000 in
set_option maxHeartbeats 2000000 in
theorem fits_op_00 (op wd : Int) (s : Value) (k : Fo) (w : World) (his : (k.cs 64).Is w 0 5 k.len s) (h : wdB wd = true) (hk : (k.len : Int) = kc op) (h0 : op ≠ 0) (h22 : op ≠ 22) (h19 : op ≠ 19) :
    Calls Tryz.prog 133 #[.agg #[.int .i64 op, .int .i64 wd, .int .i64 0, .string ⟨#[]⟩, s]] w fun e w' => e = .returned (.bool (wfB op wd 0 k.ws)) ∧ Below w.heap.size w w' := by
  have HIS := Lib.hid his
  obtain ⟨_, ⟨_, q, cap, rfl, _⟩, _⟩ := his
  have KW := Lib.hid (fun W => i_wd wd W)
  have KC := Lib.hid (fun W => kid_count op W)
  rw [h] at KW
  have e0 : ((op : Int) == 0) = false := by simpa using h0
  have g0 : ((op : Int) != 0) = true := by simpa using h0
  have e22 : ((op : Int) == 22) = false := by simpa using h22
  have g22 : ((op : Int) != 22) = true := by simpa using h22
  have e19 : ((op : Int) == 19) = false := by simpa using h19
  have g19 : ((op : Int) != 19) = true := by simpa using h19
  have KO := Lib.hid (fun W (hb : Below w.heap.size w W) => widths_fit op wd 0 ⟨#[]⟩ _ k W (HIS.out.below hb) hk h0 h22)
  clear h h0 h22 h19
  have hkk := hk
  rw [← hk] at KC
  clear hkk hk
  go_enter Tryz.func133, Tryz.ntmps133
  go_wp2
  go_quiet ((first | (go_at_call 97; exact quiet_eq (KW.out _)) | (go_at_call 141; exact quiet_eq (KC.out _))))
  go_wp2_with (go_at_call 143; refine (KO.out _ (below_drewN ((Below.refl _ _).alloc (Nat.le_refl _) _) _)).mono ?_; rintro e w1 ⟨rfl, hb1⟩)
  go_ret
  exact ⟨by rfl, (below_drewN ((Below.refl _ _).alloc (Nat.le_refl _) _) _).trans (hb1.mono (by simp))⟩
set_option maxRecDepth 100000 in
set_option maxHeartbeats 2000000 in
theorem fits_op_01 (op wd : Int) (nm : ByteArray) (s : Value) (k : Fo) (w : World) (his : (k.cs 64).Is w 0 5 k.len s) (h : wdB wd = true) (hk : (k.len : Int) = kc op) (hnm : nm.toList.isEmpty = false) (h0 : op ≠ 0) (h22 : op ≠ 22) (h19 : op ≠ 19) :
    Calls Tryz.prog 133 #[.agg #[.int .i64 op, .int .i64 wd, .int .i64 0, .string nm, s]] w fun e w' => e = .returned (.bool (false)) ∧ Below w.heap.size w w' := by
  have HIS := Lib.hid his
  obtain ⟨_, ⟨_, q, cap, rfl, _⟩, _⟩ := his
  have KW := Lib.hid (fun W => i_wd wd W)
  have KC := Lib.hid (fun W => kid_count op W)
  rw [h] at KW
  have hnm2 : (!nm.toList.isEmpty) = true := by rw [hnm]; rfl
  have e0 : ((op : Int) == 0) = false := by simpa using h0
  have g0 : ((op : Int) != 0) = true := by simpa using h0
  have e22 : ((op : Int) == 22) = false := by simpa using h22
  have g22 : ((op : Int) != 22) = true := by simpa using h22
  have e19 : ((op : Int) == 19) = false := by simpa using h19
  have g19 : ((op : Int) != 19) = true := by simpa using h19
  clear h h0 h22 h19
  have hkk := hk
  rw [← hk] at KC
  clear hkk hk
  go_enter Tryz.func133, Tryz.ntmps133
  go_wp2
  go_quiet ((first | (go_at_call 97; exact quiet_eq (KW.out _)) | (go_at_call 141; exact quiet_eq (KC.out _))))
  go_wp2
  go_ret
  exact ⟨by rfl, below_drewN ((Below.refl _ _).alloc (Nat.le_refl _) _) _⟩
set_option maxRecDepth 100000 in
set_option maxHeartbeats 2000000 in
theorem fits_op_10 (op wd n : Int) (s : Value) (k : Fo) (w : World) (his : (k.cs 64).Is w 0 5 k.len s) (h : wdB wd = true) (hk : (k.len : Int) = kc op) (hn : n ≠ 0) (h0 : op ≠ 0) (h22 : op ≠ 22) (h19 : op ≠ 19) :
    Calls Tryz.prog 133 #[.agg #[.int .i64 op, .int .i64 wd, .int .i64 n, .string ⟨#[]⟩, s]] w fun e w' => e = .returned (.bool (false)) ∧ Below w.heap.size w w' := by
  have HIS := Lib.hid his
  obtain ⟨_, ⟨_, q, cap, rfl, _⟩, _⟩ := his
  have KW := Lib.hid (fun W => i_wd wd W)
  have KC := Lib.hid (fun W => kid_count op W)
  rw [h] at KW
  have hn1 : ((n : Int) == 0) = false := by simpa using hn
  have hn2 : ((n : Int) != 0) = true := by simpa using hn
  clear hn
  have e0 : ((op : Int) == 0) = false := by simpa using h0
  have g0 : ((op : Int) != 0) = true := by simpa using h0
  have e22 : ((op : Int) == 22) = false := by simpa using h22
  have g22 : ((op : Int) != 22) = true := by simpa using h22
  have e19 : ((op : Int) == 19) = false := by simpa using h19
  have g19 : ((op : Int) != 19) = true := by simpa using h19
  clear h h0 h22 h19
  have hkk := hk
  rw [← hk] at KC
  clear hkk hk
  go_enter Tryz.func133, Tryz.ntmps133
  go_wp2
  go_quiet ((first | (go_at_call 97; exact quiet_eq (KW.out _)) | (go_at_call 141; exact quiet_eq (KC.out _))))
  go_wp2
  go_ret
  exact ⟨by rfl, below_drewN ((Below.refl _ _).alloc (Nat.le_refl _) _) _⟩
set_option maxRecDepth 100000 in
set_option maxHeartbeats 2000000 in
theorem fits_op_11 (op wd n : Int) (nm : ByteArray) (s : Value) (k : Fo) (w : World) (his : (k.cs 64).Is w 0 5 k.len s) (h : wdB wd = true) (hk : (k.len : Int) = kc op) (hn : n ≠ 0) (hnm : nm.toList.isEmpty = false) (h0 : op ≠ 0) (h22 : op ≠ 22) (h19 : op ≠ 19) :
    Calls Tryz.prog 133 #[.agg #[.int .i64 op, .int .i64 wd, .int .i64 n, .string nm, s]] w fun e w' => e = .returned (.bool (false)) ∧ Below w.heap.size w w' := by
  have HIS := Lib.hid his
  obtain ⟨_, ⟨_, q, cap, rfl, _⟩, _⟩ := his
  have KW := Lib.hid (fun W => i_wd wd W)
  have KC := Lib.hid (fun W => kid_count op W)
  rw [h] at KW
  have hn1 : ((n : Int) == 0) = false := by simpa using hn
  have hn2 : ((n : Int) != 0) = true := by simpa using hn
  clear hn
  have hnm2 : (!nm.toList.isEmpty) = true := by rw [hnm]; rfl
  have e0 : ((op : Int) == 0) = false := by simpa using h0
  have g0 : ((op : Int) != 0) = true := by simpa using h0
  have e22 : ((op : Int) == 22) = false := by simpa using h22
  have g22 : ((op : Int) != 22) = true := by simpa using h22
  have e19 : ((op : Int) == 19) = false := by simpa using h19
  have g19 : ((op : Int) != 19) = true := by simpa using h19
  clear h h0 h22 h19
  have hkk := hk
  rw [← hk] at KC
  clear hkk hk
  go_enter Tryz.func133, Tryz.ntmps133
  go_wp2
  go_quiet ((first | (go_at_call 97; exact quiet_eq (KW.out _)) | (go_at_call 141; exact quiet_eq (KC.out _))))
  go_wp2
  go_ret
  exact ⟨by rfl, below_drewN ((Below.refl _ _).alloc (Nat.le_refl _) _) _⟩
theorem empty_of {s : ByteArray} (h : s.toList.isEmpty = true) : s = ⟨#[]⟩ := by
  have e := List.isEmpty_iff.mp h
  rw [Lib.toList_data] at e
  cases s with
  | mk d => cases d with | mk l => have e : l = [] := e; rw [e]
/-- the contract of fits -/
theorem fits_any (op wd n : Int) (nm : ByteArray) (s : Value) (k : Fo) (w : World) (his : (k.cs 64).Is w 0 5 k.len s) (hsz : nm.size ≤ 1048576) :
    Calls Tryz.prog 133 #[.agg #[.int .i64 op, .int .i64 wd, .int .i64 n, .string nm, s]] w fun e w' => e = .returned (.bool (fitB op wd n nm k.ws)) ∧ Below w.heap.size w w' := by
  have hl := k.ws_len
  have hlk : ((k.ws.length : Nat) : Int) = (k.len : Int) := by rw [hl]
  cases hw : wdB wd with
  | false =>
    have e : fitB op wd n nm k.ws = false := by unfold fitB; rw [hw]; simp
    rw [e]; exact fits_w op wd n nm s k w his hw
  | true =>
    by_cases hk : (k.len : Int) = kc op
    · have hd : decide ((k.ws.length : Int) = kc op) = true := by rw [hlk]; exact decide_eq_true hk
      have e : fitB op wd n nm k.ws = ((decide (n = 0) || decide (op = 0) || decide (op = 19)) && (nm.toList.isEmpty || decide (op = 22)) && (if op = 0 then wkB wd n else if op = 22 then nmB nm else wfB op wd n k.ws)) := by
        unfold fitB; rw [hw, hd]; simp
      rw [e]
      cases hne : nm.toList.isEmpty with
      | true =>
        obtain rfl := empty_of hne
        by_cases h0 : op = 0
        · subst h0
          by_cases hn : n = 0
          · subst hn; simpa using fits_0_00 wd s k w his hw hk
          · simpa [hn] using fits_0_10 wd n s k w his hw hk hn
        · by_cases h22 : op = 22
          · subst h22
            by_cases hn : n = 0
            · subst hn; simpa using fits_22_00 wd s k w his hw hk hsz
            · simpa [hn] using fits_22_10 wd n s k w his hw hk hn
          · by_cases h19 : op = 19
            · subst h19
              by_cases hn : n = 0
              · subst hn; simpa using fits_19_00 wd s k w his hw hk
              · simpa [hn] using fits_19_10 wd n s k w his hw hk hn
            · by_cases hn : n = 0
              · subst hn; simpa [h0, h22, h19] using fits_op_00 op wd s k w his hw hk h0 h22 h19
              · simpa [h0, h22, h19, hn] using fits_op_10 op wd n s k w his hw hk hn h0 h22 h19
      | false =>
        by_cases h0 : op = 0
        · subst h0
          by_cases hn : n = 0
          · subst hn; simpa using fits_0_01 wd nm s k w his hw hk hne
          · simpa [hn] using fits_0_11 wd n nm s k w his hw hk hn hne
        · by_cases h22 : op = 22
          · subst h22
            by_cases hn : n = 0
            · subst hn; simpa using fits_22_01 wd nm s k w his hw hk hne hsz
            · simpa [hn] using fits_22_11 wd n nm s k w his hw hk hn hne
          · by_cases h19 : op = 19
            · subst h19
              by_cases hn : n = 0
              · subst hn; simpa using fits_19_01 wd nm s k w his hw hk hne
              · simpa [hn] using fits_19_11 wd n nm s k w his hw hk hn hne
            · by_cases hn : n = 0
              · subst hn; simpa [h0, h22, h19] using fits_op_01 op wd nm s k w his hw hk hne h0 h22 h19
              · simpa [h0, h22, h19, hn] using fits_op_11 op wd n nm s k w his hw hk hn hne h0 h22 h19
    · have hd : decide ((k.ws.length : Int) = kc op) = false := by rw [hlk]; exact decide_eq_false hk
      have e : fitB op wd n nm k.ws = false := by unfold fitB; rw [hw, hd]; simp
      rw [e]; exact fits_k op wd n nm s k w his hw hk
end Go.Proofs.YthmababifgaejaaGreatDoor
