/- What the program's (Term).apply returns, for a node that fits and words. No condition. -/
import Derived.Test.YthmababifgaejaaGreatDoorEmGEv
import Derived.Deep.RegionWith
import Derived.StillTailTactics
namespace Go.Proofs.YthmababifgaejaaGreatDoor
open Go.ChangeShapes Go.WideShapes Go.ChangeAt Go.RowKit
set_option maxRecDepth 100000 in
set_option maxHeartbeats 2000000 in
theorem i_ap_u1 (wd n x : Int) (nm : ByteArray) (b o cap bw : Nat) (w : World) (hbl : b < w.heap.size) (hbw : bw < w.heap.size) (c0 : w.cell? ⟨b, o + 1, none⟩ = some (.int .i64 wd)) (d0 : w.cell? ⟨bw, 0, none⟩ = some (.int .i64 x)) (h1 : 1 ≤ wd) (h2 : wd ≤ 16) (h3 : 0 ≤ x) (h4 : x ≤ 2 ^ wd.toNat - 1) :
    Calls Tryz.prog 52 #[.agg #[.int .i64 1, .int .i64 wd, .int .i64 n, .string nm, .slice (some ⟨b, o, none⟩) 1 cap], .slice (some ⟨bw, 0, none⟩) 3 3] w fun e w' => e = .returned (.int .i64 (unM 1 wd x)) ∧ Below w.heap.size w w' := by
  have KX := Lib.hid (fun W => i_un 1 wd x (by omega) h1 h2 h3 h4 W)
  go_enter Tryz.func52, Tryz.ntmps52
  go_wp2
  go_region_with (go_at_call 72; refine (KX.out _).mono ?_; rintro e w1 ⟨rfl, rfl⟩)
  all_goals
    go_wp2
    go_ret
    first | exact ⟨rfl, ((Below.refl _ _).alloc (Nat.le_refl _) _).drew⟩ | exact ⟨rfl, ((Below.refl _ _).alloc (Nat.le_refl _) _)⟩
set_option maxRecDepth 100000 in
set_option maxHeartbeats 2000000 in
theorem i_ap_u2 (wd n x : Int) (nm : ByteArray) (b o cap bw : Nat) (w : World) (hbl : b < w.heap.size) (hbw : bw < w.heap.size) (c0 : w.cell? ⟨b, o + 1, none⟩ = some (.int .i64 wd)) (d0 : w.cell? ⟨bw, 0, none⟩ = some (.int .i64 x)) (h1 : 1 ≤ wd) (h2 : wd ≤ 16) (h3 : 0 ≤ x) (h4 : x ≤ 2 ^ wd.toNat - 1) :
    Calls Tryz.prog 52 #[.agg #[.int .i64 2, .int .i64 wd, .int .i64 n, .string nm, .slice (some ⟨b, o, none⟩) 1 cap], .slice (some ⟨bw, 0, none⟩) 3 3] w fun e w' => e = .returned (.int .i64 (unM 2 wd x)) ∧ Below w.heap.size w w' := by
  have KX := Lib.hid (fun W => i_un 2 wd x (by omega) h1 h2 h3 h4 W)
  go_enter Tryz.func52, Tryz.ntmps52
  go_wp2
  go_region_with (go_at_call 72; refine (KX.out _).mono ?_; rintro e w1 ⟨rfl, rfl⟩)
  all_goals
    go_wp2
    go_ret
    first | exact ⟨rfl, ((Below.refl _ _).alloc (Nat.le_refl _) _).drew⟩ | exact ⟨rfl, ((Below.refl _ _).alloc (Nat.le_refl _) _)⟩
set_option maxRecDepth 100000 in
set_option maxHeartbeats 2000000 in
theorem i_ap_bin (op wd n a x y : Int) (nm : ByteArray) (b o cap bw : Nat) (w : World) (hbl : b < w.heap.size) (hbw : bw < w.heap.size) (c0 : w.cell? ⟨b, o + 1, none⟩ = some (.int .i64 a)) (d0 : w.cell? ⟨bw, 0, none⟩ = some (.int .i64 x)) (d1 : w.cell? ⟨bw, 1, none⟩ = some (.int .i64 y)) (ho1 : 3 ≤ op) (ho2 : op ≤ 16) (h1 : 1 ≤ a) (h2 : a ≤ 16) (h3 : 0 ≤ x) (h4 : x ≤ 2 ^ a.toNat - 1) (k3 : 0 ≤ y) (k4 : y ≤ 2 ^ a.toNat - 1) :
    Calls Tryz.prog 52 #[.agg #[.int .i64 op, .int .i64 wd, .int .i64 n, .string nm, .slice (some ⟨b, o, none⟩) 2 cap], .slice (some ⟨bw, 0, none⟩) 3 3] w fun e w' => e = .returned (.int .i64 (binM op a x y)) ∧ Below w.heap.size w w' := by
  have e1 : ((op : Int) == 1) = false := by simp; omega
  have e2 : ((op : Int) == 2) = false := by simp; omega
  have e17 : ((op : Int) == 17) = false := by simp; omega
  have e18 : ((op : Int) == 18) = false := by simp; omega
  have e19 : ((op : Int) == 19) = false := by simp; omega
  have e20 : ((op : Int) == 20) = false := by simp; omega
  have e21 : ((op : Int) == 21) = false := by simp; omega
  have KX := Lib.hid (fun W => i_bin op a x y ⟨ho1, ho2⟩ h1 h2 h3 h4 k3 k4 W)
  go_enter Tryz.func52, Tryz.ntmps52
  go_wp2
  go_region_with (go_at_call 76; refine (KX.out _).mono ?_; rintro e w1 ⟨rfl, rfl⟩)
  all_goals
    go_wp2
    go_ret
    first | exact ⟨rfl, ((Below.refl _ _).alloc (Nat.le_refl _) _).drew⟩ | exact ⟨rfl, ((Below.refl _ _).alloc (Nat.le_refl _) _)⟩
set_option maxRecDepth 100000 in
set_option maxHeartbeats 2000000 in
theorem i_ap_if (wd n a x y z : Int) (nm : ByteArray) (b o cap bw : Nat) (w : World) (hbl : b < w.heap.size) (hbw : bw < w.heap.size) (c0 : w.cell? ⟨b, o + 1, none⟩ = some (.int .i64 a)) (d0 : w.cell? ⟨bw, 0, none⟩ = some (.int .i64 x)) (d1 : w.cell? ⟨bw, 1, none⟩ = some (.int .i64 y)) (d2 : w.cell? ⟨bw, 2, none⟩ = some (.int .i64 z))  :
    Calls Tryz.prog 52 #[.agg #[.int .i64 17, .int .i64 wd, .int .i64 n, .string nm, .slice (some ⟨b, o, none⟩) 3 cap], .slice (some ⟨bw, 0, none⟩) 3 3] w fun e w' => e = .returned (.int .i64 (if x = 1 then y else z)) ∧ Below w.heap.size w w' := by
  by_cases hx : x = 1
  · subst hx
    go_enter Tryz.func52, Tryz.ntmps52
    go_wp2
    go_ret
    exact ⟨by first | rfl | (simp [*]; done), ((Below.refl _ _).alloc (Nat.le_refl _) _)⟩
  · have hx1 : ((x : Int) == 1) = false := by simpa using hx
    rw [if_neg hx]
    clear hx
    go_enter Tryz.func52, Tryz.ntmps52
    go_wp2
    go_ret
    exact ⟨by first | rfl | (simp [*]; done), ((Below.refl _ _).alloc (Nat.le_refl _) _)⟩
set_option maxRecDepth 100000 in
set_option maxHeartbeats 2000000 in
theorem i_ap_join (wd n a a2 x y : Int) (nm : ByteArray) (b o cap bw : Nat) (w : World) (hbl : b < w.heap.size) (hbw : bw < w.heap.size) (c0 : w.cell? ⟨b, o + 1, none⟩ = some (.int .i64 a)) (c1 : w.cell? ⟨b, o + 5 + 1, none⟩ = some (.int .i64 a2)) (d0 : w.cell? ⟨bw, 0, none⟩ = some (.int .i64 x)) (d1 : w.cell? ⟨bw, 1, none⟩ = some (.int .i64 y)) (h1 : 1 ≤ a) (h2 : a ≤ 16) (h3 : 0 ≤ x) (h4 : x ≤ 2 ^ a.toNat - 1) (k1 : 1 ≤ a2) (k2 : a2 ≤ 16) (k3 : 0 ≤ y) (k4 : y ≤ 2 ^ a2.toNat - 1) (g : a + a2 ≤ 16) :
    Calls Tryz.prog 52 #[.agg #[.int .i64 18, .int .i64 wd, .int .i64 n, .string nm, .slice (some ⟨b, o, none⟩) 2 cap], .slice (some ⟨bw, 0, none⟩) 3 3] w fun e w' => e = .returned (.int .i64 (joinM x a2 y)) ∧ Below w.heap.size w w' := by
  have KX := Lib.hid (fun W => i_join a x a2 y h1 h2 h3 h4 k1 k2 k3 k4 g W)
  go_enter Tryz.func52, Tryz.ntmps52
  go_wp2
  go_region_with (go_at_call 73; refine (KX.out _).mono ?_; rintro e w1 ⟨rfl, rfl⟩)
  all_goals
    go_wp2
    go_ret
    first | exact ⟨rfl, ((Below.refl _ _).alloc (Nat.le_refl _) _).drew⟩ | exact ⟨rfl, ((Below.refl _ _).alloc (Nat.le_refl _) _)⟩
set_option maxRecDepth 100000 in
set_option maxHeartbeats 2000000 in
theorem i_ap_cut (wd n a x : Int) (nm : ByteArray) (b o cap bw : Nat) (w : World) (hbl : b < w.heap.size) (hbw : bw < w.heap.size) (c0 : w.cell? ⟨b, o + 1, none⟩ = some (.int .i64 a)) (d0 : w.cell? ⟨bw, 0, none⟩ = some (.int .i64 x)) (h1 : 1 ≤ a) (h2 : a ≤ 16) (h3 : 0 ≤ x) (h4 : x ≤ 2 ^ a.toNat - 1) (g0 : 0 ≤ n) (g1 : 1 ≤ wd) (g2 : n + wd ≤ a) :
    Calls Tryz.prog 52 #[.agg #[.int .i64 19, .int .i64 wd, .int .i64 n, .string nm, .slice (some ⟨b, o, none⟩) 1 cap], .slice (some ⟨bw, 0, none⟩) 3 3] w fun e w' => e = .returned (.int .i64 (cutM x n wd)) ∧ Below w.heap.size w w' := by
  have KX := Lib.hid (fun W => i_cut a x n wd h1 h2 h3 h4 g0 g1 g2 W)
  go_enter Tryz.func52, Tryz.ntmps52
  go_wp2
  go_region_with (go_at_call 74; refine (KX.out _).mono ?_; rintro e w1 ⟨rfl, rfl⟩)
  all_goals
    go_wp2
    go_ret
    first | exact ⟨rfl, ((Below.refl _ _).alloc (Nat.le_refl _) _).drew⟩ | exact ⟨rfl, ((Below.refl _ _).alloc (Nat.le_refl _) _)⟩
set_option maxRecDepth 100000 in
set_option maxHeartbeats 2000000 in
theorem i_ap_w20 (wd n a x : Int) (nm : ByteArray) (b o cap bw : Nat) (w : World) (hbl : b < w.heap.size) (hbw : bw < w.heap.size) (c0 : w.cell? ⟨b, o + 1, none⟩ = some (.int .i64 a)) (d0 : w.cell? ⟨bw, 0, none⟩ = some (.int .i64 x)) (h1 : 1 ≤ a) (h2 : a ≤ 16) (h3 : 0 ≤ x) (h4 : x ≤ 2 ^ a.toNat - 1) (g1 : a ≤ wd) (g2 : wd ≤ 16) :
    Calls Tryz.prog 52 #[.agg #[.int .i64 20, .int .i64 wd, .int .i64 n, .string nm, .slice (some ⟨b, o, none⟩) 1 cap], .slice (some ⟨bw, 0, none⟩) 3 3] w fun e w' => e = .returned (.int .i64 (widenM a x wd false)) ∧ Below w.heap.size w w' := by
  have KX := Lib.hid (fun W => i_widen a x wd false h1 h2 h3 h4 g1 g2 W)
  go_enter Tryz.func52, Tryz.ntmps52
  go_wp2
  go_region_with (go_at_call 75; refine (KX.out _).mono ?_; rintro e w1 ⟨rfl, rfl⟩)
  all_goals
    go_wp2
    go_ret
    first | exact ⟨rfl, ((Below.refl _ _).alloc (Nat.le_refl _) _).drew⟩ | exact ⟨rfl, ((Below.refl _ _).alloc (Nat.le_refl _) _)⟩
set_option maxRecDepth 100000 in
set_option maxHeartbeats 2000000 in
theorem i_ap_w21 (wd n a x : Int) (nm : ByteArray) (b o cap bw : Nat) (w : World) (hbl : b < w.heap.size) (hbw : bw < w.heap.size) (c0 : w.cell? ⟨b, o + 1, none⟩ = some (.int .i64 a)) (d0 : w.cell? ⟨bw, 0, none⟩ = some (.int .i64 x)) (h1 : 1 ≤ a) (h2 : a ≤ 16) (h3 : 0 ≤ x) (h4 : x ≤ 2 ^ a.toNat - 1) (g1 : a ≤ wd) (g2 : wd ≤ 16) :
    Calls Tryz.prog 52 #[.agg #[.int .i64 21, .int .i64 wd, .int .i64 n, .string nm, .slice (some ⟨b, o, none⟩) 1 cap], .slice (some ⟨bw, 0, none⟩) 3 3] w fun e w' => e = .returned (.int .i64 (widenM a x wd true)) ∧ Below w.heap.size w w' := by
  have KX := Lib.hid (fun W => i_widen a x wd true h1 h2 h3 h4 g1 g2 W)
  go_enter Tryz.func52, Tryz.ntmps52
  go_wp2
  go_region_with (go_at_call 75; refine (KX.out _).mono ?_; rintro e w1 ⟨rfl, rfl⟩)
  all_goals
    go_wp2
    go_ret
    first | exact ⟨rfl, ((Below.refl _ _).alloc (Nat.le_refl _) _).drew⟩ | exact ⟨rfl, ((Below.refl _ _).alloc (Nat.le_refl _) _)⟩
end Go.Proofs.YthmababifgaejaaGreatDoor
