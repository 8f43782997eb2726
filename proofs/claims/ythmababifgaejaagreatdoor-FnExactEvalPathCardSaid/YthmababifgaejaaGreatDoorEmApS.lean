/- What the specification's l02Apply returns, for a node that fits and words. No condition. -/
import Derived.Test.YthmababifgaejaaGreatDoorEmGEv
import Derived.Deep.RegionWith
import Derived.StillTailTactics
namespace Go.Proofs.YthmababifgaejaaGreatDoor
open Go.ChangeShapes Go.WideShapes Go.ChangeAt Go.RowKit
set_option maxRecDepth 100000 in
theorem ap_in_t (x a b : Int) (h1 : a ≤ x) (h2 : x ≤ b) (w : World) : Calls Tryz.prog 57 #[.int .i64 x, .int .i64 a, .int .i64 b] w fun e w' => e = .returned (.bool true) ∧ w = w' := by
  go_enter Tryz.func57, Tryz.ntmps57
  go_wp2
  go_ret
  exact ⟨rfl, rfl⟩
set_option maxRecDepth 100000 in
theorem ap_in_f (x a b : Int) (h1 : a ≤ x) (h2 : b < x) (w : World) : Calls Tryz.prog 57 #[.int .i64 x, .int .i64 a, .int .i64 b] w fun e w' => e = .returned (.bool false) ∧ w = w' := by
  have h3 : decide (x ≤ b) = false := by simp; omega
  go_enter Tryz.func57, Tryz.ntmps57
  go_wp2
  go_ret
  exact ⟨rfl, rfl⟩
set_option maxRecDepth 100000 in
set_option maxHeartbeats 2000000 in
theorem s_ap_u1 (wd n x : Int) (nm : ByteArray) (b o cap bw cw : Nat) (w : World) (_hbl : b < w.heap.size) (hbw : bw < w.heap.size) (d0 : w.cell? ⟨bw, 0, none⟩ = some (.int .i64 x)) (h1 : 1 ≤ wd) (h2 : wd ≤ 16) (h3 : 0 ≤ x) (h4 : x ≤ 2 ^ wd.toNat - 1) :
    Calls Tryz.prog 61 #[.agg #[.int .i64 1, .int .i64 wd, .int .i64 n, .string nm, .slice (some ⟨b, o, none⟩) 1 cap], .slice (some ⟨bw, 0, none⟩) 1 cw] w fun e w' => e = .returned (.int .i64 (unM 1 wd x)) ∧ Below w.heap.size w w' := by
  have KX := Lib.hid (fun W => s_un 1 wd x (by omega) h1 h2 h3 h4 W)
  obtain ⟨W1, hW1⟩ : ∃ W, W = w.alloc (.cells #[.int .i64 1, .int .i64 wd, .int .i64 n, .string nm, .slice (some ⟨b, o, none⟩) 1 cap] 64) := ⟨_, rfl⟩
  have HB1 : Hid (Below w.heap.size w W1) := Lib.hid (by rw [hW1]; exact (Below.refl _ _).alloc (Nat.le_refl _) _)
  have X1 : Hid (Cell5 W1 w.heap.size (.int .i64 1) (.int .i64 wd) (.int .i64 n) (.string nm) (.slice (some ⟨b, o, none⟩) 1 cap)) := Lib.hid (by rw [hW1]; exact cell5_alloc _ _ _ _ _ _ _)
  have HW := Lib.hid hW1
  clear hW1
  replace d0 := (HB1.out.cell (p := ⟨bw, 0, none⟩) hbw).trans d0
  go_enter Tryz.func61, Tryz.ntmps61
  go_wp2_with fail
  rw [← HW.out]
  clear HW
  obtain ⟨x0, x1, x2, x3, x4⟩ := X1.out
  refine (ap_in_t 1 1 2 (by omega) (by omega) _).mono ?_
  rintro e w1 ⟨rfl, rfl⟩
  go_wp2
  go_still_tail 7, (by kernel_rfl)
  go_wp2_with (go_at_call 80; refine (KX.out _).mono ?_; rintro e w1 ⟨rfl, rfl⟩)
  go_ret
  exact ⟨rfl, HB1.out.drew⟩
set_option maxRecDepth 100000 in
set_option maxHeartbeats 2000000 in
theorem s_ap_u2 (wd n x : Int) (nm : ByteArray) (b o cap bw cw : Nat) (w : World) (_hbl : b < w.heap.size) (hbw : bw < w.heap.size) (d0 : w.cell? ⟨bw, 0, none⟩ = some (.int .i64 x)) (h1 : 1 ≤ wd) (h2 : wd ≤ 16) (h3 : 0 ≤ x) (h4 : x ≤ 2 ^ wd.toNat - 1) :
    Calls Tryz.prog 61 #[.agg #[.int .i64 2, .int .i64 wd, .int .i64 n, .string nm, .slice (some ⟨b, o, none⟩) 1 cap], .slice (some ⟨bw, 0, none⟩) 1 cw] w fun e w' => e = .returned (.int .i64 (unM 2 wd x)) ∧ Below w.heap.size w w' := by
  have KX := Lib.hid (fun W => s_un 2 wd x (by omega) h1 h2 h3 h4 W)
  obtain ⟨W1, hW1⟩ : ∃ W, W = w.alloc (.cells #[.int .i64 2, .int .i64 wd, .int .i64 n, .string nm, .slice (some ⟨b, o, none⟩) 1 cap] 64) := ⟨_, rfl⟩
  have HB1 : Hid (Below w.heap.size w W1) := Lib.hid (by rw [hW1]; exact (Below.refl _ _).alloc (Nat.le_refl _) _)
  have X1 : Hid (Cell5 W1 w.heap.size (.int .i64 2) (.int .i64 wd) (.int .i64 n) (.string nm) (.slice (some ⟨b, o, none⟩) 1 cap)) := Lib.hid (by rw [hW1]; exact cell5_alloc _ _ _ _ _ _ _)
  have HW := Lib.hid hW1
  clear hW1
  replace d0 := (HB1.out.cell (p := ⟨bw, 0, none⟩) hbw).trans d0
  go_enter Tryz.func61, Tryz.ntmps61
  go_wp2_with fail
  rw [← HW.out]
  clear HW
  obtain ⟨x0, x1, x2, x3, x4⟩ := X1.out
  refine (ap_in_t 2 1 2 (by omega) (by omega) _).mono ?_
  rintro e w1 ⟨rfl, rfl⟩
  go_wp2
  go_still_tail 7, (by kernel_rfl)
  go_wp2_with (go_at_call 80; refine (KX.out _).mono ?_; rintro e w1 ⟨rfl, rfl⟩)
  go_ret
  exact ⟨rfl, HB1.out.drew⟩
set_option maxRecDepth 100000 in
set_option maxHeartbeats 2000000 in
theorem s_ap_bin (op wd n a x y : Int) (nm : ByteArray) (b o cap bw cw : Nat) (w : World) (hbl : b < w.heap.size) (hbw : bw < w.heap.size) (c0 : w.cell? ⟨b, o + 1, none⟩ = some (.int .i64 a)) (d0 : w.cell? ⟨bw, 0, none⟩ = some (.int .i64 x)) (d1 : w.cell? ⟨bw, 1, none⟩ = some (.int .i64 y)) (ho1 : 3 ≤ op) (ho2 : op ≤ 16) (h1 : 1 ≤ a) (h2 : a ≤ 16) (h3 : 0 ≤ x) (h4 : x ≤ 2 ^ a.toNat - 1) (k3 : 0 ≤ y) (k4 : y ≤ 2 ^ a.toNat - 1) :
    Calls Tryz.prog 61 #[.agg #[.int .i64 op, .int .i64 wd, .int .i64 n, .string nm, .slice (some ⟨b, o, none⟩) 2 cap], .slice (some ⟨bw, 0, none⟩) 2 cw] w fun e w' => e = .returned (.int .i64 (binM op a x y)) ∧ Below w.heap.size w w' := by
  have e1 : ((op : Int) == 1) = false := by simp; omega
  have e2 : ((op : Int) == 2) = false := by simp; omega
  have e17 : ((op : Int) == 17) = false := by simp; omega
  have e18 : ((op : Int) == 18) = false := by simp; omega
  have e19 : ((op : Int) == 19) = false := by simp; omega
  have e20 : ((op : Int) == 20) = false := by simp; omega
  have e21 : ((op : Int) == 21) = false := by simp; omega
  have KX := Lib.hid (fun W => s_bin op a x y ⟨ho1, ho2⟩ h1 h2 h3 h4 k3 k4 W)
  obtain ⟨W1, hW1⟩ : ∃ W, W = w.alloc (.cells #[.int .i64 op, .int .i64 wd, .int .i64 n, .string nm, .slice (some ⟨b, o, none⟩) 2 cap] 64) := ⟨_, rfl⟩
  have HB1 : Hid (Below w.heap.size w W1) := Lib.hid (by rw [hW1]; exact (Below.refl _ _).alloc (Nat.le_refl _) _)
  have X1 : Hid (Cell5 W1 w.heap.size (.int .i64 op) (.int .i64 wd) (.int .i64 n) (.string nm) (.slice (some ⟨b, o, none⟩) 2 cap)) := Lib.hid (by rw [hW1]; exact cell5_alloc _ _ _ _ _ _ _)
  have HW := Lib.hid hW1
  clear hW1
  replace c0 := (HB1.out.cell (p := ⟨b, o + 1, none⟩) hbl).trans c0
  replace d0 := (HB1.out.cell (p := ⟨bw, 0, none⟩) hbw).trans d0
  replace d1 := (HB1.out.cell (p := ⟨bw, 1, none⟩) hbw).trans d1
  go_enter Tryz.func61, Tryz.ntmps61
  go_wp2_with fail
  rw [← HW.out]
  clear HW
  obtain ⟨x0, x1, x2, x3, x4⟩ := X1.out
  refine (ap_in_f op 1 2 (by omega) (by omega) _).mono ?_
  rintro e w1 ⟨rfl, rfl⟩
  go_wp2_with fail
  refine (ap_in_t op 3 16 ho1 ho2 _).mono ?_
  rintro e w1 ⟨rfl, rfl⟩
  go_wp2
  go_still_tail 13, (by kernel_rfl)
  go_wp2_with (go_at_call 81; refine (KX.out _).mono ?_; rintro e w1 ⟨rfl, rfl⟩)
  go_ret
  exact ⟨rfl, HB1.out.drew⟩
set_option maxRecDepth 100000 in
set_option maxHeartbeats 2000000 in
theorem s_ap_if (wd n x y z : Int) (nm : ByteArray) (b o cap bw cw : Nat) (w : World) (_hbl : b < w.heap.size) (hbw : bw < w.heap.size) (d0 : w.cell? ⟨bw, 0, none⟩ = some (.int .i64 x)) (d1 : w.cell? ⟨bw, 1, none⟩ = some (.int .i64 y)) (d2 : w.cell? ⟨bw, 2, none⟩ = some (.int .i64 z))  :
    Calls Tryz.prog 61 #[.agg #[.int .i64 17, .int .i64 wd, .int .i64 n, .string nm, .slice (some ⟨b, o, none⟩) 3 cap], .slice (some ⟨bw, 0, none⟩) 3 cw] w fun e w' => e = .returned (.int .i64 (if x = 1 then y else z)) ∧ Below w.heap.size w w' := by
  by_cases hx : x = 1
  · subst hx
    obtain ⟨W1, hW1⟩ : ∃ W, W = w.alloc (.cells #[.int .i64 17, .int .i64 wd, .int .i64 n, .string nm, .slice (some ⟨b, o, none⟩) 3 cap] 64) := ⟨_, rfl⟩
    have HB1 : Hid (Below w.heap.size w W1) := Lib.hid (by rw [hW1]; exact (Below.refl _ _).alloc (Nat.le_refl _) _)
    have X1 : Hid (Cell5 W1 w.heap.size (.int .i64 17) (.int .i64 wd) (.int .i64 n) (.string nm) (.slice (some ⟨b, o, none⟩) 3 cap)) := Lib.hid (by rw [hW1]; exact cell5_alloc _ _ _ _ _ _ _)
    have HW := Lib.hid hW1
    clear hW1
    replace d0 := (HB1.out.cell (p := ⟨bw, 0, none⟩) hbw).trans d0
    replace d1 := (HB1.out.cell (p := ⟨bw, 1, none⟩) hbw).trans d1
    replace d2 := (HB1.out.cell (p := ⟨bw, 2, none⟩) hbw).trans d2
    go_enter Tryz.func61, Tryz.ntmps61
    go_wp2_with fail
    rw [← HW.out]
    clear HW
    obtain ⟨x0, x1, x2, x3, x4⟩ := X1.out
    refine (ap_in_f 17 1 2 (by omega) (by omega) _).mono ?_
    rintro e w1 ⟨rfl, rfl⟩
    go_wp2_with fail
    refine (ap_in_f 17 3 16 (by omega) (by omega) _).mono ?_
    rintro e w1 ⟨rfl, rfl⟩
    go_wp2
    go_ret
    exact ⟨by first | rfl | (simp [*]; done), HB1.out⟩
  · have hx1 : ((x : Int) == 1) = false := by simpa using hx
    rw [if_neg hx]
    clear hx
    obtain ⟨W1, hW1⟩ : ∃ W, W = w.alloc (.cells #[.int .i64 17, .int .i64 wd, .int .i64 n, .string nm, .slice (some ⟨b, o, none⟩) 3 cap] 64) := ⟨_, rfl⟩
    have HB1 : Hid (Below w.heap.size w W1) := Lib.hid (by rw [hW1]; exact (Below.refl _ _).alloc (Nat.le_refl _) _)
    have X1 : Hid (Cell5 W1 w.heap.size (.int .i64 17) (.int .i64 wd) (.int .i64 n) (.string nm) (.slice (some ⟨b, o, none⟩) 3 cap)) := Lib.hid (by rw [hW1]; exact cell5_alloc _ _ _ _ _ _ _)
    have HW := Lib.hid hW1
    clear hW1
    replace d0 := (HB1.out.cell (p := ⟨bw, 0, none⟩) hbw).trans d0
    replace d1 := (HB1.out.cell (p := ⟨bw, 1, none⟩) hbw).trans d1
    replace d2 := (HB1.out.cell (p := ⟨bw, 2, none⟩) hbw).trans d2
    go_enter Tryz.func61, Tryz.ntmps61
    go_wp2_with fail
    rw [← HW.out]
    clear HW
    obtain ⟨x0, x1, x2, x3, x4⟩ := X1.out
    refine (ap_in_f 17 1 2 (by omega) (by omega) _).mono ?_
    rintro e w1 ⟨rfl, rfl⟩
    go_wp2_with fail
    refine (ap_in_f 17 3 16 (by omega) (by omega) _).mono ?_
    rintro e w1 ⟨rfl, rfl⟩
    go_wp2
    go_ret
    exact ⟨by first | rfl | (simp [*]; done), HB1.out⟩
set_option maxRecDepth 100000 in
set_option maxHeartbeats 2000000 in
theorem s_ap_join (wd n a a2 x y : Int) (nm : ByteArray) (b o cap bw cw : Nat) (w : World) (hbl : b < w.heap.size) (hbw : bw < w.heap.size) (c0 : w.cell? ⟨b, o + 1, none⟩ = some (.int .i64 a)) (c1 : w.cell? ⟨b, o + 5 + 1, none⟩ = some (.int .i64 a2)) (d0 : w.cell? ⟨bw, 0, none⟩ = some (.int .i64 x)) (d1 : w.cell? ⟨bw, 1, none⟩ = some (.int .i64 y)) (h1 : 1 ≤ a) (h2 : a ≤ 16) (h3 : 0 ≤ x) (h4 : x ≤ 2 ^ a.toNat - 1) (k1 : 1 ≤ a2) (k2 : a2 ≤ 16) (k3 : 0 ≤ y) (k4 : y ≤ 2 ^ a2.toNat - 1) (g : a + a2 ≤ 16) :
    Calls Tryz.prog 61 #[.agg #[.int .i64 18, .int .i64 wd, .int .i64 n, .string nm, .slice (some ⟨b, o, none⟩) 2 cap], .slice (some ⟨bw, 0, none⟩) 2 cw] w fun e w' => e = .returned (.int .i64 (joinM x a2 y)) ∧ Below w.heap.size w w' := by
  have KX := Lib.hid (fun W => s_join a x a2 y h1 h2 h3 h4 k1 k2 k3 k4 g W)
  obtain ⟨W1, hW1⟩ : ∃ W, W = w.alloc (.cells #[.int .i64 18, .int .i64 wd, .int .i64 n, .string nm, .slice (some ⟨b, o, none⟩) 2 cap] 64) := ⟨_, rfl⟩
  have HB1 : Hid (Below w.heap.size w W1) := Lib.hid (by rw [hW1]; exact (Below.refl _ _).alloc (Nat.le_refl _) _)
  have X1 : Hid (Cell5 W1 w.heap.size (.int .i64 18) (.int .i64 wd) (.int .i64 n) (.string nm) (.slice (some ⟨b, o, none⟩) 2 cap)) := Lib.hid (by rw [hW1]; exact cell5_alloc _ _ _ _ _ _ _)
  have HW := Lib.hid hW1
  clear hW1
  replace c0 := (HB1.out.cell (p := ⟨b, o + 1, none⟩) hbl).trans c0
  replace c1 := (HB1.out.cell (p := ⟨b, o + 5 + 1, none⟩) hbl).trans c1
  replace d0 := (HB1.out.cell (p := ⟨bw, 0, none⟩) hbw).trans d0
  replace d1 := (HB1.out.cell (p := ⟨bw, 1, none⟩) hbw).trans d1
  go_enter Tryz.func61, Tryz.ntmps61
  go_wp2_with fail
  rw [← HW.out]
  clear HW
  obtain ⟨x0, x1, x2, x3, x4⟩ := X1.out
  refine (ap_in_f 18 1 2 (by omega) (by omega) _).mono ?_
  rintro e w1 ⟨rfl, rfl⟩
  go_wp2_with fail
  refine (ap_in_f 18 3 16 (by omega) (by omega) _).mono ?_
  rintro e w1 ⟨rfl, rfl⟩
  go_wp2
  go_still_tail 16, (by kernel_rfl)
  go_wp2_with (go_at_call 82; refine (KX.out _).mono ?_; rintro e w1 ⟨rfl, rfl⟩)
  go_ret
  exact ⟨rfl, HB1.out.drew⟩
set_option maxRecDepth 100000 in
set_option maxHeartbeats 2000000 in
theorem s_ap_cut (wd n a x : Int) (nm : ByteArray) (b o cap bw cw : Nat) (w : World) (hbl : b < w.heap.size) (hbw : bw < w.heap.size) (c0 : w.cell? ⟨b, o + 1, none⟩ = some (.int .i64 a)) (d0 : w.cell? ⟨bw, 0, none⟩ = some (.int .i64 x)) (h1 : 1 ≤ a) (h2 : a ≤ 16) (h3 : 0 ≤ x) (h4 : x ≤ 2 ^ a.toNat - 1) (g0 : 0 ≤ n) (g1 : 1 ≤ wd) (g2 : n + wd ≤ a) :
    Calls Tryz.prog 61 #[.agg #[.int .i64 19, .int .i64 wd, .int .i64 n, .string nm, .slice (some ⟨b, o, none⟩) 1 cap], .slice (some ⟨bw, 0, none⟩) 1 cw] w fun e w' => e = .returned (.int .i64 (cutM x n wd)) ∧ Below w.heap.size w w' := by
  have KX := Lib.hid (fun W => s_cut a x n wd h1 h2 h3 h4 g0 g1 g2 W)
  obtain ⟨W1, hW1⟩ : ∃ W, W = w.alloc (.cells #[.int .i64 19, .int .i64 wd, .int .i64 n, .string nm, .slice (some ⟨b, o, none⟩) 1 cap] 64) := ⟨_, rfl⟩
  have HB1 : Hid (Below w.heap.size w W1) := Lib.hid (by rw [hW1]; exact (Below.refl _ _).alloc (Nat.le_refl _) _)
  have X1 : Hid (Cell5 W1 w.heap.size (.int .i64 19) (.int .i64 wd) (.int .i64 n) (.string nm) (.slice (some ⟨b, o, none⟩) 1 cap)) := Lib.hid (by rw [hW1]; exact cell5_alloc _ _ _ _ _ _ _)
  have HW := Lib.hid hW1
  clear hW1
  replace c0 := (HB1.out.cell (p := ⟨b, o + 1, none⟩) hbl).trans c0
  replace d0 := (HB1.out.cell (p := ⟨bw, 0, none⟩) hbw).trans d0
  go_enter Tryz.func61, Tryz.ntmps61
  go_wp2_with fail
  rw [← HW.out]
  clear HW
  obtain ⟨x0, x1, x2, x3, x4⟩ := X1.out
  refine (ap_in_f 19 1 2 (by omega) (by omega) _).mono ?_
  rintro e w1 ⟨rfl, rfl⟩
  go_wp2_with fail
  refine (ap_in_f 19 3 16 (by omega) (by omega) _).mono ?_
  rintro e w1 ⟨rfl, rfl⟩
  go_wp2
  go_still_tail 12, (by kernel_rfl)
  go_wp2_with (go_at_call 83; refine (KX.out _).mono ?_; rintro e w1 ⟨rfl, rfl⟩)
  go_ret
  exact ⟨rfl, HB1.out.drew⟩
set_option maxRecDepth 100000 in
set_option maxHeartbeats 2000000 in
theorem s_ap_w20 (wd n a x : Int) (nm : ByteArray) (b o cap bw cw : Nat) (w : World) (hbl : b < w.heap.size) (hbw : bw < w.heap.size) (c0 : w.cell? ⟨b, o + 1, none⟩ = some (.int .i64 a)) (d0 : w.cell? ⟨bw, 0, none⟩ = some (.int .i64 x)) (h1 : 1 ≤ a) (h2 : a ≤ 16) (h3 : 0 ≤ x) (h4 : x ≤ 2 ^ a.toNat - 1) (g1 : a ≤ wd) (g2 : wd ≤ 16) :
    Calls Tryz.prog 61 #[.agg #[.int .i64 20, .int .i64 wd, .int .i64 n, .string nm, .slice (some ⟨b, o, none⟩) 1 cap], .slice (some ⟨bw, 0, none⟩) 1 cw] w fun e w' => e = .returned (.int .i64 (widenM a x wd false)) ∧ Below w.heap.size w w' := by
  have KX := Lib.hid (fun W => s_widen a x wd false h1 h2 h3 h4 g1 g2 W)
  obtain ⟨W1, hW1⟩ : ∃ W, W = w.alloc (.cells #[.int .i64 20, .int .i64 wd, .int .i64 n, .string nm, .slice (some ⟨b, o, none⟩) 1 cap] 64) := ⟨_, rfl⟩
  have HB1 : Hid (Below w.heap.size w W1) := Lib.hid (by rw [hW1]; exact (Below.refl _ _).alloc (Nat.le_refl _) _)
  have X1 : Hid (Cell5 W1 w.heap.size (.int .i64 20) (.int .i64 wd) (.int .i64 n) (.string nm) (.slice (some ⟨b, o, none⟩) 1 cap)) := Lib.hid (by rw [hW1]; exact cell5_alloc _ _ _ _ _ _ _)
  have HW := Lib.hid hW1
  clear hW1
  replace c0 := (HB1.out.cell (p := ⟨b, o + 1, none⟩) hbl).trans c0
  replace d0 := (HB1.out.cell (p := ⟨bw, 0, none⟩) hbw).trans d0
  go_enter Tryz.func61, Tryz.ntmps61
  go_wp2_with fail
  rw [← HW.out]
  clear HW
  obtain ⟨x0, x1, x2, x3, x4⟩ := X1.out
  refine (ap_in_f 20 1 2 (by omega) (by omega) _).mono ?_
  rintro e w1 ⟨rfl, rfl⟩
  go_wp2_with fail
  refine (ap_in_f 20 3 16 (by omega) (by omega) _).mono ?_
  rintro e w1 ⟨rfl, rfl⟩
  go_wp2
  go_still_tail 13, (by kernel_rfl)
  go_wp2_with (go_at_call 84; refine (KX.out _).mono ?_; rintro e w1 ⟨rfl, rfl⟩)
  go_ret
  exact ⟨rfl, HB1.out.drew⟩
set_option maxRecDepth 100000 in
set_option maxHeartbeats 2000000 in
theorem s_ap_w21 (wd n a x : Int) (nm : ByteArray) (b o cap bw cw : Nat) (w : World) (hbl : b < w.heap.size) (hbw : bw < w.heap.size) (c0 : w.cell? ⟨b, o + 1, none⟩ = some (.int .i64 a)) (d0 : w.cell? ⟨bw, 0, none⟩ = some (.int .i64 x)) (h1 : 1 ≤ a) (h2 : a ≤ 16) (h3 : 0 ≤ x) (h4 : x ≤ 2 ^ a.toNat - 1) (g1 : a ≤ wd) (g2 : wd ≤ 16) :
    Calls Tryz.prog 61 #[.agg #[.int .i64 21, .int .i64 wd, .int .i64 n, .string nm, .slice (some ⟨b, o, none⟩) 1 cap], .slice (some ⟨bw, 0, none⟩) 1 cw] w fun e w' => e = .returned (.int .i64 (widenM a x wd true)) ∧ Below w.heap.size w w' := by
  have KX := Lib.hid (fun W => s_widen a x wd true h1 h2 h3 h4 g1 g2 W)
  obtain ⟨W1, hW1⟩ : ∃ W, W = w.alloc (.cells #[.int .i64 21, .int .i64 wd, .int .i64 n, .string nm, .slice (some ⟨b, o, none⟩) 1 cap] 64) := ⟨_, rfl⟩
  have HB1 : Hid (Below w.heap.size w W1) := Lib.hid (by rw [hW1]; exact (Below.refl _ _).alloc (Nat.le_refl _) _)
  have X1 : Hid (Cell5 W1 w.heap.size (.int .i64 21) (.int .i64 wd) (.int .i64 n) (.string nm) (.slice (some ⟨b, o, none⟩) 1 cap)) := Lib.hid (by rw [hW1]; exact cell5_alloc _ _ _ _ _ _ _)
  have HW := Lib.hid hW1
  clear hW1
  replace c0 := (HB1.out.cell (p := ⟨b, o + 1, none⟩) hbl).trans c0
  replace d0 := (HB1.out.cell (p := ⟨bw, 0, none⟩) hbw).trans d0
  go_enter Tryz.func61, Tryz.ntmps61
  go_wp2_with fail
  rw [← HW.out]
  clear HW
  obtain ⟨x0, x1, x2, x3, x4⟩ := X1.out
  refine (ap_in_f 21 1 2 (by omega) (by omega) _).mono ?_
  rintro e w1 ⟨rfl, rfl⟩
  go_wp2_with fail
  refine (ap_in_f 21 3 16 (by omega) (by omega) _).mono ?_
  rintro e w1 ⟨rfl, rfl⟩
  go_wp2
  go_still_tail 13, (by kernel_rfl)
  go_wp2_with (go_at_call 84; refine (KX.out _).mono ?_; rintro e w1 ⟨rfl, rfl⟩)
  go_ret
  exact ⟨rfl, HB1.out.drew⟩
end Go.Proofs.YthmababifgaejaaGreatDoor
