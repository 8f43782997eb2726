/- What the specification's l02Apply returns, for a node that fits and words. No condition. The kids of a node that fits, where they lie; what a variable has among values; words of a forest, piece by piece. No condition. -/
import Derived.Test.YtpojldocjaieoaaGreatDoorHmGVlM
import Derived.Deep.RegionWith
import Derived.StillTailTactics
namespace Go.Proofs.YtpojldocjaieoaaGreatDoor
open Go.ChangeShapes Go.WideShapes Go.ChangeAt Go.RowKit
set_option maxRecDepth 100000 in
theorem ap_in_t (x a b : Int) (h1 : a ≤ x) (h2 : x ≤ b) (w : World) : Calls Tryz.prog 46 #[.int .i64 x, .int .i64 a, .int .i64 b] w fun e w' => e = .returned (.bool true) ∧ w = w' := by
  go_enter Tryz.func46, Tryz.ntmps46
  go_wp2
  go_ret
  exact ⟨rfl, rfl⟩
set_option maxRecDepth 100000 in
theorem ap_in_f (x a b : Int) (h1 : a ≤ x) (h2 : b < x) (w : World) : Calls Tryz.prog 46 #[.int .i64 x, .int .i64 a, .int .i64 b] w fun e w' => e = .returned (.bool false) ∧ w = w' := by
  have h3 : decide (x ≤ b) = false := by simp; omega
  go_enter Tryz.func46, Tryz.ntmps46
  go_wp2
  go_ret
  exact ⟨rfl, rfl⟩
set_option maxRecDepth 100000 in
set_option maxHeartbeats 2000000 in
theorem s_ap_u1 (wd n x : Int) (nm : ByteArray) (b o cap bw cw : Nat) (w : World) (_hbl : b < w.heap.size) (hbw : bw < w.heap.size) (d0 : w.cell? ⟨bw, 0, none⟩ = some (.int .i64 x)) (h1 : 1 ≤ wd) (h2 : wd ≤ 16) (h3 : 0 ≤ x) (h4 : x ≤ 2 ^ wd.toNat - 1) :
    Calls Tryz.prog 71 #[.agg #[.int .i64 1, .int .i64 wd, .int .i64 n, .string nm, .slice (some ⟨b, o, none⟩) 1 cap], .slice (some ⟨bw, 0, none⟩) 1 cw] w fun e w' => e = .returned (.int .i64 (unM 1 wd x)) ∧ Below w.heap.size w w' := by
  have KX := Lib.hid (fun W => s_un 1 wd x (by omega) h1 h2 h3 h4 W)
  obtain ⟨W1, hW1⟩ : ∃ W, W = w.alloc (.cells #[.int .i64 1, .int .i64 wd, .int .i64 n, .string nm, .slice (some ⟨b, o, none⟩) 1 cap] 69) := ⟨_, rfl⟩
  have HB1 : Hid (Below w.heap.size w W1) := Lib.hid (by rw [hW1]; exact (Below.refl _ _).alloc (Nat.le_refl _) _)
  have X1 : Hid (Cell5 W1 w.heap.size (.int .i64 1) (.int .i64 wd) (.int .i64 n) (.string nm) (.slice (some ⟨b, o, none⟩) 1 cap)) := Lib.hid (by rw [hW1]; exact cell5_alloc _ _ _ _ _ _ _)
  have HW := Lib.hid hW1
  clear hW1
  replace d0 := (HB1.out.cell (p := ⟨bw, 0, none⟩) hbw).trans d0
  go_enter Tryz.func71, Tryz.ntmps71
  go_wp2_with fail
  rw [← HW.out]
  clear HW
  obtain ⟨x0, x1, x2, x3, x4⟩ := X1.out
  refine (ap_in_t 1 1 2 (by omega) (by omega) _).mono ?_
  rintro e w1 ⟨rfl, rfl⟩
  go_wp2
  go_still_tail 7, (by kernel_rfl)
  go_wp2_with (go_at_call 93; refine (KX.out _).mono ?_; rintro e w1 ⟨rfl, rfl⟩)
  go_ret
  exact ⟨rfl, HB1.out.drew⟩
set_option maxRecDepth 100000 in
set_option maxHeartbeats 2000000 in
theorem s_ap_u2 (wd n x : Int) (nm : ByteArray) (b o cap bw cw : Nat) (w : World) (_hbl : b < w.heap.size) (hbw : bw < w.heap.size) (d0 : w.cell? ⟨bw, 0, none⟩ = some (.int .i64 x)) (h1 : 1 ≤ wd) (h2 : wd ≤ 16) (h3 : 0 ≤ x) (h4 : x ≤ 2 ^ wd.toNat - 1) :
    Calls Tryz.prog 71 #[.agg #[.int .i64 2, .int .i64 wd, .int .i64 n, .string nm, .slice (some ⟨b, o, none⟩) 1 cap], .slice (some ⟨bw, 0, none⟩) 1 cw] w fun e w' => e = .returned (.int .i64 (unM 2 wd x)) ∧ Below w.heap.size w w' := by
  have KX := Lib.hid (fun W => s_un 2 wd x (by omega) h1 h2 h3 h4 W)
  obtain ⟨W1, hW1⟩ : ∃ W, W = w.alloc (.cells #[.int .i64 2, .int .i64 wd, .int .i64 n, .string nm, .slice (some ⟨b, o, none⟩) 1 cap] 69) := ⟨_, rfl⟩
  have HB1 : Hid (Below w.heap.size w W1) := Lib.hid (by rw [hW1]; exact (Below.refl _ _).alloc (Nat.le_refl _) _)
  have X1 : Hid (Cell5 W1 w.heap.size (.int .i64 2) (.int .i64 wd) (.int .i64 n) (.string nm) (.slice (some ⟨b, o, none⟩) 1 cap)) := Lib.hid (by rw [hW1]; exact cell5_alloc _ _ _ _ _ _ _)
  have HW := Lib.hid hW1
  clear hW1
  replace d0 := (HB1.out.cell (p := ⟨bw, 0, none⟩) hbw).trans d0
  go_enter Tryz.func71, Tryz.ntmps71
  go_wp2_with fail
  rw [← HW.out]
  clear HW
  obtain ⟨x0, x1, x2, x3, x4⟩ := X1.out
  refine (ap_in_t 2 1 2 (by omega) (by omega) _).mono ?_
  rintro e w1 ⟨rfl, rfl⟩
  go_wp2
  go_still_tail 7, (by kernel_rfl)
  go_wp2_with (go_at_call 93; refine (KX.out _).mono ?_; rintro e w1 ⟨rfl, rfl⟩)
  go_ret
  exact ⟨rfl, HB1.out.drew⟩
set_option maxRecDepth 100000 in
set_option maxHeartbeats 2000000 in
theorem s_ap_bin (op wd n a x y : Int) (nm : ByteArray) (b o cap bw cw : Nat) (w : World) (hbl : b < w.heap.size) (hbw : bw < w.heap.size) (c0 : w.cell? ⟨b, o + 1, none⟩ = some (.int .i64 a)) (d0 : w.cell? ⟨bw, 0, none⟩ = some (.int .i64 x)) (d1 : w.cell? ⟨bw, 1, none⟩ = some (.int .i64 y)) (ho1 : 3 ≤ op) (ho2 : op ≤ 16) (h1 : 1 ≤ a) (h2 : a ≤ 16) (h3 : 0 ≤ x) (h4 : x ≤ 2 ^ a.toNat - 1) (k3 : 0 ≤ y) (k4 : y ≤ 2 ^ a.toNat - 1) :
    Calls Tryz.prog 71 #[.agg #[.int .i64 op, .int .i64 wd, .int .i64 n, .string nm, .slice (some ⟨b, o, none⟩) 2 cap], .slice (some ⟨bw, 0, none⟩) 2 cw] w fun e w' => e = .returned (.int .i64 (binM op a x y)) ∧ Below w.heap.size w w' := by
  have e1 : ((op : Int) == 1) = false := by simp; omega
  have e2 : ((op : Int) == 2) = false := by simp; omega
  have e17 : ((op : Int) == 17) = false := by simp; omega
  have e18 : ((op : Int) == 18) = false := by simp; omega
  have e19 : ((op : Int) == 19) = false := by simp; omega
  have e20 : ((op : Int) == 20) = false := by simp; omega
  have e21 : ((op : Int) == 21) = false := by simp; omega
  have KX := Lib.hid (fun W => s_bin op a x y ⟨ho1, ho2⟩ h1 h2 h3 h4 k3 k4 W)
  obtain ⟨W1, hW1⟩ : ∃ W, W = w.alloc (.cells #[.int .i64 op, .int .i64 wd, .int .i64 n, .string nm, .slice (some ⟨b, o, none⟩) 2 cap] 69) := ⟨_, rfl⟩
  have HB1 : Hid (Below w.heap.size w W1) := Lib.hid (by rw [hW1]; exact (Below.refl _ _).alloc (Nat.le_refl _) _)
  have X1 : Hid (Cell5 W1 w.heap.size (.int .i64 op) (.int .i64 wd) (.int .i64 n) (.string nm) (.slice (some ⟨b, o, none⟩) 2 cap)) := Lib.hid (by rw [hW1]; exact cell5_alloc _ _ _ _ _ _ _)
  have HW := Lib.hid hW1
  clear hW1
  replace c0 := (HB1.out.cell (p := ⟨b, o + 1, none⟩) hbl).trans c0
  replace d0 := (HB1.out.cell (p := ⟨bw, 0, none⟩) hbw).trans d0
  replace d1 := (HB1.out.cell (p := ⟨bw, 1, none⟩) hbw).trans d1
  go_enter Tryz.func71, Tryz.ntmps71
  go_wp2_with fail
  rw [← HW.out]
  clear HW
  obtain ⟨x0, x1, x2, x3, x4⟩ := X1.out
  refine (ap_in_f op 1 2 (by omega) (by omega) _).mono ?_
  rintro e w1 ⟨rfl, rfl⟩
  go_wp2_with fail
  refine (ap_in_t op 3 16 ho1 ho2 _).mono ?_
  rintro e w1 ⟨rfl, rfl⟩
  go_wp2
  go_still_tail 13, (by kernel_rfl)
  go_wp2_with (go_at_call 94; refine (KX.out _).mono ?_; rintro e w1 ⟨rfl, rfl⟩)
  go_ret
  exact ⟨rfl, HB1.out.drew⟩
set_option maxRecDepth 100000 in
set_option maxHeartbeats 2000000 in
theorem s_ap_if (wd n x y z : Int) (nm : ByteArray) (b o cap bw cw : Nat) (w : World) (_hbl : b < w.heap.size) (hbw : bw < w.heap.size) (d0 : w.cell? ⟨bw, 0, none⟩ = some (.int .i64 x)) (d1 : w.cell? ⟨bw, 1, none⟩ = some (.int .i64 y)) (d2 : w.cell? ⟨bw, 2, none⟩ = some (.int .i64 z))  :
    Calls Tryz.prog 71 #[.agg #[.int .i64 17, .int .i64 wd, .int .i64 n, .string nm, .slice (some ⟨b, o, none⟩) 3 cap], .slice (some ⟨bw, 0, none⟩) 3 cw] w fun e w' => e = .returned (.int .i64 (if x = 1 then y else z)) ∧ Below w.heap.size w w' := by
  by_cases hx : x = 1
  · subst hx
    obtain ⟨W1, hW1⟩ : ∃ W, W = w.alloc (.cells #[.int .i64 17, .int .i64 wd, .int .i64 n, .string nm, .slice (some ⟨b, o, none⟩) 3 cap] 69) := ⟨_, rfl⟩
    have HB1 : Hid (Below w.heap.size w W1) := Lib.hid (by rw [hW1]; exact (Below.refl _ _).alloc (Nat.le_refl _) _)
    have X1 : Hid (Cell5 W1 w.heap.size (.int .i64 17) (.int .i64 wd) (.int .i64 n) (.string nm) (.slice (some ⟨b, o, none⟩) 3 cap)) := Lib.hid (by rw [hW1]; exact cell5_alloc _ _ _ _ _ _ _)
    have HW := Lib.hid hW1
    clear hW1
    replace d0 := (HB1.out.cell (p := ⟨bw, 0, none⟩) hbw).trans d0
    replace d1 := (HB1.out.cell (p := ⟨bw, 1, none⟩) hbw).trans d1
    replace d2 := (HB1.out.cell (p := ⟨bw, 2, none⟩) hbw).trans d2
    go_enter Tryz.func71, Tryz.ntmps71
    go_wp2_with fail
    rw [← HW.out]
    clear HW
    obtain ⟨x0, x1, x2, x3, x4⟩ := X1.out
    refine (ap_in_f 17 1 2 (by omega) (by omega) _).mono ?_
    rintro e w1 ⟨rfl, rfl⟩
    go_wp2_with fail
    refine (ap_in_f 17 3 16 (by omega) (by omega) _).mono ?_
    rintro e w1 ⟨rfl, rfl⟩
    go_wp2
    go_ret
    exact ⟨by first | rfl | (simp [*]; done), HB1.out⟩
  · have hx1 : ((x : Int) == 1) = false := by simpa using hx
    rw [if_neg hx]
    clear hx
    obtain ⟨W1, hW1⟩ : ∃ W, W = w.alloc (.cells #[.int .i64 17, .int .i64 wd, .int .i64 n, .string nm, .slice (some ⟨b, o, none⟩) 3 cap] 69) := ⟨_, rfl⟩
    have HB1 : Hid (Below w.heap.size w W1) := Lib.hid (by rw [hW1]; exact (Below.refl _ _).alloc (Nat.le_refl _) _)
    have X1 : Hid (Cell5 W1 w.heap.size (.int .i64 17) (.int .i64 wd) (.int .i64 n) (.string nm) (.slice (some ⟨b, o, none⟩) 3 cap)) := Lib.hid (by rw [hW1]; exact cell5_alloc _ _ _ _ _ _ _)
    have HW := Lib.hid hW1
    clear hW1
    replace d0 := (HB1.out.cell (p := ⟨bw, 0, none⟩) hbw).trans d0
    replace d1 := (HB1.out.cell (p := ⟨bw, 1, none⟩) hbw).trans d1
    replace d2 := (HB1.out.cell (p := ⟨bw, 2, none⟩) hbw).trans d2
    go_enter Tryz.func71, Tryz.ntmps71
    go_wp2_with fail
    rw [← HW.out]
    clear HW
    obtain ⟨x0, x1, x2, x3, x4⟩ := X1.out
    refine (ap_in_f 17 1 2 (by omega) (by omega) _).mono ?_
    rintro e w1 ⟨rfl, rfl⟩
    go_wp2_with fail
    refine (ap_in_f 17 3 16 (by omega) (by omega) _).mono ?_
    rintro e w1 ⟨rfl, rfl⟩
    go_wp2
    go_ret
    exact ⟨by first | rfl | (simp [*]; done), HB1.out⟩
set_option maxRecDepth 100000 in
set_option maxHeartbeats 2000000 in
theorem s_ap_join (wd n a a2 x y : Int) (nm : ByteArray) (b o cap bw cw : Nat) (w : World) (hbl : b < w.heap.size) (hbw : bw < w.heap.size) (c0 : w.cell? ⟨b, o + 1, none⟩ = some (.int .i64 a)) (c1 : w.cell? ⟨b, o + 5 + 1, none⟩ = some (.int .i64 a2)) (d0 : w.cell? ⟨bw, 0, none⟩ = some (.int .i64 x)) (d1 : w.cell? ⟨bw, 1, none⟩ = some (.int .i64 y)) (h1 : 1 ≤ a) (h2 : a ≤ 16) (h3 : 0 ≤ x) (h4 : x ≤ 2 ^ a.toNat - 1) (k1 : 1 ≤ a2) (k2 : a2 ≤ 16) (k3 : 0 ≤ y) (k4 : y ≤ 2 ^ a2.toNat - 1) (g : a + a2 ≤ 16) :
    Calls Tryz.prog 71 #[.agg #[.int .i64 18, .int .i64 wd, .int .i64 n, .string nm, .slice (some ⟨b, o, none⟩) 2 cap], .slice (some ⟨bw, 0, none⟩) 2 cw] w fun e w' => e = .returned (.int .i64 (joinM x a2 y)) ∧ Below w.heap.size w w' := by
  have KX := Lib.hid (fun W => s_join a x a2 y h1 h2 h3 h4 k1 k2 k3 k4 g W)
  obtain ⟨W1, hW1⟩ : ∃ W, W = w.alloc (.cells #[.int .i64 18, .int .i64 wd, .int .i64 n, .string nm, .slice (some ⟨b, o, none⟩) 2 cap] 69) := ⟨_, rfl⟩
  have HB1 : Hid (Below w.heap.size w W1) := Lib.hid (by rw [hW1]; exact (Below.refl _ _).alloc (Nat.le_refl _) _)
  have X1 : Hid (Cell5 W1 w.heap.size (.int .i64 18) (.int .i64 wd) (.int .i64 n) (.string nm) (.slice (some ⟨b, o, none⟩) 2 cap)) := Lib.hid (by rw [hW1]; exact cell5_alloc _ _ _ _ _ _ _)
  have HW := Lib.hid hW1
  clear hW1
  replace c0 := (HB1.out.cell (p := ⟨b, o + 1, none⟩) hbl).trans c0
  replace c1 := (HB1.out.cell (p := ⟨b, o + 5 + 1, none⟩) hbl).trans c1
  replace d0 := (HB1.out.cell (p := ⟨bw, 0, none⟩) hbw).trans d0
  replace d1 := (HB1.out.cell (p := ⟨bw, 1, none⟩) hbw).trans d1
  go_enter Tryz.func71, Tryz.ntmps71
  go_wp2_with fail
  rw [← HW.out]
  clear HW
  obtain ⟨x0, x1, x2, x3, x4⟩ := X1.out
  refine (ap_in_f 18 1 2 (by omega) (by omega) _).mono ?_
  rintro e w1 ⟨rfl, rfl⟩
  go_wp2_with fail
  refine (ap_in_f 18 3 16 (by omega) (by omega) _).mono ?_
  rintro e w1 ⟨rfl, rfl⟩
  go_wp2
  go_still_tail 16, (by kernel_rfl)
  go_wp2_with (go_at_call 95; refine (KX.out _).mono ?_; rintro e w1 ⟨rfl, rfl⟩)
  go_ret
  exact ⟨rfl, HB1.out.drew⟩
set_option maxRecDepth 100000 in
set_option maxHeartbeats 2000000 in
theorem s_ap_cut (wd n a x : Int) (nm : ByteArray) (b o cap bw cw : Nat) (w : World) (hbl : b < w.heap.size) (hbw : bw < w.heap.size) (c0 : w.cell? ⟨b, o + 1, none⟩ = some (.int .i64 a)) (d0 : w.cell? ⟨bw, 0, none⟩ = some (.int .i64 x)) (h1 : 1 ≤ a) (h2 : a ≤ 16) (h3 : 0 ≤ x) (h4 : x ≤ 2 ^ a.toNat - 1) (g0 : 0 ≤ n) (g1 : 1 ≤ wd) (g2 : n + wd ≤ a) :
    Calls Tryz.prog 71 #[.agg #[.int .i64 19, .int .i64 wd, .int .i64 n, .string nm, .slice (some ⟨b, o, none⟩) 1 cap], .slice (some ⟨bw, 0, none⟩) 1 cw] w fun e w' => e = .returned (.int .i64 (cutM x n wd)) ∧ Below w.heap.size w w' := by
  have KX := Lib.hid (fun W => s_cut a x n wd h1 h2 h3 h4 g0 g1 g2 W)
  obtain ⟨W1, hW1⟩ : ∃ W, W = w.alloc (.cells #[.int .i64 19, .int .i64 wd, .int .i64 n, .string nm, .slice (some ⟨b, o, none⟩) 1 cap] 69) := ⟨_, rfl⟩
  have HB1 : Hid (Below w.heap.size w W1) := Lib.hid (by rw [hW1]; exact (Below.refl _ _).alloc (Nat.le_refl _) _)
  have X1 : Hid (Cell5 W1 w.heap.size (.int .i64 19) (.int .i64 wd) (.int .i64 n) (.string nm) (.slice (some ⟨b, o, none⟩) 1 cap)) := Lib.hid (by rw [hW1]; exact cell5_alloc _ _ _ _ _ _ _)
  have HW := Lib.hid hW1
  clear hW1
  replace c0 := (HB1.out.cell (p := ⟨b, o + 1, none⟩) hbl).trans c0
  replace d0 := (HB1.out.cell (p := ⟨bw, 0, none⟩) hbw).trans d0
  go_enter Tryz.func71, Tryz.ntmps71
  go_wp2_with fail
  rw [← HW.out]
  clear HW
  obtain ⟨x0, x1, x2, x3, x4⟩ := X1.out
  refine (ap_in_f 19 1 2 (by omega) (by omega) _).mono ?_
  rintro e w1 ⟨rfl, rfl⟩
  go_wp2_with fail
  refine (ap_in_f 19 3 16 (by omega) (by omega) _).mono ?_
  rintro e w1 ⟨rfl, rfl⟩
  go_wp2
  go_still_tail 12, (by kernel_rfl)
  go_wp2_with (go_at_call 96; refine (KX.out _).mono ?_; rintro e w1 ⟨rfl, rfl⟩)
  go_ret
  exact ⟨rfl, HB1.out.drew⟩
set_option maxRecDepth 100000 in
set_option maxHeartbeats 2000000 in
theorem s_ap_w20 (wd n a x : Int) (nm : ByteArray) (b o cap bw cw : Nat) (w : World) (hbl : b < w.heap.size) (hbw : bw < w.heap.size) (c0 : w.cell? ⟨b, o + 1, none⟩ = some (.int .i64 a)) (d0 : w.cell? ⟨bw, 0, none⟩ = some (.int .i64 x)) (h1 : 1 ≤ a) (h2 : a ≤ 16) (h3 : 0 ≤ x) (h4 : x ≤ 2 ^ a.toNat - 1) (g1 : a ≤ wd) (g2 : wd ≤ 16) :
    Calls Tryz.prog 71 #[.agg #[.int .i64 20, .int .i64 wd, .int .i64 n, .string nm, .slice (some ⟨b, o, none⟩) 1 cap], .slice (some ⟨bw, 0, none⟩) 1 cw] w fun e w' => e = .returned (.int .i64 (widenM a x wd false)) ∧ Below w.heap.size w w' := by
  have KX := Lib.hid (fun W => s_widen a x wd false h1 h2 h3 h4 g1 g2 W)
  obtain ⟨W1, hW1⟩ : ∃ W, W = w.alloc (.cells #[.int .i64 20, .int .i64 wd, .int .i64 n, .string nm, .slice (some ⟨b, o, none⟩) 1 cap] 69) := ⟨_, rfl⟩
  have HB1 : Hid (Below w.heap.size w W1) := Lib.hid (by rw [hW1]; exact (Below.refl _ _).alloc (Nat.le_refl _) _)
  have X1 : Hid (Cell5 W1 w.heap.size (.int .i64 20) (.int .i64 wd) (.int .i64 n) (.string nm) (.slice (some ⟨b, o, none⟩) 1 cap)) := Lib.hid (by rw [hW1]; exact cell5_alloc _ _ _ _ _ _ _)
  have HW := Lib.hid hW1
  clear hW1
  replace c0 := (HB1.out.cell (p := ⟨b, o + 1, none⟩) hbl).trans c0
  replace d0 := (HB1.out.cell (p := ⟨bw, 0, none⟩) hbw).trans d0
  go_enter Tryz.func71, Tryz.ntmps71
  go_wp2_with fail
  rw [← HW.out]
  clear HW
  obtain ⟨x0, x1, x2, x3, x4⟩ := X1.out
  refine (ap_in_f 20 1 2 (by omega) (by omega) _).mono ?_
  rintro e w1 ⟨rfl, rfl⟩
  go_wp2_with fail
  refine (ap_in_f 20 3 16 (by omega) (by omega) _).mono ?_
  rintro e w1 ⟨rfl, rfl⟩
  go_wp2
  go_still_tail 13, (by kernel_rfl)
  go_wp2_with (go_at_call 97; refine (KX.out _).mono ?_; rintro e w1 ⟨rfl, rfl⟩)
  go_ret
  exact ⟨rfl, HB1.out.drew⟩
set_option maxRecDepth 100000 in
set_option maxHeartbeats 2000000 in
theorem s_ap_w21 (wd n a x : Int) (nm : ByteArray) (b o cap bw cw : Nat) (w : World) (hbl : b < w.heap.size) (hbw : bw < w.heap.size) (c0 : w.cell? ⟨b, o + 1, none⟩ = some (.int .i64 a)) (d0 : w.cell? ⟨bw, 0, none⟩ = some (.int .i64 x)) (h1 : 1 ≤ a) (h2 : a ≤ 16) (h3 : 0 ≤ x) (h4 : x ≤ 2 ^ a.toNat - 1) (g1 : a ≤ wd) (g2 : wd ≤ 16) :
    Calls Tryz.prog 71 #[.agg #[.int .i64 21, .int .i64 wd, .int .i64 n, .string nm, .slice (some ⟨b, o, none⟩) 1 cap], .slice (some ⟨bw, 0, none⟩) 1 cw] w fun e w' => e = .returned (.int .i64 (widenM a x wd true)) ∧ Below w.heap.size w w' := by
  have KX := Lib.hid (fun W => s_widen a x wd true h1 h2 h3 h4 g1 g2 W)
  obtain ⟨W1, hW1⟩ : ∃ W, W = w.alloc (.cells #[.int .i64 21, .int .i64 wd, .int .i64 n, .string nm, .slice (some ⟨b, o, none⟩) 1 cap] 69) := ⟨_, rfl⟩
  have HB1 : Hid (Below w.heap.size w W1) := Lib.hid (by rw [hW1]; exact (Below.refl _ _).alloc (Nat.le_refl _) _)
  have X1 : Hid (Cell5 W1 w.heap.size (.int .i64 21) (.int .i64 wd) (.int .i64 n) (.string nm) (.slice (some ⟨b, o, none⟩) 1 cap)) := Lib.hid (by rw [hW1]; exact cell5_alloc _ _ _ _ _ _ _)
  have HW := Lib.hid hW1
  clear hW1
  replace c0 := (HB1.out.cell (p := ⟨b, o + 1, none⟩) hbl).trans c0
  replace d0 := (HB1.out.cell (p := ⟨bw, 0, none⟩) hbw).trans d0
  go_enter Tryz.func71, Tryz.ntmps71
  go_wp2_with fail
  rw [← HW.out]
  clear HW
  obtain ⟨x0, x1, x2, x3, x4⟩ := X1.out
  refine (ap_in_f 21 1 2 (by omega) (by omega) _).mono ?_
  rintro e w1 ⟨rfl, rfl⟩
  go_wp2_with fail
  refine (ap_in_f 21 3 16 (by omega) (by omega) _).mono ?_
  rintro e w1 ⟨rfl, rfl⟩
  go_wp2
  go_still_tail 13, (by kernel_rfl)
  go_wp2_with (go_at_call 97; refine (KX.out _).mono ?_; rintro e w1 ⟨rfl, rfl⟩)
  go_ret
  exact ⟨rfl, HB1.out.drew⟩
end Go.Proofs.YtpojldocjaieoaaGreatDoor
namespace Go.Proofs.YtpojldocjaieoaaGreatDoor
open Go.ChangeShapes Go.WideShapes Go.RowKit
theorem kid_ws {w : World} {T : TypeId} {k : Fo} {s : Value} {l : List Int} (his : (k.cs T).Is w 0 5 k.len s) (hw : k.ws = l) (hl : 0 < l.length) :
    ∃ b o cap, s = .slice (some ⟨b, o, none⟩) l.length cap ∧ b < w.heap.size ∧ ∀ j x, l[j]? = some x → w.cell? ⟨b, o + j * 5 + 1, none⟩ = some (.int .i64 x) := by
  have hlen := k.ws_len
  rw [hw] at hlen
  rcases Fo.is_cases his with ⟨h, _⟩ | ⟨_, b, o, cap, ys, rfl, _, _, _, hbl, hvs, hr⟩
  · omega
  · refine ⟨b, o, cap, by rw [hlen], hbl, fun j x hx => ?_⟩
    have hj := (List.getElem?_eq_some_iff.1 hx).1
    obtain ⟨v, h1, h2⟩ := width_at hvs hr j (by omega)
    rw [hw, hx] at h1
    cases h1
    exact h2
theorem asc_of {V : List ValueR} (h : VlOk V) : Asc V := by
  unfold Asc
  rw [List.pairwise_iff_getElem]
  have key : ∀ (d i : Nat) (h1 : i < V.length) (h2 : i + d + 1 < V.length), Op.bytesLess V[i].f0.toList V[i + d + 1].f0.toList = true := by
    intro d
    induction d with
    | zero => intro i h1 h2; exact (h.2 (i + 1) V[i + 1] (List.getElem?_eq_getElem h2)).2.2 i V[i] rfl (List.getElem?_eq_getElem h1)
    | succ d ih =>
      intro i h1 h2
      have a := ih i h1 (by omega)
      have b := (h.2 (i + (d + 1) + 1) V[i + (d + 1) + 1] (List.getElem?_eq_getElem h2)).2.2 (i + d + 1) V[i + d + 1] rfl (List.getElem?_eq_getElem (by omega))
      exact less_trans _ _ _ a b
  intro i j hi hj hij
  have := key (j - i - 1) i hi (by omega)
  have e : i + (j - i - 1) + 1 = j := by omega
  simpa only [e] using this
theorem val_cases (V : List ValueR) (nm : ByteArray) (wd : Int) : (isAt V nm = false ∧ valOf V nm wd = none) ∨ (isAt V nm = true ∧ ∃ h : pos V nm < V.length, V[pos V nm].f0 = nm ∧ ((V[pos V nm].f1 = wd ∧ valOf V nm wd = some V[pos V nm].f2) ∨ (V[pos V nm].f1 ≠ wd ∧ valOf V nm wd = none))) := by
  unfold isAt valOf
  by_cases h : pos V nm < V.length
  · rw [List.getElem?_eq_getElem h]
    dsimp only
    by_cases h1 : V[pos V nm].f0 = nm
    · right
      refine ⟨decide_eq_true h1, h, h1, ?_⟩
      by_cases h2 : V[pos V nm].f1 = wd
      · exact .inl ⟨h2, by rw [if_pos ⟨h1, h2⟩]⟩
      · exact .inr ⟨h2, by rw [if_neg (fun hh => h2 hh.2)]⟩
    · exact .inl ⟨decide_eq_false h1, by rw [if_neg (fun hh => h1 hh.1)]⟩
  · rw [List.getElem?_eq_none (by omega)]
    exact .inl ⟨rfl, rfl⟩
theorem evs_split (V : List ValueR) : ∀ (F : Fo) (j : Nat), F.evs V = ((F.take j).evs V).bind fun xs => ((F.drop j).evs V).map (xs ++ ·)
  | .nil, 0 => by simp [Fo.take, Fo.drop, Fo.evs]
  | .nil, _ + 1 => by simp [Fo.take, Fo.drop, Fo.evs]
  | .cons op wd n nm k r, 0 => by simp [Fo.take, Fo.drop, Fo.evs]
  | .cons op wd n nm k r, j + 1 => by
    simp only [Fo.take, Fo.drop, evs_cons]
    rw [evs_split V r j]
    cases evOne V op wd n nm k with
    | none => rfl
    | some x =>
      cases (r.take j).evs V with
      | none => rfl
      | some xs =>
        cases (r.drop j).evs V with
        | none => rfl
        | some ys => simp
theorem evs_next {V : List ValueR} {F : Fo} {j : Nat} {op wd n : Int} {nm : ByteArray} {k : Fo} {xs : List Int} (h : F.At j op wd n nm k) (hx : (F.take j).evs V = some xs) : (∀ x, evOne V op wd n nm k = some x → (F.take (j + 1)).evs V = some (xs ++ [x])) ∧ (evOne V op wd n nm k = none → F.evs V = none) := by
  constructor
  · intro x hx1
    have hl : (F.take j).len = j := Fo.len_take F j (by have := Fo.at_lt F j h; omega)
    rw [Fo.take_at F j h, evs_split V _ j]
    have e1 : ((F.take j).app (.cons op wd n nm k .nil)).take j = F.take j := by
      have : ∀ (A B : Fo), (A.app B).take A.len = A := by
        intro A
        induction A with
        | nil => intro B; cases B <;> rfl
        | cons _ _ _ _ _ r _ ih => intro B; simp only [Fo.app, Fo.len, Fo.take, ih]
      have h2 := this (F.take j) (.cons op wd n nm k .nil)
      rwa [hl] at h2
    have e2 : ((F.take j).app (.cons op wd n nm k .nil)).drop j = .cons op wd n nm k .nil := by
      have : ∀ (A B : Fo), (A.app B).drop A.len = B := by
        intro A
        induction A with
        | nil => intro B; cases B <;> rfl
        | cons _ _ _ _ _ r _ ih => intro B; simp only [Fo.app, Fo.len, Fo.drop, ih]
      have h2 := this (F.take j) (.cons op wd n nm k .nil)
      rwa [hl] at h2
    rw [e1, e2, hx, evs_cons, hx1]
    rfl
  · intro hn
    rw [evs_split V F j, hx, Fo.drop_at F j h, evs_cons, hn]
    rfl
/-- what is returned -/
def evV (r : Option Int) : Value := .tuple #[.int .i64 (r.getD 0), .bool r.isSome]
end Go.Proofs.YtpojldocjaieoaaGreatDoor
