/- The law FnExactCompareTerms, walked by the contracts of all that it calls. -/
import Derived.Test.YtimjkgciakbolaaSz
import Derived.Test.YtimjkgciakbolaaEqT
import Derived.Test.YtimjkgciakbolaaToT
import Derived.Test.YtimjkgciakbolaaCmC
import Derived.Test.YtimjkgciakbolaaReg
import Derived.Deep.RegionWith
namespace Go.Proofs.Ytimjkgciakbolaa
open Go.ChangeShapes Go.WideShapes Go.ChangeAt Go.RowKit
set_option maxRecDepth 100000 in
set_option maxHeartbeats 4000000 in
theorem law_FnExactCompareTerms (k0 : Fo) (op0 wd0 n0 : Int) (nm0 : ByteArray) (s0 : Value) (k1 : Fo) (op1 wd1 n1 : Int) (nm1 : ByteArray) (s1 : Value) (w : World) (hs0 : (k0.cs 24).Is w 0 5 k0.len s0) (hok0 : Fo.OneOk op0 wd0 n0 nm0 k0) (hs1 : (k1.cs 24).Is w 0 5 k1.len s1) (hok1 : Fo.OneOk op1 wd1 n1 nm1 k1) :
    Calls Try.prog 4 #[.agg #[.int .i64 op0, .int .i64 wd0, .int .i64 n0, .string nm0, s0], .agg #[.int .i64 op1, .int .i64 wd1, .int .i64 n1, .string nm1, s1]] w fun e w' => e = .returned (.bool true) ∧ Below w.heap.size w w' := by
  have hml : maxLen = 9223372036854775807 := rfl
  have IS0 := Lib.hid hs0
  have OK0 := Lib.hid hok0
  obtain ⟨_, ⟨_, q0, cap0, rfl, _⟩, _⟩ := hs0
  clear hok0
  have IS1 := Lib.hid hs1
  have OK1 := Lib.hid hok1
  obtain ⟨_, ⟨_, q1, cap1, rfl, _⟩, _⟩ := hs1
  clear hok1
  have SZ0 := Lib.hid (fun W (h : (k0.cs 24).Is W 0 5 k0.len (.slice q0 k0.len cap0)) => sz_one (Fo.every sz_loop k0) op0 wd0 n0 nm0 _ 1048576 W (by omega) h OK0.out)
  by_cases hc0 : (nm0.size + k0.cost) ≤ 1048576
  · obtain ⟨l0, hl0, hm0⟩ : ∃ l : Nat, left 1048576 (nm0.size + k0.cost) = (l : Int) ∧ l + (nm0.size + k0.cost) = 1048576 := ⟨1048576 - (nm0.size + k0.cost), by unfold left; rw [if_pos hc0]; omega, by omega⟩
    rw [hl0] at SZ0
    have hq0 : l0 ≤ 1048576 := by omega
    clear hl0 hm0
    have SZ1 := Lib.hid (fun W (h : (k1.cs 24).Is W 0 5 k1.len (.slice q1 k1.len cap1)) => sz_one (Fo.every sz_loop k1) op1 wd1 n1 nm1 _ l0 W (by omega) h OK1.out)
    by_cases hc1 : (nm1.size + k1.cost) ≤ l0
    · obtain ⟨l1, hl1, hm1⟩ : ∃ l : Nat, left l0 (nm1.size + k1.cost) = (l : Int) ∧ l + (nm1.size + k1.cost) = l0 := ⟨l0 - (nm1.size + k1.cost), by unfold left; rw [if_pos hc1]; omega, by omega⟩
      rw [hl1] at SZ1
      have hq1 : l1 ≤ 1048576 := by omega
      clear hl1 hm1
      have hnn0 := k0.nodes_le
      have hkn0 : k0.nodes ≤ 1048576 := by omega
      have hnm0 : nm0.size ≤ 1048576 := by omega
      have hkc0 : k0.cost ≤ 1048576 := by omega
      clear hnn0
      have hnn1 := k1.nodes_le
      have hkn1 : k1.nodes ≤ 1048576 := by omega
      have hnm1 : nm1.size ≤ 1048576 := by omega
      have hkc1 : k1.cost ≤ 1048576 := by omega
      clear hnn1
      obtain ⟨B, hB⟩ : ∃ B, cmpOne op0 wd0 n0 nm0 k0 op1 wd1 n1 nm1 k1 = B := ⟨_, rfl⟩
      have KS := Lib.hid (fun s s' W h h' => s_cmp_any k0 k1 op0 wd0 n0 op1 wd1 n1 nm0 nm1 s s' W h h' hkc0 hkc1)
      have KI := Lib.hid (fun s s' W h h' => i_cmp k0 k1 op0 wd0 n0 op1 wd1 n1 nm0 nm1 s s' W h h' hkc0 hkc1)
      rw [hB] at KS KI
      clear hB
      clear hc0
      clear hc1
      go_enter Try.func4, Try.ntmps4
      have C0 := Lib.hid (Below.refl w.heap.size w)
      obtain ⟨w1, hW⟩ : ∃ W, W = w.alloc (.cells #[.int .i64 op0, .int .i64 wd0, .int .i64 n0, .string nm0, .slice q0 k0.len cap0] 24) := ⟨_, rfl⟩
      have hb : Below w.heap.size w w1 := by rw [hW]; exact (Below.refl _ _).alloc (Nat.le_refl _) _
      have Ba0 := Lib.hid (show Cell5 w1 w.heap.size (.int .i64 op0) (.int .i64 wd0) (.int .i64 n0) (.string nm0) (.slice q0 k0.len cap0) by rw [hW]; exact cell5_alloc _ _ _ _ _ _ _)
      have HW := Lib.hid hW
      clear hW
      replace C0 := Lib.hid (C0.out.trans (hb.mono C0.out.size))
      clear hb
      have C1 := Lib.hid (Below.refl w1.heap.size w1)
      have hV := HW.out
      clear HW
      obtain ⟨w2, hW⟩ : ∃ W, W = w1.alloc (.cells #[.int .i64 op1, .int .i64 wd1, .int .i64 n1, .string nm1, .slice q1 k1.len cap1] 24) := ⟨_, rfl⟩
      have hb : Below w1.heap.size w1 w2 := by rw [hW]; exact (Below.refl _ _).alloc (Nat.le_refl _) _
      have Ba1 := Lib.hid (show Cell5 w2 w1.heap.size (.int .i64 op1) (.int .i64 wd1) (.int .i64 n1) (.string nm1) (.slice q1 k1.len cap1) by rw [hW]; exact cell5_alloc _ _ _ _ _ _ _)
      have hS : w1.heap.size = w.heap.size + 1 := by rw [hV]; simp
      rw [hS] at Ba1
      rw [hV] at hW
      clear hV hS
      have HW := Lib.hid hW
      clear hW
      replace C0 := Lib.hid (C0.out.trans (hb.mono C0.out.size))
      replace C1 := Lib.hid (C1.out.trans (hb.mono C1.out.size))
      clear hb
      have C2 := Lib.hid (Below.refl w2.heap.size w2)
      go_wp2_with fail
      rw [← HW.out]
      clear HW
      refine (SZ0.out _ (IS0.out.below C0.out)).mono ?_
      rintro e w3 ⟨rfl, hb⟩
      replace C0 := Lib.hid (C0.out.trans (hb.mono C0.out.size))
      replace C1 := Lib.hid (C1.out.trans (hb.mono C1.out.size))
      replace C2 := Lib.hid (C2.out.trans (hb.mono C2.out.size))
      clear hb
      obtain ⟨z0_0, z0_1, z0_2, z0_3, z0_4⟩ := (Ba1.out.below C2.out)
      go_wp2_with fail
      clear z0_0 z0_1 z0_2 z0_3 z0_4
      refine (SZ1.out _ (IS1.out.below C0.out)).mono ?_
      rintro e w4 ⟨rfl, hb⟩
      replace C0 := Lib.hid (C0.out.trans (hb.mono C0.out.size))
      replace C1 := Lib.hid (C1.out.trans (hb.mono C1.out.size))
      replace C2 := Lib.hid (C2.out.trans (hb.mono C2.out.size))
      clear hb
      go_wp2
      replace C0 := Lib.hid C0.out.drew
      replace C1 := Lib.hid C1.out.drew
      replace C2 := Lib.hid C2.out.drew
      have C3 := Lib.hid (Below.refl w4.drew.heap.size w4.drew)
      refine region_s [] (fun V => Below w4.drew.heap.size w4.drew V) (by kernel_rfl) ?_
      refine take_s (i := 0) (v := .agg #[.int .i64 op0, .int .i64 wd0, .int .i64 n0, .string nm0, .slice q0 k0.len cap0]) rfl (by kernel_rfl) (fun _ _ _ h => h) C3.out rfl (fun V hV => ?_) ?_
      · obtain ⟨z0, z1, z2, z3, z4⟩ := (Ba0.out.below C1.out).below hV
        go_simp
      refine take_s (i := 2) (v := .agg #[.int .i64 op1, .int .i64 wd1, .int .i64 n1, .string nm1, .slice q1 k1.len cap1]) rfl (by kernel_rfl) (fun _ _ _ h => h) C3.out rfl (fun V hV => ?_) ?_
      · obtain ⟨z0, z1, z2, z3, z4⟩ := (Ba1.out.below C2.out).below hV
        go_simp
      refine one_s (i := 1) (by kernel_rfl) (op_list rfl ?_)
      go_wp2_with fail
      refine (to_one (Fo.every to_loop k0) op0 wd0 n0 nm0 _ _ (IS0.out.below C0.out) hkn0).mono ?_
      rintro e w5 ⟨gp0, rfl, ⟨bsp0, hh, hd⟩, hb⟩
      have Hp0 := Lib.hid hh
      clear hh
      have Dp0 := Lib.hid hd
      clear hd
      replace C0 := Lib.hid (C0.out.trans (hb.mono C0.out.size))
      replace C1 := Lib.hid (C1.out.trans (hb.mono C1.out.size))
      replace C2 := Lib.hid (C2.out.trans (hb.mono C2.out.size))
      replace C3 := Lib.hid (C3.out.trans (hb.mono C3.out.size))
      clear hb
      have C4 := Lib.hid (Below.refl w5.heap.size w5)
      go_wp2
      refine ⟨fun _ => C3.out, ?_⟩
      refine one_s (i := 3) (by kernel_rfl) (op_list rfl ?_)
      go_wp2_with fail
      refine (to_one (Fo.every to_loop k1) op1 wd1 n1 nm1 _ _ (IS1.out.below C0.out) hkn1).mono ?_
      rintro e w6 ⟨gp1, rfl, ⟨bsp1, hh, hd⟩, hb⟩
      have Hp1 := Lib.hid hh
      clear hh
      have Dp1 := Lib.hid hd
      clear hd
      replace C0 := Lib.hid (C0.out.trans (hb.mono C0.out.size))
      replace C1 := Lib.hid (C1.out.trans (hb.mono C1.out.size))
      replace C2 := Lib.hid (C2.out.trans (hb.mono C2.out.size))
      replace C3 := Lib.hid (C3.out.trans (hb.mono C3.out.size))
      replace C4 := Lib.hid (C4.out.trans (hb.mono C4.out.size))
      clear hb
      have C5 := Lib.hid (Below.refl w6.heap.size w6)
      go_wp2
      refine ⟨fun _ => C3.out, ?_⟩
      refine one_s (i := 4) (by kernel_rfl) (op_list rfl ?_)
      go_wp2_with fail
      refine (KS.out _ _ _ ((Hp0.out.below C4.out).is.down (Nat.zero_le _)) ((Hp1.out.below C5.out).is.down (Nat.zero_le _))).mono ?_
      rintro e w7 ⟨rfl, hb⟩
      replace C0 := Lib.hid (C0.out.trans (hb.mono C0.out.size))
      replace C1 := Lib.hid (C1.out.trans (hb.mono C1.out.size))
      replace C2 := Lib.hid (C2.out.trans (hb.mono C2.out.size))
      replace C3 := Lib.hid (C3.out.trans (hb.mono C3.out.size))
      replace C4 := Lib.hid (C4.out.trans (hb.mono C4.out.size))
      replace C5 := Lib.hid (C5.out.trans (hb.mono C5.out.size))
      clear hb
      go_wp2
      refine ⟨fun _ => C3.out, ?_⟩
      refine one_s (i := 5) (by kernel_rfl) (op_list rfl ?_)
      go_wp2
      refine ⟨fun _ => C3.out, done_s (by kernel_rfl) ?_ _⟩
      clear C3
      clear C4
      clear C5
      obtain ⟨z0_0, z0_1, z0_2, z0_3, z0_4⟩ := (Ba0.out.below C1.out)
      go_wp2_with fail
      clear z0_0 z0_1 z0_2 z0_3 z0_4
      have Zx0C0 := Lib.hid C0.out.size
      have Zx0C1 := Lib.hid C1.out.size
      have Zx0C2 := Lib.hid C2.out.size
      refine (to_one (Fo.every to_loop k0) op0 wd0 n0 nm0 _ _ (IS0.out.below C0.out) hkn0).mono ?_
      rintro e w8 ⟨gx0, rfl, ⟨bsx0, hh, hd⟩, hb⟩
      have Hx0 := Lib.hid hh
      clear hh
      have Dx0 := Lib.hid hd
      clear hd
      replace C0 := Lib.hid (C0.out.trans (hb.mono C0.out.size))
      replace C1 := Lib.hid (C1.out.trans (hb.mono C1.out.size))
      replace C2 := Lib.hid (C2.out.trans (hb.mono C2.out.size))
      clear hb
      have C6 := Lib.hid (Below.refl w8.heap.size w8)
      obtain ⟨yy0, yy1, yy2, yy3, yy4⟩ := (Ba1.out.below C2.out)
      have hyl := World.block_lt_of_cell? _ _ yy0
      obtain ⟨w9, hW⟩ : ∃ W, W = w8.alloc (.cells #[.int .i64 op0, .int .i64 wd0, .int .i64 n0, .string nm0, .slice (some ⟨gx0, 0, none⟩) k0.len k0.len] 28) := ⟨_, rfl⟩
      have hb : Below w8.heap.size w8 w9 := by rw [hW]; exact (Below.refl _ _).alloc (Nat.le_refl _) _
      have Bx0 := Lib.hid (show Cell5 w9 w8.heap.size (.int .i64 op0) (.int .i64 wd0) (.int .i64 n0) (.string nm0) (.slice (some ⟨gx0, 0, none⟩) k0.len k0.len) by rw [hW]; exact cell5_alloc _ _ _ _ _ _ _)
      have HW := Lib.hid hW
      clear hW
      replace C0 := Lib.hid (C0.out.trans (hb.mono C0.out.size))
      replace C1 := Lib.hid (C1.out.trans (hb.mono C1.out.size))
      replace C2 := Lib.hid (C2.out.trans (hb.mono C2.out.size))
      replace C6 := Lib.hid (C6.out.trans (hb.mono C6.out.size))
      clear hb
      have C7 := Lib.hid (Below.refl w9.heap.size w9)
      go_wp2_with fail
      rw [← HW.out]
      clear HW
      clear yy0 yy1 yy2 yy3 yy4 hyl
      have Zx1C0 := Lib.hid C0.out.size
      have Zx1C1 := Lib.hid C1.out.size
      have Zx1C2 := Lib.hid C2.out.size
      have Qx0x1 := Lib.hid C6.out.size
      refine (to_one (Fo.every to_loop k1) op1 wd1 n1 nm1 _ _ (IS1.out.below C0.out) hkn1).mono ?_
      rintro e w10 ⟨gx1, rfl, ⟨bsx1, hh, hd⟩, hb⟩
      have Hx1 := Lib.hid hh
      clear hh
      have Dx1 := Lib.hid hd
      clear hd
      replace C0 := Lib.hid (C0.out.trans (hb.mono C0.out.size))
      replace C1 := Lib.hid (C1.out.trans (hb.mono C1.out.size))
      replace C2 := Lib.hid (C2.out.trans (hb.mono C2.out.size))
      replace C6 := Lib.hid (C6.out.trans (hb.mono C6.out.size))
      replace C7 := Lib.hid (C7.out.trans (hb.mono C7.out.size))
      clear hb
      have C8 := Lib.hid (Below.refl w10.heap.size w10)
      obtain ⟨yy0_0, yy0_1, yy0_2, yy0_3, yy0_4⟩ := (Bx0.out.below C7.out)
      have hyl0 := World.block_lt_of_cell? _ _ yy0_0
      obtain ⟨w11, hW⟩ : ∃ W, W = w10.alloc (.cells #[.int .i64 op1, .int .i64 wd1, .int .i64 n1, .string nm1, .slice (some ⟨gx1, 0, none⟩) k1.len k1.len] 28) := ⟨_, rfl⟩
      have hb : Below w10.heap.size w10 w11 := by rw [hW]; exact (Below.refl _ _).alloc (Nat.le_refl _) _
      have Bx1 := Lib.hid (show Cell5 w11 w10.heap.size (.int .i64 op1) (.int .i64 wd1) (.int .i64 n1) (.string nm1) (.slice (some ⟨gx1, 0, none⟩) k1.len k1.len) by rw [hW]; exact cell5_alloc _ _ _ _ _ _ _)
      have HW := Lib.hid hW
      clear hW
      replace C0 := Lib.hid (C0.out.trans (hb.mono C0.out.size))
      replace C1 := Lib.hid (C1.out.trans (hb.mono C1.out.size))
      replace C2 := Lib.hid (C2.out.trans (hb.mono C2.out.size))
      replace C6 := Lib.hid (C6.out.trans (hb.mono C6.out.size))
      replace C7 := Lib.hid (C7.out.trans (hb.mono C7.out.size))
      replace C8 := Lib.hid (C8.out.trans (hb.mono C8.out.size))
      clear hb
      have C9 := Lib.hid (Below.refl w11.heap.size w11)
      go_wp2_with fail
      rw [← HW.out]
      clear HW
      clear yy0_0 yy0_1 yy0_2 yy0_3 yy0_4 hyl0
      refine (KI.out _ _ _ ((Hx0.out.below C6.out).is.down (Nat.zero_le _)) ((Hx1.out.below C8.out).is.down (Nat.zero_le _))).mono ?_
      rintro e w12 ⟨rfl, hb⟩
      replace C0 := Lib.hid (C0.out.trans (hb.mono C0.out.size))
      replace C1 := Lib.hid (C1.out.trans (hb.mono C1.out.size))
      replace C2 := Lib.hid (C2.out.trans (hb.mono C2.out.size))
      replace C6 := Lib.hid (C6.out.trans (hb.mono C6.out.size))
      replace C7 := Lib.hid (C7.out.trans (hb.mono C7.out.size))
      replace C8 := Lib.hid (C8.out.trans (hb.mono C8.out.size))
      replace C9 := Lib.hid (C9.out.trans (hb.mono C9.out.size))
      clear hb
      obtain ⟨z0_0, z0_1, z0_2, z0_3, z0_4⟩ := (Ba0.out.below C1.out)
      obtain ⟨z1_0, z1_1, z1_2, z1_3, z1_4⟩ := (Bx0.out.below C7.out)
      go_wp2
      go_region_with (first | (go_at_call 10; replace C0 := Lib.hid C0.out.drew; replace C1 := Lib.hid C1.out.drew; replace C2 := Lib.hid C2.out.drew; replace C6 := Lib.hid C6.out.drew; replace C7 := Lib.hid C7.out.drew; replace C8 := Lib.hid C8.out.drew; replace C9 := Lib.hid C9.out.drew; refine (to_one (Fo.every to_loop k0) op0 wd0 n0 nm0 _ _ (IS0.out.below C0.out) hkn0).mono ?_; rintro e w13 ⟨ge0, rfl, ⟨bse0, hh, hd⟩, hb⟩; replace C0 := Lib.hid (C0.out.trans (hb.mono C0.out.size)); replace C1 := Lib.hid (C1.out.trans (hb.mono C1.out.size)); replace C2 := Lib.hid (C2.out.trans (hb.mono C2.out.size)); replace C6 := Lib.hid (C6.out.trans (hb.mono C6.out.size)); replace C7 := Lib.hid (C7.out.trans (hb.mono C7.out.size)); replace C8 := Lib.hid (C8.out.trans (hb.mono C8.out.size)); replace C9 := Lib.hid (C9.out.trans (hb.mono C9.out.size)); have HR := Lib.hid (hh.is.down (Nat.zero_le _)); obtain ⟨z1_0, z1_1, z1_2, z1_3, z1_4⟩ := (Bx0.out.below C7.out); clear hh hd hb) | (go_at_call 12; refine (eq_one (Fo.every eq_loop k0) op0 wd0 n0 nm0 _ _ _ ((Hx0.out.below C6.out).is.down (Nat.zero_le _)) HR.out (by omega)).mono ?_; rintro e w14 ⟨rfl, hb⟩; replace C0 := Lib.hid (C0.out.trans (hb.mono C0.out.size)); replace C1 := Lib.hid (C1.out.trans (hb.mono C1.out.size)); replace C2 := Lib.hid (C2.out.trans (hb.mono C2.out.size)); replace C6 := Lib.hid (C6.out.trans (hb.mono C6.out.size)); replace C7 := Lib.hid (C7.out.trans (hb.mono C7.out.size)); replace C8 := Lib.hid (C8.out.trans (hb.mono C8.out.size)); replace C9 := Lib.hid (C9.out.trans (hb.mono C9.out.size)); clear hb HR))
      all_goals
        clear z0_0 z0_1 z0_2 z0_3 z0_4 z1_0 z1_1 z1_2 z1_3 z1_4
        obtain ⟨z0_0, z0_1, z0_2, z0_3, z0_4⟩ := (Ba1.out.below C2.out)
        obtain ⟨z1_0, z1_1, z1_2, z1_3, z1_4⟩ := (Bx1.out.below C9.out)
        go_wp2
        go_region_with (first | (go_at_call 10; replace C0 := Lib.hid C0.out.drew; replace C1 := Lib.hid C1.out.drew; replace C2 := Lib.hid C2.out.drew; replace C6 := Lib.hid C6.out.drew; replace C7 := Lib.hid C7.out.drew; replace C8 := Lib.hid C8.out.drew; replace C9 := Lib.hid C9.out.drew; refine (to_one (Fo.every to_loop k1) op1 wd1 n1 nm1 _ _ (IS1.out.below C0.out) hkn1).mono ?_; rintro e w15 ⟨ge1, rfl, ⟨bse1, hh, hd⟩, hb⟩; replace C0 := Lib.hid (C0.out.trans (hb.mono C0.out.size)); replace C1 := Lib.hid (C1.out.trans (hb.mono C1.out.size)); replace C2 := Lib.hid (C2.out.trans (hb.mono C2.out.size)); replace C6 := Lib.hid (C6.out.trans (hb.mono C6.out.size)); replace C7 := Lib.hid (C7.out.trans (hb.mono C7.out.size)); replace C8 := Lib.hid (C8.out.trans (hb.mono C8.out.size)); replace C9 := Lib.hid (C9.out.trans (hb.mono C9.out.size)); have HR := Lib.hid (hh.is.down (Nat.zero_le _)); obtain ⟨z1_0, z1_1, z1_2, z1_3, z1_4⟩ := (Bx1.out.below C9.out); clear hh hd hb) | (go_at_call 12; refine (eq_one (Fo.every eq_loop k1) op1 wd1 n1 nm1 _ _ _ ((Hx1.out.below C8.out).is.down (Nat.zero_le _)) HR.out (by omega)).mono ?_; rintro e w16 ⟨rfl, hb⟩; replace C0 := Lib.hid (C0.out.trans (hb.mono C0.out.size)); replace C1 := Lib.hid (C1.out.trans (hb.mono C1.out.size)); replace C2 := Lib.hid (C2.out.trans (hb.mono C2.out.size)); replace C6 := Lib.hid (C6.out.trans (hb.mono C6.out.size)); replace C7 := Lib.hid (C7.out.trans (hb.mono C7.out.size)); replace C8 := Lib.hid (C8.out.trans (hb.mono C8.out.size)); replace C9 := Lib.hid (C9.out.trans (hb.mono C9.out.size)); clear hb HR))
        all_goals
          clear z0_0 z0_1 z0_2 z0_3 z0_4 z1_0 z1_1 z1_2 z1_3 z1_4
          go_wp2
          go_ret
          exact ⟨rfl, C0.out⟩
    · have hl : left l0 (nm1.size + k1.cost) = -1 := by unfold left; rw [if_neg hc1]
      rw [hl] at SZ1
      clear hl hc1
      go_enter Try.func4, Try.ntmps4
      have C0 := Lib.hid (Below.refl w.heap.size w)
      obtain ⟨w1, hW⟩ : ∃ W, W = w.alloc (.cells #[.int .i64 op0, .int .i64 wd0, .int .i64 n0, .string nm0, .slice q0 k0.len cap0] 24) := ⟨_, rfl⟩
      have hb : Below w.heap.size w w1 := by rw [hW]; exact (Below.refl _ _).alloc (Nat.le_refl _) _
      have Ba0 := Lib.hid (show Cell5 w1 w.heap.size (.int .i64 op0) (.int .i64 wd0) (.int .i64 n0) (.string nm0) (.slice q0 k0.len cap0) by rw [hW]; exact cell5_alloc _ _ _ _ _ _ _)
      have HW := Lib.hid hW
      clear hW
      replace C0 := Lib.hid (C0.out.trans (hb.mono C0.out.size))
      clear hb
      have C1 := Lib.hid (Below.refl w1.heap.size w1)
      have hV := HW.out
      clear HW
      obtain ⟨w2, hW⟩ : ∃ W, W = w1.alloc (.cells #[.int .i64 op1, .int .i64 wd1, .int .i64 n1, .string nm1, .slice q1 k1.len cap1] 24) := ⟨_, rfl⟩
      have hb : Below w1.heap.size w1 w2 := by rw [hW]; exact (Below.refl _ _).alloc (Nat.le_refl _) _
      have Ba1 := Lib.hid (show Cell5 w2 w1.heap.size (.int .i64 op1) (.int .i64 wd1) (.int .i64 n1) (.string nm1) (.slice q1 k1.len cap1) by rw [hW]; exact cell5_alloc _ _ _ _ _ _ _)
      have hS : w1.heap.size = w.heap.size + 1 := by rw [hV]; simp
      rw [hS] at Ba1
      rw [hV] at hW
      clear hV hS
      have HW := Lib.hid hW
      clear hW
      replace C0 := Lib.hid (C0.out.trans (hb.mono C0.out.size))
      replace C1 := Lib.hid (C1.out.trans (hb.mono C1.out.size))
      clear hb
      have C2 := Lib.hid (Below.refl w2.heap.size w2)
      go_wp2_with fail
      rw [← HW.out]
      clear HW
      refine (SZ0.out _ (IS0.out.below C0.out)).mono ?_
      rintro e w3 ⟨rfl, hb⟩
      replace C0 := Lib.hid (C0.out.trans (hb.mono C0.out.size))
      replace C1 := Lib.hid (C1.out.trans (hb.mono C1.out.size))
      replace C2 := Lib.hid (C2.out.trans (hb.mono C2.out.size))
      clear hb
      obtain ⟨z0_0, z0_1, z0_2, z0_3, z0_4⟩ := (Ba1.out.below C2.out)
      go_wp2_with fail
      clear z0_0 z0_1 z0_2 z0_3 z0_4
      refine (SZ1.out _ (IS1.out.below C0.out)).mono ?_
      rintro e w4 ⟨rfl, hb⟩
      replace C0 := Lib.hid (C0.out.trans (hb.mono C0.out.size))
      replace C1 := Lib.hid (C1.out.trans (hb.mono C1.out.size))
      replace C2 := Lib.hid (C2.out.trans (hb.mono C2.out.size))
      clear hb
      go_wp2
      go_ret
      exact ⟨rfl, C0.out⟩
  · have hl : left 1048576 (nm0.size + k0.cost) = -1 := by unfold left; rw [if_neg hc0]
    rw [hl] at SZ0
    clear hl hc0
    go_enter Try.func4, Try.ntmps4
    have C0 := Lib.hid (Below.refl w.heap.size w)
    obtain ⟨w1, hW⟩ : ∃ W, W = w.alloc (.cells #[.int .i64 op0, .int .i64 wd0, .int .i64 n0, .string nm0, .slice q0 k0.len cap0] 24) := ⟨_, rfl⟩
    have hb : Below w.heap.size w w1 := by rw [hW]; exact (Below.refl _ _).alloc (Nat.le_refl _) _
    have Ba0 := Lib.hid (show Cell5 w1 w.heap.size (.int .i64 op0) (.int .i64 wd0) (.int .i64 n0) (.string nm0) (.slice q0 k0.len cap0) by rw [hW]; exact cell5_alloc _ _ _ _ _ _ _)
    have HW := Lib.hid hW
    clear hW
    replace C0 := Lib.hid (C0.out.trans (hb.mono C0.out.size))
    clear hb
    have C1 := Lib.hid (Below.refl w1.heap.size w1)
    have hV := HW.out
    clear HW
    obtain ⟨w2, hW⟩ : ∃ W, W = w1.alloc (.cells #[.int .i64 op1, .int .i64 wd1, .int .i64 n1, .string nm1, .slice q1 k1.len cap1] 24) := ⟨_, rfl⟩
    have hb : Below w1.heap.size w1 w2 := by rw [hW]; exact (Below.refl _ _).alloc (Nat.le_refl _) _
    have Ba1 := Lib.hid (show Cell5 w2 w1.heap.size (.int .i64 op1) (.int .i64 wd1) (.int .i64 n1) (.string nm1) (.slice q1 k1.len cap1) by rw [hW]; exact cell5_alloc _ _ _ _ _ _ _)
    have hS : w1.heap.size = w.heap.size + 1 := by rw [hV]; simp
    rw [hS] at Ba1
    rw [hV] at hW
    clear hV hS
    have HW := Lib.hid hW
    clear hW
    replace C0 := Lib.hid (C0.out.trans (hb.mono C0.out.size))
    replace C1 := Lib.hid (C1.out.trans (hb.mono C1.out.size))
    clear hb
    have C2 := Lib.hid (Below.refl w2.heap.size w2)
    go_wp2_with fail
    rw [← HW.out]
    clear HW
    refine (SZ0.out _ (IS0.out.below C0.out)).mono ?_
    rintro e w3 ⟨rfl, hb⟩
    replace C0 := Lib.hid (C0.out.trans (hb.mono C0.out.size))
    replace C1 := Lib.hid (C1.out.trans (hb.mono C1.out.size))
    replace C2 := Lib.hid (C2.out.trans (hb.mono C2.out.size))
    clear hb
    go_wp2
    go_ret
    exact ⟨rfl, C0.out⟩
end Go.Proofs.Ytimjkgciakbolaa
