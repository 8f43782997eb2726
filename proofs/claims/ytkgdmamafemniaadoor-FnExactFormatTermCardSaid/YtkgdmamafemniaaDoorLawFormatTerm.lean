/- The law FnExactFormatTerm, walked by the contracts of all that it calls. -/
import Derived.Test.YtkgdmamafemniaaDoorSz
import Derived.Test.YtkgdmamafemniaaDoorEqT
import Derived.Test.YtkgdmamafemniaaDoorToT
import Derived.Test.YtkgdmamafemniaaDoorFtI
import Derived.Deep.RegionWith
namespace Go.Proofs.YtkgdmamafemniaaDoor
open Go.ChangeShapes Go.WideShapes Go.ChangeAt Go.RowKit
set_option maxRecDepth 100000 in
set_option maxHeartbeats 4000000 in
theorem law_FnExactFormatTerm (k0 : Fo) (op0 wd0 n0 : Int) (nm0 : ByteArray) (s0 : Value) (w : World) (hs0 : (k0.cs 24).Is w 0 5 k0.len s0) (hok0 : Fo.OneOk op0 wd0 n0 nm0 k0) (hT : TV w) :
    Calls Tryd.prog 3 #[.agg #[.int .i64 op0, .int .i64 wd0, .int .i64 n0, .string nm0, s0]] w fun e w' => e = .returned (.bool true) ∧ Below w.heap.size w w' := by
  have hml : maxLen = 9223372036854775807 := rfl
  have IS0 := Lib.hid hs0
  have OK0 := Lib.hid hok0
  obtain ⟨_, ⟨_, q0, cap0, rfl, _⟩, _⟩ := hs0
  clear hok0
  have SZ0 := Lib.hid (fun W (h : (k0.cs 24).Is W 0 5 k0.len (.slice q0 k0.len cap0)) => sz_one (Fo.every sz_loop k0) op0 wd0 n0 nm0 _ 1048576 W (by omega) h OK0.out)
  by_cases hc0 : (nm0.size + k0.cost) ≤ 1048576
  · obtain ⟨l0, hl0, hm0⟩ : ∃ l : Nat, left 1048576 (nm0.size + k0.cost) = (l : Int) ∧ l + (nm0.size + k0.cost) = 1048576 := ⟨1048576 - (nm0.size + k0.cost), by unfold left; rw [if_pos hc0]; omega, by omega⟩
    rw [hl0] at SZ0
    have hq0 : l0 ≤ 1048576 := by omega
    clear hl0 hm0
    have hnn0 := k0.nodes_le
    have hkn0 : k0.nodes ≤ 1048576 := by omega
    have hnm0 : nm0.size ≤ 1048576 := by omega
    have hkc0 : k0.cost ≤ 1048576 := by omega
    clear hnn0
    obtain ⟨B, hB⟩ : ∃ B, ftV op0 wd0 n0 nm0 k0 = B := ⟨_, rfl⟩
    have KS := Lib.hid (fun s W h => s_fterm k0 op0 wd0 n0 nm0 s W h OK0.out hc0)
    have KI := Lib.hid (fun s W h (hb : Below w.heap.size w W) => i_fterm k0 op0 wd0 n0 nm0 s W h OK0.out hc0 (hT.below hb))
    rw [hB] at KS KI
    clear hB hT
    clear hc0
    go_enter Tryd.func3, Tryd.ntmps3
    have C0 := Lib.hid (Below.refl w.heap.size w)
    obtain ⟨w1, hW⟩ : ∃ W, W = w.alloc (.cells #[.int .i64 op0, .int .i64 wd0, .int .i64 n0, .string nm0, .slice q0 k0.len cap0] 24) := ⟨_, rfl⟩
    have hb : Below w.heap.size w w1 := by rw [hW]; exact (Below.refl _ _).alloc (Nat.le_refl _) _
    have Ba0 := Lib.hid (show Cell5 w1 w.heap.size (.int .i64 op0) (.int .i64 wd0) (.int .i64 n0) (.string nm0) (.slice q0 k0.len cap0) by rw [hW]; exact cell5_alloc _ _ _ _ _ _ _)
    have HW := Lib.hid hW
    clear hW
    replace C0 := Lib.hid (C0.out.trans (hb.mono C0.out.size))
    clear hb
    have C1 := Lib.hid (Below.refl w1.heap.size w1)
    go_wp2_with fail
    rw [← HW.out]
    clear HW
    refine (SZ0.out _ (IS0.out.below C0.out)).mono ?_
    rintro e w2 ⟨rfl, hb⟩
    replace C0 := Lib.hid (C0.out.trans (hb.mono C0.out.size))
    replace C1 := Lib.hid (C1.out.trans (hb.mono C1.out.size))
    clear hb
    obtain ⟨z0_0, z0_1, z0_2, z0_3, z0_4⟩ := (Ba0.out.below C1.out)
    go_wp2_with fail
    clear z0_0 z0_1 z0_2 z0_3 z0_4
    refine (to_one (Fo.every to_loop k0) op0 wd0 n0 nm0 _ _ (IS0.out.below C0.out) hkn0).mono ?_
    rintro e w3 ⟨gp0, rfl, ⟨bsp0, hh, hd⟩, hb⟩
    have Hp0 := Lib.hid hh
    clear hh
    have Dp0 := Lib.hid hd
    clear hd
    replace C0 := Lib.hid (C0.out.trans (hb.mono C0.out.size))
    replace C1 := Lib.hid (C1.out.trans (hb.mono C1.out.size))
    clear hb
    have C2 := Lib.hid (Below.refl w3.heap.size w3)
    go_wp2_with fail
    refine (KS.out _ _ ((Hp0.out.below C2.out).is.down (Nat.zero_le _))).mono ?_
    rintro e w4 ⟨rfl, hb⟩
    replace C0 := Lib.hid (C0.out.trans (hb.mono C0.out.size))
    replace C1 := Lib.hid (C1.out.trans (hb.mono C1.out.size))
    replace C2 := Lib.hid (C2.out.trans (hb.mono C2.out.size))
    clear hb
    clear C2
    obtain ⟨z0_0, z0_1, z0_2, z0_3, z0_4⟩ := (Ba0.out.below C1.out)
    go_wp2_with fail
    clear z0_0 z0_1 z0_2 z0_3 z0_4
    have Zx0C0 := Lib.hid C0.out.size
    have Zx0C1 := Lib.hid C1.out.size
    refine (to_one (Fo.every to_loop k0) op0 wd0 n0 nm0 _ _ (IS0.out.below C0.out) hkn0).mono ?_
    rintro e w5 ⟨gx0, rfl, ⟨bsx0, hh, hd⟩, hb⟩
    have Hx0 := Lib.hid hh
    clear hh
    have Dx0 := Lib.hid hd
    clear hd
    replace C0 := Lib.hid (C0.out.trans (hb.mono C0.out.size))
    replace C1 := Lib.hid (C1.out.trans (hb.mono C1.out.size))
    clear hb
    have C3 := Lib.hid (Below.refl w5.heap.size w5)
    obtain ⟨w6, hW⟩ : ∃ W, W = w5.alloc (.cells #[.int .i64 op0, .int .i64 wd0, .int .i64 n0, .string nm0, .slice (some ⟨gx0, 0, none⟩) k0.len k0.len] 29) := ⟨_, rfl⟩
    have hb : Below w5.heap.size w5 w6 := by rw [hW]; exact (Below.refl _ _).alloc (Nat.le_refl _) _
    have Bx0 := Lib.hid (show Cell5 w6 w5.heap.size (.int .i64 op0) (.int .i64 wd0) (.int .i64 n0) (.string nm0) (.slice (some ⟨gx0, 0, none⟩) k0.len k0.len) by rw [hW]; exact cell5_alloc _ _ _ _ _ _ _)
    have HW := Lib.hid hW
    clear hW
    replace C0 := Lib.hid (C0.out.trans (hb.mono C0.out.size))
    replace C1 := Lib.hid (C1.out.trans (hb.mono C1.out.size))
    replace C3 := Lib.hid (C3.out.trans (hb.mono C3.out.size))
    clear hb
    have C4 := Lib.hid (Below.refl w6.heap.size w6)
    obtain ⟨z0_0, z0_1, z0_2, z0_3, z0_4⟩ := (Bx0.out.below C4.out)
    go_wp2_with fail
    rw [← HW.out]
    clear HW
    clear z0_0 z0_1 z0_2 z0_3 z0_4
    refine (KI.out _ _ ((Hx0.out.below C3.out).is.down (Nat.zero_le _)) C0.out).mono ?_
    rintro e w7 ⟨rfl, hb⟩
    replace C0 := Lib.hid (C0.out.trans (hb.mono C0.out.size))
    replace C1 := Lib.hid (C1.out.trans (hb.mono C1.out.size))
    replace C3 := Lib.hid (C3.out.trans (hb.mono C3.out.size))
    replace C4 := Lib.hid (C4.out.trans (hb.mono C4.out.size))
    clear hb
    obtain ⟨z0_0, z0_1, z0_2, z0_3, z0_4⟩ := (Ba0.out.below C1.out)
    obtain ⟨z1_0, z1_1, z1_2, z1_3, z1_4⟩ := (Bx0.out.below C4.out)
    go_wp2
    go_region_with (first | (go_at_call 7; replace C0 := Lib.hid C0.out.drew; replace C1 := Lib.hid C1.out.drew; replace C3 := Lib.hid C3.out.drew; replace C4 := Lib.hid C4.out.drew; refine (to_one (Fo.every to_loop k0) op0 wd0 n0 nm0 _ _ (IS0.out.below C0.out) hkn0).mono ?_; rintro e w8 ⟨ge0, rfl, ⟨bse0, hh, hd⟩, hb⟩; replace C0 := Lib.hid (C0.out.trans (hb.mono C0.out.size)); replace C1 := Lib.hid (C1.out.trans (hb.mono C1.out.size)); replace C3 := Lib.hid (C3.out.trans (hb.mono C3.out.size)); replace C4 := Lib.hid (C4.out.trans (hb.mono C4.out.size)); have HR := Lib.hid (hh.is.down (Nat.zero_le _)); obtain ⟨z1_0, z1_1, z1_2, z1_3, z1_4⟩ := (Bx0.out.below C4.out); clear hh hd hb) | (go_at_call 9; refine (eq_one (Fo.every eq_loop k0) op0 wd0 n0 nm0 _ _ _ ((Hx0.out.below C3.out).is.down (Nat.zero_le _)) HR.out (by omega)).mono ?_; rintro e w9 ⟨rfl, hb⟩; replace C0 := Lib.hid (C0.out.trans (hb.mono C0.out.size)); replace C1 := Lib.hid (C1.out.trans (hb.mono C1.out.size)); replace C3 := Lib.hid (C3.out.trans (hb.mono C3.out.size)); replace C4 := Lib.hid (C4.out.trans (hb.mono C4.out.size)); clear hb HR))
    all_goals
      clear z0_0 z0_1 z0_2 z0_3 z0_4 z1_0 z1_1 z1_2 z1_3 z1_4
      go_wp2
      go_ret
      exact ⟨rfl, C0.out⟩
  · have hl : left 1048576 (nm0.size + k0.cost) = -1 := by unfold left; rw [if_neg hc0]
    rw [hl] at SZ0
    clear hl hc0
    go_enter Tryd.func3, Tryd.ntmps3
    have C0 := Lib.hid (Below.refl w.heap.size w)
    obtain ⟨w1, hW⟩ : ∃ W, W = w.alloc (.cells #[.int .i64 op0, .int .i64 wd0, .int .i64 n0, .string nm0, .slice q0 k0.len cap0] 24) := ⟨_, rfl⟩
    have hb : Below w.heap.size w w1 := by rw [hW]; exact (Below.refl _ _).alloc (Nat.le_refl _) _
    have Ba0 := Lib.hid (show Cell5 w1 w.heap.size (.int .i64 op0) (.int .i64 wd0) (.int .i64 n0) (.string nm0) (.slice q0 k0.len cap0) by rw [hW]; exact cell5_alloc _ _ _ _ _ _ _)
    have HW := Lib.hid hW
    clear hW
    replace C0 := Lib.hid (C0.out.trans (hb.mono C0.out.size))
    clear hb
    have C1 := Lib.hid (Below.refl w1.heap.size w1)
    go_wp2_with fail
    rw [← HW.out]
    clear HW
    refine (SZ0.out _ (IS0.out.below C0.out)).mono ?_
    rintro e w2 ⟨rfl, hb⟩
    replace C0 := Lib.hid (C0.out.trans (hb.mono C0.out.size))
    replace C1 := Lib.hid (C1.out.trans (hb.mono C1.out.size))
    clear hb
    go_wp2
    go_ret
    exact ⟨rfl, C0.out⟩
end Go.Proofs.YtkgdmamafemniaaDoor
