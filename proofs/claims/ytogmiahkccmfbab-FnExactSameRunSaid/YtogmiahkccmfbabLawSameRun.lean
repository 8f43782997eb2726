/- The law FnExactSameRun, walked by the contracts of all that it calls. -/
import Derived.Test.YtogmiahkccmfbabState
import Derived.Test.YtogmiahkccmfbabSrS
import Derived.Test.YtogmiahkccmfbabSrI
import Derived.Test.YtogmiahkccmfbabReg
import Derived.Deep.RegionWith
namespace Go.Proofs.Ytogmiahkccmfbab
open Go.ChangeShapes Go.WideShapes Go.ChangeAt Go.RowKit
set_option maxRecDepth 100000 in
set_option maxHeartbeats 4000000 in
theorem law_FnExactSameRun (x0 : StR) (r0 m0 s0 o0 : Value) (x1 : StR) (r1 m1 s1 o1 : Value) (w : World) (hs0 : StS w 0 x0 r0 m0 s0 o0) (hok0 : x0.Ok) (hl0 : x0.Long) (hs1 : StS w 0 x1 r1 m1 s1 o1) (hok1 : x1.Ok) (hl1 : x1.Long) :
    Calls Try.prog 5 #[.agg #[.int .i64 x0.pc, r0, m0, s0, .int .i64 x0.inn, o0, .int .i64 x0.cd, .int .i64 x0.st], .agg #[.int .i64 x1.pc, r1, m1, s1, .int .i64 x1.inn, o1, .int .i64 x1.cd, .int .i64 x1.st]] w fun e w' => e = .returned (.bool true) ∧ Below w.heap.size w w' := by
  have hml : maxLen = 9223372036854775807 := rfl
  have IS0 := Lib.hid hs0
  have OK0 := Lib.hid hok0
  have LE0 := Lib.hid hl0
  obtain ⟨⟨_, qr0, cr0, rfl, _⟩, ⟨_, qm0, cm0, rfl, _⟩, ⟨_, qs0, cs0, rfl, _⟩, ⟨_, qo0, co0, rfl, _⟩⟩ := hs0
  clear hok0 hl0
  have IS1 := Lib.hid hs1
  have OK1 := Lib.hid hok1
  have LE1 := Lib.hid hl1
  obtain ⟨⟨_, qr1, cr1, rfl, _⟩, ⟨_, qm1, cm1, rfl, _⟩, ⟨_, qs1, cs1, rfl, _⟩, ⟨_, qo1, co1, rfl, _⟩⟩ := hs1
  clear hok1 hl1
  have SZ0 := Lib.hid (fun W (h : StS W 0 x0 (.slice qr0 x0.R.length cr0) (.slice qm0 x0.M.length cm0) (.slice qs0 x0.S.length cs0) (.slice qo0 x0.O.length co0)) => sz_State x0 _ _ _ _ 1048576 W (by omega) h LE0.out)
  by_cases hc0 : x0.cost ≤ 1048576
  · obtain ⟨l0, hl0, hm0⟩ : ∃ l : Nat, left 1048576 x0.cost = (l : Int) ∧ l + x0.cost = 1048576 := ⟨1048576 - x0.cost, by unfold left; rw [if_pos hc0]; omega, by omega⟩
    rw [hl0] at SZ0
    have hq0 : l0 ≤ 1048576 := by omega
    clear hl0 hm0
    have SZ1 := Lib.hid (fun W (h : StS W 0 x1 (.slice qr1 x1.R.length cr1) (.slice qm1 x1.M.length cm1) (.slice qs1 x1.S.length cs1) (.slice qo1 x1.O.length co1)) => sz_State x1 _ _ _ _ l0 W (by omega) h LE1.out)
    by_cases hc1 : x1.cost ≤ l0
    · obtain ⟨l1, hl1, hm1⟩ : ∃ l : Nat, left l0 x1.cost = (l : Int) ∧ l + x1.cost = l0 := ⟨l0 - x1.cost, by unfold left; rw [if_pos hc1]; omega, by omega⟩
      rw [hl1] at SZ1
      have hq1 : l1 ≤ 1048576 := by omega
      clear hl1 hm1
      have hxx0 : x0.cost = x0.R.length + x0.M.length + x0.S.length + x0.O.length := rfl
      have hcc0 : x0.cost ≤ 1048576 := by omega
      have hxx1 : x1.cost = x1.R.length + x1.M.length + x1.S.length + x1.O.length := rfl
      have hcc1 : x1.cost ≤ 1048576 := by omega
      obtain ⟨B, hB⟩ : ∃ B, srB x0 x1 = B := ⟨_, rfl⟩
      have KS := Lib.hid (fun r m st o r' m' st' o' W h h' => s_same x0 x1 r m st o r' m' st' o' W h h' OK0.out LE0.out OK1.out LE1.out)
      have KI := Lib.hid (fun r m st o r' m' st' o' W h h' => i_same x0 x1 r m st o r' m' st' o' W h h' OK0.out LE0.out OK1.out LE1.out)
      rw [hB] at KS KI
      clear hB
      clear hc0
      clear hc1
      go_enter Try.func5, Try.ntmps5
      have C0 := Lib.hid (Below.refl w.heap.size w)
      obtain ⟨w1, hW⟩ : ∃ W, W = w.alloc (.cells #[.int .i64 x0.pc, .slice qr0 x0.R.length cr0, .slice qm0 x0.M.length cm0, .slice qs0 x0.S.length cs0, .int .i64 x0.inn, .slice qo0 x0.O.length co0, .int .i64 x0.cd, .int .i64 x0.st] 43) := ⟨_, rfl⟩
      have hb : Below w.heap.size w w1 := by rw [hW]; exact (Below.refl _ _).alloc (Nat.le_refl _) _
      have Ba0 := Lib.hid (show Cell8 w1 w.heap.size (.int .i64 x0.pc) (.slice qr0 x0.R.length cr0) (.slice qm0 x0.M.length cm0) (.slice qs0 x0.S.length cs0) (.int .i64 x0.inn) (.slice qo0 x0.O.length co0) (.int .i64 x0.cd) (.int .i64 x0.st) by rw [hW]; exact cell8_alloc _ _ _ _ _ _ _ _ _ _)
      have HW := Lib.hid hW
      clear hW
      replace C0 := Lib.hid (C0.out.trans (hb.mono C0.out.size))
      clear hb
      have C1 := Lib.hid (Below.refl w1.heap.size w1)
      have hV := HW.out
      clear HW
      obtain ⟨w2, hW⟩ : ∃ W, W = w1.alloc (.cells #[.int .i64 x1.pc, .slice qr1 x1.R.length cr1, .slice qm1 x1.M.length cm1, .slice qs1 x1.S.length cs1, .int .i64 x1.inn, .slice qo1 x1.O.length co1, .int .i64 x1.cd, .int .i64 x1.st] 43) := ⟨_, rfl⟩
      have hb : Below w1.heap.size w1 w2 := by rw [hW]; exact (Below.refl _ _).alloc (Nat.le_refl _) _
      have Ba1 := Lib.hid (show Cell8 w2 w1.heap.size (.int .i64 x1.pc) (.slice qr1 x1.R.length cr1) (.slice qm1 x1.M.length cm1) (.slice qs1 x1.S.length cs1) (.int .i64 x1.inn) (.slice qo1 x1.O.length co1) (.int .i64 x1.cd) (.int .i64 x1.st) by rw [hW]; exact cell8_alloc _ _ _ _ _ _ _ _ _ _)
      have hS : w1.heap.size = w.heap.size + 1 := by rw [hV]; simp
      rw [hS] at Ba1
      rw [hV] at hW
      clear hV hS
      have HW := Lib.hid hW
      clear hW
      replace C0 := Lib.hid (C0.out.trans (hb.mono C0.out.size))
      replace C1 := Lib.hid (C1.out.trans (hb.mono C1.out.size))
      clear hb
      have C2 := Lib.hid (Below.refl w2.heap.size w2)
      go_wp2_with fail
      rw [← HW.out]
      clear HW
      refine (SZ0.out _ (IS0.out.below C0.out)).mono ?_
      rintro e w3 ⟨rfl, hb⟩
      replace C0 := Lib.hid (C0.out.trans (hb.mono C0.out.size))
      replace C1 := Lib.hid (C1.out.trans (hb.mono C1.out.size))
      replace C2 := Lib.hid (C2.out.trans (hb.mono C2.out.size))
      clear hb
      obtain ⟨z0_0, z0_1, z0_2, z0_3, z0_4, z0_5, z0_6, z0_7⟩ := (Ba1.out.below C2.out)
      go_wp2_with fail
      clear z0_0 z0_1 z0_2 z0_3 z0_4 z0_5 z0_6 z0_7
      refine (SZ1.out _ (IS1.out.below C0.out)).mono ?_
      rintro e w4 ⟨rfl, hb⟩
      replace C0 := Lib.hid (C0.out.trans (hb.mono C0.out.size))
      replace C1 := Lib.hid (C1.out.trans (hb.mono C1.out.size))
      replace C2 := Lib.hid (C2.out.trans (hb.mono C2.out.size))
      clear hb
      go_wp2
      replace C0 := Lib.hid C0.out.drew
      replace C1 := Lib.hid C1.out.drew
      replace C2 := Lib.hid C2.out.drew
      have C3 := Lib.hid (Below.refl w4.drew.heap.size w4.drew)
      refine region_s [] (fun V => Below w4.drew.heap.size w4.drew V) (by kernel_rfl) ?_
      refine take_s (i := 0) (v := .agg #[.int .i64 x0.pc, .slice qr0 x0.R.length cr0, .slice qm0 x0.M.length cm0, .slice qs0 x0.S.length cs0, .int .i64 x0.inn, .slice qo0 x0.O.length co0, .int .i64 x0.cd, .int .i64 x0.st]) rfl (by kernel_rfl) (fun _ _ _ h => h) C3.out rfl (fun V hV => ?_) ?_
      · obtain ⟨z0, z1, z2, z3, z4, z5, z6, z7⟩ := (Ba0.out.below C1.out).below hV
        go_simp
      refine take_s (i := 2) (v := .agg #[.int .i64 x1.pc, .slice qr1 x1.R.length cr1, .slice qm1 x1.M.length cm1, .slice qs1 x1.S.length cs1, .int .i64 x1.inn, .slice qo1 x1.O.length co1, .int .i64 x1.cd, .int .i64 x1.st]) rfl (by kernel_rfl) (fun _ _ _ h => h) C3.out rfl (fun V hV => ?_) ?_
      · obtain ⟨z0, z1, z2, z3, z4, z5, z6, z7⟩ := (Ba1.out.below C2.out).below hV
        go_simp
      refine one_s (i := 1) (by kernel_rfl) (op_list rfl ?_)
      go_wp2_with fail
      refine (to_State x0 _ _ _ _ _ (IS0.out.below C0.out) (by omega)).mono ?_
      rintro e w5 ⟨grp0, gmp0, gsp0, gop0, rfl, hh, hb⟩
      have Hp0 := Lib.hid hh
      clear hh
      replace C0 := Lib.hid (C0.out.trans (hb.mono C0.out.size))
      replace C1 := Lib.hid (C1.out.trans (hb.mono C1.out.size))
      replace C2 := Lib.hid (C2.out.trans (hb.mono C2.out.size))
      replace C3 := Lib.hid (C3.out.trans (hb.mono C3.out.size))
      clear hb
      have C4 := Lib.hid (Below.refl w5.heap.size w5)
      go_wp2
      refine ⟨fun _ => C3.out, ?_⟩
      refine one_s (i := 3) (by kernel_rfl) (op_list rfl ?_)
      go_wp2_with fail
      refine (to_State x1 _ _ _ _ _ (IS1.out.below C0.out) (by omega)).mono ?_
      rintro e w6 ⟨grp1, gmp1, gsp1, gop1, rfl, hh, hb⟩
      have Hp1 := Lib.hid hh
      clear hh
      replace C0 := Lib.hid (C0.out.trans (hb.mono C0.out.size))
      replace C1 := Lib.hid (C1.out.trans (hb.mono C1.out.size))
      replace C2 := Lib.hid (C2.out.trans (hb.mono C2.out.size))
      replace C3 := Lib.hid (C3.out.trans (hb.mono C3.out.size))
      replace C4 := Lib.hid (C4.out.trans (hb.mono C4.out.size))
      clear hb
      have C5 := Lib.hid (Below.refl w6.heap.size w6)
      go_wp2
      refine ⟨fun _ => C3.out, ?_⟩
      refine one_s (i := 4) (by kernel_rfl) (op_list rfl ?_)
      go_wp2_with fail
      refine (KS.out _ _ _ _ _ _ _ _ _ ((Hp0.out.keep C4.out).shows) ((Hp1.out.keep C5.out).shows)).mono ?_
      rintro e w7 ⟨rfl, hb⟩
      replace C0 := Lib.hid (C0.out.trans (hb.mono C0.out.size))
      replace C1 := Lib.hid (C1.out.trans (hb.mono C1.out.size))
      replace C2 := Lib.hid (C2.out.trans (hb.mono C2.out.size))
      replace C3 := Lib.hid (C3.out.trans (hb.mono C3.out.size))
      replace C4 := Lib.hid (C4.out.trans (hb.mono C4.out.size))
      replace C5 := Lib.hid (C5.out.trans (hb.mono C5.out.size))
      clear hb
      go_wp2
      refine ⟨fun _ => C3.out, ?_⟩
      refine one_s (i := 5) (by kernel_rfl) (op_list rfl ?_)
      go_wp2
      refine ⟨fun _ => C3.out, done_s (by kernel_rfl) ?_ _⟩
      clear C3
      clear C4
      clear C5
      obtain ⟨z0_0, z0_1, z0_2, z0_3, z0_4, z0_5, z0_6, z0_7⟩ := (Ba0.out.below C1.out)
      go_wp2_with fail
      clear z0_0 z0_1 z0_2 z0_3 z0_4 z0_5 z0_6 z0_7
      have Zx0C0 := Lib.hid C0.out.size
      have Zx0C1 := Lib.hid C1.out.size
      have Zx0C2 := Lib.hid C2.out.size
      refine (to_State x0 _ _ _ _ _ (IS0.out.below C0.out) (by omega)).mono ?_
      rintro e w8 ⟨grx0, gmx0, gsx0, gox0, rfl, hh, hb⟩
      have Hx0 := Lib.hid hh
      clear hh
      replace C0 := Lib.hid (C0.out.trans (hb.mono C0.out.size))
      replace C1 := Lib.hid (C1.out.trans (hb.mono C1.out.size))
      replace C2 := Lib.hid (C2.out.trans (hb.mono C2.out.size))
      clear hb
      have C6 := Lib.hid (Below.refl w8.heap.size w8)
      obtain ⟨yy0, yy1, yy2, yy3, yy4, yy5, yy6, yy7⟩ := (Ba1.out.below C2.out)
      have hyl := World.block_lt_of_cell? _ _ yy0
      obtain ⟨w9, hW⟩ : ∃ W, W = w8.alloc (.cells #[.int .i64 x0.pc, .slice (some ⟨grx0, 0, none⟩) x0.R.length x0.R.length, .slice (some ⟨gmx0, 0, none⟩) x0.M.length x0.M.length, .slice (some ⟨gsx0, 0, none⟩) x0.S.length x0.S.length, .int .i64 x0.inn, .slice (some ⟨gox0, 0, none⟩) x0.O.length x0.O.length, .int .i64 x0.cd, .int .i64 x0.st] 28) := ⟨_, rfl⟩
      have hb : Below w8.heap.size w8 w9 := by rw [hW]; exact (Below.refl _ _).alloc (Nat.le_refl _) _
      have Bx0 := Lib.hid (show Cell8 w9 w8.heap.size (.int .i64 x0.pc) (.slice (some ⟨grx0, 0, none⟩) x0.R.length x0.R.length) (.slice (some ⟨gmx0, 0, none⟩) x0.M.length x0.M.length) (.slice (some ⟨gsx0, 0, none⟩) x0.S.length x0.S.length) (.int .i64 x0.inn) (.slice (some ⟨gox0, 0, none⟩) x0.O.length x0.O.length) (.int .i64 x0.cd) (.int .i64 x0.st) by rw [hW]; exact cell8_alloc _ _ _ _ _ _ _ _ _ _)
      have HW := Lib.hid hW
      clear hW
      replace C0 := Lib.hid (C0.out.trans (hb.mono C0.out.size))
      replace C1 := Lib.hid (C1.out.trans (hb.mono C1.out.size))
      replace C2 := Lib.hid (C2.out.trans (hb.mono C2.out.size))
      replace C6 := Lib.hid (C6.out.trans (hb.mono C6.out.size))
      clear hb
      have C7 := Lib.hid (Below.refl w9.heap.size w9)
      go_wp2_with fail
      rw [← HW.out]
      clear HW
      clear yy0 yy1 yy2 yy3 yy4 yy5 yy6 yy7 hyl
      have Zx1C0 := Lib.hid C0.out.size
      have Zx1C1 := Lib.hid C1.out.size
      have Zx1C2 := Lib.hid C2.out.size
      have Qx0x1 := Lib.hid C6.out.size
      refine (to_State x1 _ _ _ _ _ (IS1.out.below C0.out) (by omega)).mono ?_
      rintro e w10 ⟨grx1, gmx1, gsx1, gox1, rfl, hh, hb⟩
      have Hx1 := Lib.hid hh
      clear hh
      replace C0 := Lib.hid (C0.out.trans (hb.mono C0.out.size))
      replace C1 := Lib.hid (C1.out.trans (hb.mono C1.out.size))
      replace C2 := Lib.hid (C2.out.trans (hb.mono C2.out.size))
      replace C6 := Lib.hid (C6.out.trans (hb.mono C6.out.size))
      replace C7 := Lib.hid (C7.out.trans (hb.mono C7.out.size))
      clear hb
      have C8 := Lib.hid (Below.refl w10.heap.size w10)
      obtain ⟨yy0_0, yy0_1, yy0_2, yy0_3, yy0_4, yy0_5, yy0_6, yy0_7⟩ := (Bx0.out.below C7.out)
      have hyl0 := World.block_lt_of_cell? _ _ yy0_0
      obtain ⟨w11, hW⟩ : ∃ W, W = w10.alloc (.cells #[.int .i64 x1.pc, .slice (some ⟨grx1, 0, none⟩) x1.R.length x1.R.length, .slice (some ⟨gmx1, 0, none⟩) x1.M.length x1.M.length, .slice (some ⟨gsx1, 0, none⟩) x1.S.length x1.S.length, .int .i64 x1.inn, .slice (some ⟨gox1, 0, none⟩) x1.O.length x1.O.length, .int .i64 x1.cd, .int .i64 x1.st] 28) := ⟨_, rfl⟩
      have hb : Below w10.heap.size w10 w11 := by rw [hW]; exact (Below.refl _ _).alloc (Nat.le_refl _) _
      have Bx1 := Lib.hid (show Cell8 w11 w10.heap.size (.int .i64 x1.pc) (.slice (some ⟨grx1, 0, none⟩) x1.R.length x1.R.length) (.slice (some ⟨gmx1, 0, none⟩) x1.M.length x1.M.length) (.slice (some ⟨gsx1, 0, none⟩) x1.S.length x1.S.length) (.int .i64 x1.inn) (.slice (some ⟨gox1, 0, none⟩) x1.O.length x1.O.length) (.int .i64 x1.cd) (.int .i64 x1.st) by rw [hW]; exact cell8_alloc _ _ _ _ _ _ _ _ _ _)
      have HW := Lib.hid hW
      clear hW
      replace C0 := Lib.hid (C0.out.trans (hb.mono C0.out.size))
      replace C1 := Lib.hid (C1.out.trans (hb.mono C1.out.size))
      replace C2 := Lib.hid (C2.out.trans (hb.mono C2.out.size))
      replace C6 := Lib.hid (C6.out.trans (hb.mono C6.out.size))
      replace C7 := Lib.hid (C7.out.trans (hb.mono C7.out.size))
      replace C8 := Lib.hid (C8.out.trans (hb.mono C8.out.size))
      clear hb
      have C9 := Lib.hid (Below.refl w11.heap.size w11)
      go_wp2_with fail
      rw [← HW.out]
      clear HW
      clear yy0_0 yy0_1 yy0_2 yy0_3 yy0_4 yy0_5 yy0_6 yy0_7 hyl0
      refine (KI.out _ _ _ _ _ _ _ _ _ ((Hx0.out.keep C6.out).shows) ((Hx1.out.keep C8.out).shows)).mono ?_
      rintro e w12 ⟨rfl, hb⟩
      replace C0 := Lib.hid (C0.out.trans (hb.mono C0.out.size))
      replace C1 := Lib.hid (C1.out.trans (hb.mono C1.out.size))
      replace C2 := Lib.hid (C2.out.trans (hb.mono C2.out.size))
      replace C6 := Lib.hid (C6.out.trans (hb.mono C6.out.size))
      replace C7 := Lib.hid (C7.out.trans (hb.mono C7.out.size))
      replace C8 := Lib.hid (C8.out.trans (hb.mono C8.out.size))
      replace C9 := Lib.hid (C9.out.trans (hb.mono C9.out.size))
      clear hb
      obtain ⟨z0_0, z0_1, z0_2, z0_3, z0_4, z0_5, z0_6, z0_7⟩ := (Ba0.out.below C1.out)
      obtain ⟨z1_0, z1_1, z1_2, z1_3, z1_4, z1_5, z1_6, z1_7⟩ := (Bx0.out.below C7.out)
      go_wp2
      go_region_with (first | (go_at_call 25; replace C0 := Lib.hid C0.out.drew; replace C1 := Lib.hid C1.out.drew; replace C2 := Lib.hid C2.out.drew; replace C6 := Lib.hid C6.out.drew; replace C7 := Lib.hid C7.out.drew; replace C8 := Lib.hid C8.out.drew; replace C9 := Lib.hid C9.out.drew; refine (to_State x0 _ _ _ _ _ (IS0.out.below C0.out) (by omega)).mono ?_; rintro e w13 ⟨gre0, gme0, gse0, goe0, rfl, hh, hb⟩; replace C0 := Lib.hid (C0.out.trans (hb.mono C0.out.size)); replace C1 := Lib.hid (C1.out.trans (hb.mono C1.out.size)); replace C2 := Lib.hid (C2.out.trans (hb.mono C2.out.size)); replace C6 := Lib.hid (C6.out.trans (hb.mono C6.out.size)); replace C7 := Lib.hid (C7.out.trans (hb.mono C7.out.size)); replace C8 := Lib.hid (C8.out.trans (hb.mono C8.out.size)); replace C9 := Lib.hid (C9.out.trans (hb.mono C9.out.size)); have HR := Lib.hid (hh.shows); obtain ⟨z1_0, z1_1, z1_2, z1_3, z1_4, z1_5, z1_6, z1_7⟩ := (Bx0.out.below C7.out); clear hh hb) | (go_at_call 13; refine (eq_State x0 _ _ _ _ _ _ _ _ _ ((Hx0.out.keep C6.out).shows) HR.out (by omega)).mono ?_; rintro e w14 ⟨rfl, hb⟩; replace C0 := Lib.hid (C0.out.trans (hb.mono C0.out.size)); replace C1 := Lib.hid (C1.out.trans (hb.mono C1.out.size)); replace C2 := Lib.hid (C2.out.trans (hb.mono C2.out.size)); replace C6 := Lib.hid (C6.out.trans (hb.mono C6.out.size)); replace C7 := Lib.hid (C7.out.trans (hb.mono C7.out.size)); replace C8 := Lib.hid (C8.out.trans (hb.mono C8.out.size)); replace C9 := Lib.hid (C9.out.trans (hb.mono C9.out.size)); clear hb HR))
      all_goals
        clear z0_0 z0_1 z0_2 z0_3 z0_4 z0_5 z0_6 z0_7 z1_0 z1_1 z1_2 z1_3 z1_4 z1_5 z1_6 z1_7
        obtain ⟨z0_0, z0_1, z0_2, z0_3, z0_4, z0_5, z0_6, z0_7⟩ := (Ba1.out.below C2.out)
        obtain ⟨z1_0, z1_1, z1_2, z1_3, z1_4, z1_5, z1_6, z1_7⟩ := (Bx1.out.below C9.out)
        go_wp2
        go_region_with (first | (go_at_call 25; replace C0 := Lib.hid C0.out.drew; replace C1 := Lib.hid C1.out.drew; replace C2 := Lib.hid C2.out.drew; replace C6 := Lib.hid C6.out.drew; replace C7 := Lib.hid C7.out.drew; replace C8 := Lib.hid C8.out.drew; replace C9 := Lib.hid C9.out.drew; refine (to_State x1 _ _ _ _ _ (IS1.out.below C0.out) (by omega)).mono ?_; rintro e w15 ⟨gre1, gme1, gse1, goe1, rfl, hh, hb⟩; replace C0 := Lib.hid (C0.out.trans (hb.mono C0.out.size)); replace C1 := Lib.hid (C1.out.trans (hb.mono C1.out.size)); replace C2 := Lib.hid (C2.out.trans (hb.mono C2.out.size)); replace C6 := Lib.hid (C6.out.trans (hb.mono C6.out.size)); replace C7 := Lib.hid (C7.out.trans (hb.mono C7.out.size)); replace C8 := Lib.hid (C8.out.trans (hb.mono C8.out.size)); replace C9 := Lib.hid (C9.out.trans (hb.mono C9.out.size)); have HR := Lib.hid (hh.shows); obtain ⟨z1_0, z1_1, z1_2, z1_3, z1_4, z1_5, z1_6, z1_7⟩ := (Bx1.out.below C9.out); clear hh hb) | (go_at_call 13; refine (eq_State x1 _ _ _ _ _ _ _ _ _ ((Hx1.out.keep C8.out).shows) HR.out (by omega)).mono ?_; rintro e w16 ⟨rfl, hb⟩; replace C0 := Lib.hid (C0.out.trans (hb.mono C0.out.size)); replace C1 := Lib.hid (C1.out.trans (hb.mono C1.out.size)); replace C2 := Lib.hid (C2.out.trans (hb.mono C2.out.size)); replace C6 := Lib.hid (C6.out.trans (hb.mono C6.out.size)); replace C7 := Lib.hid (C7.out.trans (hb.mono C7.out.size)); replace C8 := Lib.hid (C8.out.trans (hb.mono C8.out.size)); replace C9 := Lib.hid (C9.out.trans (hb.mono C9.out.size)); clear hb HR))
        all_goals
          clear z0_0 z0_1 z0_2 z0_3 z0_4 z0_5 z0_6 z0_7 z1_0 z1_1 z1_2 z1_3 z1_4 z1_5 z1_6 z1_7
          go_wp2
          go_ret
          exact ⟨rfl, C0.out⟩
    · have hl : left l0 x1.cost = -1 := by unfold left; rw [if_neg hc1]
      rw [hl] at SZ1
      clear hl hc1
      go_enter Try.func5, Try.ntmps5
      have C0 := Lib.hid (Below.refl w.heap.size w)
      obtain ⟨w1, hW⟩ : ∃ W, W = w.alloc (.cells #[.int .i64 x0.pc, .slice qr0 x0.R.length cr0, .slice qm0 x0.M.length cm0, .slice qs0 x0.S.length cs0, .int .i64 x0.inn, .slice qo0 x0.O.length co0, .int .i64 x0.cd, .int .i64 x0.st] 43) := ⟨_, rfl⟩
      have hb : Below w.heap.size w w1 := by rw [hW]; exact (Below.refl _ _).alloc (Nat.le_refl _) _
      have Ba0 := Lib.hid (show Cell8 w1 w.heap.size (.int .i64 x0.pc) (.slice qr0 x0.R.length cr0) (.slice qm0 x0.M.length cm0) (.slice qs0 x0.S.length cs0) (.int .i64 x0.inn) (.slice qo0 x0.O.length co0) (.int .i64 x0.cd) (.int .i64 x0.st) by rw [hW]; exact cell8_alloc _ _ _ _ _ _ _ _ _ _)
      have HW := Lib.hid hW
      clear hW
      replace C0 := Lib.hid (C0.out.trans (hb.mono C0.out.size))
      clear hb
      have C1 := Lib.hid (Below.refl w1.heap.size w1)
      have hV := HW.out
      clear HW
      obtain ⟨w2, hW⟩ : ∃ W, W = w1.alloc (.cells #[.int .i64 x1.pc, .slice qr1 x1.R.length cr1, .slice qm1 x1.M.length cm1, .slice qs1 x1.S.length cs1, .int .i64 x1.inn, .slice qo1 x1.O.length co1, .int .i64 x1.cd, .int .i64 x1.st] 43) := ⟨_, rfl⟩
      have hb : Below w1.heap.size w1 w2 := by rw [hW]; exact (Below.refl _ _).alloc (Nat.le_refl _) _
      have Ba1 := Lib.hid (show Cell8 w2 w1.heap.size (.int .i64 x1.pc) (.slice qr1 x1.R.length cr1) (.slice qm1 x1.M.length cm1) (.slice qs1 x1.S.length cs1) (.int .i64 x1.inn) (.slice qo1 x1.O.length co1) (.int .i64 x1.cd) (.int .i64 x1.st) by rw [hW]; exact cell8_alloc _ _ _ _ _ _ _ _ _ _)
      have hS : w1.heap.size = w.heap.size + 1 := by rw [hV]; simp
      rw [hS] at Ba1
      rw [hV] at hW
      clear hV hS
      have HW := Lib.hid hW
      clear hW
      replace C0 := Lib.hid (C0.out.trans (hb.mono C0.out.size))
      replace C1 := Lib.hid (C1.out.trans (hb.mono C1.out.size))
      clear hb
      have C2 := Lib.hid (Below.refl w2.heap.size w2)
      go_wp2_with fail
      rw [← HW.out]
      clear HW
      refine (SZ0.out _ (IS0.out.below C0.out)).mono ?_
      rintro e w3 ⟨rfl, hb⟩
      replace C0 := Lib.hid (C0.out.trans (hb.mono C0.out.size))
      replace C1 := Lib.hid (C1.out.trans (hb.mono C1.out.size))
      replace C2 := Lib.hid (C2.out.trans (hb.mono C2.out.size))
      clear hb
      obtain ⟨z0_0, z0_1, z0_2, z0_3, z0_4, z0_5, z0_6, z0_7⟩ := (Ba1.out.below C2.out)
      go_wp2_with fail
      clear z0_0 z0_1 z0_2 z0_3 z0_4 z0_5 z0_6 z0_7
      refine (SZ1.out _ (IS1.out.below C0.out)).mono ?_
      rintro e w4 ⟨rfl, hb⟩
      replace C0 := Lib.hid (C0.out.trans (hb.mono C0.out.size))
      replace C1 := Lib.hid (C1.out.trans (hb.mono C1.out.size))
      replace C2 := Lib.hid (C2.out.trans (hb.mono C2.out.size))
      clear hb
      go_wp2
      go_ret
      exact ⟨rfl, C0.out⟩
  · have hl : left 1048576 x0.cost = -1 := by unfold left; rw [if_neg hc0]
    rw [hl] at SZ0
    clear hl hc0
    go_enter Try.func5, Try.ntmps5
    have C0 := Lib.hid (Below.refl w.heap.size w)
    obtain ⟨w1, hW⟩ : ∃ W, W = w.alloc (.cells #[.int .i64 x0.pc, .slice qr0 x0.R.length cr0, .slice qm0 x0.M.length cm0, .slice qs0 x0.S.length cs0, .int .i64 x0.inn, .slice qo0 x0.O.length co0, .int .i64 x0.cd, .int .i64 x0.st] 43) := ⟨_, rfl⟩
    have hb : Below w.heap.size w w1 := by rw [hW]; exact (Below.refl _ _).alloc (Nat.le_refl _) _
    have Ba0 := Lib.hid (show Cell8 w1 w.heap.size (.int .i64 x0.pc) (.slice qr0 x0.R.length cr0) (.slice qm0 x0.M.length cm0) (.slice qs0 x0.S.length cs0) (.int .i64 x0.inn) (.slice qo0 x0.O.length co0) (.int .i64 x0.cd) (.int .i64 x0.st) by rw [hW]; exact cell8_alloc _ _ _ _ _ _ _ _ _ _)
    have HW := Lib.hid hW
    clear hW
    replace C0 := Lib.hid (C0.out.trans (hb.mono C0.out.size))
    clear hb
    have C1 := Lib.hid (Below.refl w1.heap.size w1)
    have hV := HW.out
    clear HW
    obtain ⟨w2, hW⟩ : ∃ W, W = w1.alloc (.cells #[.int .i64 x1.pc, .slice qr1 x1.R.length cr1, .slice qm1 x1.M.length cm1, .slice qs1 x1.S.length cs1, .int .i64 x1.inn, .slice qo1 x1.O.length co1, .int .i64 x1.cd, .int .i64 x1.st] 43) := ⟨_, rfl⟩
    have hb : Below w1.heap.size w1 w2 := by rw [hW]; exact (Below.refl _ _).alloc (Nat.le_refl _) _
    have Ba1 := Lib.hid (show Cell8 w2 w1.heap.size (.int .i64 x1.pc) (.slice qr1 x1.R.length cr1) (.slice qm1 x1.M.length cm1) (.slice qs1 x1.S.length cs1) (.int .i64 x1.inn) (.slice qo1 x1.O.length co1) (.int .i64 x1.cd) (.int .i64 x1.st) by rw [hW]; exact cell8_alloc _ _ _ _ _ _ _ _ _ _)
    have hS : w1.heap.size = w.heap.size + 1 := by rw [hV]; simp
    rw [hS] at Ba1
    rw [hV] at hW
    clear hV hS
    have HW := Lib.hid hW
    clear hW
    replace C0 := Lib.hid (C0.out.trans (hb.mono C0.out.size))
    replace C1 := Lib.hid (C1.out.trans (hb.mono C1.out.size))
    clear hb
    have C2 := Lib.hid (Below.refl w2.heap.size w2)
    go_wp2_with fail
    rw [← HW.out]
    clear HW
    refine (SZ0.out _ (IS0.out.below C0.out)).mono ?_
    rintro e w3 ⟨rfl, hb⟩
    replace C0 := Lib.hid (C0.out.trans (hb.mono C0.out.size))
    replace C1 := Lib.hid (C1.out.trans (hb.mono C1.out.size))
    replace C2 := Lib.hid (C2.out.trans (hb.mono C2.out.size))
    clear hb
    go_wp2
    go_ret
    exact ⟨rfl, C0.out⟩
end Go.Proofs.Ytogmiahkccmfbab
