/- The law FnExactPathOk, walked by the contracts of all that it calls. -/
import Derived.Test.YtbdkningngpgcaaProgram
import Derived.Test.YtbdkningngpgcaaPath
import Derived.Test.YtbdkningngpgcaaPaS
import Derived.Test.YtbdkningngpgcaaPaI
import Derived.Test.YtbdkningngpgcaaReg
import Derived.Deep.RegionWith
namespace Go.Proofs.Ytbdkningngpgcaa
open Go.ChangeShapes Go.WideShapes Go.ChangeAt Go.RowKit
set_option maxRecDepth 100000 in
set_option maxHeartbeats 4000000 in
theorem law_FnExactPathOk (vw0 vm0 vi0 : Int) (L0 : List InsR) (s0 : Value) (x1 : PaR) (r1 m1 s1 o1 c1 u1 : Value) (w : World) (hs0 : Cs.Shows w 0 4 s0 L0.length (InsR.all L0)) (hok0 : (-9223372036854775808 ≤ vw0 ∧ vw0 ≤ 9223372036854775807) ∧ (-9223372036854775808 ≤ vm0 ∧ vm0 ≤ 9223372036854775807) ∧ (-9223372036854775808 ≤ vi0 ∧ vi0 ≤ 9223372036854775807) ∧ (∀ r ∈ L0, r.Ok) ∧ L0.length ≤ maxLen) (hs1 : PaS w 0 x1 r1 m1 s1 o1 c1 u1) (hok1 : x1.Ok) (hl1 : x1.Long) :
    Calls Try.prog 7 #[.agg #[.int .i64 vw0, .int .i64 vm0, .int .i64 vi0, s0], .agg #[.int .i64 x1.pc, r1, m1, s1, .int .i64 x1.inn, o1, .int .i64 x1.cd, .int .i64 x1.st, c1, u1]] w fun e w' => e = .returned (.bool true) ∧ Below w.heap.size w w' := by
  have hml : maxLen = 9223372036854775807 := rfl
  have IS0 := Lib.hid hs0
  have OK0 := Lib.hid hok0
  obtain ⟨_, q0, cap0, rfl, _⟩ := hs0
  clear hok0
  have IS1 := Lib.hid hs1
  have OK1 := Lib.hid hok1
  have LE1 := Lib.hid hl1
  obtain ⟨⟨_, ⟨_, qr1, cr1, rfl, _⟩, _⟩, ⟨_, ⟨_, qm1, cm1, rfl, _⟩, _⟩, ⟨_, qs1, cs1, rfl, _⟩, ⟨_, ⟨_, qo1, co1, rfl, _⟩, _⟩, ⟨_, ⟨_, qc1, cc1, rfl, _⟩, _⟩, ⟨_, qu1, cu1, rfl, _⟩⟩ := hs1
  clear hok1 hl1
  have SZ0 := Lib.hid (fun W (h : Cs.Shows W 0 4 (.slice q0 L0.length cap0) L0.length (InsR.all L0)) => sz_Program vw0 vm0 vi0 L0 _ 1048576 W (by omega) h OK0.out.2.2.2.1 OK0.out.2.2.2.2)
  by_cases hc0 : (InsR.costs L0) ≤ 1048576
  · obtain ⟨l0, hl0, hm0⟩ : ∃ l : Nat, left 1048576 (InsR.costs L0) = (l : Int) ∧ l + (InsR.costs L0) = 1048576 := ⟨1048576 - (InsR.costs L0), by unfold left; rw [if_pos hc0]; omega, by omega⟩
    rw [hl0] at SZ0
    have hq0 : l0 ≤ 1048576 := by omega
    clear hl0 hm0
    have SZ1 := Lib.hid (fun W (h : PaS W 0 x1 (.slice qr1 x1.R.len cr1) (.slice qm1 x1.M.len cm1) (.slice qs1 x1.S.length cs1) (.slice qo1 x1.O.len co1) (.slice qc1 x1.C.len cc1) (.slice qu1 x1.U.length cu1)) => sz_Path x1 _ _ _ _ _ _ l0 W (by omega) h OK1.out LE1.out)
    by_cases hc1 : x1.cost ≤ l0
    · obtain ⟨l1, hl1, hm1⟩ : ∃ l : Nat, left l0 x1.cost = (l : Int) ∧ l + x1.cost = l0 := ⟨l0 - x1.cost, by unfold left; rw [if_pos hc1]; omega, by omega⟩
      rw [hl1] at SZ1
      have hq1 : l1 ≤ 1048576 := by omega
      clear hl1 hm1
      have hnl0 := InsR.len_le L0
      have hlc0 : L0.length ≤ 1048576 := by omega
      have hcc0 : InsR.costs L0 ≤ 1048576 := by omega
      clear hnl0
      have hxx1 : x1.cost = x1.R.cost + x1.M.cost + x1.S.length + x1.O.cost + x1.C.cost + x1.U.length := rfl
      have hcc1 : x1.cost ≤ 1048576 := by omega
      have hnR1 := x1.R.nodes_le
      have hnM1 := x1.M.nodes_le
      have hnO1 := x1.O.nodes_le
      have hnC1 := x1.C.nodes_le
      have hlR1 := x1.R.len_le
      have hlM1 := x1.M.len_le
      have hlO1 := x1.O.len_le
      have hlC1 := x1.C.len_le
      have NB1 := Lib.hid (show x1.R.nodes ≤ 1048576 ∧ x1.M.nodes ≤ 1048576 ∧ x1.S.length ≤ 1048576 ∧ x1.O.nodes ≤ 1048576 ∧ x1.C.nodes ≤ 1048576 ∧ x1.U.length ≤ 1048576 from ⟨by omega, by omega, by omega, by omega, by omega, by omega⟩)
      have NE1 := Lib.hid (show x1.R.nodes ≤ 2097152 ∧ x1.M.nodes ≤ 2097152 ∧ x1.S.length ≤ 2097152 ∧ x1.O.nodes ≤ 2097152 ∧ x1.C.nodes ≤ 2097152 ∧ x1.U.length ≤ 2097152 from ⟨by omega, by omega, by omega, by omega, by omega, by omega⟩)
      clear hnR1 hlR1
      clear hnM1 hlM1
      clear hnO1 hlO1
      clear hnC1 hlC1
      obtain ⟨B, hB⟩ : ∃ B, paB vw0 vm0 vi0 L0 x1 = B := ⟨_, rfl⟩
      have KS := Lib.hid (fun s r m sk o c u W h h' => s_path vw0 vm0 vi0 L0 x1 s r m sk o c u W h h' OK0.out.2.2.2.1 OK0.out.2.2.2.2 LE1.out hcc1)
      have KI := Lib.hid (fun s r m sk o c u W h h' => i_path vw0 vm0 vi0 L0 x1 s r m sk o c u W h h' OK0.out.2.2.2.1 OK0.out.2.2.2.2 LE1.out hcc1)
      rw [hB] at KS KI
      clear hB
      clear hc0
      clear hc1
      go_enter Try.func7, Try.ntmps7
      have C0 := Lib.hid (Below.refl w.heap.size w)
      obtain ⟨w1, hW⟩ : ∃ W, W = w.alloc (.cells #[.int .i64 vw0, .int .i64 vm0, .int .i64 vi0, .slice q0 L0.length cap0] 24) := ⟨_, rfl⟩
      have hb : Below w.heap.size w w1 := by rw [hW]; exact (Below.refl _ _).alloc (Nat.le_refl _) _
      have Ba0 := Lib.hid (show Cell4 w1 w.heap.size (.int .i64 vw0) (.int .i64 vm0) (.int .i64 vi0) (.slice q0 L0.length cap0) by rw [hW]; exact cell4_alloc _ _ _ _ _ _)
      have HW := Lib.hid hW
      clear hW
      replace C0 := Lib.hid (C0.out.trans (hb.mono C0.out.size))
      clear hb
      have C1 := Lib.hid (Below.refl w1.heap.size w1)
      have hV := HW.out
      clear HW
      obtain ⟨w2, hW⟩ : ∃ W, W = w1.alloc (.cells #[.int .i64 x1.pc, .slice qr1 x1.R.len cr1, .slice qm1 x1.M.len cm1, .slice qs1 x1.S.length cs1, .int .i64 x1.inn, .slice qo1 x1.O.len co1, .int .i64 x1.cd, .int .i64 x1.st, .slice qc1 x1.C.len cc1, .slice qu1 x1.U.length cu1] 53) := ⟨_, rfl⟩
      have hb : Below w1.heap.size w1 w2 := by rw [hW]; exact (Below.refl _ _).alloc (Nat.le_refl _) _
      have Ba1 := Lib.hid (show Cell10 w2 w1.heap.size (.int .i64 x1.pc) (.slice qr1 x1.R.len cr1) (.slice qm1 x1.M.len cm1) (.slice qs1 x1.S.length cs1) (.int .i64 x1.inn) (.slice qo1 x1.O.len co1) (.int .i64 x1.cd) (.int .i64 x1.st) (.slice qc1 x1.C.len cc1) (.slice qu1 x1.U.length cu1) by rw [hW]; exact cell10_alloc _ _ _ _ _ _ _ _ _ _ _ _)
      have hS : w1.heap.size = w.heap.size + 1 := by rw [hV]; simp
      rw [hS] at Ba1
      rw [hV] at hW
      clear hV hS
      have HW := Lib.hid hW
      clear hW
      replace C0 := Lib.hid (C0.out.trans (hb.mono C0.out.size))
      replace C1 := Lib.hid (C1.out.trans (hb.mono C1.out.size))
      clear hb
      have C2 := Lib.hid (Below.refl w2.heap.size w2)
      go_wp2_with fail
      rw [← HW.out]
      clear HW
      refine (SZ0.out _ (IS0.out.below C0.out)).mono ?_
      rintro e w3 ⟨rfl, hb⟩
      replace C0 := Lib.hid (C0.out.trans (hb.mono C0.out.size))
      replace C1 := Lib.hid (C1.out.trans (hb.mono C1.out.size))
      replace C2 := Lib.hid (C2.out.trans (hb.mono C2.out.size))
      clear hb
      obtain ⟨z0_0, z0_1, z0_2, z0_3, z0_4, z0_5, z0_6, z0_7, z0_8, z0_9⟩ := (Ba1.out.below C2.out)
      go_wp2_with fail
      clear z0_0 z0_1 z0_2 z0_3 z0_4 z0_5 z0_6 z0_7 z0_8 z0_9
      refine (SZ1.out _ (IS1.out.below C0.out)).mono ?_
      rintro e w4 ⟨rfl, hb⟩
      replace C0 := Lib.hid (C0.out.trans (hb.mono C0.out.size))
      replace C1 := Lib.hid (C1.out.trans (hb.mono C1.out.size))
      replace C2 := Lib.hid (C2.out.trans (hb.mono C2.out.size))
      clear hb
      go_wp2
      replace C0 := Lib.hid C0.out.drew
      replace C1 := Lib.hid C1.out.drew
      replace C2 := Lib.hid C2.out.drew
      have C3 := Lib.hid (Below.refl w4.drew.heap.size w4.drew)
      refine region_s [] (fun V => Below w4.drew.heap.size w4.drew V) (by kernel_rfl) ?_
      refine take_s (i := 0) (v := .agg #[.int .i64 vw0, .int .i64 vm0, .int .i64 vi0, .slice q0 L0.length cap0]) rfl (by kernel_rfl) (fun _ _ _ h => h) C3.out rfl (fun V hV => ?_) ?_
      · obtain ⟨z0, z1, z2, z3⟩ := (Ba0.out.below C1.out).below hV
        go_simp
      refine take_s (i := 2) (v := .agg #[.int .i64 x1.pc, .slice qr1 x1.R.len cr1, .slice qm1 x1.M.len cm1, .slice qs1 x1.S.length cs1, .int .i64 x1.inn, .slice qo1 x1.O.len co1, .int .i64 x1.cd, .int .i64 x1.st, .slice qc1 x1.C.len cc1, .slice qu1 x1.U.length cu1]) rfl (by kernel_rfl) (fun _ _ _ h => h) C3.out rfl (fun V hV => ?_) ?_
      · obtain ⟨z0, z1, z2, z3, z4, z5, z6, z7, z8, z9⟩ := (Ba1.out.below C2.out).below hV
        go_simp
      refine one_s (i := 1) (by kernel_rfl) (op_list rfl ?_)
      go_wp2_with fail
      refine (to_Program vw0 vm0 vi0 L0 _ _ (IS0.out.below C0.out) (by omega)).mono ?_
      rintro e w5 ⟨gp0, rfl, hh, hb⟩
      have Hp0 := Lib.hid hh
      clear hh
      replace C0 := Lib.hid (C0.out.trans (hb.mono C0.out.size))
      replace C1 := Lib.hid (C1.out.trans (hb.mono C1.out.size))
      replace C2 := Lib.hid (C2.out.trans (hb.mono C2.out.size))
      replace C3 := Lib.hid (C3.out.trans (hb.mono C3.out.size))
      clear hb
      have C4 := Lib.hid (Below.refl w5.heap.size w5)
      go_wp2
      refine ⟨fun _ => C3.out, ?_⟩
      refine one_s (i := 3) (by kernel_rfl) (op_list rfl ?_)
      go_wp2_with fail
      refine (to_Path x1 _ _ _ _ _ _ _ (IS1.out.below C0.out) NB1.out).mono ?_
      rintro e w6 ⟨grp1, gmp1, gsp1, gop1, gcp1, gup1, Bp1, rfl, hh, hb⟩
      have Hp1 := Lib.hid hh
      clear hh
      replace C0 := Lib.hid (C0.out.trans (hb.mono C0.out.size))
      replace C1 := Lib.hid (C1.out.trans (hb.mono C1.out.size))
      replace C2 := Lib.hid (C2.out.trans (hb.mono C2.out.size))
      replace C3 := Lib.hid (C3.out.trans (hb.mono C3.out.size))
      replace C4 := Lib.hid (C4.out.trans (hb.mono C4.out.size))
      clear hb
      have C5 := Lib.hid (Below.refl w6.heap.size w6)
      go_wp2
      refine ⟨fun _ => C3.out, ?_⟩
      refine one_s (i := 4) (by kernel_rfl) (op_list rfl ?_)
      go_wp2_with fail
      refine (KS.out _ _ _ _ _ _ _ _ ((Cs.shows_of_owns (own_keep Hp0.out C4.out)).down (Nat.zero_le _)) ((Hp1.out.keep C5.out).shows)).mono ?_
      rintro e w7 ⟨rfl, hb⟩
      replace C0 := Lib.hid (C0.out.trans (hb.mono C0.out.size))
      replace C1 := Lib.hid (C1.out.trans (hb.mono C1.out.size))
      replace C2 := Lib.hid (C2.out.trans (hb.mono C2.out.size))
      replace C3 := Lib.hid (C3.out.trans (hb.mono C3.out.size))
      replace C4 := Lib.hid (C4.out.trans (hb.mono C4.out.size))
      replace C5 := Lib.hid (C5.out.trans (hb.mono C5.out.size))
      clear hb
      go_wp2
      refine ⟨fun _ => C3.out, ?_⟩
      refine one_s (i := 5) (by kernel_rfl) (op_list rfl ?_)
      go_wp2
      refine ⟨fun _ => C3.out, done_s (by kernel_rfl) ?_ _⟩
      clear C3
      clear C4
      clear C5
      obtain ⟨z0_0, z0_1, z0_2, z0_3⟩ := (Ba0.out.below C1.out)
      go_wp2_with fail
      clear z0_0 z0_1 z0_2 z0_3
      have Zx0C0 := Lib.hid C0.out.size
      have Zx0C1 := Lib.hid C1.out.size
      have Zx0C2 := Lib.hid C2.out.size
      refine (to_Program vw0 vm0 vi0 L0 _ _ (IS0.out.below C0.out) (by omega)).mono ?_
      rintro e w8 ⟨gx0, rfl, hh, hb⟩
      have Hx0 := Lib.hid hh
      clear hh
      replace C0 := Lib.hid (C0.out.trans (hb.mono C0.out.size))
      replace C1 := Lib.hid (C1.out.trans (hb.mono C1.out.size))
      replace C2 := Lib.hid (C2.out.trans (hb.mono C2.out.size))
      clear hb
      have C6 := Lib.hid (Below.refl w8.heap.size w8)
      obtain ⟨yy0, yy1, yy2, yy3, yy4, yy5, yy6, yy7, yy8, yy9⟩ := (Ba1.out.below C2.out)
      have hyl := World.block_lt_of_cell? _ _ yy0
      obtain ⟨w9, hW⟩ : ∃ W, W = w8.alloc (.cells #[.int .i64 vw0, .int .i64 vm0, .int .i64 vi0, .slice (some ⟨gx0, 0, none⟩) L0.length L0.length] 30) := ⟨_, rfl⟩
      have hb : Below w8.heap.size w8 w9 := by rw [hW]; exact (Below.refl _ _).alloc (Nat.le_refl _) _
      have Bx0 := Lib.hid (show Cell4 w9 w8.heap.size (.int .i64 vw0) (.int .i64 vm0) (.int .i64 vi0) (.slice (some ⟨gx0, 0, none⟩) L0.length L0.length) by rw [hW]; exact cell4_alloc _ _ _ _ _ _)
      have HW := Lib.hid hW
      clear hW
      replace C0 := Lib.hid (C0.out.trans (hb.mono C0.out.size))
      replace C1 := Lib.hid (C1.out.trans (hb.mono C1.out.size))
      replace C2 := Lib.hid (C2.out.trans (hb.mono C2.out.size))
      replace C6 := Lib.hid (C6.out.trans (hb.mono C6.out.size))
      clear hb
      have C7 := Lib.hid (Below.refl w9.heap.size w9)
      go_wp2_with fail
      rw [← HW.out]
      clear HW
      clear yy0 yy1 yy2 yy3 yy4 yy5 yy6 yy7 yy8 yy9 hyl
      have Zx1C0 := Lib.hid C0.out.size
      have Zx1C1 := Lib.hid C1.out.size
      have Zx1C2 := Lib.hid C2.out.size
      have Qx0x1 := Lib.hid C6.out.size
      refine (to_Path x1 _ _ _ _ _ _ _ (IS1.out.below C0.out) NB1.out).mono ?_
      rintro e w10 ⟨grx1, gmx1, gsx1, gox1, gcx1, gux1, Bx1, rfl, hh, hb⟩
      have Hx1 := Lib.hid hh
      clear hh
      replace C0 := Lib.hid (C0.out.trans (hb.mono C0.out.size))
      replace C1 := Lib.hid (C1.out.trans (hb.mono C1.out.size))
      replace C2 := Lib.hid (C2.out.trans (hb.mono C2.out.size))
      replace C6 := Lib.hid (C6.out.trans (hb.mono C6.out.size))
      replace C7 := Lib.hid (C7.out.trans (hb.mono C7.out.size))
      clear hb
      have C8 := Lib.hid (Below.refl w10.heap.size w10)
      obtain ⟨yy0_0, yy0_1, yy0_2, yy0_3⟩ := (Bx0.out.below C7.out)
      have hyl0 := World.block_lt_of_cell? _ _ yy0_0
      obtain ⟨w11, hW⟩ : ∃ W, W = w10.alloc (.cells #[.int .i64 x1.pc, .slice (some ⟨grx1, 0, none⟩) x1.R.len x1.R.len, .slice (some ⟨gmx1, 0, none⟩) x1.M.len x1.M.len, .slice (some ⟨gsx1, 0, none⟩) x1.S.length x1.S.length, .int .i64 x1.inn, .slice (some ⟨gox1, 0, none⟩) x1.O.len x1.O.len, .int .i64 x1.cd, .int .i64 x1.st, .slice (some ⟨gcx1, 0, none⟩) x1.C.len x1.C.len, .slice (some ⟨gux1, 0, none⟩) x1.U.length x1.U.length] 58) := ⟨_, rfl⟩
      have hb : Below w10.heap.size w10 w11 := by rw [hW]; exact (Below.refl _ _).alloc (Nat.le_refl _) _
      have Bx1 := Lib.hid (show Cell10 w11 w10.heap.size (.int .i64 x1.pc) (.slice (some ⟨grx1, 0, none⟩) x1.R.len x1.R.len) (.slice (some ⟨gmx1, 0, none⟩) x1.M.len x1.M.len) (.slice (some ⟨gsx1, 0, none⟩) x1.S.length x1.S.length) (.int .i64 x1.inn) (.slice (some ⟨gox1, 0, none⟩) x1.O.len x1.O.len) (.int .i64 x1.cd) (.int .i64 x1.st) (.slice (some ⟨gcx1, 0, none⟩) x1.C.len x1.C.len) (.slice (some ⟨gux1, 0, none⟩) x1.U.length x1.U.length) by rw [hW]; exact cell10_alloc _ _ _ _ _ _ _ _ _ _ _ _)
      have HW := Lib.hid hW
      clear hW
      replace C0 := Lib.hid (C0.out.trans (hb.mono C0.out.size))
      replace C1 := Lib.hid (C1.out.trans (hb.mono C1.out.size))
      replace C2 := Lib.hid (C2.out.trans (hb.mono C2.out.size))
      replace C6 := Lib.hid (C6.out.trans (hb.mono C6.out.size))
      replace C7 := Lib.hid (C7.out.trans (hb.mono C7.out.size))
      replace C8 := Lib.hid (C8.out.trans (hb.mono C8.out.size))
      clear hb
      have C9 := Lib.hid (Below.refl w11.heap.size w11)
      go_wp2_with fail
      rw [← HW.out]
      clear HW
      clear yy0_0 yy0_1 yy0_2 yy0_3 hyl0
      refine (KI.out _ _ _ _ _ _ _ _ ((Cs.shows_of_owns (own_keep Hx0.out C6.out)).down (Nat.zero_le _)) ((Hx1.out.keep C8.out).shows)).mono ?_
      rintro e w12 ⟨rfl, hb⟩
      replace C0 := Lib.hid (C0.out.trans (hb.mono C0.out.size))
      replace C1 := Lib.hid (C1.out.trans (hb.mono C1.out.size))
      replace C2 := Lib.hid (C2.out.trans (hb.mono C2.out.size))
      replace C6 := Lib.hid (C6.out.trans (hb.mono C6.out.size))
      replace C7 := Lib.hid (C7.out.trans (hb.mono C7.out.size))
      replace C8 := Lib.hid (C8.out.trans (hb.mono C8.out.size))
      replace C9 := Lib.hid (C9.out.trans (hb.mono C9.out.size))
      clear hb
      obtain ⟨z0_0, z0_1, z0_2, z0_3⟩ := (Ba0.out.below C1.out)
      obtain ⟨z1_0, z1_1, z1_2, z1_3⟩ := (Bx0.out.below C7.out)
      go_wp2
      go_region_with (first | (go_at_call 11; replace C0 := Lib.hid C0.out.drew; replace C1 := Lib.hid C1.out.drew; replace C2 := Lib.hid C2.out.drew; replace C6 := Lib.hid C6.out.drew; replace C7 := Lib.hid C7.out.drew; replace C8 := Lib.hid C8.out.drew; replace C9 := Lib.hid C9.out.drew; refine (to_Program vw0 vm0 vi0 L0 _ _ (IS0.out.below C0.out) (by omega)).mono ?_; rintro e w13 ⟨ge0, rfl, hh, hb⟩; replace C0 := Lib.hid (C0.out.trans (hb.mono C0.out.size)); replace C1 := Lib.hid (C1.out.trans (hb.mono C1.out.size)); replace C2 := Lib.hid (C2.out.trans (hb.mono C2.out.size)); replace C6 := Lib.hid (C6.out.trans (hb.mono C6.out.size)); replace C7 := Lib.hid (C7.out.trans (hb.mono C7.out.size)); replace C8 := Lib.hid (C8.out.trans (hb.mono C8.out.size)); replace C9 := Lib.hid (C9.out.trans (hb.mono C9.out.size)); have HR := Lib.hid ((Cs.shows_of_owns hh).down (Nat.zero_le _)); obtain ⟨z1_0, z1_1, z1_2, z1_3⟩ := (Bx0.out.below C7.out); clear hh hb) | (go_at_call 14; refine (eq_Program vw0 vm0 vi0 L0 _ _ _ ((Cs.shows_of_owns (own_keep Hx0.out C6.out)).down (Nat.zero_le _)) HR.out (by omega)).mono ?_; rintro e w14 ⟨rfl, hb⟩; replace C0 := Lib.hid (C0.out.trans (hb.mono C0.out.size)); replace C1 := Lib.hid (C1.out.trans (hb.mono C1.out.size)); replace C2 := Lib.hid (C2.out.trans (hb.mono C2.out.size)); replace C6 := Lib.hid (C6.out.trans (hb.mono C6.out.size)); replace C7 := Lib.hid (C7.out.trans (hb.mono C7.out.size)); replace C8 := Lib.hid (C8.out.trans (hb.mono C8.out.size)); replace C9 := Lib.hid (C9.out.trans (hb.mono C9.out.size)); clear hb HR))
      all_goals
        clear z0_0 z0_1 z0_2 z0_3 z1_0 z1_1 z1_2 z1_3
        obtain ⟨z0_0, z0_1, z0_2, z0_3, z0_4, z0_5, z0_6, z0_7, z0_8, z0_9⟩ := (Ba1.out.below C2.out)
        obtain ⟨z1_0, z1_1, z1_2, z1_3, z1_4, z1_5, z1_6, z1_7, z1_8, z1_9⟩ := (Bx1.out.below C9.out)
        go_wp2
        go_region_with (first | (go_at_call 35; replace C0 := Lib.hid C0.out.drew; replace C1 := Lib.hid C1.out.drew; replace C2 := Lib.hid C2.out.drew; replace C6 := Lib.hid C6.out.drew; replace C7 := Lib.hid C7.out.drew; replace C8 := Lib.hid C8.out.drew; replace C9 := Lib.hid C9.out.drew; refine (to_Path x1 _ _ _ _ _ _ _ (IS1.out.below C0.out) NB1.out).mono ?_; rintro e w15 ⟨gre1, gme1, gse1, goe1, gce1, gue1, Be1, rfl, hh, hb⟩; replace C0 := Lib.hid (C0.out.trans (hb.mono C0.out.size)); replace C1 := Lib.hid (C1.out.trans (hb.mono C1.out.size)); replace C2 := Lib.hid (C2.out.trans (hb.mono C2.out.size)); replace C6 := Lib.hid (C6.out.trans (hb.mono C6.out.size)); replace C7 := Lib.hid (C7.out.trans (hb.mono C7.out.size)); replace C8 := Lib.hid (C8.out.trans (hb.mono C8.out.size)); replace C9 := Lib.hid (C9.out.trans (hb.mono C9.out.size)); have HR := Lib.hid (hh.shows); obtain ⟨z1_0, z1_1, z1_2, z1_3, z1_4, z1_5, z1_6, z1_7, z1_8, z1_9⟩ := (Bx1.out.below C9.out); clear hh hb) | (go_at_call 37; refine (eq_Path x1 _ _ _ _ _ _ _ _ _ _ _ _ _ ((Hx1.out.keep C8.out).shows) HR.out NE1.out).mono ?_; rintro e w16 ⟨rfl, hb⟩; replace C0 := Lib.hid (C0.out.trans (hb.mono C0.out.size)); replace C1 := Lib.hid (C1.out.trans (hb.mono C1.out.size)); replace C2 := Lib.hid (C2.out.trans (hb.mono C2.out.size)); replace C6 := Lib.hid (C6.out.trans (hb.mono C6.out.size)); replace C7 := Lib.hid (C7.out.trans (hb.mono C7.out.size)); replace C8 := Lib.hid (C8.out.trans (hb.mono C8.out.size)); replace C9 := Lib.hid (C9.out.trans (hb.mono C9.out.size)); clear hb HR))
        all_goals
          clear z0_0 z0_1 z0_2 z0_3 z0_4 z0_5 z0_6 z0_7 z0_8 z0_9 z1_0 z1_1 z1_2 z1_3 z1_4 z1_5 z1_6 z1_7 z1_8 z1_9
          go_wp2
          go_ret
          exact ⟨rfl, C0.out⟩
    · have hl : left l0 x1.cost = -1 := by unfold left; rw [if_neg hc1]
      rw [hl] at SZ1
      clear hl hc1
      go_enter Try.func7, Try.ntmps7
      have C0 := Lib.hid (Below.refl w.heap.size w)
      obtain ⟨w1, hW⟩ : ∃ W, W = w.alloc (.cells #[.int .i64 vw0, .int .i64 vm0, .int .i64 vi0, .slice q0 L0.length cap0] 24) := ⟨_, rfl⟩
      have hb : Below w.heap.size w w1 := by rw [hW]; exact (Below.refl _ _).alloc (Nat.le_refl _) _
      have Ba0 := Lib.hid (show Cell4 w1 w.heap.size (.int .i64 vw0) (.int .i64 vm0) (.int .i64 vi0) (.slice q0 L0.length cap0) by rw [hW]; exact cell4_alloc _ _ _ _ _ _)
      have HW := Lib.hid hW
      clear hW
      replace C0 := Lib.hid (C0.out.trans (hb.mono C0.out.size))
      clear hb
      have C1 := Lib.hid (Below.refl w1.heap.size w1)
      have hV := HW.out
      clear HW
      obtain ⟨w2, hW⟩ : ∃ W, W = w1.alloc (.cells #[.int .i64 x1.pc, .slice qr1 x1.R.len cr1, .slice qm1 x1.M.len cm1, .slice qs1 x1.S.length cs1, .int .i64 x1.inn, .slice qo1 x1.O.len co1, .int .i64 x1.cd, .int .i64 x1.st, .slice qc1 x1.C.len cc1, .slice qu1 x1.U.length cu1] 53) := ⟨_, rfl⟩
      have hb : Below w1.heap.size w1 w2 := by rw [hW]; exact (Below.refl _ _).alloc (Nat.le_refl _) _
      have Ba1 := Lib.hid (show Cell10 w2 w1.heap.size (.int .i64 x1.pc) (.slice qr1 x1.R.len cr1) (.slice qm1 x1.M.len cm1) (.slice qs1 x1.S.length cs1) (.int .i64 x1.inn) (.slice qo1 x1.O.len co1) (.int .i64 x1.cd) (.int .i64 x1.st) (.slice qc1 x1.C.len cc1) (.slice qu1 x1.U.length cu1) by rw [hW]; exact cell10_alloc _ _ _ _ _ _ _ _ _ _ _ _)
      have hS : w1.heap.size = w.heap.size + 1 := by rw [hV]; simp
      rw [hS] at Ba1
      rw [hV] at hW
      clear hV hS
      have HW := Lib.hid hW
      clear hW
      replace C0 := Lib.hid (C0.out.trans (hb.mono C0.out.size))
      replace C1 := Lib.hid (C1.out.trans (hb.mono C1.out.size))
      clear hb
      have C2 := Lib.hid (Below.refl w2.heap.size w2)
      go_wp2_with fail
      rw [← HW.out]
      clear HW
      refine (SZ0.out _ (IS0.out.below C0.out)).mono ?_
      rintro e w3 ⟨rfl, hb⟩
      replace C0 := Lib.hid (C0.out.trans (hb.mono C0.out.size))
      replace C1 := Lib.hid (C1.out.trans (hb.mono C1.out.size))
      replace C2 := Lib.hid (C2.out.trans (hb.mono C2.out.size))
      clear hb
      obtain ⟨z0_0, z0_1, z0_2, z0_3, z0_4, z0_5, z0_6, z0_7, z0_8, z0_9⟩ := (Ba1.out.below C2.out)
      go_wp2_with fail
      clear z0_0 z0_1 z0_2 z0_3 z0_4 z0_5 z0_6 z0_7 z0_8 z0_9
      refine (SZ1.out _ (IS1.out.below C0.out)).mono ?_
      rintro e w4 ⟨rfl, hb⟩
      replace C0 := Lib.hid (C0.out.trans (hb.mono C0.out.size))
      replace C1 := Lib.hid (C1.out.trans (hb.mono C1.out.size))
      replace C2 := Lib.hid (C2.out.trans (hb.mono C2.out.size))
      clear hb
      go_wp2
      go_ret
      exact ⟨rfl, C0.out⟩
  · have hl : left 1048576 (InsR.costs L0) = -1 := by unfold left; rw [if_neg hc0]
    rw [hl] at SZ0
    clear hl hc0
    go_enter Try.func7, Try.ntmps7
    have C0 := Lib.hid (Below.refl w.heap.size w)
    obtain ⟨w1, hW⟩ : ∃ W, W = w.alloc (.cells #[.int .i64 vw0, .int .i64 vm0, .int .i64 vi0, .slice q0 L0.length cap0] 24) := ⟨_, rfl⟩
    have hb : Below w.heap.size w w1 := by rw [hW]; exact (Below.refl _ _).alloc (Nat.le_refl _) _
    have Ba0 := Lib.hid (show Cell4 w1 w.heap.size (.int .i64 vw0) (.int .i64 vm0) (.int .i64 vi0) (.slice q0 L0.length cap0) by rw [hW]; exact cell4_alloc _ _ _ _ _ _)
    have HW := Lib.hid hW
    clear hW
    replace C0 := Lib.hid (C0.out.trans (hb.mono C0.out.size))
    clear hb
    have C1 := Lib.hid (Below.refl w1.heap.size w1)
    have hV := HW.out
    clear HW
    obtain ⟨w2, hW⟩ : ∃ W, W = w1.alloc (.cells #[.int .i64 x1.pc, .slice qr1 x1.R.len cr1, .slice qm1 x1.M.len cm1, .slice qs1 x1.S.length cs1, .int .i64 x1.inn, .slice qo1 x1.O.len co1, .int .i64 x1.cd, .int .i64 x1.st, .slice qc1 x1.C.len cc1, .slice qu1 x1.U.length cu1] 53) := ⟨_, rfl⟩
    have hb : Below w1.heap.size w1 w2 := by rw [hW]; exact (Below.refl _ _).alloc (Nat.le_refl _) _
    have Ba1 := Lib.hid (show Cell10 w2 w1.heap.size (.int .i64 x1.pc) (.slice qr1 x1.R.len cr1) (.slice qm1 x1.M.len cm1) (.slice qs1 x1.S.length cs1) (.int .i64 x1.inn) (.slice qo1 x1.O.len co1) (.int .i64 x1.cd) (.int .i64 x1.st) (.slice qc1 x1.C.len cc1) (.slice qu1 x1.U.length cu1) by rw [hW]; exact cell10_alloc _ _ _ _ _ _ _ _ _ _ _ _)
    have hS : w1.heap.size = w.heap.size + 1 := by rw [hV]; simp
    rw [hS] at Ba1
    rw [hV] at hW
    clear hV hS
    have HW := Lib.hid hW
    clear hW
    replace C0 := Lib.hid (C0.out.trans (hb.mono C0.out.size))
    replace C1 := Lib.hid (C1.out.trans (hb.mono C1.out.size))
    clear hb
    have C2 := Lib.hid (Below.refl w2.heap.size w2)
    go_wp2_with fail
    rw [← HW.out]
    clear HW
    refine (SZ0.out _ (IS0.out.below C0.out)).mono ?_
    rintro e w3 ⟨rfl, hb⟩
    replace C0 := Lib.hid (C0.out.trans (hb.mono C0.out.size))
    replace C1 := Lib.hid (C1.out.trans (hb.mono C1.out.size))
    replace C2 := Lib.hid (C2.out.trans (hb.mono C2.out.size))
    clear hb
    go_wp2
    go_ret
    exact ⟨rfl, C0.out⟩
end Go.Proofs.Ytbdkningngpgcaa
