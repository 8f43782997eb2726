/- The law FnExactFormatFact, walked by the contracts of all that it calls. -/
import Derived.Test.YtcihgechijiamaaDoorProgram
import Derived.Test.YtcihgechijiamaaDoorFxS
import Derived.Test.YtcihgechijiamaaDoorFxI
import Derived.Test.YtcihgechijiamaaDoorFcL
import Derived.Test.YtcihgechijiamaaDoorReg
import Derived.Deep.RegionWith
namespace Go.Proofs.YtcihgechijiamaaDoor
open Go.ChangeShapes Go.WideShapes Go.ChangeAt Go.RowKit
set_option maxRecDepth 100000 in
set_option maxHeartbeats 4000000 in
theorem law_FnExactFormatFact (vw0 vm0 vi0 : Int) (L0 : List InsR) (s0 : Value) (k1 a1 b1 n1 : Int) (w : World) (hs0 : Cs.Shows w 0 4 s0 L0.length (InsR.all L0)) (hok0 : (-9223372036854775808 ≤ vw0 ∧ vw0 ≤ 9223372036854775807) ∧ (-9223372036854775808 ≤ vm0 ∧ vm0 ≤ 9223372036854775807) ∧ (-9223372036854775808 ≤ vi0 ∧ vi0 ≤ 9223372036854775807) ∧ (∀ r ∈ L0, r.Ok) ∧ L0.length ≤ maxLen)  (ha1 : (-9223372036854775808 ≤ a1 ∧ a1 ≤ 9223372036854775807)) (hb1 : (-9223372036854775808 ≤ b1 ∧ b1 ≤ 9223372036854775807)) (hn1 : (-9223372036854775808 ≤ n1 ∧ n1 ≤ 9223372036854775807)) (hvar : w.var? Tryd.prog "loop.example/g03219/impl.factForms" = some fmCells) (htab : Lib.TabIs Tryd.prog w "internal/strconv.uint64pow10" .u64 Lib.pow10Tab) :
    Calls Tryd.prog 5 #[.agg #[.int .i64 vw0, .int .i64 vm0, .int .i64 vi0, s0], .agg #[.int .i64 k1, .int .i64 a1, .int .i64 b1, .int .i64 n1]] w fun e w' => e = .returned (.bool true) ∧ Below w.heap.size w w' := by
  have hml : maxLen = 9223372036854775807 := rfl
  have IS0 := Lib.hid hs0
  have OK0 := Lib.hid hok0
  obtain ⟨_, q0, cap0, rfl, _⟩ := hs0
  clear hok0
  have SZ0 := Lib.hid (fun W (h : Cs.Shows W 0 4 (.slice q0 L0.length cap0) L0.length (InsR.all L0)) => sz_Program vw0 vm0 vi0 L0 _ 1048576 W (by omega) h OK0.out.2.2.2.1 OK0.out.2.2.2.2)
  by_cases hc0 : (InsR.costs L0) ≤ 1048576
  · obtain ⟨l0, hl0, hm0⟩ : ∃ l : Nat, left 1048576 (InsR.costs L0) = (l : Int) ∧ l + (InsR.costs L0) = 1048576 := ⟨1048576 - (InsR.costs L0), by unfold left; rw [if_pos hc0]; omega, by omega⟩
    rw [hl0] at SZ0
    have hq0 : l0 ≤ 1048576 := by omega
    clear hl0 hm0
    have hnl0 := InsR.len_le L0
    have hlc0 : L0.length ≤ 1048576 := by omega
    have hcc0 : InsR.costs L0 ≤ 1048576 := by omega
    clear hnl0
    obtain ⟨B, hB⟩ : ∃ B, fxV vw0 vm0 vi0 L0 k1 a1 b1 n1 = B := ⟨_, rfl⟩
    have KS := Lib.hid (fun s W h => s_ffact vw0 vm0 vi0 L0 k1 a1 b1 n1 s W h OK0.out.2.2.2.1 OK0.out.2.2.2.2 ha1 hb1 hn1)
    have KI := Lib.hid (fun s W h (hb : Below w.heap.size w W) => i_ffact vw0 vm0 vi0 L0 k1 a1 b1 n1 s W h OK0.out.2.2.2.1 OK0.out.2.2.2.2 ha1 hb1 hn1 (forms_below hb hvar) (var_below hb htab))
    rw [hB] at KS KI
    clear hB hvar htab ha1 hb1 hn1
    clear hc0
    go_enter Tryd.func5, Tryd.ntmps5
    have C0 := Lib.hid (Below.refl w.heap.size w)
    obtain ⟨w1, hW⟩ : ∃ W, W = w.alloc (.cells #[.int .i64 vw0, .int .i64 vm0, .int .i64 vi0, .slice q0 L0.length cap0] 24) := ⟨_, rfl⟩
    have hb : Below w.heap.size w w1 := by rw [hW]; exact (Below.refl _ _).alloc (Nat.le_refl _) _
    have Ba0 := Lib.hid (show Cell4 w1 w.heap.size (.int .i64 vw0) (.int .i64 vm0) (.int .i64 vi0) (.slice q0 L0.length cap0) by rw [hW]; exact cell4_alloc _ _ _ _ _ _)
    have HW := Lib.hid hW
    clear hW
    replace C0 := Lib.hid (C0.out.trans (hb.mono C0.out.size))
    clear hb
    have C1 := Lib.hid (Below.refl w1.heap.size w1)
    have hV := HW.out
    clear HW
    obtain ⟨w2, hW⟩ : ∃ W, W = w1.alloc (.cells #[.int .i64 k1, .int .i64 a1, .int .i64 b1, .int .i64 n1] 26) := ⟨_, rfl⟩
    have hb : Below w1.heap.size w1 w2 := by rw [hW]; exact (Below.refl _ _).alloc (Nat.le_refl _) _
    have Ba1 := Lib.hid (show Cell4 w2 w1.heap.size (.int .i64 k1) (.int .i64 a1) (.int .i64 b1) (.int .i64 n1) by rw [hW]; exact cell4_alloc _ _ _ _ _ _)
    have hS : w1.heap.size = w.heap.size + 1 := by rw [hV]; simp
    rw [hS] at Ba1
    rw [hV] at hW
    clear hV hS
    have HW := Lib.hid hW
    clear hW
    replace C0 := Lib.hid (C0.out.trans (hb.mono C0.out.size))
    replace C1 := Lib.hid (C1.out.trans (hb.mono C1.out.size))
    clear hb
    have C2 := Lib.hid (Below.refl w2.heap.size w2)
    go_wp2_with fail
    rw [← HW.out]
    clear HW
    refine (SZ0.out _ (IS0.out.below C0.out)).mono ?_
    rintro e w3 ⟨rfl, hb⟩
    replace C0 := Lib.hid (C0.out.trans (hb.mono C0.out.size))
    replace C1 := Lib.hid (C1.out.trans (hb.mono C1.out.size))
    replace C2 := Lib.hid (C2.out.trans (hb.mono C2.out.size))
    clear hb
    go_wp2
    replace C0 := Lib.hid C0.out.drew
    replace C1 := Lib.hid C1.out.drew
    replace C2 := Lib.hid C2.out.drew
    have C3 := Lib.hid (Below.refl w3.drew.heap.size w3.drew)
    refine region_s [] (fun V => Below w3.drew.heap.size w3.drew V) (by kernel_rfl) ?_
    refine take_s (i := 0) (v := .agg #[.int .i64 vw0, .int .i64 vm0, .int .i64 vi0, .slice q0 L0.length cap0]) rfl (by kernel_rfl) (fun _ _ _ h => h) C3.out rfl (fun V hV => ?_) ?_
    · obtain ⟨z0, z1, z2, z3⟩ := (Ba0.out.below C1.out).below hV
      go_simp
    refine take_s (i := 2) (v := .agg #[.int .i64 k1, .int .i64 a1, .int .i64 b1, .int .i64 n1]) rfl (by kernel_rfl) (fun _ _ _ h => h) C3.out rfl (fun V hV => ?_) ?_
    · obtain ⟨z0, z1, z2, z3⟩ := (Ba1.out.below C2.out).below hV
      go_simp
    refine one_s (i := 1) (by kernel_rfl) (op_list rfl ?_)
    go_wp2_with fail
    refine (to_Program vw0 vm0 vi0 L0 _ _ (IS0.out.below C0.out) (by omega)).mono ?_
    rintro e w4 ⟨gp0, rfl, hh, hb⟩
    have Hp0 := Lib.hid hh
    clear hh
    replace C0 := Lib.hid (C0.out.trans (hb.mono C0.out.size))
    replace C1 := Lib.hid (C1.out.trans (hb.mono C1.out.size))
    replace C2 := Lib.hid (C2.out.trans (hb.mono C2.out.size))
    replace C3 := Lib.hid (C3.out.trans (hb.mono C3.out.size))
    clear hb
    have C4 := Lib.hid (Below.refl w4.heap.size w4)
    go_wp2
    refine ⟨fun _ => C3.out, ?_⟩
    refine one_s (i := 3) (by kernel_rfl) (op_list rfl ?_)
    go_wp2_with fail
    refine (to_Fact_one k1 a1 b1 n1 _).mono ?_
    rintro e w5 ⟨rfl, hb⟩
    replace C0 := Lib.hid (C0.out.trans (hb.mono C0.out.size))
    replace C1 := Lib.hid (C1.out.trans (hb.mono C1.out.size))
    replace C2 := Lib.hid (C2.out.trans (hb.mono C2.out.size))
    replace C3 := Lib.hid (C3.out.trans (hb.mono C3.out.size))
    replace C4 := Lib.hid (C4.out.trans (hb.mono C4.out.size))
    clear hb
    go_wp2
    refine ⟨fun _ => C3.out, ?_⟩
    refine one_s (i := 4) (by kernel_rfl) (op_list rfl ?_)
    go_wp2_with fail
    refine (KS.out _ _ ((Cs.shows_of_owns (own_keep Hp0.out C4.out)).down (Nat.zero_le _))).mono ?_
    rintro e w6 ⟨rfl, hb⟩
    replace C0 := Lib.hid (C0.out.trans (hb.mono C0.out.size))
    replace C1 := Lib.hid (C1.out.trans (hb.mono C1.out.size))
    replace C2 := Lib.hid (C2.out.trans (hb.mono C2.out.size))
    replace C3 := Lib.hid (C3.out.trans (hb.mono C3.out.size))
    replace C4 := Lib.hid (C4.out.trans (hb.mono C4.out.size))
    clear hb
    go_wp2
    refine ⟨fun _ => C3.out, ?_⟩
    refine one_s (i := 5) (by kernel_rfl) (op_list rfl ?_)
    go_wp2
    refine ⟨fun _ => C3.out, done_s (by kernel_rfl) ?_ _⟩
    clear C3
    clear C4
    obtain ⟨z0_0, z0_1, z0_2, z0_3⟩ := (Ba0.out.below C1.out)
    go_wp2_with fail
    clear z0_0 z0_1 z0_2 z0_3
    have Zx0C0 := Lib.hid C0.out.size
    have Zx0C1 := Lib.hid C1.out.size
    have Zx0C2 := Lib.hid C2.out.size
    refine (to_Program vw0 vm0 vi0 L0 _ _ (IS0.out.below C0.out) (by omega)).mono ?_
    rintro e w7 ⟨gx0, rfl, hh, hb⟩
    have Hx0 := Lib.hid hh
    clear hh
    replace C0 := Lib.hid (C0.out.trans (hb.mono C0.out.size))
    replace C1 := Lib.hid (C1.out.trans (hb.mono C1.out.size))
    replace C2 := Lib.hid (C2.out.trans (hb.mono C2.out.size))
    clear hb
    have C5 := Lib.hid (Below.refl w7.heap.size w7)
    obtain ⟨w8, hW⟩ : ∃ W, W = w7.alloc (.cells #[.int .i64 vw0, .int .i64 vm0, .int .i64 vi0, .slice (some ⟨gx0, 0, none⟩) L0.length L0.length] 31) := ⟨_, rfl⟩
    have hb : Below w7.heap.size w7 w8 := by rw [hW]; exact (Below.refl _ _).alloc (Nat.le_refl _) _
    have Bx0 := Lib.hid (show Cell4 w8 w7.heap.size (.int .i64 vw0) (.int .i64 vm0) (.int .i64 vi0) (.slice (some ⟨gx0, 0, none⟩) L0.length L0.length) by rw [hW]; exact cell4_alloc _ _ _ _ _ _)
    have HW := Lib.hid hW
    clear hW
    replace C0 := Lib.hid (C0.out.trans (hb.mono C0.out.size))
    replace C1 := Lib.hid (C1.out.trans (hb.mono C1.out.size))
    replace C2 := Lib.hid (C2.out.trans (hb.mono C2.out.size))
    replace C5 := Lib.hid (C5.out.trans (hb.mono C5.out.size))
    clear hb
    have C6 := Lib.hid (Below.refl w8.heap.size w8)
    go_wp2
    rw [← HW.out]
    clear HW
    replace C0 := Lib.hid C0.out.drew
    replace C1 := Lib.hid C1.out.drew
    replace C2 := Lib.hid C2.out.drew
    replace C5 := Lib.hid C5.out.drew
    replace C6 := Lib.hid C6.out.drew
    have C7 := Lib.hid (Below.refl w8.drew.heap.size w8.drew)
    refine region_s [] (fun V => Below w8.drew.heap.size w8.drew V) (by kernel_rfl) ?_
    refine take_s (i := 0) (v := .agg #[.int .i64 vw0, .int .i64 vm0, .int .i64 vi0, .slice (some ⟨gx0, 0, none⟩) L0.length L0.length]) rfl (by kernel_rfl) (fun _ _ _ h => h) C7.out rfl (fun V hV => ?_) ?_
    · obtain ⟨z0, z1, z2, z3⟩ := (Bx0.out.below C6.out).below hV
      go_simp
    refine take_s (i := 1) (v := .agg #[.int .i64 k1, .int .i64 a1, .int .i64 b1, .int .i64 n1]) rfl (by kernel_rfl) (fun _ _ _ h => h) C7.out rfl (fun V hV => ?_) ?_
    · obtain ⟨z0, z1, z2, z3⟩ := (Ba1.out.below C2.out).below hV
      go_simp
    refine one_s (i := 2) (by kernel_rfl) (op_list rfl ?_)
    go_wp2_with fail
    refine (to_Fact_one k1 a1 b1 n1 _).mono ?_
    rintro e w9 ⟨rfl, hb⟩
    replace C0 := Lib.hid (C0.out.trans (hb.mono C0.out.size))
    replace C1 := Lib.hid (C1.out.trans (hb.mono C1.out.size))
    replace C2 := Lib.hid (C2.out.trans (hb.mono C2.out.size))
    replace C5 := Lib.hid (C5.out.trans (hb.mono C5.out.size))
    replace C6 := Lib.hid (C6.out.trans (hb.mono C6.out.size))
    replace C7 := Lib.hid (C7.out.trans (hb.mono C7.out.size))
    clear hb
    go_wp2
    refine ⟨fun _ => C7.out, ?_⟩
    refine one_s (i := 3) (by kernel_rfl) (op_list rfl ?_)
    go_wp2_with fail
    refine (KI.out _ _ ((Cs.shows_of_owns (own_keep Hx0.out C5.out)).down (Nat.zero_le _)) C0.out).mono ?_
    rintro e w10 ⟨rfl, hb⟩
    replace C0 := Lib.hid (C0.out.trans (hb.mono C0.out.size))
    replace C1 := Lib.hid (C1.out.trans (hb.mono C1.out.size))
    replace C2 := Lib.hid (C2.out.trans (hb.mono C2.out.size))
    replace C5 := Lib.hid (C5.out.trans (hb.mono C5.out.size))
    replace C6 := Lib.hid (C6.out.trans (hb.mono C6.out.size))
    replace C7 := Lib.hid (C7.out.trans (hb.mono C7.out.size))
    clear hb
    go_wp2
    refine ⟨fun _ => C7.out, ?_⟩
    refine one_s (i := 4) (by kernel_rfl) (op_list rfl ?_)
    go_wp2
    refine ⟨fun _ => C7.out, done_s (by kernel_rfl) ?_ _⟩
    obtain ⟨z0_0, z0_1, z0_2, z0_3⟩ := (Ba0.out.below C1.out)
    obtain ⟨z1_0, z1_1, z1_2, z1_3⟩ := (Bx0.out.below C6.out)
    go_wp2
    go_region_with (first | (go_at_call 9; replace C0 := Lib.hid C0.out.drew; replace C1 := Lib.hid C1.out.drew; replace C2 := Lib.hid C2.out.drew; replace C5 := Lib.hid C5.out.drew; replace C6 := Lib.hid C6.out.drew; replace C7 := Lib.hid C7.out.drew; refine (to_Program vw0 vm0 vi0 L0 _ _ (IS0.out.below C0.out) (by omega)).mono ?_; rintro e w11 ⟨ge0, rfl, hh, hb⟩; replace C0 := Lib.hid (C0.out.trans (hb.mono C0.out.size)); replace C1 := Lib.hid (C1.out.trans (hb.mono C1.out.size)); replace C2 := Lib.hid (C2.out.trans (hb.mono C2.out.size)); replace C5 := Lib.hid (C5.out.trans (hb.mono C5.out.size)); replace C6 := Lib.hid (C6.out.trans (hb.mono C6.out.size)); replace C7 := Lib.hid (C7.out.trans (hb.mono C7.out.size)); have HR := Lib.hid ((Cs.shows_of_owns hh).down (Nat.zero_le _)); obtain ⟨z1_0, z1_1, z1_2, z1_3⟩ := (Bx0.out.below C6.out); clear hh hb) | (go_at_call 12; refine (eq_Program vw0 vm0 vi0 L0 _ _ _ ((Cs.shows_of_owns (own_keep Hx0.out C5.out)).down (Nat.zero_le _)) HR.out (by omega)).mono ?_; rintro e w12 ⟨rfl, hb⟩; replace C0 := Lib.hid (C0.out.trans (hb.mono C0.out.size)); replace C1 := Lib.hid (C1.out.trans (hb.mono C1.out.size)); replace C2 := Lib.hid (C2.out.trans (hb.mono C2.out.size)); replace C5 := Lib.hid (C5.out.trans (hb.mono C5.out.size)); replace C6 := Lib.hid (C6.out.trans (hb.mono C6.out.size)); replace C7 := Lib.hid (C7.out.trans (hb.mono C7.out.size)); clear hb HR))
    all_goals
      clear z0_0 z0_1 z0_2 z0_3 z1_0 z1_1 z1_2 z1_3
      go_wp2
      go_ret
      exact ⟨rfl, C0.out⟩
  · have hl : left 1048576 (InsR.costs L0) = -1 := by unfold left; rw [if_neg hc0]
    rw [hl] at SZ0
    clear hl hc0
    go_enter Tryd.func5, Tryd.ntmps5
    have C0 := Lib.hid (Below.refl w.heap.size w)
    obtain ⟨w1, hW⟩ : ∃ W, W = w.alloc (.cells #[.int .i64 vw0, .int .i64 vm0, .int .i64 vi0, .slice q0 L0.length cap0] 24) := ⟨_, rfl⟩
    have hb : Below w.heap.size w w1 := by rw [hW]; exact (Below.refl _ _).alloc (Nat.le_refl _) _
    have Ba0 := Lib.hid (show Cell4 w1 w.heap.size (.int .i64 vw0) (.int .i64 vm0) (.int .i64 vi0) (.slice q0 L0.length cap0) by rw [hW]; exact cell4_alloc _ _ _ _ _ _)
    have HW := Lib.hid hW
    clear hW
    replace C0 := Lib.hid (C0.out.trans (hb.mono C0.out.size))
    clear hb
    have C1 := Lib.hid (Below.refl w1.heap.size w1)
    have hV := HW.out
    clear HW
    obtain ⟨w2, hW⟩ : ∃ W, W = w1.alloc (.cells #[.int .i64 k1, .int .i64 a1, .int .i64 b1, .int .i64 n1] 26) := ⟨_, rfl⟩
    have hb : Below w1.heap.size w1 w2 := by rw [hW]; exact (Below.refl _ _).alloc (Nat.le_refl _) _
    have Ba1 := Lib.hid (show Cell4 w2 w1.heap.size (.int .i64 k1) (.int .i64 a1) (.int .i64 b1) (.int .i64 n1) by rw [hW]; exact cell4_alloc _ _ _ _ _ _)
    have hS : w1.heap.size = w.heap.size + 1 := by rw [hV]; simp
    rw [hS] at Ba1
    rw [hV] at hW
    clear hV hS
    have HW := Lib.hid hW
    clear hW
    replace C0 := Lib.hid (C0.out.trans (hb.mono C0.out.size))
    replace C1 := Lib.hid (C1.out.trans (hb.mono C1.out.size))
    clear hb
    have C2 := Lib.hid (Below.refl w2.heap.size w2)
    go_wp2_with fail
    rw [← HW.out]
    clear HW
    refine (SZ0.out _ (IS0.out.below C0.out)).mono ?_
    rintro e w3 ⟨rfl, hb⟩
    replace C0 := Lib.hid (C0.out.trans (hb.mono C0.out.size))
    replace C1 := Lib.hid (C1.out.trans (hb.mono C1.out.size))
    replace C2 := Lib.hid (C2.out.trans (hb.mono C2.out.size))
    clear hb
    go_wp2
    go_ret
    exact ⟨rfl, C0.out⟩
end Go.Proofs.YtcihgechijiamaaDoor
