/- The law FnExactSessionOk, walked by the contracts of all that it calls. -/
import Derived.Test.YtbbalmeglgecgaaSeT
import Derived.Test.YtbbalmeglgecgaaSeS
import Derived.Test.YtbbalmeglgecgaaSeI
import Derived.Deep.RegionWith
namespace Go.Proofs.Ytbbalmeglgecgaa
open Go.ChangeShapes Go.WideShapes Go.ChangeAt Go.RowKit
set_option maxRecDepth 100000 in
set_option maxHeartbeats 4000000 in
theorem law_FnExactSessionOk (vw0 vm0 vi0 fu0 : Int) (L0 : List InsR) (T0 : List (List Int)) (s0 t0 : Value) (w : World) (hs0 : SeS w 0 L0 T0 s0 t0) (hok0 : (-9223372036854775808 ≤ vw0 ∧ vw0 ≤ 9223372036854775807) ∧ (-9223372036854775808 ≤ vm0 ∧ vm0 ≤ 9223372036854775807) ∧ (-9223372036854775808 ≤ vi0 ∧ vi0 ≤ 9223372036854775807) ∧ (∀ r ∈ L0, r.Ok) ∧ L0.length ≤ maxLen) (htk0 : IntSS.Ok T0) (htl0 : T0.length ≤ maxLen) :
    Calls Try.prog 4 #[.agg #[.int .i64 vw0, .int .i64 vm0, .int .i64 vi0, s0, .int .i64 fu0, t0]] w fun e w' => e = .returned (.bool true) ∧ Below w.heap.size w w' := by
  have hml : maxLen = 9223372036854775807 := rfl
  have IS0 := Lib.hid hs0
  have OK0 := Lib.hid hok0
  have TK0 := Lib.hid htk0
  have TL0 := Lib.hid htl0
  obtain ⟨⟨_, q0, cap0, rfl, _⟩, ⟨_, ⟨_, tq0, tc0, rfl, _⟩, _⟩⟩ := hs0
  clear hok0 htk0 htl0
  have SZ0 := Lib.hid (fun W (h : SeS W 0 L0 T0 (.slice q0 L0.length cap0) (.slice tq0 T0.length tc0)) => sz_Session vw0 vm0 vi0 fu0 L0 T0 _ _ 1048576 W (by omega) h.hs h.ht OK0.out.2.2.2.1 OK0.out.2.2.2.2 TK0.out TL0.out)
  by_cases hc0 : (SeC L0 T0) ≤ 1048576
  · obtain ⟨l0, hl0, hm0⟩ : ∃ l : Nat, left 1048576 (SeC L0 T0) = (l : Int) ∧ l + (SeC L0 T0) = 1048576 := ⟨1048576 - (SeC L0 T0), by unfold left; rw [if_pos hc0]; omega, by omega⟩
    rw [hl0] at SZ0
    have hq0 : l0 ≤ 1048576 := by omega
    clear hl0 hm0
    have hxx0 : SeC L0 T0 = InsR.costs L0 + IntSS.costs T0 := rfl
    have hcl0 : InsR.costs L0 ≤ 1048576 := by omega
    have hct0 : IntSS.costs T0 ≤ 1048576 := by omega
    have htn0 := IntSS.len_le T0
    have hln0 : T0.length ≤ 1048576 := by omega
    clear hxx0 htn0
    obtain ⟨B, hB⟩ : ∃ B, seB vw0 vm0 vi0 fu0 L0 T0 = B := ⟨_, rfl⟩
    have KS := Lib.hid (fun s t W (h : SeS W 0 L0 T0 s t) => s_session vw0 vm0 vi0 fu0 L0 T0 s t W h.hs h.ht OK0.out.2.2.2.1 OK0.out.2.2.2.2 TK0.out TL0.out)
    have KI := Lib.hid (fun s t W (h : SeS W 0 L0 T0 s t) => i_session vw0 vm0 vi0 fu0 L0 T0 s t W h.hs h.ht OK0.out.2.2.2.1 OK0.out.2.2.2.2 TK0.out TL0.out)
    rw [hB] at KS KI
    clear hB
    clear hc0
    go_enter Try.func4, Try.ntmps4
    have C0 := Lib.hid (Below.refl w.heap.size w)
    obtain ⟨w1, hW⟩ : ∃ W, W = w.alloc (.cells #[.int .i64 vw0, .int .i64 vm0, .int .i64 vi0, .slice q0 L0.length cap0, .int .i64 fu0, .slice tq0 T0.length tc0] 36) := ⟨_, rfl⟩
    have hb : Below w.heap.size w w1 := by rw [hW]; exact (Below.refl _ _).alloc (Nat.le_refl _) _
    have Ba0 := Lib.hid (show Cell6 w1 w.heap.size (.int .i64 vw0) (.int .i64 vm0) (.int .i64 vi0) (.slice q0 L0.length cap0) (.int .i64 fu0) (.slice tq0 T0.length tc0) by rw [hW]; exact cell6_alloc _ _ _ _ _ _ _ _)
    have HW := Lib.hid hW
    clear hW
    replace C0 := Lib.hid (C0.out.trans (hb.mono C0.out.size))
    clear hb
    have C1 := Lib.hid (Below.refl w1.heap.size w1)
    go_wp2_with fail
    rw [← HW.out]
    clear HW
    refine (SZ0.out _ (IS0.out.below C0.out)).mono ?_
    rintro e w2 ⟨rfl, hb⟩
    replace C0 := Lib.hid (C0.out.trans (hb.mono C0.out.size))
    replace C1 := Lib.hid (C1.out.trans (hb.mono C1.out.size))
    clear hb
    obtain ⟨z0_0, z0_1, z0_2, z0_3, z0_4, z0_5⟩ := (Ba0.out.below C1.out)
    go_wp2_with fail
    clear z0_0 z0_1 z0_2 z0_3 z0_4 z0_5
    refine (to_Session vw0 vm0 vi0 fu0 L0 T0 _ _ _ (IS0.out.below C0.out) (by omega) (by omega)).mono ?_
    rintro e w3 ⟨gp0, gtp0, rfl, hh, hb⟩
    have Hp0 := Lib.hid hh
    clear hh
    replace C0 := Lib.hid (C0.out.trans (hb.mono C0.out.size))
    replace C1 := Lib.hid (C1.out.trans (hb.mono C1.out.size))
    clear hb
    have C2 := Lib.hid (Below.refl w3.heap.size w3)
    go_wp2_with fail
    refine (KS.out _ _ _ ((Hp0.out.keep C2.out).shows)).mono ?_
    rintro e w4 ⟨rfl, hb⟩
    replace C0 := Lib.hid (C0.out.trans (hb.mono C0.out.size))
    replace C1 := Lib.hid (C1.out.trans (hb.mono C1.out.size))
    replace C2 := Lib.hid (C2.out.trans (hb.mono C2.out.size))
    clear hb
    clear C2
    obtain ⟨z0_0, z0_1, z0_2, z0_3, z0_4, z0_5⟩ := (Ba0.out.below C1.out)
    go_wp2_with fail
    clear z0_0 z0_1 z0_2 z0_3 z0_4 z0_5
    have Zx0C0 := Lib.hid C0.out.size
    have Zx0C1 := Lib.hid C1.out.size
    refine (to_Session vw0 vm0 vi0 fu0 L0 T0 _ _ _ (IS0.out.below C0.out) (by omega) (by omega)).mono ?_
    rintro e w5 ⟨gx0, gtx0, rfl, hh, hb⟩
    have Hx0 := Lib.hid hh
    clear hh
    replace C0 := Lib.hid (C0.out.trans (hb.mono C0.out.size))
    replace C1 := Lib.hid (C1.out.trans (hb.mono C1.out.size))
    clear hb
    have C3 := Lib.hid (Below.refl w5.heap.size w5)
    obtain ⟨w6, hW⟩ : ∃ W, W = w5.alloc (.cells #[.int .i64 vw0, .int .i64 vm0, .int .i64 vi0, .slice (some ⟨gx0, 0, none⟩) L0.length L0.length, .int .i64 fu0, .slice (some ⟨gtx0, 0, none⟩) T0.length T0.length] 27) := ⟨_, rfl⟩
    have hb : Below w5.heap.size w5 w6 := by rw [hW]; exact (Below.refl _ _).alloc (Nat.le_refl _) _
    have Bx0 := Lib.hid (show Cell6 w6 w5.heap.size (.int .i64 vw0) (.int .i64 vm0) (.int .i64 vi0) (.slice (some ⟨gx0, 0, none⟩) L0.length L0.length) (.int .i64 fu0) (.slice (some ⟨gtx0, 0, none⟩) T0.length T0.length) by rw [hW]; exact cell6_alloc _ _ _ _ _ _ _ _)
    have HW := Lib.hid hW
    clear hW
    replace C0 := Lib.hid (C0.out.trans (hb.mono C0.out.size))
    replace C1 := Lib.hid (C1.out.trans (hb.mono C1.out.size))
    replace C3 := Lib.hid (C3.out.trans (hb.mono C3.out.size))
    clear hb
    have C4 := Lib.hid (Below.refl w6.heap.size w6)
    obtain ⟨z0_0, z0_1, z0_2, z0_3, z0_4, z0_5⟩ := (Bx0.out.below C4.out)
    go_wp2_with fail
    rw [← HW.out]
    clear HW
    clear z0_0 z0_1 z0_2 z0_3 z0_4 z0_5
    refine (KI.out _ _ _ ((Hx0.out.keep C3.out).shows)).mono ?_
    rintro e w7 ⟨rfl, hb⟩
    replace C0 := Lib.hid (C0.out.trans (hb.mono C0.out.size))
    replace C1 := Lib.hid (C1.out.trans (hb.mono C1.out.size))
    replace C3 := Lib.hid (C3.out.trans (hb.mono C3.out.size))
    replace C4 := Lib.hid (C4.out.trans (hb.mono C4.out.size))
    clear hb
    obtain ⟨z0_0, z0_1, z0_2, z0_3, z0_4, z0_5⟩ := (Ba0.out.below C1.out)
    obtain ⟨z1_0, z1_1, z1_2, z1_3, z1_4, z1_5⟩ := (Bx0.out.below C4.out)
    go_wp2
    go_region_with (first | (go_at_call 15; replace C0 := Lib.hid C0.out.drew; replace C1 := Lib.hid C1.out.drew; replace C3 := Lib.hid C3.out.drew; replace C4 := Lib.hid C4.out.drew; refine (to_Session vw0 vm0 vi0 fu0 L0 T0 _ _ _ (IS0.out.below C0.out) (by omega) (by omega)).mono ?_; rintro e w8 ⟨ge0, gte0, rfl, hh, hb⟩; replace C0 := Lib.hid (C0.out.trans (hb.mono C0.out.size)); replace C1 := Lib.hid (C1.out.trans (hb.mono C1.out.size)); replace C3 := Lib.hid (C3.out.trans (hb.mono C3.out.size)); replace C4 := Lib.hid (C4.out.trans (hb.mono C4.out.size)); have HR := Lib.hid (hh.shows); obtain ⟨z1_0, z1_1, z1_2, z1_3, z1_4, z1_5⟩ := (Bx0.out.below C4.out); clear hh hb) | (go_at_call 10; refine (eq_Session vw0 vm0 vi0 fu0 L0 T0 _ _ _ _ _ ((Hx0.out.keep C3.out).shows).hs ((Hx0.out.keep C3.out).shows).ht HR.out.hs HR.out.ht (by omega) (by omega)).mono ?_; rintro e w9 ⟨rfl, hb⟩; replace C0 := Lib.hid (C0.out.trans (hb.mono C0.out.size)); replace C1 := Lib.hid (C1.out.trans (hb.mono C1.out.size)); replace C3 := Lib.hid (C3.out.trans (hb.mono C3.out.size)); replace C4 := Lib.hid (C4.out.trans (hb.mono C4.out.size)); clear hb HR))
    all_goals
      clear z0_0 z0_1 z0_2 z0_3 z0_4 z0_5 z1_0 z1_1 z1_2 z1_3 z1_4 z1_5
      go_wp2
      go_ret
      exact ⟨rfl, C0.out⟩
  · have hl : left 1048576 (SeC L0 T0) = -1 := by unfold left; rw [if_neg hc0]
    rw [hl] at SZ0
    clear hl hc0
    go_enter Try.func4, Try.ntmps4
    have C0 := Lib.hid (Below.refl w.heap.size w)
    obtain ⟨w1, hW⟩ : ∃ W, W = w.alloc (.cells #[.int .i64 vw0, .int .i64 vm0, .int .i64 vi0, .slice q0 L0.length cap0, .int .i64 fu0, .slice tq0 T0.length tc0] 36) := ⟨_, rfl⟩
    have hb : Below w.heap.size w w1 := by rw [hW]; exact (Below.refl _ _).alloc (Nat.le_refl _) _
    have Ba0 := Lib.hid (show Cell6 w1 w.heap.size (.int .i64 vw0) (.int .i64 vm0) (.int .i64 vi0) (.slice q0 L0.length cap0) (.int .i64 fu0) (.slice tq0 T0.length tc0) by rw [hW]; exact cell6_alloc _ _ _ _ _ _ _ _)
    have HW := Lib.hid hW
    clear hW
    replace C0 := Lib.hid (C0.out.trans (hb.mono C0.out.size))
    clear hb
    have C1 := Lib.hid (Below.refl w1.heap.size w1)
    go_wp2_with fail
    rw [← HW.out]
    clear HW
    refine (SZ0.out _ (IS0.out.below C0.out)).mono ?_
    rintro e w2 ⟨rfl, hb⟩
    replace C0 := Lib.hid (C0.out.trans (hb.mono C0.out.size))
    replace C1 := Lib.hid (C1.out.trans (hb.mono C1.out.size))
    clear hb
    go_wp2
    go_ret
    exact ⟨rfl, C0.out⟩
end Go.Proofs.Ytbbalmeglgecgaa
