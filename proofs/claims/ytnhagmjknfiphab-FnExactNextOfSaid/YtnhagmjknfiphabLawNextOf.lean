/- The law FnExactNextOf, walked by the contracts of all that it calls. -/
import Derived.Test.YtnhagmjknfiphabProgram
import Derived.Test.YtnhagmjknfiphabFlInt
import Derived.Test.YtnhagmjknfiphabMkInt
import Derived.Test.YtnhagmjknfiphabMkProg
import Derived.Test.YtnhagmjknfiphabNxS
import Derived.Test.YtnhagmjknfiphabNxI
import Derived.Deep.RegionWith
namespace Go.Proofs.Ytnhagmjknfiphab
open Go.ChangeShapes Go.WideShapes Go.ChangeAt Go.RowKit
set_option maxRecDepth 100000 in
set_option maxHeartbeats 4000000 in
theorem law_FnExactNextOf (vw0 vm0 vi0 : Int) (L0 : List InsR) (s0 : Value) (a1 : Int) (w : World) (hs0 : Cs.Shows w 0 4 s0 L0.length (InsR.all L0)) (hok0 : (-9223372036854775808 ≤ vw0 ∧ vw0 ≤ 9223372036854775807) ∧ (-9223372036854775808 ≤ vm0 ∧ vm0 ≤ 9223372036854775807) ∧ (-9223372036854775808 ≤ vi0 ∧ vi0 ≤ 9223372036854775807) ∧ (∀ r ∈ L0, r.Ok) ∧ L0.length ≤ maxLen)  :
    Calls Try.prog 3 #[.agg #[.int .i64 vw0, .int .i64 vm0, .int .i64 vi0, s0], .int .i64 a1] w fun e w' => e = .returned (.bool true) ∧ Below w.heap.size w w' := by
  have hml : maxLen = 9223372036854775807 := rfl
  have IS0 := Lib.hid hs0
  have OK0 := Lib.hid hok0
  obtain ⟨_, q0, cap0, rfl, _⟩ := hs0
  clear hok0
  have SZ0 := Lib.hid (fun W (h : Cs.Shows W 0 4 (.slice q0 L0.length cap0) L0.length (InsR.all L0)) => sz_Program vw0 vm0 vi0 L0 _ 1048576 W (by omega) h OK0.out.2.2.2.1 OK0.out.2.2.2.2)
  by_cases hc0 : (InsR.costs L0) ≤ 1048576
  · obtain ⟨l0, hl0, hm0⟩ : ∃ l : Nat, left 1048576 (InsR.costs L0) = (l : Int) ∧ l + (InsR.costs L0) = 1048576 := ⟨1048576 - (InsR.costs L0), by unfold left; rw [if_pos hc0]; omega, by omega⟩
    rw [hl0] at SZ0
    have hq0 : l0 ≤ 1048576 := by omega
    clear hl0 hm0
    have hnl0 := InsR.len_le L0
    have hlc0 : L0.length ≤ 1048576 := by omega
    have hcc0 : InsR.costs L0 ≤ 1048576 := by omega
    clear hnl0
    obtain ⟨V, hV⟩ : ∃ V, nxL vw0 vm0 vi0 L0 a1 = V := ⟨_, rfl⟩
    have hvl : V.length ≤ 1000 := by rw [← hV]; have := nxL_len vw0 vm0 vi0 L0 a1; omega
    have KS := Lib.hid (fun s W h => s_next vw0 vm0 vi0 L0 s a1 W h OK0.out.2.2.2.1 OK0.out.2.2.2.2)
    have KI := Lib.hid (fun s W h => i_next vw0 vm0 vi0 L0 s a1 W h OK0.out.2.2.2.1 OK0.out.2.2.2.2)
    unfold NxOwn at KS KI
    rw [hV] at KS KI
    clear hV
    clear hc0
    go_enter Try.func3, Try.ntmps3
    have C0 := Lib.hid (Below.refl w.heap.size w)
    obtain ⟨w1, hW⟩ : ∃ W, W = w.alloc (.cells #[.int .i64 vw0, .int .i64 vm0, .int .i64 vi0, .slice q0 L0.length cap0] 24) := ⟨_, rfl⟩
    have hb : Below w.heap.size w w1 := by rw [hW]; exact (Below.refl _ _).alloc (Nat.le_refl _) _
    have Ba0 := Lib.hid (show Cell4 w1 w.heap.size (.int .i64 vw0) (.int .i64 vm0) (.int .i64 vi0) (.slice q0 L0.length cap0) by rw [hW]; exact cell4_alloc _ _ _ _ _ _)
    have HW := Lib.hid hW
    clear hW
    replace C0 := Lib.hid (C0.out.trans (hb.mono C0.out.size))
    clear hb
    have C1 := Lib.hid (Below.refl w1.heap.size w1)
    go_wp2_with fail
    rw [← HW.out]
    clear HW
    refine (SZ0.out _ (IS0.out.below C0.out)).mono ?_
    rintro e w2 ⟨rfl, hb⟩
    replace C0 := Lib.hid (C0.out.trans (hb.mono C0.out.size))
    replace C1 := Lib.hid (C1.out.trans (hb.mono C1.out.size))
    clear hb
    obtain ⟨z0_0, z0_1, z0_2, z0_3⟩ := (Ba0.out.below C1.out)
    go_wp2_with fail
    clear z0_0 z0_1 z0_2 z0_3
    refine (to_Program vw0 vm0 vi0 L0 _ _ (IS0.out.below C0.out) (by omega)).mono ?_
    rintro e w3 ⟨gp0, rfl, hh, hb⟩
    have Hp0 := Lib.hid hh
    clear hh
    replace C0 := Lib.hid (C0.out.trans (hb.mono C0.out.size))
    replace C1 := Lib.hid (C1.out.trans (hb.mono C1.out.size))
    clear hb
    have C2 := Lib.hid (Below.refl w3.heap.size w3)
    go_wp2_with fail
    refine (KS.out _ _ ((Cs.shows_of_owns (own_keep Hp0.out C2.out)).down (Nat.zero_le _))).mono ?_
    rintro e w4 ⟨hb, sq0, sc0, rfl, hs⟩
    replace C0 := Lib.hid (C0.out.trans (hb.mono C0.out.size))
    replace C1 := Lib.hid (C1.out.trans (hb.mono C1.out.size))
    replace C2 := Lib.hid (C2.out.trans (hb.mono C2.out.size))
    clear hb
    have SF := Lib.hid ((Cs.shows_of_owns hs).down (Nat.zero_le _))
    clear hs
    have C3 := Lib.hid (Below.refl w4.heap.size w4)
    clear C2
    obtain ⟨z0_0, z0_1, z0_2, z0_3⟩ := (Ba0.out.below C1.out)
    go_wp2_with fail
    clear z0_0 z0_1 z0_2 z0_3
    have Zx0C0 := Lib.hid C0.out.size
    have Zx0C1 := Lib.hid C1.out.size
    have Zx0C3 := Lib.hid C3.out.size
    refine (to_Program vw0 vm0 vi0 L0 _ _ (IS0.out.below C0.out) (by omega)).mono ?_
    rintro e w5 ⟨gx0, rfl, hh, hb⟩
    have Hx0 := Lib.hid hh
    clear hh
    replace C0 := Lib.hid (C0.out.trans (hb.mono C0.out.size))
    replace C1 := Lib.hid (C1.out.trans (hb.mono C1.out.size))
    replace C3 := Lib.hid (C3.out.trans (hb.mono C3.out.size))
    clear hb
    have C4 := Lib.hid (Below.refl w5.heap.size w5)
    obtain ⟨w6, hW⟩ : ∃ W, W = w5.alloc (.cells #[.int .i64 vw0, .int .i64 vm0, .int .i64 vi0, .slice (some ⟨gx0, 0, none⟩) L0.length L0.length] 30) := ⟨_, rfl⟩
    have hb : Below w5.heap.size w5 w6 := by rw [hW]; exact (Below.refl _ _).alloc (Nat.le_refl _) _
    have Bx0 := Lib.hid (show Cell4 w6 w5.heap.size (.int .i64 vw0) (.int .i64 vm0) (.int .i64 vi0) (.slice (some ⟨gx0, 0, none⟩) L0.length L0.length) by rw [hW]; exact cell4_alloc _ _ _ _ _ _)
    have HW := Lib.hid hW
    clear hW
    replace C0 := Lib.hid (C0.out.trans (hb.mono C0.out.size))
    replace C1 := Lib.hid (C1.out.trans (hb.mono C1.out.size))
    replace C3 := Lib.hid (C3.out.trans (hb.mono C3.out.size))
    replace C4 := Lib.hid (C4.out.trans (hb.mono C4.out.size))
    clear hb
    have C5 := Lib.hid (Below.refl w6.heap.size w6)
    obtain ⟨z0_0, z0_1, z0_2, z0_3⟩ := (Bx0.out.below C5.out)
    go_wp2_with fail
    rw [← HW.out]
    clear HW
    clear z0_0 z0_1 z0_2 z0_3
    have ZGC0 := Lib.hid C0.out.size
    have ZGC1 := Lib.hid C1.out.size
    have ZGC3 := Lib.hid C3.out.size
    have Yx0 := Lib.hid (fun g (hg : g ∈ (.slice (some ⟨gx0, 0, none⟩) L0.length L0.length : Value).ownBlock.toList) => (own_lt (own_keep Hx0.out C4.out) hg).2)
    refine (KI.out _ _ ((Cs.shows_of_owns (own_keep Hx0.out C4.out)).down (Nat.zero_le _))).mono ?_
    rintro e w7 ⟨hb, iq0, ic0, rfl, hh⟩
    replace C0 := Lib.hid (C0.out.trans (hb.mono C0.out.size))
    replace C1 := Lib.hid (C1.out.trans (hb.mono C1.out.size))
    replace C3 := Lib.hid (C3.out.trans (hb.mono C3.out.size))
    replace C4 := Lib.hid (C4.out.trans (hb.mono C4.out.size))
    replace C5 := Lib.hid (C5.out.trans (hb.mono C5.out.size))
    clear hb
    have GF := Lib.hid hh
    clear hh
    have LG := Lib.hid (fun g (hg : g ∈ (.slice iq0 V.length ic0 : Value).ownBlock.toList) => (own_lt GF.out hg).1)
    have C6 := Lib.hid (Below.refl w7.heap.size w7)
    go_wp2_with fail
    refine (eq_Int V _ _ _ ((Cs.shows_of_owns (own_keep GF.out C6.out)).down (Nat.zero_le _)) (SF.out.below C3.out) (by omega)).mono ?_
    rintro e w8 ⟨rfl, hb⟩
    replace C0 := Lib.hid (C0.out.trans (hb.mono C0.out.size))
    replace C1 := Lib.hid (C1.out.trans (hb.mono C1.out.size))
    replace C3 := Lib.hid (C3.out.trans (hb.mono C3.out.size))
    replace C4 := Lib.hid (C4.out.trans (hb.mono C4.out.size))
    replace C5 := Lib.hid (C5.out.trans (hb.mono C5.out.size))
    replace C6 := Lib.hid (C6.out.trans (hb.mono C6.out.size))
    clear hb
    obtain ⟨z0_0, z0_1, z0_2, z0_3⟩ := (Ba0.out.below C1.out)
    obtain ⟨z1_0, z1_1, z1_2, z1_3⟩ := (Bx0.out.below C5.out)
    go_wp2
    go_region_with (first | (go_at_call 9; replace C0 := Lib.hid C0.out.drew; replace C1 := Lib.hid C1.out.drew; replace C3 := Lib.hid C3.out.drew; replace C4 := Lib.hid C4.out.drew; replace C5 := Lib.hid C5.out.drew; replace C6 := Lib.hid C6.out.drew; refine (to_Program vw0 vm0 vi0 L0 _ _ (IS0.out.below C0.out) (by omega)).mono ?_; rintro e w9 ⟨ge0, rfl, hh, hb⟩; replace C0 := Lib.hid (C0.out.trans (hb.mono C0.out.size)); replace C1 := Lib.hid (C1.out.trans (hb.mono C1.out.size)); replace C3 := Lib.hid (C3.out.trans (hb.mono C3.out.size)); replace C4 := Lib.hid (C4.out.trans (hb.mono C4.out.size)); replace C5 := Lib.hid (C5.out.trans (hb.mono C5.out.size)); replace C6 := Lib.hid (C6.out.trans (hb.mono C6.out.size)); have HR := Lib.hid ((Cs.shows_of_owns hh).down (Nat.zero_le _)); obtain ⟨z1_0, z1_1, z1_2, z1_3⟩ := (Bx0.out.below C5.out); clear hh hb) | (go_at_call 12; refine (eq_Program vw0 vm0 vi0 L0 _ _ _ ((Cs.shows_of_owns (own_keep Hx0.out C4.out)).down (Nat.zero_le _)) HR.out (by omega)).mono ?_; rintro e w10 ⟨rfl, hb⟩; replace C0 := Lib.hid (C0.out.trans (hb.mono C0.out.size)); replace C1 := Lib.hid (C1.out.trans (hb.mono C1.out.size)); replace C3 := Lib.hid (C3.out.trans (hb.mono C3.out.size)); replace C4 := Lib.hid (C4.out.trans (hb.mono C4.out.size)); replace C5 := Lib.hid (C5.out.trans (hb.mono C5.out.size)); replace C6 := Lib.hid (C6.out.trans (hb.mono C6.out.size)); clear hb HR))
    all_goals
      clear z0_0 z0_1 z0_2 z0_3 z1_0 z1_1 z1_2 z1_3
      obtain ⟨z0_0, z0_1, z0_2, z0_3⟩ := (Bx0.out.below C5.out)
      go_wp2_with fail
      clear z0_0 z0_1 z0_2 z0_3
      refine (mark_Program vw0 vm0 vi0 L0 _ _ 1 _ _ (own_keep Hx0.out C4.out) (by omega) (by omega)).mono ?_
      rintro e w11 ⟨rfl, hh, hap⟩
      clear hh
      have LX := Lib.hid (fun g (hg : g ∈ (.slice (some ⟨gx0, 0, none⟩) L0.length L0.length : Value).ownBlock.toList) => (own_lt Hx0.out hg).1)
      have GN := Lib.hid (own_same (own_keep GF.out C6.out) (fun g hg => hap.block g (own_lt (own_keep GF.out C6.out) hg).2 (fun hm => by have h1 := LG.out g hg; have h2 := Yx0.out g hm; omega)))
      replace C0 := Lib.hid (C0.out.trans (hap.below C0.out.size (fun g hg => Nat.le_trans Zx0C0.out (LX.out g hg))))
      replace C1 := Lib.hid (C1.out.trans (hap.below C1.out.size (fun g hg => Nat.le_trans Zx0C1.out (LX.out g hg))))
      replace C3 := Lib.hid (C3.out.trans (hap.below C3.out.size (fun g hg => Nat.le_trans Zx0C3.out (LX.out g hg))))
      clear hap LX GF
      have GF := GN
      clear GN C4 C5 C6
      have C7 := Lib.hid (Below.refl w11.heap.size w11)
      go_wp2_with fail
      refine (eq_Int V _ _ _ ((Cs.shows_of_owns (own_keep GF.out C7.out)).down (Nat.zero_le _)) (SF.out.below C3.out) (by omega)).mono ?_
      rintro e w12 ⟨rfl, hb⟩
      replace C0 := Lib.hid (C0.out.trans (hb.mono C0.out.size))
      replace C1 := Lib.hid (C1.out.trans (hb.mono C1.out.size))
      replace C3 := Lib.hid (C3.out.trans (hb.mono C3.out.size))
      replace C7 := Lib.hid (C7.out.trans (hb.mono C7.out.size))
      clear hb
      go_wp2_with fail
      refine (mark_Int V _ 1 _ _ (own_keep GF.out C7.out) (by omega) (by omega)).mono ?_
      rintro e w13 ⟨rfl, hh, hap⟩
      have GM := Lib.hid hh
      clear hh
      replace C0 := Lib.hid (C0.out.trans (hap.below C0.out.size (fun g hg => Nat.le_trans ZGC0.out (LG.out g hg))))
      replace C1 := Lib.hid (C1.out.trans (hap.below C1.out.size (fun g hg => Nat.le_trans ZGC1.out (LG.out g hg))))
      replace C3 := Lib.hid (C3.out.trans (hap.below C3.out.size (fun g hg => Nat.le_trans ZGC3.out (LG.out g hg))))
      clear hap GF LG C7
      have C8 := Lib.hid (Below.refl w13.heap.size w13)
      go_wp2_with fail
      refine (held_Int V _ 1 _ ((Cs.shows_of_owns (own_keep GM.out C8.out)).down (Nat.zero_le _)) (by omega) (by omega)).mono ?_
      rintro e w14 ⟨rfl, hb⟩
      replace C0 := Lib.hid (C0.out.trans (hb.mono C0.out.size))
      replace C1 := Lib.hid (C1.out.trans (hb.mono C1.out.size))
      replace C3 := Lib.hid (C3.out.trans (hb.mono C3.out.size))
      replace C8 := Lib.hid (C8.out.trans (hb.mono C8.out.size))
      clear hb
      obtain ⟨z0_0, z0_1, z0_2, z0_3⟩ := (Ba0.out.below C1.out)
      go_wp2_with fail
      clear z0_0 z0_1 z0_2 z0_3
      refine (to_Program vw0 vm0 vi0 L0 _ _ (IS0.out.below C0.out) (by omega)).mono ?_
      rintro e w15 ⟨gh0, rfl, hh, hb⟩
      have Hh0 := Lib.hid hh
      clear hh
      replace C0 := Lib.hid (C0.out.trans (hb.mono C0.out.size))
      replace C1 := Lib.hid (C1.out.trans (hb.mono C1.out.size))
      replace C3 := Lib.hid (C3.out.trans (hb.mono C3.out.size))
      replace C8 := Lib.hid (C8.out.trans (hb.mono C8.out.size))
      clear hb
      have C9 := Lib.hid (Below.refl w15.heap.size w15)
      go_wp2_with fail
      refine (KI.out _ _ ((Cs.shows_of_owns (own_keep Hh0.out C9.out)).down (Nat.zero_le _))).mono ?_
      rintro e w16 ⟨hb, jq0, jc0, rfl, hh⟩
      replace C0 := Lib.hid (C0.out.trans (hb.mono C0.out.size))
      replace C1 := Lib.hid (C1.out.trans (hb.mono C1.out.size))
      replace C3 := Lib.hid (C3.out.trans (hb.mono C3.out.size))
      replace C8 := Lib.hid (C8.out.trans (hb.mono C8.out.size))
      replace C9 := Lib.hid (C9.out.trans (hb.mono C9.out.size))
      clear hb
      have GF := Lib.hid hh
      clear hh
      have C10 := Lib.hid (Below.refl w16.heap.size w16)
      go_wp2_with fail
      refine (eq_Int V _ _ _ ((Cs.shows_of_owns (own_keep GF.out C10.out)).down (Nat.zero_le _)) (SF.out.below C3.out) (by omega)).mono ?_
      rintro e w17 ⟨rfl, hb⟩
      replace C0 := Lib.hid (C0.out.trans (hb.mono C0.out.size))
      replace C1 := Lib.hid (C1.out.trans (hb.mono C1.out.size))
      replace C3 := Lib.hid (C3.out.trans (hb.mono C3.out.size))
      replace C8 := Lib.hid (C8.out.trans (hb.mono C8.out.size))
      replace C9 := Lib.hid (C9.out.trans (hb.mono C9.out.size))
      replace C10 := Lib.hid (C10.out.trans (hb.mono C10.out.size))
      clear hb
      go_wp2_with fail
      refine (held_Int V _ 1 _ ((Cs.shows_of_owns (own_keep GM.out C8.out)).down (Nat.zero_le _)) (by omega) (by omega)).mono ?_
      rintro e w18 ⟨rfl, hb⟩
      replace C0 := Lib.hid (C0.out.trans (hb.mono C0.out.size))
      replace C1 := Lib.hid (C1.out.trans (hb.mono C1.out.size))
      replace C3 := Lib.hid (C3.out.trans (hb.mono C3.out.size))
      replace C8 := Lib.hid (C8.out.trans (hb.mono C8.out.size))
      replace C9 := Lib.hid (C9.out.trans (hb.mono C9.out.size))
      replace C10 := Lib.hid (C10.out.trans (hb.mono C10.out.size))
      clear hb
      go_wp2
      go_ret
      exact ⟨rfl, C0.out⟩
  · have hl : left 1048576 (InsR.costs L0) = -1 := by unfold left; rw [if_neg hc0]
    rw [hl] at SZ0
    clear hl hc0
    go_enter Try.func3, Try.ntmps3
    have C0 := Lib.hid (Below.refl w.heap.size w)
    obtain ⟨w1, hW⟩ : ∃ W, W = w.alloc (.cells #[.int .i64 vw0, .int .i64 vm0, .int .i64 vi0, .slice q0 L0.length cap0] 24) := ⟨_, rfl⟩
    have hb : Below w.heap.size w w1 := by rw [hW]; exact (Below.refl _ _).alloc (Nat.le_refl _) _
    have Ba0 := Lib.hid (show Cell4 w1 w.heap.size (.int .i64 vw0) (.int .i64 vm0) (.int .i64 vi0) (.slice q0 L0.length cap0) by rw [hW]; exact cell4_alloc _ _ _ _ _ _)
    have HW := Lib.hid hW
    clear hW
    replace C0 := Lib.hid (C0.out.trans (hb.mono C0.out.size))
    clear hb
    have C1 := Lib.hid (Below.refl w1.heap.size w1)
    go_wp2_with fail
    rw [← HW.out]
    clear HW
    refine (SZ0.out _ (IS0.out.below C0.out)).mono ?_
    rintro e w2 ⟨rfl, hb⟩
    replace C0 := Lib.hid (C0.out.trans (hb.mono C0.out.size))
    replace C1 := Lib.hid (C1.out.trans (hb.mono C1.out.size))
    clear hb
    go_wp2
    go_ret
    exact ⟨rfl, C0.out⟩
end Go.Proofs.Ytnhagmjknfiphab
