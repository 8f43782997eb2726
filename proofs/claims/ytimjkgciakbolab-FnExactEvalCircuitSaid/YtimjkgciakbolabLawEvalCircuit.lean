/- The law FnExactEvalCircuit, walked by the contracts of all that it calls. -/
import Derived.Test.YtimjkgciakbolabGtE
import Derived.Test.YtimjkgciakbolabMkCirc
import Derived.Test.YtimjkgciakbolabFlBool
import Derived.Test.YtimjkgciakbolabCircuit
import Derived.Deep.RegionWith
namespace Go.Proofs.Ytimjkgciakbolab
open Go.ChangeShapes Go.WideShapes Go.ChangeAt Go.RowKit
set_option maxRecDepth 100000 in
set_option maxHeartbeats 4000000 in
theorem law_FnExactEvalCircuit (vr0 : Int) (L0 : List GateR) (s0 : Value) (L1 : List Bool) (s1 : Value) (w : World) (hs0 : Cs.Shows w 0 2 s0 L0.length (GateR.all L0)) (hok0 : (-9223372036854775808 ≤ vr0 ∧ vr0 ≤ 9223372036854775807) ∧ (∀ r ∈ L0, r.Ok) ∧ L0.length ≤ maxLen) (hs1 : Cs.Shows w 0 1 s1 L1.length (BoolL.all L1)) (hok1 : ∀ x ∈ L1, BoolL.Ok x) (hl1 : L1.length ≤ maxLen) :
    Calls Try.prog 8 #[.agg #[.int .i64 vr0, s0], s1] w fun e w' => e = .returned (.bool true) ∧ Below w.heap.size w w' := by
  have hml : maxLen = 9223372036854775807 := rfl
  have IS0 := Lib.hid hs0
  have OK0 := Lib.hid hok0
  obtain ⟨_, q0, cap0, rfl, _⟩ := hs0
  clear hok0
  have IS1 := Lib.hid hs1
  have OK1 := Lib.hid hok1
  obtain ⟨_, q1, cap1, rfl, _⟩ := hs1
  clear hok1
  by_cases hlen1 : L1.length ≤ 1048576
  · have hleni1 : ¬ ((1048576 : Int) < (L1.length : Int)) := by omega
    have SZ0 := Lib.hid (fun W (h : Cs.Shows W 0 2 (.slice q0 L0.length cap0) L0.length (GateR.all L0)) => sz_Circuit vr0 L0 _ 1048576 W (by omega) h OK0.out.2.1 OK0.out.2.2)
    by_cases hc0 : (GateR.costs L0) ≤ 1048576
    · obtain ⟨l0, hl0, hm0⟩ : ∃ l : Nat, left 1048576 (GateR.costs L0) = (l : Int) ∧ l + (GateR.costs L0) = 1048576 := ⟨1048576 - (GateR.costs L0), by unfold left; rw [if_pos hc0]; omega, by omega⟩
      rw [hl0] at SZ0
      have hq0 : l0 ≤ 1048576 := by omega
      clear hl0 hm0
      have hnl0 := GateR.len_le L0
      have hlc0 : L0.length ≤ 1048576 := by omega
      have hcc0 : GateR.costs L0 ≤ 1048576 := by omega
      clear hnl0
      obtain ⟨V, hV⟩ : ∃ V, ecL vr0 L0 L1 = V := ⟨_, rfl⟩
      have hvl : V.length ≤ 391 := by rw [← hV]; exact ecL_len _ _ _
      have KS := Lib.hid (fun s s' W h h' => s_eval vr0 L0 s L1 s' W h h' OK0.out.1 OK0.out.2.1 OK0.out.2.2)
      have KI := Lib.hid (fun s s' W h h' => i_eval vr0 L0 s L1 s' W h h' OK0.out.1 OK0.out.2.1 OK0.out.2.2)
      unfold EvEnd at KS KI
      rw [hV] at KS KI
      clear hV
      clear hc0
      go_enter Try.func8, Try.ntmps8
      have C0 := Lib.hid (Below.refl w.heap.size w)
      obtain ⟨w1, hW⟩ : ∃ W, W = w.alloc (.cells #[.int .i64 vr0, .slice q0 L0.length cap0] 24) := ⟨_, rfl⟩
      have hb : Below w.heap.size w w1 := by rw [hW]; exact (Below.refl _ _).alloc (Nat.le_refl _) _
      have Ba0 := Lib.hid (show Cell2 w1 w.heap.size (.int .i64 vr0) (.slice q0 L0.length cap0) by rw [hW]; exact cell2_alloc _ _ _ _)
      have HW := Lib.hid hW
      clear hW
      replace C0 := Lib.hid (C0.out.trans (hb.mono C0.out.size))
      clear hb
      have C1 := Lib.hid (Below.refl w1.heap.size w1)
      go_wp2_with fail
      rw [← HW.out]
      clear HW
      refine (SZ0.out _ (IS0.out.below C0.out)).mono ?_
      rintro e w2 ⟨rfl, hb⟩
      replace C0 := Lib.hid (C0.out.trans (hb.mono C0.out.size))
      replace C1 := Lib.hid (C1.out.trans (hb.mono C1.out.size))
      clear hb
      obtain ⟨z0_0, z0_1⟩ := (Ba0.out.below C1.out)
      go_wp2_with fail
      clear z0_0 z0_1
      refine (to_Circuit vr0 L0 _ _ (IS0.out.below C0.out) (by omega)).mono ?_
      rintro e w3 ⟨gp0, rfl, hh, hb⟩
      have Hp0 := Lib.hid hh
      clear hh
      replace C0 := Lib.hid (C0.out.trans (hb.mono C0.out.size))
      replace C1 := Lib.hid (C1.out.trans (hb.mono C1.out.size))
      clear hb
      have C2 := Lib.hid (Below.refl w3.heap.size w3)
      go_wp2_with fail
      refine (to_Bool L1 _ _ (IS1.out.below C0.out) (by omega)).mono ?_
      rintro e w4 ⟨gp1, rfl, hh, hb⟩
      have Hp1 := Lib.hid hh
      clear hh
      replace C0 := Lib.hid (C0.out.trans (hb.mono C0.out.size))
      replace C1 := Lib.hid (C1.out.trans (hb.mono C1.out.size))
      replace C2 := Lib.hid (C2.out.trans (hb.mono C2.out.size))
      clear hb
      have C3 := Lib.hid (Below.refl w4.heap.size w4)
      go_wp2_with fail
      refine (KS.out _ _ _ ((Cs.shows_of_owns (own_keep Hp0.out C2.out)).down (Nat.zero_le _)) ((Cs.shows_of_owns (own_keep Hp1.out C3.out)).down (Nat.zero_le _))).mono ?_
      rintro e w5 ⟨hb, sq0, sc0, rfl, hs⟩
      replace C0 := Lib.hid (C0.out.trans (hb.mono C0.out.size))
      replace C1 := Lib.hid (C1.out.trans (hb.mono C1.out.size))
      replace C2 := Lib.hid (C2.out.trans (hb.mono C2.out.size))
      replace C3 := Lib.hid (C3.out.trans (hb.mono C3.out.size))
      clear hb
      have SF := Lib.hid ((Cs.shows_of_owns hs).down (Nat.zero_le _))
      clear hs
      have C4 := Lib.hid (Below.refl w5.heap.size w5)
      clear C2
      clear C3
      obtain ⟨z0_0, z0_1⟩ := (Ba0.out.below C1.out)
      go_wp2_with fail
      clear z0_0 z0_1
      have Zx0C0 := Lib.hid C0.out.size
      have Zx0C1 := Lib.hid C1.out.size
      have Zx0C4 := Lib.hid C4.out.size
      refine (to_Circuit vr0 L0 _ _ (IS0.out.below C0.out) (by omega)).mono ?_
      rintro e w6 ⟨gx0, rfl, hh, hb⟩
      have Hx0 := Lib.hid hh
      clear hh
      replace C0 := Lib.hid (C0.out.trans (hb.mono C0.out.size))
      replace C1 := Lib.hid (C1.out.trans (hb.mono C1.out.size))
      replace C4 := Lib.hid (C4.out.trans (hb.mono C4.out.size))
      clear hb
      have C5 := Lib.hid (Below.refl w6.heap.size w6)
      obtain ⟨w7, hW⟩ : ∃ W, W = w6.alloc (.cells #[.int .i64 vr0, .slice (some ⟨gx0, 0, none⟩) L0.length L0.length] 29) := ⟨_, rfl⟩
      have hb : Below w6.heap.size w6 w7 := by rw [hW]; exact (Below.refl _ _).alloc (Nat.le_refl _) _
      have Bx0 := Lib.hid (show Cell2 w7 w6.heap.size (.int .i64 vr0) (.slice (some ⟨gx0, 0, none⟩) L0.length L0.length) by rw [hW]; exact cell2_alloc _ _ _ _)
      have HW := Lib.hid hW
      clear hW
      replace C0 := Lib.hid (C0.out.trans (hb.mono C0.out.size))
      replace C1 := Lib.hid (C1.out.trans (hb.mono C1.out.size))
      replace C4 := Lib.hid (C4.out.trans (hb.mono C4.out.size))
      replace C5 := Lib.hid (C5.out.trans (hb.mono C5.out.size))
      clear hb
      have C6 := Lib.hid (Below.refl w7.heap.size w7)
      go_wp2_with fail
      rw [← HW.out]
      clear HW
      have Zx1C0 := Lib.hid C0.out.size
      have Zx1C1 := Lib.hid C1.out.size
      have Zx1C4 := Lib.hid C4.out.size
      have Qx0x1 := Lib.hid C5.out.size
      refine (to_Bool L1 _ _ (IS1.out.below C0.out) (by omega)).mono ?_
      rintro e w8 ⟨gx1, rfl, hh, hb⟩
      have Hx1 := Lib.hid hh
      clear hh
      replace C0 := Lib.hid (C0.out.trans (hb.mono C0.out.size))
      replace C1 := Lib.hid (C1.out.trans (hb.mono C1.out.size))
      replace C4 := Lib.hid (C4.out.trans (hb.mono C4.out.size))
      replace C5 := Lib.hid (C5.out.trans (hb.mono C5.out.size))
      replace C6 := Lib.hid (C6.out.trans (hb.mono C6.out.size))
      clear hb
      have C7 := Lib.hid (Below.refl w8.heap.size w8)
      obtain ⟨z0_0, z0_1⟩ := (Bx0.out.below C6.out)
      go_wp2_with fail
      clear z0_0 z0_1
      have ZGC0 := Lib.hid C0.out.size
      have ZGC1 := Lib.hid C1.out.size
      have ZGC4 := Lib.hid C4.out.size
      have Yx0 := Lib.hid (fun g (hg : g ∈ (.slice (some ⟨gx0, 0, none⟩) L0.length L0.length : Value).ownBlock.toList) => (own_lt (own_keep Hx0.out C5.out) hg).2)
      have Yx1 := Lib.hid (fun g (hg : g ∈ (.slice (some ⟨gx1, 0, none⟩) L1.length L1.length : Value).ownBlock.toList) => (own_lt (own_keep Hx1.out C7.out) hg).2)
      refine (KI.out _ _ _ ((Cs.shows_of_owns (own_keep Hx0.out C5.out)).down (Nat.zero_le _)) ((Cs.shows_of_owns (own_keep Hx1.out C7.out)).down (Nat.zero_le _))).mono ?_
      rintro e w9 ⟨hb, iq0, ic0, rfl, hh⟩
      replace C0 := Lib.hid (C0.out.trans (hb.mono C0.out.size))
      replace C1 := Lib.hid (C1.out.trans (hb.mono C1.out.size))
      replace C4 := Lib.hid (C4.out.trans (hb.mono C4.out.size))
      replace C5 := Lib.hid (C5.out.trans (hb.mono C5.out.size))
      replace C6 := Lib.hid (C6.out.trans (hb.mono C6.out.size))
      replace C7 := Lib.hid (C7.out.trans (hb.mono C7.out.size))
      clear hb
      have GF := Lib.hid hh
      clear hh
      have LG := Lib.hid (fun g (hg : g ∈ (.slice iq0 V.length ic0 : Value).ownBlock.toList) => (own_lt GF.out hg).1)
      have C8 := Lib.hid (Below.refl w9.heap.size w9)
      go_wp2_with fail
      refine (eq_Bool V _ _ _ ((Cs.shows_of_owns (own_keep GF.out C8.out)).down (Nat.zero_le _)) (SF.out.below C4.out) (by omega)).mono ?_
      rintro e w10 ⟨rfl, hb⟩
      replace C0 := Lib.hid (C0.out.trans (hb.mono C0.out.size))
      replace C1 := Lib.hid (C1.out.trans (hb.mono C1.out.size))
      replace C4 := Lib.hid (C4.out.trans (hb.mono C4.out.size))
      replace C5 := Lib.hid (C5.out.trans (hb.mono C5.out.size))
      replace C6 := Lib.hid (C6.out.trans (hb.mono C6.out.size))
      replace C7 := Lib.hid (C7.out.trans (hb.mono C7.out.size))
      replace C8 := Lib.hid (C8.out.trans (hb.mono C8.out.size))
      clear hb
      obtain ⟨z0_0, z0_1⟩ := (Ba0.out.below C1.out)
      obtain ⟨z1_0, z1_1⟩ := (Bx0.out.below C6.out)
      go_wp2
      go_region_with (first | (go_at_call 11; replace C0 := Lib.hid C0.out.drew; replace C1 := Lib.hid C1.out.drew; replace C4 := Lib.hid C4.out.drew; replace C5 := Lib.hid C5.out.drew; replace C6 := Lib.hid C6.out.drew; replace C7 := Lib.hid C7.out.drew; replace C8 := Lib.hid C8.out.drew; refine (to_Circuit vr0 L0 _ _ (IS0.out.below C0.out) (by omega)).mono ?_; rintro e w11 ⟨ge0, rfl, hh, hb⟩; replace C0 := Lib.hid (C0.out.trans (hb.mono C0.out.size)); replace C1 := Lib.hid (C1.out.trans (hb.mono C1.out.size)); replace C4 := Lib.hid (C4.out.trans (hb.mono C4.out.size)); replace C5 := Lib.hid (C5.out.trans (hb.mono C5.out.size)); replace C6 := Lib.hid (C6.out.trans (hb.mono C6.out.size)); replace C7 := Lib.hid (C7.out.trans (hb.mono C7.out.size)); replace C8 := Lib.hid (C8.out.trans (hb.mono C8.out.size)); have HR := Lib.hid ((Cs.shows_of_owns hh).down (Nat.zero_le _)); obtain ⟨z1_0, z1_1⟩ := (Bx0.out.below C6.out); clear hh hb) | (go_at_call 13; refine (eq_Circuit vr0 L0 _ _ _ ((Cs.shows_of_owns (own_keep Hx0.out C5.out)).down (Nat.zero_le _)) HR.out (by omega)).mono ?_; rintro e w12 ⟨rfl, hb⟩; replace C0 := Lib.hid (C0.out.trans (hb.mono C0.out.size)); replace C1 := Lib.hid (C1.out.trans (hb.mono C1.out.size)); replace C4 := Lib.hid (C4.out.trans (hb.mono C4.out.size)); replace C5 := Lib.hid (C5.out.trans (hb.mono C5.out.size)); replace C6 := Lib.hid (C6.out.trans (hb.mono C6.out.size)); replace C7 := Lib.hid (C7.out.trans (hb.mono C7.out.size)); replace C8 := Lib.hid (C8.out.trans (hb.mono C8.out.size)); clear hb HR))
      all_goals
        clear z0_0 z0_1 z1_0 z1_1
        go_wp2_with fail
        refine (to_Bool L1 _ _ (IS1.out.below C0.out) (by omega)).mono ?_
        rintro e w13 ⟨ge1, rfl, hh, hb⟩
        have He1 := Lib.hid hh
        clear hh
        replace C0 := Lib.hid (C0.out.trans (hb.mono C0.out.size))
        replace C1 := Lib.hid (C1.out.trans (hb.mono C1.out.size))
        replace C4 := Lib.hid (C4.out.trans (hb.mono C4.out.size))
        replace C5 := Lib.hid (C5.out.trans (hb.mono C5.out.size))
        replace C6 := Lib.hid (C6.out.trans (hb.mono C6.out.size))
        replace C7 := Lib.hid (C7.out.trans (hb.mono C7.out.size))
        replace C8 := Lib.hid (C8.out.trans (hb.mono C8.out.size))
        clear hb
        have C9 := Lib.hid (Below.refl w13.heap.size w13)
        go_wp2_with fail
        refine (eq_Bool L1 _ _ _ ((Cs.shows_of_owns (own_keep Hx1.out C7.out)).down (Nat.zero_le _)) ((Cs.shows_of_owns (own_keep He1.out C9.out)).down (Nat.zero_le _)) (by omega)).mono ?_
        rintro e w14 ⟨rfl, hb⟩
        replace C0 := Lib.hid (C0.out.trans (hb.mono C0.out.size))
        replace C1 := Lib.hid (C1.out.trans (hb.mono C1.out.size))
        replace C4 := Lib.hid (C4.out.trans (hb.mono C4.out.size))
        replace C5 := Lib.hid (C5.out.trans (hb.mono C5.out.size))
        replace C6 := Lib.hid (C6.out.trans (hb.mono C6.out.size))
        replace C7 := Lib.hid (C7.out.trans (hb.mono C7.out.size))
        replace C8 := Lib.hid (C8.out.trans (hb.mono C8.out.size))
        replace C9 := Lib.hid (C9.out.trans (hb.mono C9.out.size))
        clear hb
        obtain ⟨z0_0, z0_1⟩ := (Bx0.out.below C6.out)
        go_wp2_with fail
        clear z0_0 z0_1
        refine (mark_Circuit vr0 L0 _ _ 1 _ _ (own_keep Hx0.out C5.out) (by omega) (by omega)).mono ?_
        rintro e w15 ⟨rfl, hh, hap⟩
        clear hh
        have LX := Lib.hid (fun g (hg : g ∈ (.slice (some ⟨gx0, 0, none⟩) L0.length L0.length : Value).ownBlock.toList) => (own_lt Hx0.out hg).1)
        have GN := Lib.hid (own_same (own_keep GF.out C8.out) (fun g hg => hap.block g (own_lt (own_keep GF.out C8.out) hg).2 (fun hm => by have h1 := LG.out g hg; have h2 := Yx0.out g hm; omega)))
        have Nx1 := Lib.hid (own_same (own_keep Hx1.out C7.out) (fun g hg => hap.block g (own_lt (own_keep Hx1.out C7.out) hg).2 (fun hm => by have h1 := (own_lt Hx1.out hg).1; have h2 := (own_lt Hx0.out hm).2; have h3 := Qx0x1.out; omega)))
        replace C0 := Lib.hid (C0.out.trans (hap.below C0.out.size (fun g hg => Nat.le_trans Zx0C0.out (LX.out g hg))))
        replace C1 := Lib.hid (C1.out.trans (hap.below C1.out.size (fun g hg => Nat.le_trans Zx0C1.out (LX.out g hg))))
        replace C4 := Lib.hid (C4.out.trans (hap.below C4.out.size (fun g hg => Nat.le_trans Zx0C4.out (LX.out g hg))))
        have C10 := Lib.hid (Below.refl w15.heap.size w15)
        clear hap LX GF
        have GF := GN
        clear GN C5 C6 C7 C8 C9
        have C11 := Lib.hid (Below.refl w15.heap.size w15)
        go_wp2_with fail
        refine (mark_Bool L1 _ (1 + 2 * L0.length) _ _ (own_keep Nx1.out C10.out) (by omega) (by omega)).mono ?_
        rintro e w16 ⟨rfl, hh, hap⟩
        clear hh
        have LX := Lib.hid (fun g (hg : g ∈ (.slice (some ⟨gx1, 0, none⟩) L1.length L1.length : Value).ownBlock.toList) => (own_lt Hx1.out hg).1)
        have GN := Lib.hid (own_same (own_keep GF.out C11.out) (fun g hg => hap.block g (own_lt (own_keep GF.out C11.out) hg).2 (fun hm => by have h1 := LG.out g hg; have h2 := Yx1.out g hm; omega)))
        replace C0 := Lib.hid (C0.out.trans (hap.below C0.out.size (fun g hg => Nat.le_trans Zx1C0.out (LX.out g hg))))
        replace C1 := Lib.hid (C1.out.trans (hap.below C1.out.size (fun g hg => Nat.le_trans Zx1C1.out (LX.out g hg))))
        replace C4 := Lib.hid (C4.out.trans (hap.below C4.out.size (fun g hg => Nat.le_trans Zx1C4.out (LX.out g hg))))
        clear hap LX GF
        have GF := GN
        clear GN C10 C11
        have C12 := Lib.hid (Below.refl w16.heap.size w16)
        go_wp2_with fail
        refine (eq_Bool V _ _ _ ((Cs.shows_of_owns (own_keep GF.out C12.out)).down (Nat.zero_le _)) (SF.out.below C4.out) (by omega)).mono ?_
        rintro e w17 ⟨rfl, hb⟩
        replace C0 := Lib.hid (C0.out.trans (hb.mono C0.out.size))
        replace C1 := Lib.hid (C1.out.trans (hb.mono C1.out.size))
        replace C4 := Lib.hid (C4.out.trans (hb.mono C4.out.size))
        replace C12 := Lib.hid (C12.out.trans (hb.mono C12.out.size))
        clear hb
        go_wp2_with fail
        refine (mark_Bool V _ 1 _ _ (own_keep GF.out C12.out) (by omega) (by omega)).mono ?_
        rintro e w18 ⟨rfl, hh, hap⟩
        have GM := Lib.hid hh
        clear hh
        replace C0 := Lib.hid (C0.out.trans (hap.below C0.out.size (fun g hg => Nat.le_trans ZGC0.out (LG.out g hg))))
        replace C1 := Lib.hid (C1.out.trans (hap.below C1.out.size (fun g hg => Nat.le_trans ZGC1.out (LG.out g hg))))
        replace C4 := Lib.hid (C4.out.trans (hap.below C4.out.size (fun g hg => Nat.le_trans ZGC4.out (LG.out g hg))))
        clear hap GF LG C12
        have C13 := Lib.hid (Below.refl w18.heap.size w18)
        go_wp2_with fail
        refine (held_Bool V _ 1 _ ((Cs.shows_of_owns (own_keep GM.out C13.out)).down (Nat.zero_le _)) (by omega) (by omega)).mono ?_
        rintro e w19 ⟨rfl, hb⟩
        replace C0 := Lib.hid (C0.out.trans (hb.mono C0.out.size))
        replace C1 := Lib.hid (C1.out.trans (hb.mono C1.out.size))
        replace C4 := Lib.hid (C4.out.trans (hb.mono C4.out.size))
        replace C13 := Lib.hid (C13.out.trans (hb.mono C13.out.size))
        clear hb
        obtain ⟨z0_0, z0_1⟩ := (Ba0.out.below C1.out)
        go_wp2_with fail
        clear z0_0 z0_1
        refine (to_Circuit vr0 L0 _ _ (IS0.out.below C0.out) (by omega)).mono ?_
        rintro e w20 ⟨gh0, rfl, hh, hb⟩
        have Hh0 := Lib.hid hh
        clear hh
        replace C0 := Lib.hid (C0.out.trans (hb.mono C0.out.size))
        replace C1 := Lib.hid (C1.out.trans (hb.mono C1.out.size))
        replace C4 := Lib.hid (C4.out.trans (hb.mono C4.out.size))
        replace C13 := Lib.hid (C13.out.trans (hb.mono C13.out.size))
        clear hb
        have C14 := Lib.hid (Below.refl w20.heap.size w20)
        go_wp2_with fail
        refine (to_Bool L1 _ _ (IS1.out.below C0.out) (by omega)).mono ?_
        rintro e w21 ⟨gh1, rfl, hh, hb⟩
        have Hh1 := Lib.hid hh
        clear hh
        replace C0 := Lib.hid (C0.out.trans (hb.mono C0.out.size))
        replace C1 := Lib.hid (C1.out.trans (hb.mono C1.out.size))
        replace C4 := Lib.hid (C4.out.trans (hb.mono C4.out.size))
        replace C13 := Lib.hid (C13.out.trans (hb.mono C13.out.size))
        replace C14 := Lib.hid (C14.out.trans (hb.mono C14.out.size))
        clear hb
        have C15 := Lib.hid (Below.refl w21.heap.size w21)
        go_wp2_with fail
        refine (KI.out _ _ _ ((Cs.shows_of_owns (own_keep Hh0.out C14.out)).down (Nat.zero_le _)) ((Cs.shows_of_owns (own_keep Hh1.out C15.out)).down (Nat.zero_le _))).mono ?_
        rintro e w22 ⟨hb, jq0, jc0, rfl, hh⟩
        replace C0 := Lib.hid (C0.out.trans (hb.mono C0.out.size))
        replace C1 := Lib.hid (C1.out.trans (hb.mono C1.out.size))
        replace C4 := Lib.hid (C4.out.trans (hb.mono C4.out.size))
        replace C13 := Lib.hid (C13.out.trans (hb.mono C13.out.size))
        replace C14 := Lib.hid (C14.out.trans (hb.mono C14.out.size))
        replace C15 := Lib.hid (C15.out.trans (hb.mono C15.out.size))
        clear hb
        have GF := Lib.hid hh
        clear hh
        have C16 := Lib.hid (Below.refl w22.heap.size w22)
        go_wp2_with fail
        refine (eq_Bool V _ _ _ ((Cs.shows_of_owns (own_keep GF.out C16.out)).down (Nat.zero_le _)) (SF.out.below C4.out) (by omega)).mono ?_
        rintro e w23 ⟨rfl, hb⟩
        replace C0 := Lib.hid (C0.out.trans (hb.mono C0.out.size))
        replace C1 := Lib.hid (C1.out.trans (hb.mono C1.out.size))
        replace C4 := Lib.hid (C4.out.trans (hb.mono C4.out.size))
        replace C13 := Lib.hid (C13.out.trans (hb.mono C13.out.size))
        replace C14 := Lib.hid (C14.out.trans (hb.mono C14.out.size))
        replace C15 := Lib.hid (C15.out.trans (hb.mono C15.out.size))
        replace C16 := Lib.hid (C16.out.trans (hb.mono C16.out.size))
        clear hb
        go_wp2_with fail
        refine (held_Bool V _ 1 _ ((Cs.shows_of_owns (own_keep GM.out C13.out)).down (Nat.zero_le _)) (by omega) (by omega)).mono ?_
        rintro e w24 ⟨rfl, hb⟩
        replace C0 := Lib.hid (C0.out.trans (hb.mono C0.out.size))
        replace C1 := Lib.hid (C1.out.trans (hb.mono C1.out.size))
        replace C4 := Lib.hid (C4.out.trans (hb.mono C4.out.size))
        replace C13 := Lib.hid (C13.out.trans (hb.mono C13.out.size))
        replace C14 := Lib.hid (C14.out.trans (hb.mono C14.out.size))
        replace C15 := Lib.hid (C15.out.trans (hb.mono C15.out.size))
        replace C16 := Lib.hid (C16.out.trans (hb.mono C16.out.size))
        clear hb
        go_wp2
        go_ret
        exact ⟨rfl, C0.out⟩
    · have hl : left 1048576 (GateR.costs L0) = -1 := by unfold left; rw [if_neg hc0]
      rw [hl] at SZ0
      clear hl hc0
      go_enter Try.func8, Try.ntmps8
      have C0 := Lib.hid (Below.refl w.heap.size w)
      obtain ⟨w1, hW⟩ : ∃ W, W = w.alloc (.cells #[.int .i64 vr0, .slice q0 L0.length cap0] 24) := ⟨_, rfl⟩
      have hb : Below w.heap.size w w1 := by rw [hW]; exact (Below.refl _ _).alloc (Nat.le_refl _) _
      have Ba0 := Lib.hid (show Cell2 w1 w.heap.size (.int .i64 vr0) (.slice q0 L0.length cap0) by rw [hW]; exact cell2_alloc _ _ _ _)
      have HW := Lib.hid hW
      clear hW
      replace C0 := Lib.hid (C0.out.trans (hb.mono C0.out.size))
      clear hb
      have C1 := Lib.hid (Below.refl w1.heap.size w1)
      go_wp2_with fail
      rw [← HW.out]
      clear HW
      refine (SZ0.out _ (IS0.out.below C0.out)).mono ?_
      rintro e w2 ⟨rfl, hb⟩
      replace C0 := Lib.hid (C0.out.trans (hb.mono C0.out.size))
      replace C1 := Lib.hid (C1.out.trans (hb.mono C1.out.size))
      clear hb
      go_wp2
      go_ret
      exact ⟨rfl, C0.out⟩
  · have hlong1 : (1048576 : Int) < (L1.length : Int) := by omega
    go_enter Try.func8, Try.ntmps8
    have C0 := Lib.hid (Below.refl w.heap.size w)
    obtain ⟨w1, hW⟩ : ∃ W, W = w.alloc (.cells #[.int .i64 vr0, .slice q0 L0.length cap0] 24) := ⟨_, rfl⟩
    have hb : Below w.heap.size w w1 := by rw [hW]; exact (Below.refl _ _).alloc (Nat.le_refl _) _
    have Ba0 := Lib.hid (show Cell2 w1 w.heap.size (.int .i64 vr0) (.slice q0 L0.length cap0) by rw [hW]; exact cell2_alloc _ _ _ _)
    have HW := Lib.hid hW
    clear hW
    replace C0 := Lib.hid (C0.out.trans (hb.mono C0.out.size))
    clear hb
    have C1 := Lib.hid (Below.refl w1.heap.size w1)
    go_wp2
    go_ret
    exact ⟨rfl, by rw [← HW.out]; exact C0.out⟩
end Go.Proofs.Ytimjkgciakbolab
