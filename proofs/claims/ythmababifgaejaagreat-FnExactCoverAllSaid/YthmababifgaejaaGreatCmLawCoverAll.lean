/- The law FnExactCoverAll, walked by the contracts of all that it calls. -/
import Derived.Test.YthmababifgaejaaGreatCmGAoS
import Derived.Test.YthmababifgaejaaGreatCmGCaI
import Derived.Test.YthmababifgaejaaGreatCmGIntSS
import Derived.Test.YthmababifgaejaaGreatCmGMkIns
import Derived.Test.YthmababifgaejaaGreatCmGFlInt
import Derived.Test.YthmababifgaejaaGreatCmProgram
import Derived.Test.YthmababifgaejaaGreatCmGReg
import Derived.Deep.RegionWith
import Derived.Deep.CutRange
namespace Go.Proofs.YthmababifgaejaaGreat
open Go.ChangeShapes Go.WideShapes Go.ChangeAt Go.RowKit
set_option maxRecDepth 100000 in
set_option maxHeartbeats 16000000 in
theorem law_FnExactCoverAll (vw0 vm0 vi0 : Int) (L0 : List InsR) (s0 : Value) (L1 : List (List Int)) (s1 : Value) (a2 : Int) (w : World) (hs0 : Cs.Shows w 0 4 s0 L0.length (InsR.all L0)) (hok0 : (-9223372036854775808 ≤ vw0 ∧ vw0 ≤ 9223372036854775807) ∧ (-9223372036854775808 ≤ vm0 ∧ vm0 ≤ 9223372036854775807) ∧ (-9223372036854775808 ≤ vi0 ∧ vi0 ≤ 9223372036854775807) ∧ (∀ r ∈ L0, r.Ok) ∧ L0.length ≤ maxLen) (hs1 : (Cs.rows IntSS.c L1).Is w 0 1 L1.length s1) (hok1 : IntSS.Ok L1) (hl1 : L1.length ≤ maxLen) :
    Calls Tryz.prog 3 #[.agg #[.int .i64 vw0, .int .i64 vm0, .int .i64 vi0, s0], s1, .int .i64 a2] w fun e w' => e = .returned (.bool true) ∧ Below w.heap.size w w' := by
  have hml : maxLen = 9223372036854775807 := rfl
  have IS0 := Lib.hid hs0
  have OK0 := Lib.hid hok0
  obtain ⟨_, q0, cap0, rfl, _⟩ := hs0
  clear hok0
  have IS1 := Lib.hid hs1
  have OK1 := Lib.hid hok1
  have LE1 := Lib.hid hl1
  obtain ⟨_, ⟨_, q1, cap1, rfl, _⟩, _⟩ := hs1
  clear hok1 hl1
  have SZ0 := Lib.hid (fun W (h : Cs.Shows W 0 4 (.slice q0 L0.length cap0) L0.length (InsR.all L0)) => sz_Program vw0 vm0 vi0 L0 _ 1048576 W (by omega) h OK0.out.2.2.2.1 OK0.out.2.2.2.2)
  by_cases hc0 : InsR.costs L0 ≤ 1048576
  · obtain ⟨l0, hl0, hm0⟩ : ∃ l : Nat, left 1048576 (InsR.costs L0) = (l : Int) ∧ l + InsR.costs L0 = 1048576 := ⟨1048576 - InsR.costs L0, by unfold left; rw [if_pos hc0]; omega, by omega⟩
    rw [hl0] at SZ0
    have hq0 : l0 ≤ 1048576 := by omega
    clear hl0 hm0
    have SZ1 := Lib.hid (fun W (h : (Cs.rows IntSS.c L1).Is W 0 1 L1.length (.slice q1 L1.length cap1)) => sz_IntSS L1 _ l0 W (by omega) h OK1.out LE1.out)
    by_cases hc1 : IntSS.costs L1 ≤ l0
    · obtain ⟨l1, hl1, hm1⟩ : ∃ l : Nat, left l0 (IntSS.costs L1) = (l : Int) ∧ l + IntSS.costs L1 = l0 := ⟨l0 - IntSS.costs L1, by unfold left; rw [if_pos hc1]; omega, by omega⟩
      rw [hl1] at SZ1
      have hq1 : l1 ≤ 1048576 := by omega
      clear hl1 hm1
      have hnl0 := InsR.len_le L0
      have hlc0 : L0.length ≤ 1048576 := by omega
      have hcc0 : InsR.costs L0 ≤ 1048576 := by omega
      clear hnl0
      have hnl1 := IntSS.len_le L1
      have hcc1 : IntSS.costs L1 ≤ 1048576 := by omega
      have hlc1 : L1.length ≤ 1048576 := by omega
      have htt1 := tot_le L1
      have htc1 : IntSS.tot L1 ≤ 1048576 := by omega
      clear hnl1 htt1
      obtain ⟨x, hx⟩ : ∃ x, caV vw0 vm0 vi0 L0 a2 L1 = x := ⟨_, rfl⟩
      have hxc : x.length ≤ 82 := by rw [← hx]; exact caV_small vw0 vm0 vi0 L0 a2 L1
      have KS := Lib.hid (fun s s' W h h' => s_coverall vw0 vm0 vi0 L0 L1 a2 s s' W h h' OK0.out.2.2.2.1 OK0.out.2.2.2.2 OK1.out (by omega))
      have KI := Lib.hid (fun s s' W h h' => i_coverall vw0 vm0 vi0 L0 L1 a2 s s' W h h' OK0.out.2.2.2.1 OK0.out.2.2.2.2 OK1.out (by omega))
      unfold NxOwn at KS KI
      rw [hx] at KS KI
      clear hx
      clear hc0
      clear hc1
      go_enter Tryz.func3, Tryz.ntmps3
      have C0 := Lib.hid (Below.refl w.heap.size w)
      obtain ⟨v1, hW⟩ : ∃ W, W = w.alloc (.cells #[.int .i64 vw0, .int .i64 vm0, .int .i64 vi0, .slice q0 L0.length cap0] 24) := ⟨_, rfl⟩
      have hb : Below w.heap.size w v1 := by rw [hW]; exact (Below.refl _ _).alloc (Nat.le_refl _) _
      have A0 : Hid (v1.heap[w.heap.size]? = some (.cells #[.int .i64 vw0, .int .i64 vm0, .int .i64 vi0, .slice q0 L0.length cap0] 24 (0, 0))) := Lib.hid (by rw [hW]; exact heap_alloc_new _ _)
      have BA0 := Lib.hid (show w.heap.size < v1.heap.size from (Array.getElem?_eq_some_iff.1 A0.out).1)
      have HW := Lib.hid hW
      clear hW
      have Z0 := Lib.hid hb.size
      replace C0 := Lib.hid (C0.out.trans (hb.mono C0.out.size))
      clear hb
      go_wp2_with fail
      rw [← HW.out]
      clear HW
      refine (SZ0.out _ (IS0.out.below C0.out)).mono ?_
      rintro e v2 ⟨rfl, hb⟩
      have Z2 := Lib.hid hb.size
      replace C0 := Lib.hid (C0.out.trans (hb.mono C0.out.size))
      replace A0 := Lib.hid ((hb.block _ (Array.getElem?_eq_some_iff.1 A0.out).1).trans A0.out)
      clear hb
      go_wp2_with fail
      refine (SZ1.out _ (IS1.out.below C0.out)).mono ?_
      rintro e v3 ⟨rfl, hb⟩
      have Z3 := Lib.hid hb.size
      replace C0 := Lib.hid (C0.out.trans (hb.mono C0.out.size))
      replace A0 := Lib.hid ((hb.block _ (Array.getElem?_eq_some_iff.1 A0.out).1).trans A0.out)
      clear hb
      obtain ⟨z0_0, z0_1, z0_2, z0_3⟩ := cell4_row A0.out
      go_wp2_with fail
      clear z0_0 z0_1 z0_2 z0_3
      refine (to_Program vw0 vm0 vi0 L0 _ _ (IS0.out.below C0.out) (by omega)).mono ?_
      rintro e v4 ⟨gps0, rfl, hh, hb⟩
      have Hps0 := Lib.hid hh
      clear hh
      have Z4 := Lib.hid hb.size
      replace C0 := Lib.hid (C0.out.trans (hb.mono C0.out.size))
      replace A0 := Lib.hid ((hb.block _ (Array.getElem?_eq_some_iff.1 A0.out).1).trans A0.out)
      clear hb
      have IHps0 := Lib.hid (fun g (hg : g ∈ (Value.slice (some ⟨gps0, 0, none⟩) L0.length L0.length).ownBlock.toList) => (own_lt Hps0.out hg))
      go_wp2_with fail
      refine (to_Ts L1 _ _ (IS1.out.below C0.out) (by omega)).mono ?_
      rintro e v5 ⟨gps1, Bps1, rfl, hh, hb⟩
      have Hps1 := Lib.hid hh
      clear hh
      have Z5 := Lib.hid hb.size
      replace C0 := Lib.hid (C0.out.trans (hb.mono C0.out.size))
      replace A0 := Lib.hid ((hb.block _ (Array.getElem?_eq_some_iff.1 A0.out).1).trans A0.out)
      replace Hps0 := Lib.hid (own_keep Hps0.out hb)
      clear hb
      have IHps1 := Lib.hid (fun g (hg : g ∈ Bps1) => (Hps1.out.lt _ hg))
      go_wp2_with fail
      refine (KS.out _ _ _ ((Cs.shows_of_owns Hps0.out).down (Nat.zero_le _)) (Hps1.out.shows)).mono ?_
      rintro e v6 ⟨hb, s0q, s0c, rfl, hh⟩
      have Os0 := Lib.hid hh
      clear hh
      have Z6 := Lib.hid hb.size
      replace C0 := Lib.hid (C0.out.trans (hb.mono C0.out.size))
      replace A0 := Lib.hid ((hb.block _ (Array.getElem?_eq_some_iff.1 A0.out).1).trans A0.out)
      replace Hps0 := Lib.hid (own_keep Hps0.out hb)
      replace Hps1 := Lib.hid (Hps1.out.keep hb)
      clear hb
      clear Hps0
      clear Hps1
      have IOs0 := Lib.hid (fun g (hg : g ∈ (Value.slice s0q x.length s0c).ownBlock.toList) => (own_lt Os0.out hg))
      obtain ⟨z0_0, z0_1, z0_2, z0_3⟩ := cell4_row A0.out
      go_wp2_with fail
      clear z0_0 z0_1 z0_2 z0_3
      refine (to_Program vw0 vm0 vi0 L0 _ _ (IS0.out.below C0.out) (by omega)).mono ?_
      rintro e v7 ⟨gx0, rfl, hh, hb⟩
      have Hx0 := Lib.hid hh
      clear hh
      have Z7 := Lib.hid hb.size
      replace C0 := Lib.hid (C0.out.trans (hb.mono C0.out.size))
      replace A0 := Lib.hid ((hb.block _ (Array.getElem?_eq_some_iff.1 A0.out).1).trans A0.out)
      replace Os0 := Lib.hid (own_keep Os0.out hb)
      clear hb
      have IHx0 := Lib.hid (fun g (hg : g ∈ (Value.slice (some ⟨gx0, 0, none⟩) L0.length L0.length).ownBlock.toList) => (own_lt Hx0.out hg))
      obtain ⟨v8, hW⟩ : ∃ W, W = v7.alloc (.cells #[.int .i64 vw0, .int .i64 vm0, .int .i64 vi0, .slice (some ⟨gx0, 0, none⟩) L0.length L0.length] 32) := ⟨_, rfl⟩
      have hb : Below v7.heap.size v7 v8 := by rw [hW]; exact (Below.refl _ _).alloc (Nat.le_refl _) _
      have X0 : Hid (v8.heap[v7.heap.size]? = some (.cells #[.int .i64 vw0, .int .i64 vm0, .int .i64 vi0, .slice (some ⟨gx0, 0, none⟩) L0.length L0.length] 32 (0, 0))) := Lib.hid (by rw [hW]; exact heap_alloc_new _ _)
      have BX0 := Lib.hid (show v7.heap.size < v8.heap.size from (Array.getElem?_eq_some_iff.1 X0.out).1)
      have HW := Lib.hid hW
      clear hW
      have Z8 := Lib.hid hb.size
      replace C0 := Lib.hid (C0.out.trans (hb.mono C0.out.size))
      replace A0 := Lib.hid ((hb.block _ (Array.getElem?_eq_some_iff.1 A0.out).1).trans A0.out)
      replace Os0 := Lib.hid (own_keep Os0.out hb)
      replace Hx0 := Lib.hid (own_keep Hx0.out hb)
      clear hb
      go_wp2_with fail
      rw [← HW.out]
      clear HW
      refine (to_Ts L1 _ _ (IS1.out.below C0.out) (by omega)).mono ?_
      rintro e v9 ⟨gx1, Bx1, rfl, hh, hb⟩
      have Hx1 := Lib.hid hh
      clear hh
      have Z10 := Lib.hid hb.size
      replace C0 := Lib.hid (C0.out.trans (hb.mono C0.out.size))
      replace A0 := Lib.hid ((hb.block _ (Array.getElem?_eq_some_iff.1 A0.out).1).trans A0.out)
      replace Os0 := Lib.hid (own_keep Os0.out hb)
      replace Hx0 := Lib.hid (own_keep Hx0.out hb)
      replace X0 := Lib.hid ((hb.block _ (Array.getElem?_eq_some_iff.1 X0.out).1).trans X0.out)
      clear hb
      have IHx1 := Lib.hid (fun g (hg : g ∈ Bx1) => (Hx1.out.lt _ hg))
      obtain ⟨z0_0, z0_1, z0_2, z0_3⟩ := cell4_row X0.out
      go_wp2_with fail
      clear z0_0 z0_1 z0_2 z0_3
      refine (KI.out _ _ _ ((Cs.shows_of_owns Hx0.out).down (Nat.zero_le _)) (Hx1.out.shows)).mono ?_
      rintro e v10 ⟨hb, i0q, i0c, rfl, hh⟩
      have Oi0 := Lib.hid hh
      clear hh
      have Z11 := Lib.hid hb.size
      replace C0 := Lib.hid (C0.out.trans (hb.mono C0.out.size))
      replace A0 := Lib.hid ((hb.block _ (Array.getElem?_eq_some_iff.1 A0.out).1).trans A0.out)
      replace Os0 := Lib.hid (own_keep Os0.out hb)
      replace Hx0 := Lib.hid (own_keep Hx0.out hb)
      replace X0 := Lib.hid ((hb.block _ (Array.getElem?_eq_some_iff.1 X0.out).1).trans X0.out)
      replace Hx1 := Lib.hid (Hx1.out.keep hb)
      clear hb
      have IOi0 := Lib.hid (fun g (hg : g ∈ (Value.slice i0q x.length i0c).ownBlock.toList) => (own_lt Oi0.out hg))
      go_wp2_with fail
      refine (eq_Int x _ _ _ ((Cs.shows_of_owns Oi0.out).down (Nat.zero_le _)) ((Cs.shows_of_owns Os0.out).down (Nat.zero_le _)) (by omega)).mono ?_
      rintro e v11 ⟨rfl, hb⟩
      have Z12 := Lib.hid hb.size
      replace C0 := Lib.hid (C0.out.trans (hb.mono C0.out.size))
      replace A0 := Lib.hid ((hb.block _ (Array.getElem?_eq_some_iff.1 A0.out).1).trans A0.out)
      replace Os0 := Lib.hid (own_keep Os0.out hb)
      replace Hx0 := Lib.hid (own_keep Hx0.out hb)
      replace X0 := Lib.hid ((hb.block _ (Array.getElem?_eq_some_iff.1 X0.out).1).trans X0.out)
      replace Hx1 := Lib.hid (Hx1.out.keep hb)
      replace Oi0 := Lib.hid (own_keep Oi0.out hb)
      clear hb
      go_upto_region 14 with fail
      obtain ⟨v12, hv⟩ : ∃ W, W = v11.drew := ⟨_, rfl⟩
      refine region_c (fun V => Below v12.heap.size v12 V) (by kernel_rfl) ?_
      rw [← hv]
      have hb : Below v11.heap.size v11 v12 := by rw [hv]; exact (Below.refl _ _).drew
      clear hv
      have Z13 := Lib.hid hb.size
      replace C0 := Lib.hid (C0.out.trans (hb.mono C0.out.size))
      replace A0 := Lib.hid ((hb.block _ (Array.getElem?_eq_some_iff.1 A0.out).1).trans A0.out)
      replace Os0 := Lib.hid (own_keep Os0.out hb)
      replace Hx0 := Lib.hid (own_keep Hx0.out hb)
      replace X0 := Lib.hid ((hb.block _ (Array.getElem?_eq_some_iff.1 X0.out).1).trans X0.out)
      replace Hx1 := Lib.hid (Hx1.out.keep hb)
      replace Oi0 := Lib.hid (own_keep Oi0.out hb)
      clear hb
      have CR := Lib.hid (Below.refl v12.heap.size v12)
      refine take_c (i := 0) (v := .agg #[.int .i64 vw0, .int .i64 vm0, .int .i64 vi0, .slice (some ⟨gx0, 0, none⟩) L0.length L0.length]) rfl (by kernel_rfl) (by kernel_rfl) (by kernel_rfl) (fun _ _ _ h => h) CR.out rfl (fun V hV => ?_) ?_
      · obtain ⟨z0, z1, z2, z3⟩ := cell4_row ((hV.block _ (Array.getElem?_eq_some_iff.1 X0.out).1).trans X0.out)
        go_simp
      refine take_c (i := 1) (v := .agg #[.int .i64 vw0, .int .i64 vm0, .int .i64 vi0, .slice q0 L0.length cap0]) rfl (by kernel_rfl) (by kernel_rfl) (by kernel_rfl) (fun _ _ _ h => h) CR.out rfl (fun V hV => ?_) ?_
      · obtain ⟨z0, z1, z2, z3⟩ := cell4_row ((hV.block _ (Array.getElem?_eq_some_iff.1 A0.out).1).trans A0.out)
        go_simp
      refine one_c (i := 2) (by kernel_rfl) (op_list rfl ?_)
      go_wp2_with fail
      refine (to_Program vw0 vm0 vi0 L0 _ _ (IS0.out.below C0.out) (by omega)).mono ?_
      rintro e v13 ⟨ge, rfl, hh, hb⟩
      have He := Lib.hid hh
      clear hh
      have Z14 := Lib.hid hb.size
      replace C0 := Lib.hid (C0.out.trans (hb.mono C0.out.size))
      replace A0 := Lib.hid ((hb.block _ (Array.getElem?_eq_some_iff.1 A0.out).1).trans A0.out)
      replace Os0 := Lib.hid (own_keep Os0.out hb)
      replace Hx0 := Lib.hid (own_keep Hx0.out hb)
      replace X0 := Lib.hid ((hb.block _ (Array.getElem?_eq_some_iff.1 X0.out).1).trans X0.out)
      replace Hx1 := Lib.hid (Hx1.out.keep hb)
      replace Oi0 := Lib.hid (own_keep Oi0.out hb)
      replace CR := Lib.hid (CR.out.trans (hb.mono CR.out.size))
      clear hb
      go_wp2
      refine ⟨CR.out, ?_⟩
      refine one_c (i := 3) (by kernel_rfl) (op_list rfl ?_)
      go_wp2_with fail
      refine (eq_Program vw0 vm0 vi0 L0 _ _ _ ((Cs.shows_of_owns Hx0.out).down (Nat.zero_le _)) ((Cs.shows_of_owns He.out).down (Nat.zero_le _)) (by omega)).mono ?_
      rintro e v14 ⟨rfl, hb⟩
      have Z15 := Lib.hid hb.size
      replace C0 := Lib.hid (C0.out.trans (hb.mono C0.out.size))
      replace A0 := Lib.hid ((hb.block _ (Array.getElem?_eq_some_iff.1 A0.out).1).trans A0.out)
      replace Os0 := Lib.hid (own_keep Os0.out hb)
      replace Hx0 := Lib.hid (own_keep Hx0.out hb)
      replace X0 := Lib.hid ((hb.block _ (Array.getElem?_eq_some_iff.1 X0.out).1).trans X0.out)
      replace Hx1 := Lib.hid (Hx1.out.keep hb)
      replace Oi0 := Lib.hid (own_keep Oi0.out hb)
      replace CR := Lib.hid (CR.out.trans (hb.mono CR.out.size))
      replace He := Lib.hid (own_keep He.out hb)
      clear hb
      go_wp2
      refine ⟨CR.out, ?_⟩
      refine one_c (i := 4) (by kernel_rfl) (op_list rfl ?_)
      go_wp2
      refine ⟨CR.out, done_c (by kernel_rfl) ?_ _⟩
      clear CR
      clear He
      go_wp2_with fail
      refine (to_Ts L1 _ _ (IS1.out.below C0.out) (by omega)).mono ?_
      rintro e v15 ⟨ge1, Be1, rfl, hh, hb⟩
      have He1 := Lib.hid hh
      clear hh
      have Z16 := Lib.hid hb.size
      replace C0 := Lib.hid (C0.out.trans (hb.mono C0.out.size))
      replace A0 := Lib.hid ((hb.block _ (Array.getElem?_eq_some_iff.1 A0.out).1).trans A0.out)
      replace Os0 := Lib.hid (own_keep Os0.out hb)
      replace Hx0 := Lib.hid (own_keep Hx0.out hb)
      replace X0 := Lib.hid ((hb.block _ (Array.getElem?_eq_some_iff.1 X0.out).1).trans X0.out)
      replace Hx1 := Lib.hid (Hx1.out.keep hb)
      replace Oi0 := Lib.hid (own_keep Oi0.out hb)
      clear hb
      have IHe1 := Lib.hid (fun g (hg : g ∈ Be1) => (He1.out.lt _ hg))
      go_wp2_with fail
      refine (eq_IntSS L1 _ _ _ (Hx1.out.shows) (He1.out.shows) (by omega)).mono ?_
      rintro e v16 ⟨rfl, hb⟩
      have Z17 := Lib.hid hb.size
      replace C0 := Lib.hid (C0.out.trans (hb.mono C0.out.size))
      replace A0 := Lib.hid ((hb.block _ (Array.getElem?_eq_some_iff.1 A0.out).1).trans A0.out)
      replace Os0 := Lib.hid (own_keep Os0.out hb)
      replace Hx0 := Lib.hid (own_keep Hx0.out hb)
      replace X0 := Lib.hid ((hb.block _ (Array.getElem?_eq_some_iff.1 X0.out).1).trans X0.out)
      replace Hx1 := Lib.hid (Hx1.out.keep hb)
      replace Oi0 := Lib.hid (own_keep Oi0.out hb)
      replace He1 := Lib.hid (He1.out.keep hb)
      clear hb
      clear He1
      obtain ⟨z0_0, z0_1, z0_2, z0_3⟩ := cell4_row X0.out
      go_wp2_with fail
      clear z0_0 z0_1 z0_2 z0_3
      refine (mark_Program vw0 vm0 vi0 L0 _ _ 1 _ _ Hx0.out (by omega) (by omega)).mono ?_
      rintro e v17 ⟨rfl, hh, hap⟩
      skip
      clear hh
      replace C0 := Lib.hid (C0.out.trans (hap.below C0.out.size (fun g hg => by have x1 := IHx0.out _ hg; have y0 := Z0.out; have y1 := BA0.out; have y2 := Z2.out; have y3 := Z3.out; have y4 := Z4.out; have y5 := Z5.out; have y6 := Z6.out; have y7 := Z7.out; have y8 := Z8.out; have y9 := BX0.out; have y10 := Z10.out; have y11 := Z11.out; have y12 := Z12.out; have y13 := Z13.out; have y14 := Z14.out; have y15 := Z15.out; have y16 := Z16.out; have y17 := Z17.out; omega)))
      replace A0 := Lib.hid ((hap.block _ (Array.getElem?_eq_some_iff.1 A0.out).1 (fun hm => by have x1 := IHx0.out _ hm; have y0 := Z0.out; have y1 := BA0.out; have y2 := Z2.out; have y3 := Z3.out; have y4 := Z4.out; have y5 := Z5.out; have y6 := Z6.out; have y7 := Z7.out; have y8 := Z8.out; have y9 := BX0.out; have y10 := Z10.out; have y11 := Z11.out; have y12 := Z12.out; have y13 := Z13.out; have y14 := Z14.out; have y15 := Z15.out; have y16 := Z16.out; have y17 := Z17.out; omega)).trans A0.out)
      replace Os0 := Lib.hid (own_same Os0.out (fun g hg => hap.block g (own_lt Os0.out hg).2 (fun hm => by have x1 := IHx0.out _ hm; have y0 := Z0.out; have y1 := BA0.out; have y2 := Z2.out; have y3 := Z3.out; have y4 := Z4.out; have y5 := Z5.out; have y6 := Z6.out; have y7 := Z7.out; have y8 := Z8.out; have y9 := BX0.out; have y10 := Z10.out; have y11 := Z11.out; have y12 := Z12.out; have y13 := Z13.out; have y14 := Z14.out; have y15 := Z15.out; have y16 := Z16.out; have y17 := Z17.out; have x2 := IOs0.out _ hg; omega)))
      replace X0 := Lib.hid ((hap.block _ (Array.getElem?_eq_some_iff.1 X0.out).1 (fun hm => by have x1 := IHx0.out _ hm; have y0 := Z0.out; have y1 := BA0.out; have y2 := Z2.out; have y3 := Z3.out; have y4 := Z4.out; have y5 := Z5.out; have y6 := Z6.out; have y7 := Z7.out; have y8 := Z8.out; have y9 := BX0.out; have y10 := Z10.out; have y11 := Z11.out; have y12 := Z12.out; have y13 := Z13.out; have y14 := Z14.out; have y15 := Z15.out; have y16 := Z16.out; have y17 := Z17.out; omega)).trans X0.out)
      replace Hx1 := Lib.hid (Hx1.out.same (fun g hg => hap.block g (Hx1.out.lt g hg).2 (fun hm => by have x1 := IHx0.out _ hm; have y0 := Z0.out; have y1 := BA0.out; have y2 := Z2.out; have y3 := Z3.out; have y4 := Z4.out; have y5 := Z5.out; have y6 := Z6.out; have y7 := Z7.out; have y8 := Z8.out; have y9 := BX0.out; have y10 := Z10.out; have y11 := Z11.out; have y12 := Z12.out; have y13 := Z13.out; have y14 := Z14.out; have y15 := Z15.out; have y16 := Z16.out; have y17 := Z17.out; have x2 := IHx1.out _ hg; omega)))
      replace Oi0 := Lib.hid (own_same Oi0.out (fun g hg => hap.block g (own_lt Oi0.out hg).2 (fun hm => by have x1 := IHx0.out _ hm; have y0 := Z0.out; have y1 := BA0.out; have y2 := Z2.out; have y3 := Z3.out; have y4 := Z4.out; have y5 := Z5.out; have y6 := Z6.out; have y7 := Z7.out; have y8 := Z8.out; have y9 := BX0.out; have y10 := Z10.out; have y11 := Z11.out; have y12 := Z12.out; have y13 := Z13.out; have y14 := Z14.out; have y15 := Z15.out; have y16 := Z16.out; have y17 := Z17.out; have x2 := IOi0.out _ hg; omega)))
      clear hap
      clear Hx0
      clear X0
      go_wp2_with fail
      refine (mark_Ts L1 _ (1 + 4 * L0.length) _ _ _ Hx1.out (by omega) (by omega) (by omega)).mono ?_
      rintro e v18 ⟨rfl, hh, hap⟩
      skip
      clear hh
      replace C0 := Lib.hid (C0.out.trans (hap.below C0.out.size (fun g hg => by have x1 := IHx1.out _ hg; have y0 := Z0.out; have y1 := BA0.out; have y2 := Z2.out; have y3 := Z3.out; have y4 := Z4.out; have y5 := Z5.out; have y6 := Z6.out; have y7 := Z7.out; have y8 := Z8.out; have y9 := BX0.out; have y10 := Z10.out; have y11 := Z11.out; have y12 := Z12.out; have y13 := Z13.out; have y14 := Z14.out; have y15 := Z15.out; have y16 := Z16.out; have y17 := Z17.out; omega)))
      replace A0 := Lib.hid ((hap.block _ (Array.getElem?_eq_some_iff.1 A0.out).1 (fun hm => by have x1 := IHx1.out _ hm; have y0 := Z0.out; have y1 := BA0.out; have y2 := Z2.out; have y3 := Z3.out; have y4 := Z4.out; have y5 := Z5.out; have y6 := Z6.out; have y7 := Z7.out; have y8 := Z8.out; have y9 := BX0.out; have y10 := Z10.out; have y11 := Z11.out; have y12 := Z12.out; have y13 := Z13.out; have y14 := Z14.out; have y15 := Z15.out; have y16 := Z16.out; have y17 := Z17.out; omega)).trans A0.out)
      replace Os0 := Lib.hid (own_same Os0.out (fun g hg => hap.block g (own_lt Os0.out hg).2 (fun hm => by have x1 := IHx1.out _ hm; have y0 := Z0.out; have y1 := BA0.out; have y2 := Z2.out; have y3 := Z3.out; have y4 := Z4.out; have y5 := Z5.out; have y6 := Z6.out; have y7 := Z7.out; have y8 := Z8.out; have y9 := BX0.out; have y10 := Z10.out; have y11 := Z11.out; have y12 := Z12.out; have y13 := Z13.out; have y14 := Z14.out; have y15 := Z15.out; have y16 := Z16.out; have y17 := Z17.out; have x2 := IOs0.out _ hg; omega)))
      replace Oi0 := Lib.hid (own_same Oi0.out (fun g hg => hap.block g (own_lt Oi0.out hg).2 (fun hm => by have x1 := IHx1.out _ hm; have y0 := Z0.out; have y1 := BA0.out; have y2 := Z2.out; have y3 := Z3.out; have y4 := Z4.out; have y5 := Z5.out; have y6 := Z6.out; have y7 := Z7.out; have y8 := Z8.out; have y9 := BX0.out; have y10 := Z10.out; have y11 := Z11.out; have y12 := Z12.out; have y13 := Z13.out; have y14 := Z14.out; have y15 := Z15.out; have y16 := Z16.out; have y17 := Z17.out; have x2 := IOi0.out _ hg; omega)))
      clear hap
      clear Hx1
      go_wp2_with fail
      refine (eq_Int x _ _ _ ((Cs.shows_of_owns Oi0.out).down (Nat.zero_le _)) ((Cs.shows_of_owns Os0.out).down (Nat.zero_le _)) (by omega)).mono ?_
      rintro e v19 ⟨rfl, hb⟩
      have Z18 := Lib.hid hb.size
      replace C0 := Lib.hid (C0.out.trans (hb.mono C0.out.size))
      replace A0 := Lib.hid ((hb.block _ (Array.getElem?_eq_some_iff.1 A0.out).1).trans A0.out)
      replace Os0 := Lib.hid (own_keep Os0.out hb)
      replace Oi0 := Lib.hid (own_keep Oi0.out hb)
      clear hb
      go_wp2_with fail
      refine (mark_Int x _ 1 _ _ Oi0.out (by omega) (by omega)).mono ?_
      rintro e v20 ⟨rfl, hh, hap⟩
      have M0 := Lib.hid hh
      clear hh
      replace C0 := Lib.hid (C0.out.trans (hap.below C0.out.size (fun g hg => by have x1 := IOi0.out _ hg; have y0 := Z0.out; have y1 := BA0.out; have y2 := Z2.out; have y3 := Z3.out; have y4 := Z4.out; have y5 := Z5.out; have y6 := Z6.out; have y7 := Z7.out; have y8 := Z8.out; have y9 := BX0.out; have y10 := Z10.out; have y11 := Z11.out; have y12 := Z12.out; have y13 := Z13.out; have y14 := Z14.out; have y15 := Z15.out; have y16 := Z16.out; have y17 := Z17.out; have y18 := Z18.out; omega)))
      replace A0 := Lib.hid ((hap.block _ (Array.getElem?_eq_some_iff.1 A0.out).1 (fun hm => by have x1 := IOi0.out _ hm; have y0 := Z0.out; have y1 := BA0.out; have y2 := Z2.out; have y3 := Z3.out; have y4 := Z4.out; have y5 := Z5.out; have y6 := Z6.out; have y7 := Z7.out; have y8 := Z8.out; have y9 := BX0.out; have y10 := Z10.out; have y11 := Z11.out; have y12 := Z12.out; have y13 := Z13.out; have y14 := Z14.out; have y15 := Z15.out; have y16 := Z16.out; have y17 := Z17.out; have y18 := Z18.out; omega)).trans A0.out)
      replace Os0 := Lib.hid (own_same Os0.out (fun g hg => hap.block g (own_lt Os0.out hg).2 (fun hm => by have x1 := IOi0.out _ hm; have y0 := Z0.out; have y1 := BA0.out; have y2 := Z2.out; have y3 := Z3.out; have y4 := Z4.out; have y5 := Z5.out; have y6 := Z6.out; have y7 := Z7.out; have y8 := Z8.out; have y9 := BX0.out; have y10 := Z10.out; have y11 := Z11.out; have y12 := Z12.out; have y13 := Z13.out; have y14 := Z14.out; have y15 := Z15.out; have y16 := Z16.out; have y17 := Z17.out; have y18 := Z18.out; have x2 := IOs0.out _ hg; omega)))
      clear hap
      clear Oi0
      have IM0 := IOi0
      go_wp2_with fail
      refine (held_Int x _ 1 _ ((Cs.shows_of_owns M0.out).down (Nat.zero_le _)) (by omega) (by omega)).mono ?_
      rintro e v21 ⟨rfl, hb⟩
      have Z19 := Lib.hid hb.size
      replace C0 := Lib.hid (C0.out.trans (hb.mono C0.out.size))
      replace A0 := Lib.hid ((hb.block _ (Array.getElem?_eq_some_iff.1 A0.out).1).trans A0.out)
      replace Os0 := Lib.hid (own_keep Os0.out hb)
      replace M0 := Lib.hid (own_keep M0.out hb)
      clear hb
      obtain ⟨z0_0, z0_1, z0_2, z0_3⟩ := cell4_row A0.out
      go_wp2_with fail
      clear z0_0 z0_1 z0_2 z0_3
      refine (to_Program vw0 vm0 vi0 L0 _ _ (IS0.out.below C0.out) (by omega)).mono ?_
      rintro e v22 ⟨gpj0, rfl, hh, hb⟩
      have Hpj0 := Lib.hid hh
      clear hh
      have Z20 := Lib.hid hb.size
      replace C0 := Lib.hid (C0.out.trans (hb.mono C0.out.size))
      replace A0 := Lib.hid ((hb.block _ (Array.getElem?_eq_some_iff.1 A0.out).1).trans A0.out)
      replace Os0 := Lib.hid (own_keep Os0.out hb)
      replace M0 := Lib.hid (own_keep M0.out hb)
      clear hb
      have IHpj0 := Lib.hid (fun g (hg : g ∈ (Value.slice (some ⟨gpj0, 0, none⟩) L0.length L0.length).ownBlock.toList) => (own_lt Hpj0.out hg))
      go_wp2_with fail
      refine (to_Ts L1 _ _ (IS1.out.below C0.out) (by omega)).mono ?_
      rintro e v23 ⟨gpj1, Bpj1, rfl, hh, hb⟩
      have Hpj1 := Lib.hid hh
      clear hh
      have Z21 := Lib.hid hb.size
      replace C0 := Lib.hid (C0.out.trans (hb.mono C0.out.size))
      replace A0 := Lib.hid ((hb.block _ (Array.getElem?_eq_some_iff.1 A0.out).1).trans A0.out)
      replace Os0 := Lib.hid (own_keep Os0.out hb)
      replace M0 := Lib.hid (own_keep M0.out hb)
      replace Hpj0 := Lib.hid (own_keep Hpj0.out hb)
      clear hb
      have IHpj1 := Lib.hid (fun g (hg : g ∈ Bpj1) => (Hpj1.out.lt _ hg))
      go_wp2_with fail
      refine (KI.out _ _ _ ((Cs.shows_of_owns Hpj0.out).down (Nat.zero_le _)) (Hpj1.out.shows)).mono ?_
      rintro e v24 ⟨hb, j0q, j0c, rfl, hh⟩
      have Oj0 := Lib.hid hh
      clear hh
      have Z22 := Lib.hid hb.size
      replace C0 := Lib.hid (C0.out.trans (hb.mono C0.out.size))
      replace A0 := Lib.hid ((hb.block _ (Array.getElem?_eq_some_iff.1 A0.out).1).trans A0.out)
      replace Os0 := Lib.hid (own_keep Os0.out hb)
      replace M0 := Lib.hid (own_keep M0.out hb)
      replace Hpj0 := Lib.hid (own_keep Hpj0.out hb)
      replace Hpj1 := Lib.hid (Hpj1.out.keep hb)
      clear hb
      clear Hpj0
      clear Hpj1
      have IOj0 := Lib.hid (fun g (hg : g ∈ (Value.slice j0q x.length j0c).ownBlock.toList) => (own_lt Oj0.out hg))
      go_wp2_with fail
      refine (eq_Int x _ _ _ ((Cs.shows_of_owns Oj0.out).down (Nat.zero_le _)) ((Cs.shows_of_owns Os0.out).down (Nat.zero_le _)) (by omega)).mono ?_
      rintro e v25 ⟨rfl, hb⟩
      have Z23 := Lib.hid hb.size
      replace C0 := Lib.hid (C0.out.trans (hb.mono C0.out.size))
      replace A0 := Lib.hid ((hb.block _ (Array.getElem?_eq_some_iff.1 A0.out).1).trans A0.out)
      replace Os0 := Lib.hid (own_keep Os0.out hb)
      replace M0 := Lib.hid (own_keep M0.out hb)
      replace Oj0 := Lib.hid (own_keep Oj0.out hb)
      clear hb
      go_wp2_with fail
      refine (held_Int x _ 1 _ ((Cs.shows_of_owns M0.out).down (Nat.zero_le _)) (by omega) (by omega)).mono ?_
      rintro e v26 ⟨rfl, hb⟩
      have Z24 := Lib.hid hb.size
      replace C0 := Lib.hid (C0.out.trans (hb.mono C0.out.size))
      replace A0 := Lib.hid ((hb.block _ (Array.getElem?_eq_some_iff.1 A0.out).1).trans A0.out)
      replace Os0 := Lib.hid (own_keep Os0.out hb)
      replace M0 := Lib.hid (own_keep M0.out hb)
      replace Oj0 := Lib.hid (own_keep Oj0.out hb)
      clear hb
      go_wp2
      go_ret
      exact ⟨rfl, C0.out⟩
    · have hl : left l0 (IntSS.costs L1) = -1 := by unfold left; rw [if_neg hc1]
      rw [hl] at SZ1
      clear hl hc1
      go_enter Tryz.func3, Tryz.ntmps3
      have C0 := Lib.hid (Below.refl w.heap.size w)
      obtain ⟨v1, hW⟩ : ∃ W, W = w.alloc (.cells #[.int .i64 vw0, .int .i64 vm0, .int .i64 vi0, .slice q0 L0.length cap0] 24) := ⟨_, rfl⟩
      have hb : Below w.heap.size w v1 := by rw [hW]; exact (Below.refl _ _).alloc (Nat.le_refl _) _
      have A0 : Hid (v1.heap[w.heap.size]? = some (.cells #[.int .i64 vw0, .int .i64 vm0, .int .i64 vi0, .slice q0 L0.length cap0] 24 (0, 0))) := Lib.hid (by rw [hW]; exact heap_alloc_new _ _)
      have BA0 := Lib.hid (show w.heap.size < v1.heap.size from (Array.getElem?_eq_some_iff.1 A0.out).1)
      have HW := Lib.hid hW
      clear hW
      have Z0 := Lib.hid hb.size
      replace C0 := Lib.hid (C0.out.trans (hb.mono C0.out.size))
      clear hb
      go_wp2_with fail
      rw [← HW.out]
      clear HW
      refine (SZ0.out _ (IS0.out.below C0.out)).mono ?_
      rintro e v2 ⟨rfl, hb⟩
      have Z2 := Lib.hid hb.size
      replace C0 := Lib.hid (C0.out.trans (hb.mono C0.out.size))
      replace A0 := Lib.hid ((hb.block _ (Array.getElem?_eq_some_iff.1 A0.out).1).trans A0.out)
      clear hb
      go_wp2_with fail
      refine (SZ1.out _ (IS1.out.below C0.out)).mono ?_
      rintro e v3 ⟨rfl, hb⟩
      have Z3 := Lib.hid hb.size
      replace C0 := Lib.hid (C0.out.trans (hb.mono C0.out.size))
      replace A0 := Lib.hid ((hb.block _ (Array.getElem?_eq_some_iff.1 A0.out).1).trans A0.out)
      clear hb
      go_wp2
      go_ret
      exact ⟨rfl, C0.out⟩
  · have hl : left 1048576 (InsR.costs L0) = -1 := by unfold left; rw [if_neg hc0]
    rw [hl] at SZ0
    clear hl hc0
    go_enter Tryz.func3, Tryz.ntmps3
    have C0 := Lib.hid (Below.refl w.heap.size w)
    obtain ⟨v1, hW⟩ : ∃ W, W = w.alloc (.cells #[.int .i64 vw0, .int .i64 vm0, .int .i64 vi0, .slice q0 L0.length cap0] 24) := ⟨_, rfl⟩
    have hb : Below w.heap.size w v1 := by rw [hW]; exact (Below.refl _ _).alloc (Nat.le_refl _) _
    have A0 : Hid (v1.heap[w.heap.size]? = some (.cells #[.int .i64 vw0, .int .i64 vm0, .int .i64 vi0, .slice q0 L0.length cap0] 24 (0, 0))) := Lib.hid (by rw [hW]; exact heap_alloc_new _ _)
    have BA0 := Lib.hid (show w.heap.size < v1.heap.size from (Array.getElem?_eq_some_iff.1 A0.out).1)
    have HW := Lib.hid hW
    clear hW
    have Z0 := Lib.hid hb.size
    replace C0 := Lib.hid (C0.out.trans (hb.mono C0.out.size))
    clear hb
    go_wp2_with fail
    rw [← HW.out]
    clear HW
    refine (SZ0.out _ (IS0.out.below C0.out)).mono ?_
    rintro e v2 ⟨rfl, hb⟩
    have Z2 := Lib.hid hb.size
    replace C0 := Lib.hid (C0.out.trans (hb.mono C0.out.size))
    replace A0 := Lib.hid ((hb.block _ (Array.getElem?_eq_some_iff.1 A0.out).1).trans A0.out)
    clear hb
    go_wp2
    go_ret
    exact ⟨rfl, C0.out⟩
end Go.Proofs.YthmababifgaejaaGreat
