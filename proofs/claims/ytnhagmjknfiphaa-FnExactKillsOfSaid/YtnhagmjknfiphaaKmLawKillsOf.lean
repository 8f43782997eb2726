/- The law FnExactKillsOf, walked by the contracts of all that it calls. -/
import Derived.Test.YtnhagmjknfiphaaKmGSrS
import Derived.Test.YtnhagmjknfiphaaKmGSrI
import Derived.Test.YtnhagmjknfiphaaKmTsO
import Derived.Test.YtnhagmjknfiphaaCmGMkProg
import Derived.Test.YtnhagmjknfiphaaCmGIntP
import Derived.Test.YtnhagmjknfiphaaCmProgram
import Derived.Test.YtnhagmjknfiphaaCmGReg
import Derived.Deep.RegionWith
import Derived.Deep.CutRange
namespace Go.Proofs.Ytnhagmjknfiphaa
open Go.ChangeShapes Go.WideShapes Go.ChangeAt Go.RowKit
set_option maxRecDepth 100000 in
set_option maxHeartbeats 16000000 in
theorem law_FnExactKillsOf (vw0 vm0 vi0 : Int) (L0 : List InsR) (s0 : Value) (vw1 vm1 vi1 : Int) (L1 : List InsR) (s1 : Value) (L2 : List (List Int)) (s2 : Value) (a3 : Int) (w : World) (hs0 : Cs.Shows w 0 4 s0 L0.length (InsR.all L0)) (hok0 : (-9223372036854775808 ≤ vw0 ∧ vw0 ≤ 9223372036854775807) ∧ (-9223372036854775808 ≤ vm0 ∧ vm0 ≤ 9223372036854775807) ∧ (-9223372036854775808 ≤ vi0 ∧ vi0 ≤ 9223372036854775807) ∧ (∀ r ∈ L0, r.Ok) ∧ L0.length ≤ maxLen) (hs1 : Cs.Shows w 0 4 s1 L1.length (InsR.all L1)) (hok1 : (-9223372036854775808 ≤ vw1 ∧ vw1 ≤ 9223372036854775807) ∧ (-9223372036854775808 ≤ vm1 ∧ vm1 ≤ 9223372036854775807) ∧ (-9223372036854775808 ≤ vi1 ∧ vi1 ≤ 9223372036854775807) ∧ (∀ r ∈ L1, r.Ok) ∧ L1.length ≤ maxLen) (hs2 : (Cs.rows IntSS.c L2).Is w 0 1 L2.length s2) (hok2 : IntSS.Ok L2) (hl2 : L2.length ≤ maxLen) :
    Calls Try.prog 5 #[.agg #[.int .i64 vw0, .int .i64 vm0, .int .i64 vi0, s0], .agg #[.int .i64 vw1, .int .i64 vm1, .int .i64 vi1, s1], s2, .int .i64 a3] w fun e w' => e = .returned (.bool true) ∧ Below w.heap.size w w' := by
  have hml : maxLen = 9223372036854775807 := rfl
  have IS0 := Lib.hid hs0
  have OK0 := Lib.hid hok0
  obtain ⟨_, q0, cap0, rfl, _⟩ := hs0
  clear hok0
  have IS1 := Lib.hid hs1
  have OK1 := Lib.hid hok1
  obtain ⟨_, q1, cap1, rfl, _⟩ := hs1
  clear hok1
  have IS2 := Lib.hid hs2
  have OK2 := Lib.hid hok2
  have LE2 := Lib.hid hl2
  obtain ⟨_, ⟨_, q2, cap2, rfl, _⟩, _⟩ := hs2
  clear hok2 hl2
  have SZ0 := Lib.hid (fun W (h : Cs.Shows W 0 4 (.slice q0 L0.length cap0) L0.length (InsR.all L0)) => sz_Program vw0 vm0 vi0 L0 _ 1048576 W (by omega) h OK0.out.2.2.2.1 OK0.out.2.2.2.2)
  by_cases hc0 : InsR.costs L0 ≤ 1048576
  · obtain ⟨l0, hl0, hm0⟩ : ∃ l : Nat, left 1048576 (InsR.costs L0) = (l : Int) ∧ l + InsR.costs L0 = 1048576 := ⟨1048576 - InsR.costs L0, by unfold left; rw [if_pos hc0]; omega, by omega⟩
    rw [hl0] at SZ0
    have hq0 : l0 ≤ 1048576 := by omega
    clear hl0 hm0
    have SZ1 := Lib.hid (fun W (h : Cs.Shows W 0 4 (.slice q1 L1.length cap1) L1.length (InsR.all L1)) => sz_Program vw1 vm1 vi1 L1 _ l0 W (by omega) h OK1.out.2.2.2.1 OK1.out.2.2.2.2)
    by_cases hc1 : InsR.costs L1 ≤ l0
    · obtain ⟨l1, hl1, hm1⟩ : ∃ l : Nat, left l0 (InsR.costs L1) = (l : Int) ∧ l + InsR.costs L1 = l0 := ⟨l0 - InsR.costs L1, by unfold left; rw [if_pos hc1]; omega, by omega⟩
      rw [hl1] at SZ1
      have hq1 : l1 ≤ 1048576 := by omega
      clear hl1 hm1
      have SZ2 := Lib.hid (fun W (h : (Cs.rows IntSS.c L2).Is W 0 1 L2.length (.slice q2 L2.length cap2)) => sz_IntSS L2 _ l1 W (by omega) h OK2.out LE2.out)
      by_cases hc2 : IntSS.costs L2 ≤ l1
      · obtain ⟨l2, hl2, hm2⟩ : ∃ l : Nat, left l1 (IntSS.costs L2) = (l : Int) ∧ l + IntSS.costs L2 = l1 := ⟨l1 - IntSS.costs L2, by unfold left; rw [if_pos hc2]; omega, by omega⟩
        rw [hl2] at SZ2
        have hq2 : l2 ≤ 1048576 := by omega
        clear hl2 hm2
        have hnl0 := InsR.len_le L0
        have hlc0 : L0.length ≤ 1048576 := by omega
        have hcc0 : InsR.costs L0 ≤ 1048576 := by omega
        clear hnl0
        have hnl1 := InsR.len_le L1
        have hlc1 : L1.length ≤ 1048576 := by omega
        have hcc1 : InsR.costs L1 ≤ 1048576 := by omega
        clear hnl1
        have hnl2 := IntSS.len_le L2
        have hcc2 : IntSS.costs L2 ≤ 1048576 := by omega
        have hlc2 : L2.length ≤ 1048576 := by omega
        have htt2 := tot_le L2
        have htc2 : IntSS.tot L2 ≤ 1048576 := by omega
        clear hnl2 htt2
        obtain ⟨x, hx⟩ : ∃ x, klV vw0 vm0 vi0 L0 vw1 vm1 vi1 L1 a3 L2 = x := ⟨_, rfl⟩
        have hxc : x.length ≤ 1048576 := by rw [← hx]; exact Nat.le_trans klV_len (by omega)
        have KS := Lib.hid (fun s s' v W h h' h2 => s_kills vw0 vm0 vi0 L0 vw1 vm1 vi1 L1 L2 a3 s s' v W h h' h2 OK0.out.2.2.2.1 OK0.out.2.2.2.2 OK1.out.2.2.2.1 OK1.out.2.2.2.2 OK2.out (by omega))
        have KI := Lib.hid (fun s s' v W h h' h2 => i_kills vw0 vm0 vi0 L0 vw1 vm1 vi1 L1 L2 a3 s s' v W h h' h2 OK0.out.2.2.2.1 OK0.out.2.2.2.2 OK1.out.2.2.2.1 OK1.out.2.2.2.2 OK2.out (by omega))
        unfold NxOwn at KS KI
        rw [hx] at KS KI
        clear hx
        clear hc0
        clear hc1
        clear hc2
        go_enter Try.func5, Try.ntmps5
        have C0 := Lib.hid (Below.refl w.heap.size w)
        obtain ⟨v1, hW⟩ : ∃ W, W = (w.alloc (.cells #[.int .i64 vw0, .int .i64 vm0, .int .i64 vi0, .slice q0 L0.length cap0] 24)).alloc (.cells #[.int .i64 vw1, .int .i64 vm1, .int .i64 vi1, .slice q1 L1.length cap1] 24) := ⟨_, rfl⟩
        have hb : Below w.heap.size w v1 := by rw [hW]; exact ((Below.refl _ _).alloc (Nat.le_refl _) _).alloc (by simp) _
        have A0 := Lib.hid (show v1.heap[w.heap.size]? = some (.cells #[.int .i64 vw0, .int .i64 vm0, .int .i64 vi0, .slice q0 L0.length cap0] 24 (0, 0)) by rw [hW, heap_alloc_old _ _ (by simp)]; exact heap_alloc_new _ _)
        have A1 := Lib.hid (show v1.heap[w.heap.size + 1]? = some (.cells #[.int .i64 vw1, .int .i64 vm1, .int .i64 vi1, .slice q1 L1.length cap1] 24 (0, 0)) by rw [hW, ← show (w.alloc (.cells #[.int .i64 vw0, .int .i64 vm0, .int .i64 vi0, .slice q0 L0.length cap0] 24)).heap.size = w.heap.size + 1 by simp]; exact heap_alloc_new _ _)
        have BA1 := Lib.hid (show w.heap.size + 1 < v1.heap.size from (Array.getElem?_eq_some_iff.1 A1.out).1)
        have HW := Lib.hid hW
        clear hW
        have Z0 := Lib.hid hb.size
        replace C0 := Lib.hid (C0.out.trans (hb.mono C0.out.size))
        clear hb
        go_wp2_with fail
        rw [← HW.out]
        clear HW
        refine (SZ0.out _ (IS0.out.below C0.out)).mono ?_
        rintro e v2 ⟨rfl, hb⟩
        have Z2 := Lib.hid hb.size
        replace C0 := Lib.hid (C0.out.trans (hb.mono C0.out.size))
        replace A0 := Lib.hid ((hb.block _ (Array.getElem?_eq_some_iff.1 A0.out).1).trans A0.out)
        replace A1 := Lib.hid ((hb.block _ (Array.getElem?_eq_some_iff.1 A1.out).1).trans A1.out)
        clear hb
        obtain ⟨z0_0, z0_1, z0_2, z0_3⟩ := cell4_row A1.out
        go_wp2_with fail
        clear z0_0 z0_1 z0_2 z0_3
        refine (SZ1.out _ (IS1.out.below C0.out)).mono ?_
        rintro e v3 ⟨rfl, hb⟩
        have Z3 := Lib.hid hb.size
        replace C0 := Lib.hid (C0.out.trans (hb.mono C0.out.size))
        replace A0 := Lib.hid ((hb.block _ (Array.getElem?_eq_some_iff.1 A0.out).1).trans A0.out)
        replace A1 := Lib.hid ((hb.block _ (Array.getElem?_eq_some_iff.1 A1.out).1).trans A1.out)
        clear hb
        go_wp2_with fail
        refine (SZ2.out _ (IS2.out.below C0.out)).mono ?_
        rintro e v4 ⟨rfl, hb⟩
        have Z4 := Lib.hid hb.size
        replace C0 := Lib.hid (C0.out.trans (hb.mono C0.out.size))
        replace A0 := Lib.hid ((hb.block _ (Array.getElem?_eq_some_iff.1 A0.out).1).trans A0.out)
        replace A1 := Lib.hid ((hb.block _ (Array.getElem?_eq_some_iff.1 A1.out).1).trans A1.out)
        clear hb
        go_upto_region 11 with fail
        obtain ⟨v5, hv⟩ : ∃ W, W = v4.drew := ⟨_, rfl⟩
        refine region_c (fun V => Below v5.heap.size v5 V) (by kernel_rfl) ?_
        rw [← hv]
        have hb : Below v4.heap.size v4 v5 := by rw [hv]; exact (Below.refl _ _).drew
        clear hv
        have Z5 := Lib.hid hb.size
        replace C0 := Lib.hid (C0.out.trans (hb.mono C0.out.size))
        replace A0 := Lib.hid ((hb.block _ (Array.getElem?_eq_some_iff.1 A0.out).1).trans A0.out)
        replace A1 := Lib.hid ((hb.block _ (Array.getElem?_eq_some_iff.1 A1.out).1).trans A1.out)
        clear hb
        have CR := Lib.hid (Below.refl v5.heap.size v5)
        refine take_c (i := 0) (v := .agg #[.int .i64 vw0, .int .i64 vm0, .int .i64 vi0, .slice q0 L0.length cap0]) rfl (by kernel_rfl) (by kernel_rfl) (by kernel_rfl) (fun _ _ _ h => h) CR.out rfl (fun V hV => ?_) ?_
        · obtain ⟨z0, z1, z2, z3⟩ := cell4_row ((hV.block _ (Array.getElem?_eq_some_iff.1 A0.out).1).trans A0.out)
          go_simp
        refine take_c (i := 2) (v := .agg #[.int .i64 vw1, .int .i64 vm1, .int .i64 vi1, .slice q1 L1.length cap1]) rfl (by kernel_rfl) (by kernel_rfl) (by kernel_rfl) (fun _ _ _ h => h) CR.out rfl (fun V hV => ?_) ?_
        · obtain ⟨z0, z1, z2, z3⟩ := cell4_row ((hV.block _ (Array.getElem?_eq_some_iff.1 A1.out).1).trans A1.out)
          go_simp
        refine take_c (i := 4) (v := .slice q2 L2.length cap2) rfl (by kernel_rfl) (by kernel_rfl) (by kernel_rfl) (fun _ _ _ h => h) CR.out rfl (fun V hV => ?_) ?_
        · go_simp
        refine take_c (i := 6) (v := .int .i64 a3) rfl (by kernel_rfl) (by kernel_rfl) (by kernel_rfl) (fun _ _ _ h => h) CR.out rfl (fun V hV => ?_) ?_
        · go_simp
        refine one_c (i := 1) (by kernel_rfl) (op_list rfl ?_)
        go_wp2_with fail
        refine (to_Program vw0 vm0 vi0 L0 _ _ (IS0.out.below C0.out) (by omega)).mono ?_
        rintro e v6 ⟨gps0, rfl, hh, hb⟩
        have Hps0 := Lib.hid hh
        clear hh
        have Z6 := Lib.hid hb.size
        replace C0 := Lib.hid (C0.out.trans (hb.mono C0.out.size))
        replace A0 := Lib.hid ((hb.block _ (Array.getElem?_eq_some_iff.1 A0.out).1).trans A0.out)
        replace A1 := Lib.hid ((hb.block _ (Array.getElem?_eq_some_iff.1 A1.out).1).trans A1.out)
        replace CR := Lib.hid (CR.out.trans (hb.mono CR.out.size))
        clear hb
        have IHps0 := Lib.hid (fun g (hg : g ∈ (Value.slice (some ⟨gps0, 0, none⟩) L0.length L0.length).ownBlock.toList) => (own_lt Hps0.out hg))
        go_wp2
        refine ⟨CR.out, ?_⟩
        refine one_c (i := 3) (by kernel_rfl) (op_list rfl ?_)
        go_wp2_with fail
        refine (to_Program vw1 vm1 vi1 L1 _ _ (IS1.out.below C0.out) (by omega)).mono ?_
        rintro e v7 ⟨gps1, rfl, hh, hb⟩
        have Hps1 := Lib.hid hh
        clear hh
        have Z7 := Lib.hid hb.size
        replace C0 := Lib.hid (C0.out.trans (hb.mono C0.out.size))
        replace A0 := Lib.hid ((hb.block _ (Array.getElem?_eq_some_iff.1 A0.out).1).trans A0.out)
        replace A1 := Lib.hid ((hb.block _ (Array.getElem?_eq_some_iff.1 A1.out).1).trans A1.out)
        replace CR := Lib.hid (CR.out.trans (hb.mono CR.out.size))
        replace Hps0 := Lib.hid (own_keep Hps0.out hb)
        clear hb
        have IHps1 := Lib.hid (fun g (hg : g ∈ (Value.slice (some ⟨gps1, 0, none⟩) L1.length L1.length).ownBlock.toList) => (own_lt Hps1.out hg))
        go_wp2
        refine ⟨CR.out, ?_⟩
        refine one_c (i := 5) (by kernel_rfl) (op_list rfl ?_)
        go_wp2_with fail
        refine (to_Ts L2 _ _ (IS2.out.below C0.out) (by omega)).mono ?_
        rintro e v8 ⟨gps2, Bps2, rfl, hh, hb⟩
        have Hps2 := Lib.hid hh
        clear hh
        have Z8 := Lib.hid hb.size
        replace C0 := Lib.hid (C0.out.trans (hb.mono C0.out.size))
        replace A0 := Lib.hid ((hb.block _ (Array.getElem?_eq_some_iff.1 A0.out).1).trans A0.out)
        replace A1 := Lib.hid ((hb.block _ (Array.getElem?_eq_some_iff.1 A1.out).1).trans A1.out)
        replace CR := Lib.hid (CR.out.trans (hb.mono CR.out.size))
        replace Hps0 := Lib.hid (own_keep Hps0.out hb)
        replace Hps1 := Lib.hid (own_keep Hps1.out hb)
        clear hb
        have IHps2 := Lib.hid (fun g (hg : g ∈ Bps2) => (Hps2.out.lt _ hg))
        go_wp2
        refine ⟨CR.out, ?_⟩
        refine one_c (i := 7) (by kernel_rfl) (op_list rfl ?_)
        go_wp2_with fail
        refine (KS.out _ _ _ _ ((Cs.shows_of_owns Hps0.out).down (Nat.zero_le _)) ((Cs.shows_of_owns Hps1.out).down (Nat.zero_le _)) (Hps2.out.shows)).mono ?_
        rintro e v9 ⟨hb, s0q, s0c, rfl, hh⟩
        have Os0 := Lib.hid hh
        clear hh
        have Z9 := Lib.hid hb.size
        replace C0 := Lib.hid (C0.out.trans (hb.mono C0.out.size))
        replace A0 := Lib.hid ((hb.block _ (Array.getElem?_eq_some_iff.1 A0.out).1).trans A0.out)
        replace A1 := Lib.hid ((hb.block _ (Array.getElem?_eq_some_iff.1 A1.out).1).trans A1.out)
        replace CR := Lib.hid (CR.out.trans (hb.mono CR.out.size))
        replace Hps0 := Lib.hid (own_keep Hps0.out hb)
        replace Hps1 := Lib.hid (own_keep Hps1.out hb)
        replace Hps2 := Lib.hid (Hps2.out.keep hb)
        clear hb
        clear Hps0
        clear Hps1
        clear Hps2
        have IOs0 := Lib.hid (fun g (hg : g ∈ (Value.slice s0q x.length s0c).ownBlock.toList) => (own_lt Os0.out hg))
        go_wp2
        refine ⟨CR.out, ?_⟩
        refine one_c (i := 8) (by kernel_rfl) (op_list rfl ?_)
        go_wp2
        refine ⟨CR.out, done_c (by kernel_rfl) ?_ _⟩
        clear CR
        obtain ⟨z0_0, z0_1, z0_2, z0_3⟩ := cell4_row A0.out
        go_wp2_with fail
        clear z0_0 z0_1 z0_2 z0_3
        refine (to_Program vw0 vm0 vi0 L0 _ _ (IS0.out.below C0.out) (by omega)).mono ?_
        rintro e v10 ⟨gx0, rfl, hh, hb⟩
        have Hx0 := Lib.hid hh
        clear hh
        have Z10 := Lib.hid hb.size
        replace C0 := Lib.hid (C0.out.trans (hb.mono C0.out.size))
        replace A0 := Lib.hid ((hb.block _ (Array.getElem?_eq_some_iff.1 A0.out).1).trans A0.out)
        replace A1 := Lib.hid ((hb.block _ (Array.getElem?_eq_some_iff.1 A1.out).1).trans A1.out)
        replace Os0 := Lib.hid (own_keep Os0.out hb)
        clear hb
        have IHx0 := Lib.hid (fun g (hg : g ∈ (Value.slice (some ⟨gx0, 0, none⟩) L0.length L0.length).ownBlock.toList) => (own_lt Hx0.out hg))
        obtain ⟨z0_0, z0_1, z0_2, z0_3⟩ := cell4_row A1.out
        have hyl0 := World.block_lt_of_cell? _ _ z0_0
        obtain ⟨v11, hW⟩ : ∃ W, W = v10.alloc (.cells #[.int .i64 vw0, .int .i64 vm0, .int .i64 vi0, .slice (some ⟨gx0, 0, none⟩) L0.length L0.length] 30) := ⟨_, rfl⟩
        have hb : Below v10.heap.size v10 v11 := by rw [hW]; exact (Below.refl _ _).alloc (Nat.le_refl _) _
        have X0 : Hid (v11.heap[v10.heap.size]? = some (.cells #[.int .i64 vw0, .int .i64 vm0, .int .i64 vi0, .slice (some ⟨gx0, 0, none⟩) L0.length L0.length] 30 (0, 0))) := Lib.hid (by rw [hW]; exact heap_alloc_new _ _)
        have BX0 := Lib.hid (show v10.heap.size < v11.heap.size from (Array.getElem?_eq_some_iff.1 X0.out).1)
        have HW := Lib.hid hW
        clear hW
        have Z11 := Lib.hid hb.size
        replace C0 := Lib.hid (C0.out.trans (hb.mono C0.out.size))
        replace A0 := Lib.hid ((hb.block _ (Array.getElem?_eq_some_iff.1 A0.out).1).trans A0.out)
        replace A1 := Lib.hid ((hb.block _ (Array.getElem?_eq_some_iff.1 A1.out).1).trans A1.out)
        replace Os0 := Lib.hid (own_keep Os0.out hb)
        replace Hx0 := Lib.hid (own_keep Hx0.out hb)
        clear hb
        go_wp2_with fail
        rw [← HW.out]
        clear HW z0_0 z0_1 z0_2 z0_3 hyl0
        refine (to_Program vw1 vm1 vi1 L1 _ _ (IS1.out.below C0.out) (by omega)).mono ?_
        rintro e v12 ⟨gx1, rfl, hh, hb⟩
        have Hx1 := Lib.hid hh
        clear hh
        have Z13 := Lib.hid hb.size
        replace C0 := Lib.hid (C0.out.trans (hb.mono C0.out.size))
        replace A0 := Lib.hid ((hb.block _ (Array.getElem?_eq_some_iff.1 A0.out).1).trans A0.out)
        replace A1 := Lib.hid ((hb.block _ (Array.getElem?_eq_some_iff.1 A1.out).1).trans A1.out)
        replace Os0 := Lib.hid (own_keep Os0.out hb)
        replace Hx0 := Lib.hid (own_keep Hx0.out hb)
        replace X0 := Lib.hid ((hb.block _ (Array.getElem?_eq_some_iff.1 X0.out).1).trans X0.out)
        clear hb
        have IHx1 := Lib.hid (fun g (hg : g ∈ (Value.slice (some ⟨gx1, 0, none⟩) L1.length L1.length).ownBlock.toList) => (own_lt Hx1.out hg))
        obtain ⟨v13, hW⟩ : ∃ W, W = v12.alloc (.cells #[.int .i64 vw1, .int .i64 vm1, .int .i64 vi1, .slice (some ⟨gx1, 0, none⟩) L1.length L1.length] 30) := ⟨_, rfl⟩
        have hb : Below v12.heap.size v12 v13 := by rw [hW]; exact (Below.refl _ _).alloc (Nat.le_refl _) _
        have X1 : Hid (v13.heap[v12.heap.size]? = some (.cells #[.int .i64 vw1, .int .i64 vm1, .int .i64 vi1, .slice (some ⟨gx1, 0, none⟩) L1.length L1.length] 30 (0, 0))) := Lib.hid (by rw [hW]; exact heap_alloc_new _ _)
        have BX1 := Lib.hid (show v12.heap.size < v13.heap.size from (Array.getElem?_eq_some_iff.1 X1.out).1)
        have HW := Lib.hid hW
        clear hW
        have Z14 := Lib.hid hb.size
        replace C0 := Lib.hid (C0.out.trans (hb.mono C0.out.size))
        replace A0 := Lib.hid ((hb.block _ (Array.getElem?_eq_some_iff.1 A0.out).1).trans A0.out)
        replace A1 := Lib.hid ((hb.block _ (Array.getElem?_eq_some_iff.1 A1.out).1).trans A1.out)
        replace Os0 := Lib.hid (own_keep Os0.out hb)
        replace Hx0 := Lib.hid (own_keep Hx0.out hb)
        replace X0 := Lib.hid ((hb.block _ (Array.getElem?_eq_some_iff.1 X0.out).1).trans X0.out)
        replace Hx1 := Lib.hid (own_keep Hx1.out hb)
        clear hb
        go_wp2_with fail
        rw [← HW.out]
        clear HW
        refine (to_Ts L2 _ _ (IS2.out.below C0.out) (by omega)).mono ?_
        rintro e v14 ⟨gx2, Bx2, rfl, hh, hb⟩
        have Hx2 := Lib.hid hh
        clear hh
        have Z16 := Lib.hid hb.size
        replace C0 := Lib.hid (C0.out.trans (hb.mono C0.out.size))
        replace A0 := Lib.hid ((hb.block _ (Array.getElem?_eq_some_iff.1 A0.out).1).trans A0.out)
        replace A1 := Lib.hid ((hb.block _ (Array.getElem?_eq_some_iff.1 A1.out).1).trans A1.out)
        replace Os0 := Lib.hid (own_keep Os0.out hb)
        replace Hx0 := Lib.hid (own_keep Hx0.out hb)
        replace X0 := Lib.hid ((hb.block _ (Array.getElem?_eq_some_iff.1 X0.out).1).trans X0.out)
        replace Hx1 := Lib.hid (own_keep Hx1.out hb)
        replace X1 := Lib.hid ((hb.block _ (Array.getElem?_eq_some_iff.1 X1.out).1).trans X1.out)
        clear hb
        have IHx2 := Lib.hid (fun g (hg : g ∈ Bx2) => (Hx2.out.lt _ hg))
        obtain ⟨z0_0, z0_1, z0_2, z0_3⟩ := cell4_row X0.out
        obtain ⟨z1_0, z1_1, z1_2, z1_3⟩ := cell4_row X1.out
        go_wp2_with fail
        clear z0_0 z0_1 z0_2 z0_3 z1_0 z1_1 z1_2 z1_3
        refine (KI.out _ _ _ _ ((Cs.shows_of_owns Hx0.out).down (Nat.zero_le _)) ((Cs.shows_of_owns Hx1.out).down (Nat.zero_le _)) (Hx2.out.shows)).mono ?_
        rintro e v15 ⟨hb, i0q, i0c, rfl, hh⟩
        have Oi0 := Lib.hid hh
        clear hh
        have Z17 := Lib.hid hb.size
        replace C0 := Lib.hid (C0.out.trans (hb.mono C0.out.size))
        replace A0 := Lib.hid ((hb.block _ (Array.getElem?_eq_some_iff.1 A0.out).1).trans A0.out)
        replace A1 := Lib.hid ((hb.block _ (Array.getElem?_eq_some_iff.1 A1.out).1).trans A1.out)
        replace Os0 := Lib.hid (own_keep Os0.out hb)
        replace Hx0 := Lib.hid (own_keep Hx0.out hb)
        replace X0 := Lib.hid ((hb.block _ (Array.getElem?_eq_some_iff.1 X0.out).1).trans X0.out)
        replace Hx1 := Lib.hid (own_keep Hx1.out hb)
        replace X1 := Lib.hid ((hb.block _ (Array.getElem?_eq_some_iff.1 X1.out).1).trans X1.out)
        replace Hx2 := Lib.hid (Hx2.out.keep hb)
        clear hb
        have IOi0 := Lib.hid (fun g (hg : g ∈ (Value.slice i0q x.length i0c).ownBlock.toList) => (own_lt Oi0.out hg))
        go_wp2_with fail
        refine (eq_Int x _ _ _ ((Cs.shows_of_owns Oi0.out).down (Nat.zero_le _)) ((Cs.shows_of_owns Os0.out).down (Nat.zero_le _)) (by omega)).mono ?_
        rintro e v16 ⟨rfl, hb⟩
        have Z18 := Lib.hid hb.size
        replace C0 := Lib.hid (C0.out.trans (hb.mono C0.out.size))
        replace A0 := Lib.hid ((hb.block _ (Array.getElem?_eq_some_iff.1 A0.out).1).trans A0.out)
        replace A1 := Lib.hid ((hb.block _ (Array.getElem?_eq_some_iff.1 A1.out).1).trans A1.out)
        replace Os0 := Lib.hid (own_keep Os0.out hb)
        replace Hx0 := Lib.hid (own_keep Hx0.out hb)
        replace X0 := Lib.hid ((hb.block _ (Array.getElem?_eq_some_iff.1 X0.out).1).trans X0.out)
        replace Hx1 := Lib.hid (own_keep Hx1.out hb)
        replace X1 := Lib.hid ((hb.block _ (Array.getElem?_eq_some_iff.1 X1.out).1).trans X1.out)
        replace Hx2 := Lib.hid (Hx2.out.keep hb)
        replace Oi0 := Lib.hid (own_keep Oi0.out hb)
        clear hb
        go_upto_region 18 with fail
        obtain ⟨v17, hv⟩ : ∃ W, W = v16.drew := ⟨_, rfl⟩
        refine region_c (fun V => Below v17.heap.size v17 V) (by kernel_rfl) ?_
        rw [← hv]
        have hb : Below v16.heap.size v16 v17 := by rw [hv]; exact (Below.refl _ _).drew
        clear hv
        have Z19 := Lib.hid hb.size
        replace C0 := Lib.hid (C0.out.trans (hb.mono C0.out.size))
        replace A0 := Lib.hid ((hb.block _ (Array.getElem?_eq_some_iff.1 A0.out).1).trans A0.out)
        replace A1 := Lib.hid ((hb.block _ (Array.getElem?_eq_some_iff.1 A1.out).1).trans A1.out)
        replace Os0 := Lib.hid (own_keep Os0.out hb)
        replace Hx0 := Lib.hid (own_keep Hx0.out hb)
        replace X0 := Lib.hid ((hb.block _ (Array.getElem?_eq_some_iff.1 X0.out).1).trans X0.out)
        replace Hx1 := Lib.hid (own_keep Hx1.out hb)
        replace X1 := Lib.hid ((hb.block _ (Array.getElem?_eq_some_iff.1 X1.out).1).trans X1.out)
        replace Hx2 := Lib.hid (Hx2.out.keep hb)
        replace Oi0 := Lib.hid (own_keep Oi0.out hb)
        clear hb
        have CR := Lib.hid (Below.refl v17.heap.size v17)
        refine take_c (i := 0) (v := .agg #[.int .i64 vw0, .int .i64 vm0, .int .i64 vi0, .slice (some ⟨gx0, 0, none⟩) L0.length L0.length]) rfl (by kernel_rfl) (by kernel_rfl) (by kernel_rfl) (fun _ _ _ h => h) CR.out rfl (fun V hV => ?_) ?_
        · obtain ⟨z0, z1, z2, z3⟩ := cell4_row ((hV.block _ (Array.getElem?_eq_some_iff.1 X0.out).1).trans X0.out)
          go_simp
        refine take_c (i := 1) (v := .agg #[.int .i64 vw0, .int .i64 vm0, .int .i64 vi0, .slice q0 L0.length cap0]) rfl (by kernel_rfl) (by kernel_rfl) (by kernel_rfl) (fun _ _ _ h => h) CR.out rfl (fun V hV => ?_) ?_
        · obtain ⟨z0, z1, z2, z3⟩ := cell4_row ((hV.block _ (Array.getElem?_eq_some_iff.1 A0.out).1).trans A0.out)
          go_simp
        refine one_c (i := 2) (by kernel_rfl) (op_list rfl ?_)
        go_wp2_with fail
        refine (to_Program vw0 vm0 vi0 L0 _ _ (IS0.out.below C0.out) (by omega)).mono ?_
        rintro e v18 ⟨ge, rfl, hh, hb⟩
        have He := Lib.hid hh
        clear hh
        have Z20 := Lib.hid hb.size
        replace C0 := Lib.hid (C0.out.trans (hb.mono C0.out.size))
        replace A0 := Lib.hid ((hb.block _ (Array.getElem?_eq_some_iff.1 A0.out).1).trans A0.out)
        replace A1 := Lib.hid ((hb.block _ (Array.getElem?_eq_some_iff.1 A1.out).1).trans A1.out)
        replace Os0 := Lib.hid (own_keep Os0.out hb)
        replace Hx0 := Lib.hid (own_keep Hx0.out hb)
        replace X0 := Lib.hid ((hb.block _ (Array.getElem?_eq_some_iff.1 X0.out).1).trans X0.out)
        replace Hx1 := Lib.hid (own_keep Hx1.out hb)
        replace X1 := Lib.hid ((hb.block _ (Array.getElem?_eq_some_iff.1 X1.out).1).trans X1.out)
        replace Hx2 := Lib.hid (Hx2.out.keep hb)
        replace Oi0 := Lib.hid (own_keep Oi0.out hb)
        replace CR := Lib.hid (CR.out.trans (hb.mono CR.out.size))
        clear hb
        go_wp2
        refine ⟨CR.out, ?_⟩
        refine one_c (i := 3) (by kernel_rfl) (op_list rfl ?_)
        go_wp2_with fail
        refine (eq_Program vw0 vm0 vi0 L0 _ _ _ ((Cs.shows_of_owns Hx0.out).down (Nat.zero_le _)) ((Cs.shows_of_owns He.out).down (Nat.zero_le _)) (by omega)).mono ?_
        rintro e v19 ⟨rfl, hb⟩
        have Z21 := Lib.hid hb.size
        replace C0 := Lib.hid (C0.out.trans (hb.mono C0.out.size))
        replace A0 := Lib.hid ((hb.block _ (Array.getElem?_eq_some_iff.1 A0.out).1).trans A0.out)
        replace A1 := Lib.hid ((hb.block _ (Array.getElem?_eq_some_iff.1 A1.out).1).trans A1.out)
        replace Os0 := Lib.hid (own_keep Os0.out hb)
        replace Hx0 := Lib.hid (own_keep Hx0.out hb)
        replace X0 := Lib.hid ((hb.block _ (Array.getElem?_eq_some_iff.1 X0.out).1).trans X0.out)
        replace Hx1 := Lib.hid (own_keep Hx1.out hb)
        replace X1 := Lib.hid ((hb.block _ (Array.getElem?_eq_some_iff.1 X1.out).1).trans X1.out)
        replace Hx2 := Lib.hid (Hx2.out.keep hb)
        replace Oi0 := Lib.hid (own_keep Oi0.out hb)
        replace CR := Lib.hid (CR.out.trans (hb.mono CR.out.size))
        replace He := Lib.hid (own_keep He.out hb)
        clear hb
        go_wp2
        refine ⟨CR.out, ?_⟩
        refine one_c (i := 4) (by kernel_rfl) (op_list rfl ?_)
        go_wp2
        refine ⟨CR.out, done_c (by kernel_rfl) ?_ _⟩
        clear CR
        clear He
        go_upto_region 20 with fail
        obtain ⟨v20, hv⟩ : ∃ W, W = v19.drew := ⟨_, rfl⟩
        refine region_c (fun V => Below v20.heap.size v20 V) (by kernel_rfl) ?_
        rw [← hv]
        have hb : Below v19.heap.size v19 v20 := by rw [hv]; exact (Below.refl _ _).drew
        clear hv
        have Z22 := Lib.hid hb.size
        replace C0 := Lib.hid (C0.out.trans (hb.mono C0.out.size))
        replace A0 := Lib.hid ((hb.block _ (Array.getElem?_eq_some_iff.1 A0.out).1).trans A0.out)
        replace A1 := Lib.hid ((hb.block _ (Array.getElem?_eq_some_iff.1 A1.out).1).trans A1.out)
        replace Os0 := Lib.hid (own_keep Os0.out hb)
        replace Hx0 := Lib.hid (own_keep Hx0.out hb)
        replace X0 := Lib.hid ((hb.block _ (Array.getElem?_eq_some_iff.1 X0.out).1).trans X0.out)
        replace Hx1 := Lib.hid (own_keep Hx1.out hb)
        replace X1 := Lib.hid ((hb.block _ (Array.getElem?_eq_some_iff.1 X1.out).1).trans X1.out)
        replace Hx2 := Lib.hid (Hx2.out.keep hb)
        replace Oi0 := Lib.hid (own_keep Oi0.out hb)
        clear hb
        have CR := Lib.hid (Below.refl v20.heap.size v20)
        refine take_c (i := 0) (v := .agg #[.int .i64 vw1, .int .i64 vm1, .int .i64 vi1, .slice (some ⟨gx1, 0, none⟩) L1.length L1.length]) rfl (by kernel_rfl) (by kernel_rfl) (by kernel_rfl) (fun _ _ _ h => h) CR.out rfl (fun V hV => ?_) ?_
        · obtain ⟨z0, z1, z2, z3⟩ := cell4_row ((hV.block _ (Array.getElem?_eq_some_iff.1 X1.out).1).trans X1.out)
          go_simp
        refine take_c (i := 1) (v := .agg #[.int .i64 vw1, .int .i64 vm1, .int .i64 vi1, .slice q1 L1.length cap1]) rfl (by kernel_rfl) (by kernel_rfl) (by kernel_rfl) (fun _ _ _ h => h) CR.out rfl (fun V hV => ?_) ?_
        · obtain ⟨z0, z1, z2, z3⟩ := cell4_row ((hV.block _ (Array.getElem?_eq_some_iff.1 A1.out).1).trans A1.out)
          go_simp
        refine one_c (i := 2) (by kernel_rfl) (op_list rfl ?_)
        go_wp2_with fail
        refine (to_Program vw1 vm1 vi1 L1 _ _ (IS1.out.below C0.out) (by omega)).mono ?_
        rintro e v21 ⟨ge, rfl, hh, hb⟩
        have He := Lib.hid hh
        clear hh
        have Z23 := Lib.hid hb.size
        replace C0 := Lib.hid (C0.out.trans (hb.mono C0.out.size))
        replace A0 := Lib.hid ((hb.block _ (Array.getElem?_eq_some_iff.1 A0.out).1).trans A0.out)
        replace A1 := Lib.hid ((hb.block _ (Array.getElem?_eq_some_iff.1 A1.out).1).trans A1.out)
        replace Os0 := Lib.hid (own_keep Os0.out hb)
        replace Hx0 := Lib.hid (own_keep Hx0.out hb)
        replace X0 := Lib.hid ((hb.block _ (Array.getElem?_eq_some_iff.1 X0.out).1).trans X0.out)
        replace Hx1 := Lib.hid (own_keep Hx1.out hb)
        replace X1 := Lib.hid ((hb.block _ (Array.getElem?_eq_some_iff.1 X1.out).1).trans X1.out)
        replace Hx2 := Lib.hid (Hx2.out.keep hb)
        replace Oi0 := Lib.hid (own_keep Oi0.out hb)
        replace CR := Lib.hid (CR.out.trans (hb.mono CR.out.size))
        clear hb
        go_wp2
        refine ⟨CR.out, ?_⟩
        refine one_c (i := 3) (by kernel_rfl) (op_list rfl ?_)
        go_wp2_with fail
        refine (eq_Program vw1 vm1 vi1 L1 _ _ _ ((Cs.shows_of_owns Hx1.out).down (Nat.zero_le _)) ((Cs.shows_of_owns He.out).down (Nat.zero_le _)) (by omega)).mono ?_
        rintro e v22 ⟨rfl, hb⟩
        have Z24 := Lib.hid hb.size
        replace C0 := Lib.hid (C0.out.trans (hb.mono C0.out.size))
        replace A0 := Lib.hid ((hb.block _ (Array.getElem?_eq_some_iff.1 A0.out).1).trans A0.out)
        replace A1 := Lib.hid ((hb.block _ (Array.getElem?_eq_some_iff.1 A1.out).1).trans A1.out)
        replace Os0 := Lib.hid (own_keep Os0.out hb)
        replace Hx0 := Lib.hid (own_keep Hx0.out hb)
        replace X0 := Lib.hid ((hb.block _ (Array.getElem?_eq_some_iff.1 X0.out).1).trans X0.out)
        replace Hx1 := Lib.hid (own_keep Hx1.out hb)
        replace X1 := Lib.hid ((hb.block _ (Array.getElem?_eq_some_iff.1 X1.out).1).trans X1.out)
        replace Hx2 := Lib.hid (Hx2.out.keep hb)
        replace Oi0 := Lib.hid (own_keep Oi0.out hb)
        replace CR := Lib.hid (CR.out.trans (hb.mono CR.out.size))
        replace He := Lib.hid (own_keep He.out hb)
        clear hb
        go_wp2
        refine ⟨CR.out, ?_⟩
        refine one_c (i := 4) (by kernel_rfl) (op_list rfl ?_)
        go_wp2
        refine ⟨CR.out, done_c (by kernel_rfl) ?_ _⟩
        clear CR
        clear He
        go_wp2_with fail
        refine (to_Ts L2 _ _ (IS2.out.below C0.out) (by omega)).mono ?_
        rintro e v23 ⟨ge2, Be2, rfl, hh, hb⟩
        have He2 := Lib.hid hh
        clear hh
        have Z25 := Lib.hid hb.size
        replace C0 := Lib.hid (C0.out.trans (hb.mono C0.out.size))
        replace A0 := Lib.hid ((hb.block _ (Array.getElem?_eq_some_iff.1 A0.out).1).trans A0.out)
        replace A1 := Lib.hid ((hb.block _ (Array.getElem?_eq_some_iff.1 A1.out).1).trans A1.out)
        replace Os0 := Lib.hid (own_keep Os0.out hb)
        replace Hx0 := Lib.hid (own_keep Hx0.out hb)
        replace X0 := Lib.hid ((hb.block _ (Array.getElem?_eq_some_iff.1 X0.out).1).trans X0.out)
        replace Hx1 := Lib.hid (own_keep Hx1.out hb)
        replace X1 := Lib.hid ((hb.block _ (Array.getElem?_eq_some_iff.1 X1.out).1).trans X1.out)
        replace Hx2 := Lib.hid (Hx2.out.keep hb)
        replace Oi0 := Lib.hid (own_keep Oi0.out hb)
        clear hb
        have IHe2 := Lib.hid (fun g (hg : g ∈ Be2) => (He2.out.lt _ hg))
        go_wp2_with fail
        refine (eq_IntSS L2 _ _ _ (Hx2.out.shows) (He2.out.shows) (by omega)).mono ?_
        rintro e v24 ⟨rfl, hb⟩
        have Z26 := Lib.hid hb.size
        replace C0 := Lib.hid (C0.out.trans (hb.mono C0.out.size))
        replace A0 := Lib.hid ((hb.block _ (Array.getElem?_eq_some_iff.1 A0.out).1).trans A0.out)
        replace A1 := Lib.hid ((hb.block _ (Array.getElem?_eq_some_iff.1 A1.out).1).trans A1.out)
        replace Os0 := Lib.hid (own_keep Os0.out hb)
        replace Hx0 := Lib.hid (own_keep Hx0.out hb)
        replace X0 := Lib.hid ((hb.block _ (Array.getElem?_eq_some_iff.1 X0.out).1).trans X0.out)
        replace Hx1 := Lib.hid (own_keep Hx1.out hb)
        replace X1 := Lib.hid ((hb.block _ (Array.getElem?_eq_some_iff.1 X1.out).1).trans X1.out)
        replace Hx2 := Lib.hid (Hx2.out.keep hb)
        replace Oi0 := Lib.hid (own_keep Oi0.out hb)
        replace He2 := Lib.hid (He2.out.keep hb)
        clear hb
        clear He2
        obtain ⟨z0_0, z0_1, z0_2, z0_3⟩ := cell4_row X0.out
        go_wp2_with fail
        clear z0_0 z0_1 z0_2 z0_3
        refine (mark_Program vw0 vm0 vi0 L0 _ _ 1 _ _ Hx0.out (by omega) (by omega)).mono ?_
        rintro e v25 ⟨rfl, hh, hap⟩
        skip
        clear hh
        replace C0 := Lib.hid (C0.out.trans (hap.below C0.out.size (fun g hg => by have x1 := IHx0.out _ hg; have y0 := Z0.out; have y1 := BA1.out; have y2 := Z2.out; have y3 := Z3.out; have y4 := Z4.out; have y5 := Z5.out; have y6 := Z6.out; have y7 := Z7.out; have y8 := Z8.out; have y9 := Z9.out; have y10 := Z10.out; have y11 := Z11.out; have y12 := BX0.out; have y13 := Z13.out; have y14 := Z14.out; have y15 := BX1.out; have y16 := Z16.out; have y17 := Z17.out; have y18 := Z18.out; have y19 := Z19.out; have y20 := Z20.out; have y21 := Z21.out; have y22 := Z22.out; have y23 := Z23.out; have y24 := Z24.out; have y25 := Z25.out; have y26 := Z26.out; omega)))
        replace A0 := Lib.hid ((hap.block _ (Array.getElem?_eq_some_iff.1 A0.out).1 (fun hm => by have x1 := IHx0.out _ hm; have y0 := Z0.out; have y1 := BA1.out; have y2 := Z2.out; have y3 := Z3.out; have y4 := Z4.out; have y5 := Z5.out; have y6 := Z6.out; have y7 := Z7.out; have y8 := Z8.out; have y9 := Z9.out; have y10 := Z10.out; have y11 := Z11.out; have y12 := BX0.out; have y13 := Z13.out; have y14 := Z14.out; have y15 := BX1.out; have y16 := Z16.out; have y17 := Z17.out; have y18 := Z18.out; have y19 := Z19.out; have y20 := Z20.out; have y21 := Z21.out; have y22 := Z22.out; have y23 := Z23.out; have y24 := Z24.out; have y25 := Z25.out; have y26 := Z26.out; omega)).trans A0.out)
        replace A1 := Lib.hid ((hap.block _ (Array.getElem?_eq_some_iff.1 A1.out).1 (fun hm => by have x1 := IHx0.out _ hm; have y0 := Z0.out; have y1 := BA1.out; have y2 := Z2.out; have y3 := Z3.out; have y4 := Z4.out; have y5 := Z5.out; have y6 := Z6.out; have y7 := Z7.out; have y8 := Z8.out; have y9 := Z9.out; have y10 := Z10.out; have y11 := Z11.out; have y12 := BX0.out; have y13 := Z13.out; have y14 := Z14.out; have y15 := BX1.out; have y16 := Z16.out; have y17 := Z17.out; have y18 := Z18.out; have y19 := Z19.out; have y20 := Z20.out; have y21 := Z21.out; have y22 := Z22.out; have y23 := Z23.out; have y24 := Z24.out; have y25 := Z25.out; have y26 := Z26.out; omega)).trans A1.out)
        replace Os0 := Lib.hid (own_same Os0.out (fun g hg => hap.block g (own_lt Os0.out hg).2 (fun hm => by have x1 := IHx0.out _ hm; have y0 := Z0.out; have y1 := BA1.out; have y2 := Z2.out; have y3 := Z3.out; have y4 := Z4.out; have y5 := Z5.out; have y6 := Z6.out; have y7 := Z7.out; have y8 := Z8.out; have y9 := Z9.out; have y10 := Z10.out; have y11 := Z11.out; have y12 := BX0.out; have y13 := Z13.out; have y14 := Z14.out; have y15 := BX1.out; have y16 := Z16.out; have y17 := Z17.out; have y18 := Z18.out; have y19 := Z19.out; have y20 := Z20.out; have y21 := Z21.out; have y22 := Z22.out; have y23 := Z23.out; have y24 := Z24.out; have y25 := Z25.out; have y26 := Z26.out; have x2 := IOs0.out _ hg; omega)))
        replace X0 := Lib.hid ((hap.block _ (Array.getElem?_eq_some_iff.1 X0.out).1 (fun hm => by have x1 := IHx0.out _ hm; have y0 := Z0.out; have y1 := BA1.out; have y2 := Z2.out; have y3 := Z3.out; have y4 := Z4.out; have y5 := Z5.out; have y6 := Z6.out; have y7 := Z7.out; have y8 := Z8.out; have y9 := Z9.out; have y10 := Z10.out; have y11 := Z11.out; have y12 := BX0.out; have y13 := Z13.out; have y14 := Z14.out; have y15 := BX1.out; have y16 := Z16.out; have y17 := Z17.out; have y18 := Z18.out; have y19 := Z19.out; have y20 := Z20.out; have y21 := Z21.out; have y22 := Z22.out; have y23 := Z23.out; have y24 := Z24.out; have y25 := Z25.out; have y26 := Z26.out; omega)).trans X0.out)
        replace Hx1 := Lib.hid (own_same Hx1.out (fun g hg => hap.block g (own_lt Hx1.out hg).2 (fun hm => by have x1 := IHx0.out _ hm; have y0 := Z0.out; have y1 := BA1.out; have y2 := Z2.out; have y3 := Z3.out; have y4 := Z4.out; have y5 := Z5.out; have y6 := Z6.out; have y7 := Z7.out; have y8 := Z8.out; have y9 := Z9.out; have y10 := Z10.out; have y11 := Z11.out; have y12 := BX0.out; have y13 := Z13.out; have y14 := Z14.out; have y15 := BX1.out; have y16 := Z16.out; have y17 := Z17.out; have y18 := Z18.out; have y19 := Z19.out; have y20 := Z20.out; have y21 := Z21.out; have y22 := Z22.out; have y23 := Z23.out; have y24 := Z24.out; have y25 := Z25.out; have y26 := Z26.out; have x2 := IHx1.out _ hg; omega)))
        replace X1 := Lib.hid ((hap.block _ (Array.getElem?_eq_some_iff.1 X1.out).1 (fun hm => by have x1 := IHx0.out _ hm; have y0 := Z0.out; have y1 := BA1.out; have y2 := Z2.out; have y3 := Z3.out; have y4 := Z4.out; have y5 := Z5.out; have y6 := Z6.out; have y7 := Z7.out; have y8 := Z8.out; have y9 := Z9.out; have y10 := Z10.out; have y11 := Z11.out; have y12 := BX0.out; have y13 := Z13.out; have y14 := Z14.out; have y15 := BX1.out; have y16 := Z16.out; have y17 := Z17.out; have y18 := Z18.out; have y19 := Z19.out; have y20 := Z20.out; have y21 := Z21.out; have y22 := Z22.out; have y23 := Z23.out; have y24 := Z24.out; have y25 := Z25.out; have y26 := Z26.out; omega)).trans X1.out)
        replace Hx2 := Lib.hid (Hx2.out.same (fun g hg => hap.block g (Hx2.out.lt g hg).2 (fun hm => by have x1 := IHx0.out _ hm; have y0 := Z0.out; have y1 := BA1.out; have y2 := Z2.out; have y3 := Z3.out; have y4 := Z4.out; have y5 := Z5.out; have y6 := Z6.out; have y7 := Z7.out; have y8 := Z8.out; have y9 := Z9.out; have y10 := Z10.out; have y11 := Z11.out; have y12 := BX0.out; have y13 := Z13.out; have y14 := Z14.out; have y15 := BX1.out; have y16 := Z16.out; have y17 := Z17.out; have y18 := Z18.out; have y19 := Z19.out; have y20 := Z20.out; have y21 := Z21.out; have y22 := Z22.out; have y23 := Z23.out; have y24 := Z24.out; have y25 := Z25.out; have y26 := Z26.out; have x2 := IHx2.out _ hg; omega)))
        replace Oi0 := Lib.hid (own_same Oi0.out (fun g hg => hap.block g (own_lt Oi0.out hg).2 (fun hm => by have x1 := IHx0.out _ hm; have y0 := Z0.out; have y1 := BA1.out; have y2 := Z2.out; have y3 := Z3.out; have y4 := Z4.out; have y5 := Z5.out; have y6 := Z6.out; have y7 := Z7.out; have y8 := Z8.out; have y9 := Z9.out; have y10 := Z10.out; have y11 := Z11.out; have y12 := BX0.out; have y13 := Z13.out; have y14 := Z14.out; have y15 := BX1.out; have y16 := Z16.out; have y17 := Z17.out; have y18 := Z18.out; have y19 := Z19.out; have y20 := Z20.out; have y21 := Z21.out; have y22 := Z22.out; have y23 := Z23.out; have y24 := Z24.out; have y25 := Z25.out; have y26 := Z26.out; have x2 := IOi0.out _ hg; omega)))
        clear hap
        clear Hx0
        clear X0
        obtain ⟨z0_0, z0_1, z0_2, z0_3⟩ := cell4_row X1.out
        go_wp2_with fail
        clear z0_0 z0_1 z0_2 z0_3
        refine (mark_Program vw1 vm1 vi1 L1 _ _ (1 + 4 * L0.length) _ _ Hx1.out (by omega) (by omega)).mono ?_
        rintro e v26 ⟨rfl, hh, hap⟩
        skip
        clear hh
        replace C0 := Lib.hid (C0.out.trans (hap.below C0.out.size (fun g hg => by have x1 := IHx1.out _ hg; have y0 := Z0.out; have y1 := BA1.out; have y2 := Z2.out; have y3 := Z3.out; have y4 := Z4.out; have y5 := Z5.out; have y6 := Z6.out; have y7 := Z7.out; have y8 := Z8.out; have y9 := Z9.out; have y10 := Z10.out; have y11 := Z11.out; have y12 := BX0.out; have y13 := Z13.out; have y14 := Z14.out; have y15 := BX1.out; have y16 := Z16.out; have y17 := Z17.out; have y18 := Z18.out; have y19 := Z19.out; have y20 := Z20.out; have y21 := Z21.out; have y22 := Z22.out; have y23 := Z23.out; have y24 := Z24.out; have y25 := Z25.out; have y26 := Z26.out; omega)))
        replace A0 := Lib.hid ((hap.block _ (Array.getElem?_eq_some_iff.1 A0.out).1 (fun hm => by have x1 := IHx1.out _ hm; have y0 := Z0.out; have y1 := BA1.out; have y2 := Z2.out; have y3 := Z3.out; have y4 := Z4.out; have y5 := Z5.out; have y6 := Z6.out; have y7 := Z7.out; have y8 := Z8.out; have y9 := Z9.out; have y10 := Z10.out; have y11 := Z11.out; have y12 := BX0.out; have y13 := Z13.out; have y14 := Z14.out; have y15 := BX1.out; have y16 := Z16.out; have y17 := Z17.out; have y18 := Z18.out; have y19 := Z19.out; have y20 := Z20.out; have y21 := Z21.out; have y22 := Z22.out; have y23 := Z23.out; have y24 := Z24.out; have y25 := Z25.out; have y26 := Z26.out; omega)).trans A0.out)
        replace A1 := Lib.hid ((hap.block _ (Array.getElem?_eq_some_iff.1 A1.out).1 (fun hm => by have x1 := IHx1.out _ hm; have y0 := Z0.out; have y1 := BA1.out; have y2 := Z2.out; have y3 := Z3.out; have y4 := Z4.out; have y5 := Z5.out; have y6 := Z6.out; have y7 := Z7.out; have y8 := Z8.out; have y9 := Z9.out; have y10 := Z10.out; have y11 := Z11.out; have y12 := BX0.out; have y13 := Z13.out; have y14 := Z14.out; have y15 := BX1.out; have y16 := Z16.out; have y17 := Z17.out; have y18 := Z18.out; have y19 := Z19.out; have y20 := Z20.out; have y21 := Z21.out; have y22 := Z22.out; have y23 := Z23.out; have y24 := Z24.out; have y25 := Z25.out; have y26 := Z26.out; omega)).trans A1.out)
        replace Os0 := Lib.hid (own_same Os0.out (fun g hg => hap.block g (own_lt Os0.out hg).2 (fun hm => by have x1 := IHx1.out _ hm; have y0 := Z0.out; have y1 := BA1.out; have y2 := Z2.out; have y3 := Z3.out; have y4 := Z4.out; have y5 := Z5.out; have y6 := Z6.out; have y7 := Z7.out; have y8 := Z8.out; have y9 := Z9.out; have y10 := Z10.out; have y11 := Z11.out; have y12 := BX0.out; have y13 := Z13.out; have y14 := Z14.out; have y15 := BX1.out; have y16 := Z16.out; have y17 := Z17.out; have y18 := Z18.out; have y19 := Z19.out; have y20 := Z20.out; have y21 := Z21.out; have y22 := Z22.out; have y23 := Z23.out; have y24 := Z24.out; have y25 := Z25.out; have y26 := Z26.out; have x2 := IOs0.out _ hg; omega)))
        replace X1 := Lib.hid ((hap.block _ (Array.getElem?_eq_some_iff.1 X1.out).1 (fun hm => by have x1 := IHx1.out _ hm; have y0 := Z0.out; have y1 := BA1.out; have y2 := Z2.out; have y3 := Z3.out; have y4 := Z4.out; have y5 := Z5.out; have y6 := Z6.out; have y7 := Z7.out; have y8 := Z8.out; have y9 := Z9.out; have y10 := Z10.out; have y11 := Z11.out; have y12 := BX0.out; have y13 := Z13.out; have y14 := Z14.out; have y15 := BX1.out; have y16 := Z16.out; have y17 := Z17.out; have y18 := Z18.out; have y19 := Z19.out; have y20 := Z20.out; have y21 := Z21.out; have y22 := Z22.out; have y23 := Z23.out; have y24 := Z24.out; have y25 := Z25.out; have y26 := Z26.out; omega)).trans X1.out)
        replace Hx2 := Lib.hid (Hx2.out.same (fun g hg => hap.block g (Hx2.out.lt g hg).2 (fun hm => by have x1 := IHx1.out _ hm; have y0 := Z0.out; have y1 := BA1.out; have y2 := Z2.out; have y3 := Z3.out; have y4 := Z4.out; have y5 := Z5.out; have y6 := Z6.out; have y7 := Z7.out; have y8 := Z8.out; have y9 := Z9.out; have y10 := Z10.out; have y11 := Z11.out; have y12 := BX0.out; have y13 := Z13.out; have y14 := Z14.out; have y15 := BX1.out; have y16 := Z16.out; have y17 := Z17.out; have y18 := Z18.out; have y19 := Z19.out; have y20 := Z20.out; have y21 := Z21.out; have y22 := Z22.out; have y23 := Z23.out; have y24 := Z24.out; have y25 := Z25.out; have y26 := Z26.out; have x2 := IHx2.out _ hg; omega)))
        replace Oi0 := Lib.hid (own_same Oi0.out (fun g hg => hap.block g (own_lt Oi0.out hg).2 (fun hm => by have x1 := IHx1.out _ hm; have y0 := Z0.out; have y1 := BA1.out; have y2 := Z2.out; have y3 := Z3.out; have y4 := Z4.out; have y5 := Z5.out; have y6 := Z6.out; have y7 := Z7.out; have y8 := Z8.out; have y9 := Z9.out; have y10 := Z10.out; have y11 := Z11.out; have y12 := BX0.out; have y13 := Z13.out; have y14 := Z14.out; have y15 := BX1.out; have y16 := Z16.out; have y17 := Z17.out; have y18 := Z18.out; have y19 := Z19.out; have y20 := Z20.out; have y21 := Z21.out; have y22 := Z22.out; have y23 := Z23.out; have y24 := Z24.out; have y25 := Z25.out; have y26 := Z26.out; have x2 := IOi0.out _ hg; omega)))
        clear hap
        clear Hx1
        clear X1
        go_wp2_with fail
        refine (mark_Ts L2 _ ((1 + 4 * L0.length) + 4 * L1.length) _ _ _ Hx2.out (by omega) (by omega) (by omega)).mono ?_
        rintro e v27 ⟨rfl, hh, hap⟩
        skip
        clear hh
        replace C0 := Lib.hid (C0.out.trans (hap.below C0.out.size (fun g hg => by have x1 := IHx2.out _ hg; have y0 := Z0.out; have y1 := BA1.out; have y2 := Z2.out; have y3 := Z3.out; have y4 := Z4.out; have y5 := Z5.out; have y6 := Z6.out; have y7 := Z7.out; have y8 := Z8.out; have y9 := Z9.out; have y10 := Z10.out; have y11 := Z11.out; have y12 := BX0.out; have y13 := Z13.out; have y14 := Z14.out; have y15 := BX1.out; have y16 := Z16.out; have y17 := Z17.out; have y18 := Z18.out; have y19 := Z19.out; have y20 := Z20.out; have y21 := Z21.out; have y22 := Z22.out; have y23 := Z23.out; have y24 := Z24.out; have y25 := Z25.out; have y26 := Z26.out; omega)))
        replace A0 := Lib.hid ((hap.block _ (Array.getElem?_eq_some_iff.1 A0.out).1 (fun hm => by have x1 := IHx2.out _ hm; have y0 := Z0.out; have y1 := BA1.out; have y2 := Z2.out; have y3 := Z3.out; have y4 := Z4.out; have y5 := Z5.out; have y6 := Z6.out; have y7 := Z7.out; have y8 := Z8.out; have y9 := Z9.out; have y10 := Z10.out; have y11 := Z11.out; have y12 := BX0.out; have y13 := Z13.out; have y14 := Z14.out; have y15 := BX1.out; have y16 := Z16.out; have y17 := Z17.out; have y18 := Z18.out; have y19 := Z19.out; have y20 := Z20.out; have y21 := Z21.out; have y22 := Z22.out; have y23 := Z23.out; have y24 := Z24.out; have y25 := Z25.out; have y26 := Z26.out; omega)).trans A0.out)
        replace A1 := Lib.hid ((hap.block _ (Array.getElem?_eq_some_iff.1 A1.out).1 (fun hm => by have x1 := IHx2.out _ hm; have y0 := Z0.out; have y1 := BA1.out; have y2 := Z2.out; have y3 := Z3.out; have y4 := Z4.out; have y5 := Z5.out; have y6 := Z6.out; have y7 := Z7.out; have y8 := Z8.out; have y9 := Z9.out; have y10 := Z10.out; have y11 := Z11.out; have y12 := BX0.out; have y13 := Z13.out; have y14 := Z14.out; have y15 := BX1.out; have y16 := Z16.out; have y17 := Z17.out; have y18 := Z18.out; have y19 := Z19.out; have y20 := Z20.out; have y21 := Z21.out; have y22 := Z22.out; have y23 := Z23.out; have y24 := Z24.out; have y25 := Z25.out; have y26 := Z26.out; omega)).trans A1.out)
        replace Os0 := Lib.hid (own_same Os0.out (fun g hg => hap.block g (own_lt Os0.out hg).2 (fun hm => by have x1 := IHx2.out _ hm; have y0 := Z0.out; have y1 := BA1.out; have y2 := Z2.out; have y3 := Z3.out; have y4 := Z4.out; have y5 := Z5.out; have y6 := Z6.out; have y7 := Z7.out; have y8 := Z8.out; have y9 := Z9.out; have y10 := Z10.out; have y11 := Z11.out; have y12 := BX0.out; have y13 := Z13.out; have y14 := Z14.out; have y15 := BX1.out; have y16 := Z16.out; have y17 := Z17.out; have y18 := Z18.out; have y19 := Z19.out; have y20 := Z20.out; have y21 := Z21.out; have y22 := Z22.out; have y23 := Z23.out; have y24 := Z24.out; have y25 := Z25.out; have y26 := Z26.out; have x2 := IOs0.out _ hg; omega)))
        replace Oi0 := Lib.hid (own_same Oi0.out (fun g hg => hap.block g (own_lt Oi0.out hg).2 (fun hm => by have x1 := IHx2.out _ hm; have y0 := Z0.out; have y1 := BA1.out; have y2 := Z2.out; have y3 := Z3.out; have y4 := Z4.out; have y5 := Z5.out; have y6 := Z6.out; have y7 := Z7.out; have y8 := Z8.out; have y9 := Z9.out; have y10 := Z10.out; have y11 := Z11.out; have y12 := BX0.out; have y13 := Z13.out; have y14 := Z14.out; have y15 := BX1.out; have y16 := Z16.out; have y17 := Z17.out; have y18 := Z18.out; have y19 := Z19.out; have y20 := Z20.out; have y21 := Z21.out; have y22 := Z22.out; have y23 := Z23.out; have y24 := Z24.out; have y25 := Z25.out; have y26 := Z26.out; have x2 := IOi0.out _ hg; omega)))
        clear hap
        clear Hx2
        go_wp2_with fail
        refine (eq_Int x _ _ _ ((Cs.shows_of_owns Oi0.out).down (Nat.zero_le _)) ((Cs.shows_of_owns Os0.out).down (Nat.zero_le _)) (by omega)).mono ?_
        rintro e v28 ⟨rfl, hb⟩
        have Z27 := Lib.hid hb.size
        replace C0 := Lib.hid (C0.out.trans (hb.mono C0.out.size))
        replace A0 := Lib.hid ((hb.block _ (Array.getElem?_eq_some_iff.1 A0.out).1).trans A0.out)
        replace A1 := Lib.hid ((hb.block _ (Array.getElem?_eq_some_iff.1 A1.out).1).trans A1.out)
        replace Os0 := Lib.hid (own_keep Os0.out hb)
        replace Oi0 := Lib.hid (own_keep Oi0.out hb)
        clear hb
        go_wp2_with fail
        refine (mark_Int x _ 1 _ _ Oi0.out (by omega) (by omega)).mono ?_
        rintro e v29 ⟨rfl, hh, hap⟩
        have M0 := Lib.hid hh
        clear hh
        replace C0 := Lib.hid (C0.out.trans (hap.below C0.out.size (fun g hg => by have x1 := IOi0.out _ hg; have y0 := Z0.out; have y1 := BA1.out; have y2 := Z2.out; have y3 := Z3.out; have y4 := Z4.out; have y5 := Z5.out; have y6 := Z6.out; have y7 := Z7.out; have y8 := Z8.out; have y9 := Z9.out; have y10 := Z10.out; have y11 := Z11.out; have y12 := BX0.out; have y13 := Z13.out; have y14 := Z14.out; have y15 := BX1.out; have y16 := Z16.out; have y17 := Z17.out; have y18 := Z18.out; have y19 := Z19.out; have y20 := Z20.out; have y21 := Z21.out; have y22 := Z22.out; have y23 := Z23.out; have y24 := Z24.out; have y25 := Z25.out; have y26 := Z26.out; have y27 := Z27.out; omega)))
        replace A0 := Lib.hid ((hap.block _ (Array.getElem?_eq_some_iff.1 A0.out).1 (fun hm => by have x1 := IOi0.out _ hm; have y0 := Z0.out; have y1 := BA1.out; have y2 := Z2.out; have y3 := Z3.out; have y4 := Z4.out; have y5 := Z5.out; have y6 := Z6.out; have y7 := Z7.out; have y8 := Z8.out; have y9 := Z9.out; have y10 := Z10.out; have y11 := Z11.out; have y12 := BX0.out; have y13 := Z13.out; have y14 := Z14.out; have y15 := BX1.out; have y16 := Z16.out; have y17 := Z17.out; have y18 := Z18.out; have y19 := Z19.out; have y20 := Z20.out; have y21 := Z21.out; have y22 := Z22.out; have y23 := Z23.out; have y24 := Z24.out; have y25 := Z25.out; have y26 := Z26.out; have y27 := Z27.out; omega)).trans A0.out)
        replace A1 := Lib.hid ((hap.block _ (Array.getElem?_eq_some_iff.1 A1.out).1 (fun hm => by have x1 := IOi0.out _ hm; have y0 := Z0.out; have y1 := BA1.out; have y2 := Z2.out; have y3 := Z3.out; have y4 := Z4.out; have y5 := Z5.out; have y6 := Z6.out; have y7 := Z7.out; have y8 := Z8.out; have y9 := Z9.out; have y10 := Z10.out; have y11 := Z11.out; have y12 := BX0.out; have y13 := Z13.out; have y14 := Z14.out; have y15 := BX1.out; have y16 := Z16.out; have y17 := Z17.out; have y18 := Z18.out; have y19 := Z19.out; have y20 := Z20.out; have y21 := Z21.out; have y22 := Z22.out; have y23 := Z23.out; have y24 := Z24.out; have y25 := Z25.out; have y26 := Z26.out; have y27 := Z27.out; omega)).trans A1.out)
        replace Os0 := Lib.hid (own_same Os0.out (fun g hg => hap.block g (own_lt Os0.out hg).2 (fun hm => by have x1 := IOi0.out _ hm; have y0 := Z0.out; have y1 := BA1.out; have y2 := Z2.out; have y3 := Z3.out; have y4 := Z4.out; have y5 := Z5.out; have y6 := Z6.out; have y7 := Z7.out; have y8 := Z8.out; have y9 := Z9.out; have y10 := Z10.out; have y11 := Z11.out; have y12 := BX0.out; have y13 := Z13.out; have y14 := Z14.out; have y15 := BX1.out; have y16 := Z16.out; have y17 := Z17.out; have y18 := Z18.out; have y19 := Z19.out; have y20 := Z20.out; have y21 := Z21.out; have y22 := Z22.out; have y23 := Z23.out; have y24 := Z24.out; have y25 := Z25.out; have y26 := Z26.out; have y27 := Z27.out; have x2 := IOs0.out _ hg; omega)))
        clear hap
        clear Oi0
        have IM0 := IOi0
        go_wp2_with fail
        refine (held_Int x _ 1 _ ((Cs.shows_of_owns M0.out).down (Nat.zero_le _)) (by omega) (by omega)).mono ?_
        rintro e v30 ⟨rfl, hb⟩
        have Z28 := Lib.hid hb.size
        replace C0 := Lib.hid (C0.out.trans (hb.mono C0.out.size))
        replace A0 := Lib.hid ((hb.block _ (Array.getElem?_eq_some_iff.1 A0.out).1).trans A0.out)
        replace A1 := Lib.hid ((hb.block _ (Array.getElem?_eq_some_iff.1 A1.out).1).trans A1.out)
        replace Os0 := Lib.hid (own_keep Os0.out hb)
        replace M0 := Lib.hid (own_keep M0.out hb)
        clear hb
        go_upto_region 38 with fail
        obtain ⟨v31, hv⟩ : ∃ W, W = v30.drew := ⟨_, rfl⟩
        refine region_c (fun V => Below v31.heap.size v31 V) (by kernel_rfl) ?_
        rw [← hv]
        have hb : Below v30.heap.size v30 v31 := by rw [hv]; exact (Below.refl _ _).drew
        clear hv
        have Z29 := Lib.hid hb.size
        replace C0 := Lib.hid (C0.out.trans (hb.mono C0.out.size))
        replace A0 := Lib.hid ((hb.block _ (Array.getElem?_eq_some_iff.1 A0.out).1).trans A0.out)
        replace A1 := Lib.hid ((hb.block _ (Array.getElem?_eq_some_iff.1 A1.out).1).trans A1.out)
        replace Os0 := Lib.hid (own_keep Os0.out hb)
        replace M0 := Lib.hid (own_keep M0.out hb)
        clear hb
        have CR := Lib.hid (Below.refl v31.heap.size v31)
        refine take_c (i := 0) (v := .agg #[.int .i64 vw0, .int .i64 vm0, .int .i64 vi0, .slice q0 L0.length cap0]) rfl (by kernel_rfl) (by kernel_rfl) (by kernel_rfl) (fun _ _ _ h => h) CR.out rfl (fun V hV => ?_) ?_
        · obtain ⟨z0, z1, z2, z3⟩ := cell4_row ((hV.block _ (Array.getElem?_eq_some_iff.1 A0.out).1).trans A0.out)
          go_simp
        refine take_c (i := 2) (v := .agg #[.int .i64 vw1, .int .i64 vm1, .int .i64 vi1, .slice q1 L1.length cap1]) rfl (by kernel_rfl) (by kernel_rfl) (by kernel_rfl) (fun _ _ _ h => h) CR.out rfl (fun V hV => ?_) ?_
        · obtain ⟨z0, z1, z2, z3⟩ := cell4_row ((hV.block _ (Array.getElem?_eq_some_iff.1 A1.out).1).trans A1.out)
          go_simp
        refine take_c (i := 4) (v := .slice q2 L2.length cap2) rfl (by kernel_rfl) (by kernel_rfl) (by kernel_rfl) (fun _ _ _ h => h) CR.out rfl (fun V hV => ?_) ?_
        · go_simp
        refine take_c (i := 6) (v := .int .i64 a3) rfl (by kernel_rfl) (by kernel_rfl) (by kernel_rfl) (fun _ _ _ h => h) CR.out rfl (fun V hV => ?_) ?_
        · go_simp
        refine one_c (i := 1) (by kernel_rfl) (op_list rfl ?_)
        go_wp2_with fail
        refine (to_Program vw0 vm0 vi0 L0 _ _ (IS0.out.below C0.out) (by omega)).mono ?_
        rintro e v32 ⟨gpj0, rfl, hh, hb⟩
        have Hpj0 := Lib.hid hh
        clear hh
        have Z30 := Lib.hid hb.size
        replace C0 := Lib.hid (C0.out.trans (hb.mono C0.out.size))
        replace A0 := Lib.hid ((hb.block _ (Array.getElem?_eq_some_iff.1 A0.out).1).trans A0.out)
        replace A1 := Lib.hid ((hb.block _ (Array.getElem?_eq_some_iff.1 A1.out).1).trans A1.out)
        replace Os0 := Lib.hid (own_keep Os0.out hb)
        replace M0 := Lib.hid (own_keep M0.out hb)
        replace CR := Lib.hid (CR.out.trans (hb.mono CR.out.size))
        clear hb
        have IHpj0 := Lib.hid (fun g (hg : g ∈ (Value.slice (some ⟨gpj0, 0, none⟩) L0.length L0.length).ownBlock.toList) => (own_lt Hpj0.out hg))
        go_wp2
        refine ⟨CR.out, ?_⟩
        refine one_c (i := 3) (by kernel_rfl) (op_list rfl ?_)
        go_wp2_with fail
        refine (to_Program vw1 vm1 vi1 L1 _ _ (IS1.out.below C0.out) (by omega)).mono ?_
        rintro e v33 ⟨gpj1, rfl, hh, hb⟩
        have Hpj1 := Lib.hid hh
        clear hh
        have Z31 := Lib.hid hb.size
        replace C0 := Lib.hid (C0.out.trans (hb.mono C0.out.size))
        replace A0 := Lib.hid ((hb.block _ (Array.getElem?_eq_some_iff.1 A0.out).1).trans A0.out)
        replace A1 := Lib.hid ((hb.block _ (Array.getElem?_eq_some_iff.1 A1.out).1).trans A1.out)
        replace Os0 := Lib.hid (own_keep Os0.out hb)
        replace M0 := Lib.hid (own_keep M0.out hb)
        replace CR := Lib.hid (CR.out.trans (hb.mono CR.out.size))
        replace Hpj0 := Lib.hid (own_keep Hpj0.out hb)
        clear hb
        have IHpj1 := Lib.hid (fun g (hg : g ∈ (Value.slice (some ⟨gpj1, 0, none⟩) L1.length L1.length).ownBlock.toList) => (own_lt Hpj1.out hg))
        go_wp2
        refine ⟨CR.out, ?_⟩
        refine one_c (i := 5) (by kernel_rfl) (op_list rfl ?_)
        go_wp2_with fail
        refine (to_Ts L2 _ _ (IS2.out.below C0.out) (by omega)).mono ?_
        rintro e v34 ⟨gpj2, Bpj2, rfl, hh, hb⟩
        have Hpj2 := Lib.hid hh
        clear hh
        have Z32 := Lib.hid hb.size
        replace C0 := Lib.hid (C0.out.trans (hb.mono C0.out.size))
        replace A0 := Lib.hid ((hb.block _ (Array.getElem?_eq_some_iff.1 A0.out).1).trans A0.out)
        replace A1 := Lib.hid ((hb.block _ (Array.getElem?_eq_some_iff.1 A1.out).1).trans A1.out)
        replace Os0 := Lib.hid (own_keep Os0.out hb)
        replace M0 := Lib.hid (own_keep M0.out hb)
        replace CR := Lib.hid (CR.out.trans (hb.mono CR.out.size))
        replace Hpj0 := Lib.hid (own_keep Hpj0.out hb)
        replace Hpj1 := Lib.hid (own_keep Hpj1.out hb)
        clear hb
        have IHpj2 := Lib.hid (fun g (hg : g ∈ Bpj2) => (Hpj2.out.lt _ hg))
        go_wp2
        refine ⟨CR.out, ?_⟩
        refine one_c (i := 7) (by kernel_rfl) (op_list rfl ?_)
        go_wp2_with fail
        refine (KI.out _ _ _ _ ((Cs.shows_of_owns Hpj0.out).down (Nat.zero_le _)) ((Cs.shows_of_owns Hpj1.out).down (Nat.zero_le _)) (Hpj2.out.shows)).mono ?_
        rintro e v35 ⟨hb, j0q, j0c, rfl, hh⟩
        have Oj0 := Lib.hid hh
        clear hh
        have Z33 := Lib.hid hb.size
        replace C0 := Lib.hid (C0.out.trans (hb.mono C0.out.size))
        replace A0 := Lib.hid ((hb.block _ (Array.getElem?_eq_some_iff.1 A0.out).1).trans A0.out)
        replace A1 := Lib.hid ((hb.block _ (Array.getElem?_eq_some_iff.1 A1.out).1).trans A1.out)
        replace Os0 := Lib.hid (own_keep Os0.out hb)
        replace M0 := Lib.hid (own_keep M0.out hb)
        replace CR := Lib.hid (CR.out.trans (hb.mono CR.out.size))
        replace Hpj0 := Lib.hid (own_keep Hpj0.out hb)
        replace Hpj1 := Lib.hid (own_keep Hpj1.out hb)
        replace Hpj2 := Lib.hid (Hpj2.out.keep hb)
        clear hb
        clear Hpj0
        clear Hpj1
        clear Hpj2
        have IOj0 := Lib.hid (fun g (hg : g ∈ (Value.slice j0q x.length j0c).ownBlock.toList) => (own_lt Oj0.out hg))
        go_wp2
        refine ⟨CR.out, ?_⟩
        refine one_c (i := 8) (by kernel_rfl) (op_list rfl ?_)
        go_wp2
        refine ⟨CR.out, done_c (by kernel_rfl) ?_ _⟩
        clear CR
        go_wp2_with fail
        refine (eq_Int x _ _ _ ((Cs.shows_of_owns Oj0.out).down (Nat.zero_le _)) ((Cs.shows_of_owns Os0.out).down (Nat.zero_le _)) (by omega)).mono ?_
        rintro e v36 ⟨rfl, hb⟩
        have Z34 := Lib.hid hb.size
        replace C0 := Lib.hid (C0.out.trans (hb.mono C0.out.size))
        replace A0 := Lib.hid ((hb.block _ (Array.getElem?_eq_some_iff.1 A0.out).1).trans A0.out)
        replace A1 := Lib.hid ((hb.block _ (Array.getElem?_eq_some_iff.1 A1.out).1).trans A1.out)
        replace Os0 := Lib.hid (own_keep Os0.out hb)
        replace M0 := Lib.hid (own_keep M0.out hb)
        replace Oj0 := Lib.hid (own_keep Oj0.out hb)
        clear hb
        go_wp2_with fail
        refine (held_Int x _ 1 _ ((Cs.shows_of_owns M0.out).down (Nat.zero_le _)) (by omega) (by omega)).mono ?_
        rintro e v37 ⟨rfl, hb⟩
        have Z35 := Lib.hid hb.size
        replace C0 := Lib.hid (C0.out.trans (hb.mono C0.out.size))
        replace A0 := Lib.hid ((hb.block _ (Array.getElem?_eq_some_iff.1 A0.out).1).trans A0.out)
        replace A1 := Lib.hid ((hb.block _ (Array.getElem?_eq_some_iff.1 A1.out).1).trans A1.out)
        replace Os0 := Lib.hid (own_keep Os0.out hb)
        replace M0 := Lib.hid (own_keep M0.out hb)
        replace Oj0 := Lib.hid (own_keep Oj0.out hb)
        clear hb
        go_wp2
        go_ret
        exact ⟨rfl, C0.out⟩
      · have hl : left l1 (IntSS.costs L2) = -1 := by unfold left; rw [if_neg hc2]
        rw [hl] at SZ2
        clear hl hc2
        go_enter Try.func5, Try.ntmps5
        have C0 := Lib.hid (Below.refl w.heap.size w)
        obtain ⟨v1, hW⟩ : ∃ W, W = (w.alloc (.cells #[.int .i64 vw0, .int .i64 vm0, .int .i64 vi0, .slice q0 L0.length cap0] 24)).alloc (.cells #[.int .i64 vw1, .int .i64 vm1, .int .i64 vi1, .slice q1 L1.length cap1] 24) := ⟨_, rfl⟩
        have hb : Below w.heap.size w v1 := by rw [hW]; exact ((Below.refl _ _).alloc (Nat.le_refl _) _).alloc (by simp) _
        have A0 := Lib.hid (show v1.heap[w.heap.size]? = some (.cells #[.int .i64 vw0, .int .i64 vm0, .int .i64 vi0, .slice q0 L0.length cap0] 24 (0, 0)) by rw [hW, heap_alloc_old _ _ (by simp)]; exact heap_alloc_new _ _)
        have A1 := Lib.hid (show v1.heap[w.heap.size + 1]? = some (.cells #[.int .i64 vw1, .int .i64 vm1, .int .i64 vi1, .slice q1 L1.length cap1] 24 (0, 0)) by rw [hW, ← show (w.alloc (.cells #[.int .i64 vw0, .int .i64 vm0, .int .i64 vi0, .slice q0 L0.length cap0] 24)).heap.size = w.heap.size + 1 by simp]; exact heap_alloc_new _ _)
        have BA1 := Lib.hid (show w.heap.size + 1 < v1.heap.size from (Array.getElem?_eq_some_iff.1 A1.out).1)
        have HW := Lib.hid hW
        clear hW
        have Z0 := Lib.hid hb.size
        replace C0 := Lib.hid (C0.out.trans (hb.mono C0.out.size))
        clear hb
        go_wp2_with fail
        rw [← HW.out]
        clear HW
        refine (SZ0.out _ (IS0.out.below C0.out)).mono ?_
        rintro e v2 ⟨rfl, hb⟩
        have Z2 := Lib.hid hb.size
        replace C0 := Lib.hid (C0.out.trans (hb.mono C0.out.size))
        replace A0 := Lib.hid ((hb.block _ (Array.getElem?_eq_some_iff.1 A0.out).1).trans A0.out)
        replace A1 := Lib.hid ((hb.block _ (Array.getElem?_eq_some_iff.1 A1.out).1).trans A1.out)
        clear hb
        obtain ⟨z0_0, z0_1, z0_2, z0_3⟩ := cell4_row A1.out
        go_wp2_with fail
        clear z0_0 z0_1 z0_2 z0_3
        refine (SZ1.out _ (IS1.out.below C0.out)).mono ?_
        rintro e v3 ⟨rfl, hb⟩
        have Z3 := Lib.hid hb.size
        replace C0 := Lib.hid (C0.out.trans (hb.mono C0.out.size))
        replace A0 := Lib.hid ((hb.block _ (Array.getElem?_eq_some_iff.1 A0.out).1).trans A0.out)
        replace A1 := Lib.hid ((hb.block _ (Array.getElem?_eq_some_iff.1 A1.out).1).trans A1.out)
        clear hb
        go_wp2_with fail
        refine (SZ2.out _ (IS2.out.below C0.out)).mono ?_
        rintro e v4 ⟨rfl, hb⟩
        have Z4 := Lib.hid hb.size
        replace C0 := Lib.hid (C0.out.trans (hb.mono C0.out.size))
        replace A0 := Lib.hid ((hb.block _ (Array.getElem?_eq_some_iff.1 A0.out).1).trans A0.out)
        replace A1 := Lib.hid ((hb.block _ (Array.getElem?_eq_some_iff.1 A1.out).1).trans A1.out)
        clear hb
        go_wp2
        go_ret
        exact ⟨rfl, C0.out⟩
    · have hl : left l0 (InsR.costs L1) = -1 := by unfold left; rw [if_neg hc1]
      rw [hl] at SZ1
      clear hl hc1
      go_enter Try.func5, Try.ntmps5
      have C0 := Lib.hid (Below.refl w.heap.size w)
      obtain ⟨v1, hW⟩ : ∃ W, W = (w.alloc (.cells #[.int .i64 vw0, .int .i64 vm0, .int .i64 vi0, .slice q0 L0.length cap0] 24)).alloc (.cells #[.int .i64 vw1, .int .i64 vm1, .int .i64 vi1, .slice q1 L1.length cap1] 24) := ⟨_, rfl⟩
      have hb : Below w.heap.size w v1 := by rw [hW]; exact ((Below.refl _ _).alloc (Nat.le_refl _) _).alloc (by simp) _
      have A0 := Lib.hid (show v1.heap[w.heap.size]? = some (.cells #[.int .i64 vw0, .int .i64 vm0, .int .i64 vi0, .slice q0 L0.length cap0] 24 (0, 0)) by rw [hW, heap_alloc_old _ _ (by simp)]; exact heap_alloc_new _ _)
      have A1 := Lib.hid (show v1.heap[w.heap.size + 1]? = some (.cells #[.int .i64 vw1, .int .i64 vm1, .int .i64 vi1, .slice q1 L1.length cap1] 24 (0, 0)) by rw [hW, ← show (w.alloc (.cells #[.int .i64 vw0, .int .i64 vm0, .int .i64 vi0, .slice q0 L0.length cap0] 24)).heap.size = w.heap.size + 1 by simp]; exact heap_alloc_new _ _)
      have BA1 := Lib.hid (show w.heap.size + 1 < v1.heap.size from (Array.getElem?_eq_some_iff.1 A1.out).1)
      have HW := Lib.hid hW
      clear hW
      have Z0 := Lib.hid hb.size
      replace C0 := Lib.hid (C0.out.trans (hb.mono C0.out.size))
      clear hb
      go_wp2_with fail
      rw [← HW.out]
      clear HW
      refine (SZ0.out _ (IS0.out.below C0.out)).mono ?_
      rintro e v2 ⟨rfl, hb⟩
      have Z2 := Lib.hid hb.size
      replace C0 := Lib.hid (C0.out.trans (hb.mono C0.out.size))
      replace A0 := Lib.hid ((hb.block _ (Array.getElem?_eq_some_iff.1 A0.out).1).trans A0.out)
      replace A1 := Lib.hid ((hb.block _ (Array.getElem?_eq_some_iff.1 A1.out).1).trans A1.out)
      clear hb
      obtain ⟨z0_0, z0_1, z0_2, z0_3⟩ := cell4_row A1.out
      go_wp2_with fail
      clear z0_0 z0_1 z0_2 z0_3
      refine (SZ1.out _ (IS1.out.below C0.out)).mono ?_
      rintro e v3 ⟨rfl, hb⟩
      have Z3 := Lib.hid hb.size
      replace C0 := Lib.hid (C0.out.trans (hb.mono C0.out.size))
      replace A0 := Lib.hid ((hb.block _ (Array.getElem?_eq_some_iff.1 A0.out).1).trans A0.out)
      replace A1 := Lib.hid ((hb.block _ (Array.getElem?_eq_some_iff.1 A1.out).1).trans A1.out)
      clear hb
      go_wp2
      go_ret
      exact ⟨rfl, C0.out⟩
  · have hl : left 1048576 (InsR.costs L0) = -1 := by unfold left; rw [if_neg hc0]
    rw [hl] at SZ0
    clear hl hc0
    go_enter Try.func5, Try.ntmps5
    have C0 := Lib.hid (Below.refl w.heap.size w)
    obtain ⟨v1, hW⟩ : ∃ W, W = (w.alloc (.cells #[.int .i64 vw0, .int .i64 vm0, .int .i64 vi0, .slice q0 L0.length cap0] 24)).alloc (.cells #[.int .i64 vw1, .int .i64 vm1, .int .i64 vi1, .slice q1 L1.length cap1] 24) := ⟨_, rfl⟩
    have hb : Below w.heap.size w v1 := by rw [hW]; exact ((Below.refl _ _).alloc (Nat.le_refl _) _).alloc (by simp) _
    have A0 := Lib.hid (show v1.heap[w.heap.size]? = some (.cells #[.int .i64 vw0, .int .i64 vm0, .int .i64 vi0, .slice q0 L0.length cap0] 24 (0, 0)) by rw [hW, heap_alloc_old _ _ (by simp)]; exact heap_alloc_new _ _)
    have A1 := Lib.hid (show v1.heap[w.heap.size + 1]? = some (.cells #[.int .i64 vw1, .int .i64 vm1, .int .i64 vi1, .slice q1 L1.length cap1] 24 (0, 0)) by rw [hW, ← show (w.alloc (.cells #[.int .i64 vw0, .int .i64 vm0, .int .i64 vi0, .slice q0 L0.length cap0] 24)).heap.size = w.heap.size + 1 by simp]; exact heap_alloc_new _ _)
    have BA1 := Lib.hid (show w.heap.size + 1 < v1.heap.size from (Array.getElem?_eq_some_iff.1 A1.out).1)
    have HW := Lib.hid hW
    clear hW
    have Z0 := Lib.hid hb.size
    replace C0 := Lib.hid (C0.out.trans (hb.mono C0.out.size))
    clear hb
    go_wp2_with fail
    rw [← HW.out]
    clear HW
    refine (SZ0.out _ (IS0.out.below C0.out)).mono ?_
    rintro e v2 ⟨rfl, hb⟩
    have Z2 := Lib.hid hb.size
    replace C0 := Lib.hid (C0.out.trans (hb.mono C0.out.size))
    replace A0 := Lib.hid ((hb.block _ (Array.getElem?_eq_some_iff.1 A0.out).1).trans A0.out)
    replace A1 := Lib.hid ((hb.block _ (Array.getElem?_eq_some_iff.1 A1.out).1).trans A1.out)
    clear hb
    go_wp2
    go_ret
    exact ⟨rfl, C0.out⟩
end Go.Proofs.Ytnhagmjknfiphaa
