/- The law FnExactStepState, walked by the contracts of all that it calls. -/
import Derived.Test.YtbdkningngpgcaaSsS
import Derived.Test.YtbdkningngpgcaaSsI
import Derived.Test.YtbdkningngpgcaaHdState
import Derived.Test.YtbdkningngpgcaaMkProg
import Derived.Test.YtbdkningngpgcaaMkInt
import Derived.Test.YtbdkningngpgcaaProgram
import Derived.Test.YtbdkningngpgcaaState
import Derived.Test.YtbdkningngpgcaaReg
import Derived.Deep.RegionWith
import Derived.Deep.CutRange
namespace Go.Proofs.Ytbdkningngpgcaa
open Go.ChangeShapes Go.WideShapes Go.ChangeAt Go.RowKit
theorem drew_block {w : World} {b : Nat} {o : Obj} (h : w.heap[b]? = some o) : w.drew.heap[b]? = some o := h
set_option maxRecDepth 100000 in
set_option maxHeartbeats 16000000 in
theorem law_FnExactStepState (vw0 vm0 vi0 : Int) (L0 : List InsR) (s0 : Value) (x1 : StR) (r1 m1 s1 o1 : Value) (L2 : List Int) (s2 : Value) (w : World) (hs0 : Cs.Shows w 0 4 s0 L0.length (InsR.all L0)) (hok0 : (-9223372036854775808 ≤ vw0 ∧ vw0 ≤ 9223372036854775807) ∧ (-9223372036854775808 ≤ vm0 ∧ vm0 ≤ 9223372036854775807) ∧ (-9223372036854775808 ≤ vi0 ∧ vi0 ≤ 9223372036854775807) ∧ (∀ r ∈ L0, r.Ok) ∧ L0.length ≤ maxLen) (hs1 : StS w 0 x1 r1 m1 s1 o1) (hok1 : x1.Ok) (hl1 : x1.Long) (hs2 : Cs.Shows w 0 1 s2 L2.length (IntL.all L2)) (hok2 : ∀ x ∈ L2, IntL.Ok x) (_hl2 : L2.length ≤ maxLen) :
    Calls Try.prog 4 #[.agg #[.int .i64 vw0, .int .i64 vm0, .int .i64 vi0, s0], .agg #[.int .i64 x1.pc, r1, m1, s1, .int .i64 x1.inn, o1, .int .i64 x1.cd, .int .i64 x1.st], s2] w fun e w' => e = .returned (.bool true) ∧ Below w.heap.size w w' := by
  have hml : maxLen = 9223372036854775807 := rfl
  have IS0 := Lib.hid hs0
  have OK0 := Lib.hid hok0
  obtain ⟨_, q0, cap0, rfl, _⟩ := hs0
  clear hok0
  have IS1 := Lib.hid hs1
  have OK1 := Lib.hid hok1
  have LE1 := Lib.hid hl1
  obtain ⟨⟨_, qr1, cr1, rfl, _⟩, ⟨_, qm1, cm1, rfl, _⟩, ⟨_, qs1, cs1, rfl, _⟩, ⟨_, qo1, co1, rfl, _⟩⟩ := hs1
  clear hok1 hl1
  have IS2 := Lib.hid hs2
  have OK2 := Lib.hid hok2
  obtain ⟨_, q2, cap2, rfl, _⟩ := hs2
  clear hok2
  by_cases hlen2 : L2.length ≤ 1048576
  · have hleni2 : ¬ ((1048576 : Int) < (L2.length : Int)) := by omega
    have SZ0 := Lib.hid (fun W (h : Cs.Shows W 0 4 (.slice q0 L0.length cap0) L0.length (InsR.all L0)) => sz_Program vw0 vm0 vi0 L0 _ 1048576 W (by omega) h OK0.out.2.2.2.1 OK0.out.2.2.2.2)
    by_cases hc0 : InsR.costs L0 ≤ 1048576
    · obtain ⟨l0, hl0, hm0⟩ : ∃ l : Nat, left 1048576 (InsR.costs L0) = (l : Int) ∧ l + InsR.costs L0 = 1048576 := ⟨1048576 - InsR.costs L0, by unfold left; rw [if_pos hc0]; omega, by omega⟩
      rw [hl0] at SZ0
      have hq0 : l0 ≤ 1048576 := by omega
      clear hl0 hm0
      have SZ1 := Lib.hid (fun W (h : StS W 0 x1 (.slice qr1 x1.R.length cr1) (.slice qm1 x1.M.length cm1) (.slice qs1 x1.S.length cs1) (.slice qo1 x1.O.length co1)) => sz_State x1 _ _ _ _ l0 W (by omega) h LE1.out)
      by_cases hc1 : x1.cost ≤ l0
      · obtain ⟨l1, hl1, hm1⟩ : ∃ l : Nat, left l0 (x1.cost) = (l : Int) ∧ l + x1.cost = l0 := ⟨l0 - x1.cost, by unfold left; rw [if_pos hc1]; omega, by omega⟩
        rw [hl1] at SZ1
        have hq1 : l1 ≤ 1048576 := by omega
        clear hl1 hm1
        have hnl0 := InsR.len_le L0
        have hlc0 : L0.length ≤ 1048576 := by omega
        have hcc0 : InsR.costs L0 ≤ 1048576 := by omega
        clear hnl0
        have hxx1 : x1.cost = x1.R.length + x1.M.length + x1.S.length + x1.O.length := rfl
        have hcc1 : x1.cost ≤ 1048576 := by omega
        have hll2 : L2.length ≤ maxLen := by omega
        obtain ⟨x, hx⟩ : ∃ x, ssV vw0 vm0 vi0 L0 L2 x1 = x := ⟨_, rfl⟩
        have KS := Lib.hid (fun sL r m s o li W h1 h2 h3 => s_stepst vw0 vm0 vi0 L0 x1 L2 sL r m s o li W h1 h2 h3 OK0.out.2.2.2.1 OK0.out.2.2.2.2 hll2 LE1.out)
        have KI := Lib.hid (fun sL r m s o li W h1 h2 h3 => i_stepst vw0 vm0 vi0 L0 x1 L2 sL r m s o li W h1 h2 h3 OK0.out.2.2.2.1 OK0.out.2.2.2.2 hll2 LE1.out)
        have hxc : x.cost ≤ 19 := by rw [← hx]; exact ss_cost _ _ _ _ _ _
        rw [hx] at KS KI
        unfold StEnd at KS KI
        clear hx
        clear hc0
        clear hc1
        go_enter Try.func4, Try.ntmps4
        have C0 := Lib.hid (Below.refl w.heap.size w)
        obtain ⟨v1, hW⟩ : ∃ W, W = (w.alloc (.cells #[.int .i64 vw0, .int .i64 vm0, .int .i64 vi0, .slice q0 L0.length cap0] 24)).alloc (.cells #[.int .i64 x1.pc, .slice qr1 x1.R.length cr1, .slice qm1 x1.M.length cm1, .slice qs1 x1.S.length cs1, .int .i64 x1.inn, .slice qo1 x1.O.length co1, .int .i64 x1.cd, .int .i64 x1.st] 39) := ⟨_, rfl⟩
        have hb : Below w.heap.size w v1 := by rw [hW]; exact ((Below.refl _ _).alloc (Nat.le_refl _) _).alloc (by simp) _
        have A0 := Lib.hid (show v1.heap[w.heap.size]? = some (.cells #[.int .i64 vw0, .int .i64 vm0, .int .i64 vi0, .slice q0 L0.length cap0] 24 (0, 0)) by rw [hW, heap_alloc_old _ _ (by simp)]; exact heap_alloc_new _ _)
        have A1 := Lib.hid (show v1.heap[w.heap.size + 1]? = some (.cells #[.int .i64 x1.pc, .slice qr1 x1.R.length cr1, .slice qm1 x1.M.length cm1, .slice qs1 x1.S.length cs1, .int .i64 x1.inn, .slice qo1 x1.O.length co1, .int .i64 x1.cd, .int .i64 x1.st] 39 (0, 0)) by rw [hW, ← show (w.alloc (.cells #[.int .i64 vw0, .int .i64 vm0, .int .i64 vi0, .slice q0 L0.length cap0] 24)).heap.size = w.heap.size + 1 by simp]; exact heap_alloc_new _ _)
        have BA1 := Lib.hid (show w.heap.size + 1 < v1.heap.size from (Array.getElem?_eq_some_iff.1 A1.out).1)
        have HW := Lib.hid hW
        clear hW
        have Z0 := Lib.hid hb.size
        replace C0 := Lib.hid (C0.out.trans (hb.mono C0.out.size))
        clear hb
        go_wp2_with fail
        rw [← HW.out]
        clear HW
        refine (SZ0.out _ (IS0.out.below C0.out)).mono ?_
        rintro e v2 ⟨rfl, hb⟩
        have Z2 := Lib.hid hb.size
        replace C0 := Lib.hid (C0.out.trans (hb.mono C0.out.size))
        replace A0 := Lib.hid ((hb.block _ (Array.getElem?_eq_some_iff.1 A0.out).1).trans A0.out)
        replace A1 := Lib.hid ((hb.block _ (Array.getElem?_eq_some_iff.1 A1.out).1).trans A1.out)
        clear hb
        obtain ⟨z0_0, z0_1, z0_2, z0_3, z0_4, z0_5, z0_6, z0_7⟩ := cell8_row A1.out
        go_wp2_with fail
        clear z0_0 z0_1 z0_2 z0_3 z0_4 z0_5 z0_6 z0_7
        refine (SZ1.out _ (IS1.out.below C0.out)).mono ?_
        rintro e v3 ⟨rfl, hb⟩
        have Z3 := Lib.hid hb.size
        replace C0 := Lib.hid (C0.out.trans (hb.mono C0.out.size))
        replace A0 := Lib.hid ((hb.block _ (Array.getElem?_eq_some_iff.1 A0.out).1).trans A0.out)
        replace A1 := Lib.hid ((hb.block _ (Array.getElem?_eq_some_iff.1 A1.out).1).trans A1.out)
        clear hb
        go_upto_region 10 with fail
        go_cut [8] from 30 to 36 (fun v wx => ∃ g rq rc mq mc sq sc oq oc, v = .pointer (some ⟨g, 0, none⟩) ∧ v3.heap.size ≤ g ∧ wx.heap[g]? = some (.cells #[.int .i64 x.pc, .slice rq x.R.length rc, .slice mq x.M.length mc, .slice sq x.S.length sc, .int .i64 x.inn, .slice oq x.O.length oc, .int .i64 x.cd, .int .i64 x.st] 41 (0, 0)) ∧ StO wx v3.heap.size x (.slice rq x.R.length rc) (.slice mq x.M.length mc) (.slice sq x.S.length sc) (.slice oq x.O.length oc) ∧ Below v3.heap.size v3 wx)
        case first =>
          replace C0 := Lib.hid C0.out.drew
          have CR := Lib.hid (Below.refl v3.drew.heap.size v3.drew)
          have CB := Lib.hid (show Below v3.heap.size v3 v3.drew from (Below.refl _ _).drew)
          refine region_s [8] (fun V => Below v3.drew.heap.size v3.drew V) (by kernel_rfl) ?_
          refine take_s (i := 0) (v := .agg #[.int .i64 vw0, .int .i64 vm0, .int .i64 vi0, .slice q0 L0.length cap0]) rfl (by kernel_rfl) (fun _ _ _ h => h) CR.out rfl (fun V hV => ?_) ?_
          · obtain ⟨z0, z1, z2, z3⟩ := cell4_row ((hV.block _ (Array.getElem?_eq_some_iff.1 A0.out).1).trans A0.out)
            go_simp
          refine take_s (i := 2) (v := .agg #[.int .i64 x1.pc, .slice qr1 x1.R.length cr1, .slice qm1 x1.M.length cm1, .slice qs1 x1.S.length cs1, .int .i64 x1.inn, .slice qo1 x1.O.length co1, .int .i64 x1.cd, .int .i64 x1.st]) rfl (by kernel_rfl) (fun _ _ _ h => h) CR.out rfl (fun V hV => ?_) ?_
          · obtain ⟨z0, z1, z2, z3, z4, z5, z6, z7⟩ := cell8_row ((hV.block _ (Array.getElem?_eq_some_iff.1 A1.out).1).trans A1.out)
            go_simp
          refine take_s (i := 4) (v := .slice q2 L2.length cap2) rfl (by kernel_rfl) (fun _ _ _ h => h) CR.out rfl (fun V hV => ?_) ?_
          · go_simp
          refine two_s (i := 1) (k := 7) (by kernel_rfl) (op_list rfl ?_) (op_list rfl ?_)
          · go_wp2_with fail
            refine (to_Program vw0 vm0 vi0 L0 _ _ (IS0.out.below C0.out) (by omega)).mono ?_
            rintro e v4 ⟨gp0, rfl, hh, hb⟩
            have Hp0 := Lib.hid hh
            clear hh
            have Z4 := Lib.hid hb.size
            replace C0 := Lib.hid (C0.out.trans (hb.mono C0.out.size))
            replace CR := Lib.hid (CR.out.trans (hb.mono CR.out.size))
            replace CB := Lib.hid (CB.out.trans (hb.mono CB.out.size))
            clear hb
            go_wp2
            refine ⟨fun _ => CR.out, ?_⟩
            refine two_s (i := 3) (k := 7) (by kernel_rfl) (op_list rfl ?_) (op_list rfl ?_)
            · go_wp2_with fail
              refine (to_State x1 _ _ _ _ _ (IS1.out.below C0.out) (by omega)).mono ?_
              rintro e v5 ⟨grp1, gmp1, gsp1, gop1, rfl, hh, hb⟩
              have Hp1 := Lib.hid hh
              clear hh
              have Z5 := Lib.hid hb.size
              replace C0 := Lib.hid (C0.out.trans (hb.mono C0.out.size))
              replace CR := Lib.hid (CR.out.trans (hb.mono CR.out.size))
              replace CB := Lib.hid (CB.out.trans (hb.mono CB.out.size))
              replace Hp0 := Lib.hid (own_keep Hp0.out hb)
              clear hb
              go_wp2
              refine ⟨fun _ => CR.out, ?_⟩
              refine two_s (i := 5) (k := 7) (by kernel_rfl) (op_list rfl ?_) (op_list rfl ?_)
              · go_wp2_with fail
                refine (to_Int L2 _ _ (IS2.out.below C0.out) (by omega)).mono ?_
                rintro e v6 ⟨gp2, rfl, hh, hb⟩
                have Hp2 := Lib.hid hh
                clear hh
                have Z6 := Lib.hid hb.size
                replace C0 := Lib.hid (C0.out.trans (hb.mono C0.out.size))
                replace CR := Lib.hid (CR.out.trans (hb.mono CR.out.size))
                replace CB := Lib.hid (CB.out.trans (hb.mono CB.out.size))
                replace Hp0 := Lib.hid (own_keep Hp0.out hb)
                replace Hp1 := Lib.hid (Hp1.out.keep hb)
                clear hb
                go_wp2
                refine ⟨fun _ => CR.out, ?_⟩
                refine two_s (i := 6) (k := 7) (by kernel_rfl) (op_list rfl ?_) (op_list rfl ?_)
                · go_wp2_with fail
                  refine (KS.out _ _ _ _ _ _ _ ((Cs.shows_of_owns Hp0.out).down (Nat.zero_le _)) (Hp1.out.shows) ((Cs.shows_of_owns Hp2.out).down (Nat.zero_le _))).mono ?_
                  rintro e v7 ⟨hb, rq, rc, mq, mc, sq, sc, oq, oc, rfl, hh⟩
                  have OV := Lib.hid (hh.base (base' := v3.heap.size) (by have := CB.out.size; omega))
                  clear hh
                  have Z7 := Lib.hid hb.size
                  replace C0 := Lib.hid (C0.out.trans (hb.mono C0.out.size))
                  replace CR := Lib.hid (CR.out.trans (hb.mono CR.out.size))
                  replace CB := Lib.hid (CB.out.trans (hb.mono CB.out.size))
                  replace Hp0 := Lib.hid (own_keep Hp0.out hb)
                  replace Hp1 := Lib.hid (Hp1.out.keep hb)
                  replace Hp2 := Lib.hid (own_keep Hp2.out hb)
                  clear hb
                  go_wp2
                  refine ⟨fun _ => CR.out, ?_⟩
                  refine one_s (i := 7) (by kernel_rfl) (op_list rfl ?_)
                  go_wp2
                  obtain ⟨v8, hwa⟩ : ∃ W9, W9 = v7.alloc (.cells #[.int .i64 0, .slice none 0 0, .slice none 0 0, .slice none 0 0, .int .i64 0, .slice none 0 0, .int .i64 0, .int .i64 0] 41) := ⟨_, rfl⟩
                  have hb : Below v7.heap.size v7 v8 := by rw [hwa]; exact (Below.refl v7.heap.size v7).alloc (Nat.le_refl _) (.cells #[.int .i64 0, .slice none 0 0, .slice none 0 0, .slice none 0 0, .int .i64 0, .slice none 0 0, .int .i64 0, .int .i64 0] 41)
                  have hra : v8.heap[v7.heap.size]? = some (.cells #[.int .i64 0, .slice none 0 0, .slice none 0 0, .slice none 0 0, .int .i64 0, .slice none 0 0, .int .i64 0, .int .i64 0] 41 (0, 0)) := by rw [hwa]; exact heap_alloc_new v7 _
                  obtain ⟨b, hbq⟩ : ∃ g, g = v7.heap.size := ⟨_, rfl⟩
                  have hbge : v3.heap.size ≤ b := by have := CB.out.size; omega
                  rw [← hbq] at hra
                  rw [← hwa, ← hbq]
                  clear hwa hbq
                  have RB := Lib.hid hra
                  clear hra
                  have Z8 := Lib.hid hb.size
                  replace C0 := Lib.hid (C0.out.trans (hb.mono C0.out.size))
                  replace CR := Lib.hid (CR.out.trans (hb.mono CR.out.size))
                  replace CB := Lib.hid (CB.out.trans (hb.mono CB.out.size))
                  replace Hp0 := Lib.hid (own_keep Hp0.out hb)
                  replace Hp1 := Lib.hid (Hp1.out.keep hb)
                  replace Hp2 := Lib.hid (own_keep Hp2.out hb)
                  replace OV := Lib.hid (OV.out.keep hb)
                  clear hb
                  refine ⟨fun _ => CR.out, ?_⟩
                  obtain ⟨z0, z1, z2, z3, z4, z5, z6, z7⟩ := cell8_row RB.out
                  obtain ⟨f0, f1, f2, f3, f4, f5, f6, f7⟩ := froz8_row RB.out
                  refine one_s (i := 8) (by kernel_rfl) (op_list rfl ?_)
                  go_wp2
                  refine ⟨late_s (by kernel_rfl), done_s (by kernel_rfl) ?_ _⟩
                  obtain ⟨we, hwe⟩ : ∃ W9, W9 = ((((((((v8.setCell ⟨b, 0, none⟩ (.int .i64 x.pc)).setCell ⟨b, 1, none⟩ (.slice rq x.R.length rc)).setCell ⟨b, 2, none⟩ (.slice mq x.M.length mc)).setCell ⟨b, 3, none⟩ (.slice sq x.S.length sc)).setCell ⟨b, 4, none⟩ (.int .i64 x.inn)).setCell ⟨b, 5, none⟩ (.slice oq x.O.length oc)).setCell ⟨b, 6, none⟩ (.int .i64 x.cd)).setCell ⟨b, 7, none⟩ (.int .i64 x.st)) := ⟨_, rfl⟩
                  have D2 := Lib.hid (show we.heap[b]? = some (.cells #[.int .i64 x.pc, .slice rq x.R.length rc, .slice mq x.M.length mc, .slice sq x.S.length sc, .int .i64 x.inn, .slice oq x.O.length oc, .int .i64 x.cd, .int .i64 x.st] 41 (0, 0)) by rw [hwe]; exact set8_row RB.out _ _ _ _ _ _ _ _)
                  have BE := Lib.hid (show Below v3.heap.size v3 we by rw [hwe]; exact set8_below CB.out hbge _ _ _ _ _ _ _ _)
                  have OE := Lib.hid (show StO we v3.heap.size x _ _ _ _ by rw [hwe]; exact OV.out.set8 (OV.out.off (T := 41) (by decide) RB.out) _ _ _ _ _ _ _ _)
                  rw [← hwe]
                  clear hwe z0 z1 z2 z3 z4 z5 z6 z7 f0 f1 f2 f3 f4 f5 f6 f7
                  go_wp2_with fail
                  go_meet
                  exact ⟨b, rq, rc, mq, mc, sq, sc, oq, oc, rfl, hbge, D2.out, OE.out, BE.out⟩
                · go_wp2
                  obtain ⟨v7, hwa⟩ : ∃ W9, W9 = v6.alloc (.cells #[.int .i64 0, .slice none 0 0, .slice none 0 0, .slice none 0 0, .int .i64 0, .slice none 0 0, .int .i64 0, .int .i64 0] 41) := ⟨_, rfl⟩
                  have hb : Below v6.heap.size v6 v7 := by rw [hwa]; exact (Below.refl v6.heap.size v6).alloc (Nat.le_refl _) (.cells #[.int .i64 0, .slice none 0 0, .slice none 0 0, .slice none 0 0, .int .i64 0, .slice none 0 0, .int .i64 0, .int .i64 0] 41)
                  have hra : v7.heap[v6.heap.size]? = some (.cells #[.int .i64 0, .slice none 0 0, .slice none 0 0, .slice none 0 0, .int .i64 0, .slice none 0 0, .int .i64 0, .int .i64 0] 41 (0, 0)) := by rw [hwa]; exact heap_alloc_new v6 _
                  obtain ⟨b, hbq⟩ : ∃ g, g = v6.heap.size := ⟨_, rfl⟩
                  have hbge : v3.heap.size ≤ b := by have := CB.out.size; omega
                  rw [← hbq] at hra
                  rw [← hwa, ← hbq]
                  clear hwa hbq
                  have RB := Lib.hid hra
                  clear hra
                  have Z7 := Lib.hid hb.size
                  replace C0 := Lib.hid (C0.out.trans (hb.mono C0.out.size))
                  replace CR := Lib.hid (CR.out.trans (hb.mono CR.out.size))
                  replace CB := Lib.hid (CB.out.trans (hb.mono CB.out.size))
                  replace Hp0 := Lib.hid (own_keep Hp0.out hb)
                  replace Hp1 := Lib.hid (Hp1.out.keep hb)
                  replace Hp2 := Lib.hid (own_keep Hp2.out hb)
                  clear hb
                  refine ⟨fun _ => CR.out, ?_⟩
                  refine one_s (i := 6) (by kernel_rfl) (op_list rfl ?_)
                  go_wp2_with fail
                  refine (KS.out _ _ _ _ _ _ _ ((Cs.shows_of_owns Hp0.out).down (Nat.zero_le _)) (Hp1.out.shows) ((Cs.shows_of_owns Hp2.out).down (Nat.zero_le _))).mono ?_
                  rintro e v8 ⟨hb, rq, rc, mq, mc, sq, sc, oq, oc, rfl, hh⟩
                  have OV := Lib.hid (hh.base (base' := v3.heap.size) (by have := CB.out.size; omega))
                  clear hh
                  have Z8 := Lib.hid hb.size
                  replace C0 := Lib.hid (C0.out.trans (hb.mono C0.out.size))
                  replace CR := Lib.hid (CR.out.trans (hb.mono CR.out.size))
                  replace CB := Lib.hid (CB.out.trans (hb.mono CB.out.size))
                  replace Hp0 := Lib.hid (own_keep Hp0.out hb)
                  replace Hp1 := Lib.hid (Hp1.out.keep hb)
                  replace Hp2 := Lib.hid (own_keep Hp2.out hb)
                  replace RB := Lib.hid ((hb.block _ (Array.getElem?_eq_some_iff.1 RB.out).1).trans RB.out)
                  clear hb
                  go_wp2
                  refine ⟨fun _ => CR.out, ?_⟩
                  obtain ⟨z0, z1, z2, z3, z4, z5, z6, z7⟩ := cell8_row RB.out
                  obtain ⟨f0, f1, f2, f3, f4, f5, f6, f7⟩ := froz8_row RB.out
                  refine one_s (i := 8) (by kernel_rfl) (op_list rfl ?_)
                  go_wp2
                  refine ⟨late_s (by kernel_rfl), done_s (by kernel_rfl) ?_ _⟩
                  obtain ⟨we, hwe⟩ : ∃ W9, W9 = ((((((((v8.setCell ⟨b, 0, none⟩ (.int .i64 x.pc)).setCell ⟨b, 1, none⟩ (.slice rq x.R.length rc)).setCell ⟨b, 2, none⟩ (.slice mq x.M.length mc)).setCell ⟨b, 3, none⟩ (.slice sq x.S.length sc)).setCell ⟨b, 4, none⟩ (.int .i64 x.inn)).setCell ⟨b, 5, none⟩ (.slice oq x.O.length oc)).setCell ⟨b, 6, none⟩ (.int .i64 x.cd)).setCell ⟨b, 7, none⟩ (.int .i64 x.st)) := ⟨_, rfl⟩
                  have D2 := Lib.hid (show we.heap[b]? = some (.cells #[.int .i64 x.pc, .slice rq x.R.length rc, .slice mq x.M.length mc, .slice sq x.S.length sc, .int .i64 x.inn, .slice oq x.O.length oc, .int .i64 x.cd, .int .i64 x.st] 41 (0, 0)) by rw [hwe]; exact set8_row RB.out _ _ _ _ _ _ _ _)
                  have BE := Lib.hid (show Below v3.heap.size v3 we by rw [hwe]; exact set8_below CB.out hbge _ _ _ _ _ _ _ _)
                  have OE := Lib.hid (show StO we v3.heap.size x _ _ _ _ by rw [hwe]; exact OV.out.set8 (OV.out.off (T := 41) (by decide) RB.out) _ _ _ _ _ _ _ _)
                  rw [← hwe]
                  clear hwe z0 z1 z2 z3 z4 z5 z6 z7 f0 f1 f2 f3 f4 f5 f6 f7
                  go_wp2_with fail
                  go_meet
                  exact ⟨b, rq, rc, mq, mc, sq, sc, oq, oc, rfl, hbge, D2.out, OE.out, BE.out⟩
              · go_wp2
                obtain ⟨v6, hwa⟩ : ∃ W9, W9 = v5.alloc (.cells #[.int .i64 0, .slice none 0 0, .slice none 0 0, .slice none 0 0, .int .i64 0, .slice none 0 0, .int .i64 0, .int .i64 0] 41) := ⟨_, rfl⟩
                have hb : Below v5.heap.size v5 v6 := by rw [hwa]; exact (Below.refl v5.heap.size v5).alloc (Nat.le_refl _) (.cells #[.int .i64 0, .slice none 0 0, .slice none 0 0, .slice none 0 0, .int .i64 0, .slice none 0 0, .int .i64 0, .int .i64 0] 41)
                have hra : v6.heap[v5.heap.size]? = some (.cells #[.int .i64 0, .slice none 0 0, .slice none 0 0, .slice none 0 0, .int .i64 0, .slice none 0 0, .int .i64 0, .int .i64 0] 41 (0, 0)) := by rw [hwa]; exact heap_alloc_new v5 _
                obtain ⟨b, hbq⟩ : ∃ g, g = v5.heap.size := ⟨_, rfl⟩
                have hbge : v3.heap.size ≤ b := by have := CB.out.size; omega
                rw [← hbq] at hra
                rw [← hwa, ← hbq]
                clear hwa hbq
                have RB := Lib.hid hra
                clear hra
                have Z6 := Lib.hid hb.size
                replace C0 := Lib.hid (C0.out.trans (hb.mono C0.out.size))
                replace CR := Lib.hid (CR.out.trans (hb.mono CR.out.size))
                replace CB := Lib.hid (CB.out.trans (hb.mono CB.out.size))
                replace Hp0 := Lib.hid (own_keep Hp0.out hb)
                replace Hp1 := Lib.hid (Hp1.out.keep hb)
                clear hb
                refine ⟨fun _ => CR.out, ?_⟩
                refine one_s (i := 5) (by kernel_rfl) (op_list rfl ?_)
                go_wp2_with fail
                refine (to_Int L2 _ _ (IS2.out.below C0.out) (by omega)).mono ?_
                rintro e v7 ⟨gp2, rfl, hh, hb⟩
                have Hp2 := Lib.hid hh
                clear hh
                have Z7 := Lib.hid hb.size
                replace C0 := Lib.hid (C0.out.trans (hb.mono C0.out.size))
                replace CR := Lib.hid (CR.out.trans (hb.mono CR.out.size))
                replace CB := Lib.hid (CB.out.trans (hb.mono CB.out.size))
                replace Hp0 := Lib.hid (own_keep Hp0.out hb)
                replace Hp1 := Lib.hid (Hp1.out.keep hb)
                replace RB := Lib.hid ((hb.block _ (Array.getElem?_eq_some_iff.1 RB.out).1).trans RB.out)
                clear hb
                go_wp2
                refine ⟨fun _ => CR.out, ?_⟩
                refine one_s (i := 6) (by kernel_rfl) (op_list rfl ?_)
                go_wp2_with fail
                refine (KS.out _ _ _ _ _ _ _ ((Cs.shows_of_owns Hp0.out).down (Nat.zero_le _)) (Hp1.out.shows) ((Cs.shows_of_owns Hp2.out).down (Nat.zero_le _))).mono ?_
                rintro e v8 ⟨hb, rq, rc, mq, mc, sq, sc, oq, oc, rfl, hh⟩
                have OV := Lib.hid (hh.base (base' := v3.heap.size) (by have := CB.out.size; omega))
                clear hh
                have Z8 := Lib.hid hb.size
                replace C0 := Lib.hid (C0.out.trans (hb.mono C0.out.size))
                replace CR := Lib.hid (CR.out.trans (hb.mono CR.out.size))
                replace CB := Lib.hid (CB.out.trans (hb.mono CB.out.size))
                replace Hp0 := Lib.hid (own_keep Hp0.out hb)
                replace Hp1 := Lib.hid (Hp1.out.keep hb)
                replace RB := Lib.hid ((hb.block _ (Array.getElem?_eq_some_iff.1 RB.out).1).trans RB.out)
                replace Hp2 := Lib.hid (own_keep Hp2.out hb)
                clear hb
                go_wp2
                refine ⟨fun _ => CR.out, ?_⟩
                obtain ⟨z0, z1, z2, z3, z4, z5, z6, z7⟩ := cell8_row RB.out
                obtain ⟨f0, f1, f2, f3, f4, f5, f6, f7⟩ := froz8_row RB.out
                refine one_s (i := 8) (by kernel_rfl) (op_list rfl ?_)
                go_wp2
                refine ⟨late_s (by kernel_rfl), done_s (by kernel_rfl) ?_ _⟩
                obtain ⟨we, hwe⟩ : ∃ W9, W9 = ((((((((v8.setCell ⟨b, 0, none⟩ (.int .i64 x.pc)).setCell ⟨b, 1, none⟩ (.slice rq x.R.length rc)).setCell ⟨b, 2, none⟩ (.slice mq x.M.length mc)).setCell ⟨b, 3, none⟩ (.slice sq x.S.length sc)).setCell ⟨b, 4, none⟩ (.int .i64 x.inn)).setCell ⟨b, 5, none⟩ (.slice oq x.O.length oc)).setCell ⟨b, 6, none⟩ (.int .i64 x.cd)).setCell ⟨b, 7, none⟩ (.int .i64 x.st)) := ⟨_, rfl⟩
                have D2 := Lib.hid (show we.heap[b]? = some (.cells #[.int .i64 x.pc, .slice rq x.R.length rc, .slice mq x.M.length mc, .slice sq x.S.length sc, .int .i64 x.inn, .slice oq x.O.length oc, .int .i64 x.cd, .int .i64 x.st] 41 (0, 0)) by rw [hwe]; exact set8_row RB.out _ _ _ _ _ _ _ _)
                have BE := Lib.hid (show Below v3.heap.size v3 we by rw [hwe]; exact set8_below CB.out hbge _ _ _ _ _ _ _ _)
                have OE := Lib.hid (show StO we v3.heap.size x _ _ _ _ by rw [hwe]; exact OV.out.set8 (OV.out.off (T := 41) (by decide) RB.out) _ _ _ _ _ _ _ _)
                rw [← hwe]
                clear hwe z0 z1 z2 z3 z4 z5 z6 z7 f0 f1 f2 f3 f4 f5 f6 f7
                go_wp2_with fail
                go_meet
                exact ⟨b, rq, rc, mq, mc, sq, sc, oq, oc, rfl, hbge, D2.out, OE.out, BE.out⟩
            · go_wp2
              obtain ⟨v5, hwa⟩ : ∃ W9, W9 = v4.alloc (.cells #[.int .i64 0, .slice none 0 0, .slice none 0 0, .slice none 0 0, .int .i64 0, .slice none 0 0, .int .i64 0, .int .i64 0] 41) := ⟨_, rfl⟩
              have hb : Below v4.heap.size v4 v5 := by rw [hwa]; exact (Below.refl v4.heap.size v4).alloc (Nat.le_refl _) (.cells #[.int .i64 0, .slice none 0 0, .slice none 0 0, .slice none 0 0, .int .i64 0, .slice none 0 0, .int .i64 0, .int .i64 0] 41)
              have hra : v5.heap[v4.heap.size]? = some (.cells #[.int .i64 0, .slice none 0 0, .slice none 0 0, .slice none 0 0, .int .i64 0, .slice none 0 0, .int .i64 0, .int .i64 0] 41 (0, 0)) := by rw [hwa]; exact heap_alloc_new v4 _
              obtain ⟨b, hbq⟩ : ∃ g, g = v4.heap.size := ⟨_, rfl⟩
              have hbge : v3.heap.size ≤ b := by have := CB.out.size; omega
              rw [← hbq] at hra
              rw [← hwa, ← hbq]
              clear hwa hbq
              have RB := Lib.hid hra
              clear hra
              have Z5 := Lib.hid hb.size
              replace C0 := Lib.hid (C0.out.trans (hb.mono C0.out.size))
              replace CR := Lib.hid (CR.out.trans (hb.mono CR.out.size))
              replace CB := Lib.hid (CB.out.trans (hb.mono CB.out.size))
              replace Hp0 := Lib.hid (own_keep Hp0.out hb)
              clear hb
              refine ⟨fun _ => CR.out, ?_⟩
              refine one_s (i := 3) (by kernel_rfl) (op_list rfl ?_)
              go_wp2_with fail
              refine (to_State x1 _ _ _ _ _ (IS1.out.below C0.out) (by omega)).mono ?_
              rintro e v6 ⟨grp1, gmp1, gsp1, gop1, rfl, hh, hb⟩
              have Hp1 := Lib.hid hh
              clear hh
              have Z6 := Lib.hid hb.size
              replace C0 := Lib.hid (C0.out.trans (hb.mono C0.out.size))
              replace CR := Lib.hid (CR.out.trans (hb.mono CR.out.size))
              replace CB := Lib.hid (CB.out.trans (hb.mono CB.out.size))
              replace Hp0 := Lib.hid (own_keep Hp0.out hb)
              replace RB := Lib.hid ((hb.block _ (Array.getElem?_eq_some_iff.1 RB.out).1).trans RB.out)
              clear hb
              go_wp2
              refine ⟨fun _ => CR.out, ?_⟩
              refine one_s (i := 5) (by kernel_rfl) (op_list rfl ?_)
              go_wp2_with fail
              refine (to_Int L2 _ _ (IS2.out.below C0.out) (by omega)).mono ?_
              rintro e v7 ⟨gp2, rfl, hh, hb⟩
              have Hp2 := Lib.hid hh
              clear hh
              have Z7 := Lib.hid hb.size
              replace C0 := Lib.hid (C0.out.trans (hb.mono C0.out.size))
              replace CR := Lib.hid (CR.out.trans (hb.mono CR.out.size))
              replace CB := Lib.hid (CB.out.trans (hb.mono CB.out.size))
              replace Hp0 := Lib.hid (own_keep Hp0.out hb)
              replace RB := Lib.hid ((hb.block _ (Array.getElem?_eq_some_iff.1 RB.out).1).trans RB.out)
              replace Hp1 := Lib.hid (Hp1.out.keep hb)
              clear hb
              go_wp2
              refine ⟨fun _ => CR.out, ?_⟩
              refine one_s (i := 6) (by kernel_rfl) (op_list rfl ?_)
              go_wp2_with fail
              refine (KS.out _ _ _ _ _ _ _ ((Cs.shows_of_owns Hp0.out).down (Nat.zero_le _)) (Hp1.out.shows) ((Cs.shows_of_owns Hp2.out).down (Nat.zero_le _))).mono ?_
              rintro e v8 ⟨hb, rq, rc, mq, mc, sq, sc, oq, oc, rfl, hh⟩
              have OV := Lib.hid (hh.base (base' := v3.heap.size) (by have := CB.out.size; omega))
              clear hh
              have Z8 := Lib.hid hb.size
              replace C0 := Lib.hid (C0.out.trans (hb.mono C0.out.size))
              replace CR := Lib.hid (CR.out.trans (hb.mono CR.out.size))
              replace CB := Lib.hid (CB.out.trans (hb.mono CB.out.size))
              replace Hp0 := Lib.hid (own_keep Hp0.out hb)
              replace RB := Lib.hid ((hb.block _ (Array.getElem?_eq_some_iff.1 RB.out).1).trans RB.out)
              replace Hp1 := Lib.hid (Hp1.out.keep hb)
              replace Hp2 := Lib.hid (own_keep Hp2.out hb)
              clear hb
              go_wp2
              refine ⟨fun _ => CR.out, ?_⟩
              obtain ⟨z0, z1, z2, z3, z4, z5, z6, z7⟩ := cell8_row RB.out
              obtain ⟨f0, f1, f2, f3, f4, f5, f6, f7⟩ := froz8_row RB.out
              refine one_s (i := 8) (by kernel_rfl) (op_list rfl ?_)
              go_wp2
              refine ⟨late_s (by kernel_rfl), done_s (by kernel_rfl) ?_ _⟩
              obtain ⟨we, hwe⟩ : ∃ W9, W9 = ((((((((v8.setCell ⟨b, 0, none⟩ (.int .i64 x.pc)).setCell ⟨b, 1, none⟩ (.slice rq x.R.length rc)).setCell ⟨b, 2, none⟩ (.slice mq x.M.length mc)).setCell ⟨b, 3, none⟩ (.slice sq x.S.length sc)).setCell ⟨b, 4, none⟩ (.int .i64 x.inn)).setCell ⟨b, 5, none⟩ (.slice oq x.O.length oc)).setCell ⟨b, 6, none⟩ (.int .i64 x.cd)).setCell ⟨b, 7, none⟩ (.int .i64 x.st)) := ⟨_, rfl⟩
              have D2 := Lib.hid (show we.heap[b]? = some (.cells #[.int .i64 x.pc, .slice rq x.R.length rc, .slice mq x.M.length mc, .slice sq x.S.length sc, .int .i64 x.inn, .slice oq x.O.length oc, .int .i64 x.cd, .int .i64 x.st] 41 (0, 0)) by rw [hwe]; exact set8_row RB.out _ _ _ _ _ _ _ _)
              have BE := Lib.hid (show Below v3.heap.size v3 we by rw [hwe]; exact set8_below CB.out hbge _ _ _ _ _ _ _ _)
              have OE := Lib.hid (show StO we v3.heap.size x _ _ _ _ by rw [hwe]; exact OV.out.set8 (OV.out.off (T := 41) (by decide) RB.out) _ _ _ _ _ _ _ _)
              rw [← hwe]
              clear hwe z0 z1 z2 z3 z4 z5 z6 z7 f0 f1 f2 f3 f4 f5 f6 f7
              go_wp2_with fail
              go_meet
              exact ⟨b, rq, rc, mq, mc, sq, sc, oq, oc, rfl, hbge, D2.out, OE.out, BE.out⟩
          · go_wp2
            obtain ⟨v4, hwa⟩ : ∃ W9, W9 = (v3.alloc (.cells #[.int .i64 0, .slice none 0 0, .slice none 0 0, .slice none 0 0, .int .i64 0, .slice none 0 0, .int .i64 0, .int .i64 0] 41)).drew := ⟨_, rfl⟩
            have hb : Below v3.drew.heap.size v3.drew v4 := by rw [hwa]; exact (Below.refl v3.drew.heap.size v3.drew).alloc (Nat.le_refl _) (.cells #[.int .i64 0, .slice none 0 0, .slice none 0 0, .slice none 0 0, .int .i64 0, .slice none 0 0, .int .i64 0, .int .i64 0] 41)
            have hra : v4.heap[v3.heap.size]? = some (.cells #[.int .i64 0, .slice none 0 0, .slice none 0 0, .slice none 0 0, .int .i64 0, .slice none 0 0, .int .i64 0, .int .i64 0] 41 (0, 0)) := by rw [hwa]; exact heap_alloc_new v3 _
            obtain ⟨b, hbq⟩ : ∃ g, g = v3.heap.size := ⟨_, rfl⟩
            have hbge : v3.heap.size ≤ b := by have := CB.out.size; omega
            rw [← hbq] at hra
            rw [← hwa, ← hbq]
            clear hwa hbq
            have RB := Lib.hid hra
            clear hra
            have Z4 := Lib.hid hb.size
            replace C0 := Lib.hid (C0.out.trans (hb.mono C0.out.size))
            replace CR := Lib.hid (CR.out.trans (hb.mono CR.out.size))
            replace CB := Lib.hid (CB.out.trans (hb.mono CB.out.size))
            clear hb
            refine ⟨fun _ => CR.out, ?_⟩
            refine one_s (i := 1) (by kernel_rfl) (op_list rfl ?_)
            go_wp2_with fail
            refine (to_Program vw0 vm0 vi0 L0 _ _ (IS0.out.below C0.out) (by omega)).mono ?_
            rintro e v5 ⟨gp0, rfl, hh, hb⟩
            have Hp0 := Lib.hid hh
            clear hh
            have Z5 := Lib.hid hb.size
            replace C0 := Lib.hid (C0.out.trans (hb.mono C0.out.size))
            replace CR := Lib.hid (CR.out.trans (hb.mono CR.out.size))
            replace CB := Lib.hid (CB.out.trans (hb.mono CB.out.size))
            replace RB := Lib.hid ((hb.block _ (Array.getElem?_eq_some_iff.1 RB.out).1).trans RB.out)
            clear hb
            go_wp2
            refine ⟨fun _ => CR.out, ?_⟩
            refine one_s (i := 3) (by kernel_rfl) (op_list rfl ?_)
            go_wp2_with fail
            refine (to_State x1 _ _ _ _ _ (IS1.out.below C0.out) (by omega)).mono ?_
            rintro e v6 ⟨grp1, gmp1, gsp1, gop1, rfl, hh, hb⟩
            have Hp1 := Lib.hid hh
            clear hh
            have Z6 := Lib.hid hb.size
            replace C0 := Lib.hid (C0.out.trans (hb.mono C0.out.size))
            replace CR := Lib.hid (CR.out.trans (hb.mono CR.out.size))
            replace CB := Lib.hid (CB.out.trans (hb.mono CB.out.size))
            replace RB := Lib.hid ((hb.block _ (Array.getElem?_eq_some_iff.1 RB.out).1).trans RB.out)
            replace Hp0 := Lib.hid (own_keep Hp0.out hb)
            clear hb
            go_wp2
            refine ⟨fun _ => CR.out, ?_⟩
            refine one_s (i := 5) (by kernel_rfl) (op_list rfl ?_)
            go_wp2_with fail
            refine (to_Int L2 _ _ (IS2.out.below C0.out) (by omega)).mono ?_
            rintro e v7 ⟨gp2, rfl, hh, hb⟩
            have Hp2 := Lib.hid hh
            clear hh
            have Z7 := Lib.hid hb.size
            replace C0 := Lib.hid (C0.out.trans (hb.mono C0.out.size))
            replace CR := Lib.hid (CR.out.trans (hb.mono CR.out.size))
            replace CB := Lib.hid (CB.out.trans (hb.mono CB.out.size))
            replace RB := Lib.hid ((hb.block _ (Array.getElem?_eq_some_iff.1 RB.out).1).trans RB.out)
            replace Hp0 := Lib.hid (own_keep Hp0.out hb)
            replace Hp1 := Lib.hid (Hp1.out.keep hb)
            clear hb
            go_wp2
            refine ⟨fun _ => CR.out, ?_⟩
            refine one_s (i := 6) (by kernel_rfl) (op_list rfl ?_)
            go_wp2_with fail
            refine (KS.out _ _ _ _ _ _ _ ((Cs.shows_of_owns Hp0.out).down (Nat.zero_le _)) (Hp1.out.shows) ((Cs.shows_of_owns Hp2.out).down (Nat.zero_le _))).mono ?_
            rintro e v8 ⟨hb, rq, rc, mq, mc, sq, sc, oq, oc, rfl, hh⟩
            have OV := Lib.hid (hh.base (base' := v3.heap.size) (by have := CB.out.size; omega))
            clear hh
            have Z8 := Lib.hid hb.size
            replace C0 := Lib.hid (C0.out.trans (hb.mono C0.out.size))
            replace CR := Lib.hid (CR.out.trans (hb.mono CR.out.size))
            replace CB := Lib.hid (CB.out.trans (hb.mono CB.out.size))
            replace RB := Lib.hid ((hb.block _ (Array.getElem?_eq_some_iff.1 RB.out).1).trans RB.out)
            replace Hp0 := Lib.hid (own_keep Hp0.out hb)
            replace Hp1 := Lib.hid (Hp1.out.keep hb)
            replace Hp2 := Lib.hid (own_keep Hp2.out hb)
            clear hb
            go_wp2
            refine ⟨fun _ => CR.out, ?_⟩
            obtain ⟨z0, z1, z2, z3, z4, z5, z6, z7⟩ := cell8_row RB.out
            obtain ⟨f0, f1, f2, f3, f4, f5, f6, f7⟩ := froz8_row RB.out
            refine one_s (i := 8) (by kernel_rfl) (op_list rfl ?_)
            go_wp2
            refine ⟨late_s (by kernel_rfl), done_s (by kernel_rfl) ?_ _⟩
            obtain ⟨we, hwe⟩ : ∃ W9, W9 = ((((((((v8.setCell ⟨b, 0, none⟩ (.int .i64 x.pc)).setCell ⟨b, 1, none⟩ (.slice rq x.R.length rc)).setCell ⟨b, 2, none⟩ (.slice mq x.M.length mc)).setCell ⟨b, 3, none⟩ (.slice sq x.S.length sc)).setCell ⟨b, 4, none⟩ (.int .i64 x.inn)).setCell ⟨b, 5, none⟩ (.slice oq x.O.length oc)).setCell ⟨b, 6, none⟩ (.int .i64 x.cd)).setCell ⟨b, 7, none⟩ (.int .i64 x.st)) := ⟨_, rfl⟩
            have D2 := Lib.hid (show we.heap[b]? = some (.cells #[.int .i64 x.pc, .slice rq x.R.length rc, .slice mq x.M.length mc, .slice sq x.S.length sc, .int .i64 x.inn, .slice oq x.O.length oc, .int .i64 x.cd, .int .i64 x.st] 41 (0, 0)) by rw [hwe]; exact set8_row RB.out _ _ _ _ _ _ _ _)
            have BE := Lib.hid (show Below v3.heap.size v3 we by rw [hwe]; exact set8_below CB.out hbge _ _ _ _ _ _ _ _)
            have OE := Lib.hid (show StO we v3.heap.size x _ _ _ _ by rw [hwe]; exact OV.out.set8 (OV.out.off (T := 41) (by decide) RB.out) _ _ _ _ _ _ _ _)
            rw [← hwe]
            clear hwe z0 z1 z2 z3 z4 z5 z6 z7 f0 f1 f2 f3 f4 f5 f6 f7
            go_wp2_with fail
            go_meet
            exact ⟨b, rq, rc, mq, mc, sq, sc, oq, oc, rfl, hbge, D2.out, OE.out, BE.out⟩
        case rest =>
          obtain ⟨gs0, s0rq, s0rc, s0mq, s0mc, s0sq, s0sc, s0oq, s0oc, hv9, hge, hR, hO, hb⟩ := hcut
          subst hv9
          rename World => v4
          have Rs0 := Lib.hid hR
          have Os0 := Lib.hid hO
          clear hR hO hge
          have Z4 := Lib.hid hb.size
          replace C0 := Lib.hid (C0.out.trans (hb.mono C0.out.size))
          replace A0 := Lib.hid ((hb.block _ (Array.getElem?_eq_some_iff.1 A0.out).1).trans A0.out)
          replace A1 := Lib.hid ((hb.block _ (Array.getElem?_eq_some_iff.1 A1.out).1).trans A1.out)
          clear hb
          have BRs0 := Lib.hid (show gs0 < v4.heap.size from (Array.getElem?_eq_some_iff.1 Rs0.out).1)
          have IOs0 := Lib.hid (fun g (hg : g ∈ StB (.slice s0rq x.R.length s0rc) (.slice s0mq x.M.length s0mc) (.slice s0sq x.S.length s0sc) (.slice s0oq x.O.length s0oc)) => (Os0.out.lt hg))
          obtain ⟨z0_0, z0_1, z0_2, z0_3⟩ := cell4_row A0.out
          go_wp2_with fail
          clear z0_0 z0_1 z0_2 z0_3
          refine (to_Program vw0 vm0 vi0 L0 _ _ (IS0.out.below C0.out) (by omega)).mono ?_
          rintro e v5 ⟨gx0, rfl, hh, hb⟩
          have Hx0 := Lib.hid hh
          clear hh
          have Z6 := Lib.hid hb.size
          replace C0 := Lib.hid (C0.out.trans (hb.mono C0.out.size))
          replace A0 := Lib.hid ((hb.block _ (Array.getElem?_eq_some_iff.1 A0.out).1).trans A0.out)
          replace A1 := Lib.hid ((hb.block _ (Array.getElem?_eq_some_iff.1 A1.out).1).trans A1.out)
          replace Rs0 := Lib.hid ((hb.block _ (Array.getElem?_eq_some_iff.1 Rs0.out).1).trans Rs0.out)
          replace Os0 := Lib.hid (Os0.out.keep hb)
          clear hb
          have IHx0 := Lib.hid (fun g (hg : g ∈ (Value.slice (some ⟨gx0, 0, none⟩) L0.length L0.length).ownBlock.toList) => (own_lt Hx0.out hg))
          obtain ⟨z0_0, z0_1, z0_2, z0_3, z0_4, z0_5, z0_6, z0_7⟩ := cell8_row A1.out
          have hyl0 := World.block_lt_of_cell? _ _ z0_0
          obtain ⟨v6, hW⟩ : ∃ W, W = v5.alloc (.cells #[.int .i64 vw0, .int .i64 vm0, .int .i64 vi0, .slice (some ⟨gx0, 0, none⟩) L0.length L0.length] 30) := ⟨_, rfl⟩
          have hb : Below v5.heap.size v5 v6 := by rw [hW]; exact (Below.refl _ _).alloc (Nat.le_refl _) _
          have X0 : Hid (v6.heap[v5.heap.size]? = some (.cells #[.int .i64 vw0, .int .i64 vm0, .int .i64 vi0, .slice (some ⟨gx0, 0, none⟩) L0.length L0.length] 30 (0, 0))) := Lib.hid (by rw [hW]; exact heap_alloc_new _ _)
          have BX0 := Lib.hid (show v5.heap.size < v6.heap.size from (Array.getElem?_eq_some_iff.1 X0.out).1)
          have HW := Lib.hid hW
          clear hW
          have Z7 := Lib.hid hb.size
          replace C0 := Lib.hid (C0.out.trans (hb.mono C0.out.size))
          replace A0 := Lib.hid ((hb.block _ (Array.getElem?_eq_some_iff.1 A0.out).1).trans A0.out)
          replace A1 := Lib.hid ((hb.block _ (Array.getElem?_eq_some_iff.1 A1.out).1).trans A1.out)
          replace Rs0 := Lib.hid ((hb.block _ (Array.getElem?_eq_some_iff.1 Rs0.out).1).trans Rs0.out)
          replace Os0 := Lib.hid (Os0.out.keep hb)
          replace Hx0 := Lib.hid (own_keep Hx0.out hb)
          clear hb
          go_wp2_with fail
          rw [← HW.out]
          clear HW z0_0 z0_1 z0_2 z0_3 z0_4 z0_5 z0_6 z0_7 hyl0
          refine (to_State x1 _ _ _ _ _ (IS1.out.below C0.out) (by omega)).mono ?_
          rintro e v7 ⟨grx1, gmx1, gsx1, gox1, rfl, hh, hb⟩
          have Hx1 := Lib.hid hh
          clear hh
          have Z9 := Lib.hid hb.size
          replace C0 := Lib.hid (C0.out.trans (hb.mono C0.out.size))
          replace A0 := Lib.hid ((hb.block _ (Array.getElem?_eq_some_iff.1 A0.out).1).trans A0.out)
          replace A1 := Lib.hid ((hb.block _ (Array.getElem?_eq_some_iff.1 A1.out).1).trans A1.out)
          replace Rs0 := Lib.hid ((hb.block _ (Array.getElem?_eq_some_iff.1 Rs0.out).1).trans Rs0.out)
          replace Os0 := Lib.hid (Os0.out.keep hb)
          replace Hx0 := Lib.hid (own_keep Hx0.out hb)
          replace X0 := Lib.hid ((hb.block _ (Array.getElem?_eq_some_iff.1 X0.out).1).trans X0.out)
          clear hb
          have IHx1 := Lib.hid (fun g (hg : g ∈ StB (.slice (some ⟨grx1, 0, none⟩) x1.R.length x1.R.length) (.slice (some ⟨gmx1, 0, none⟩) x1.M.length x1.M.length) (.slice (some ⟨gsx1, 0, none⟩) x1.S.length x1.S.length) (.slice (some ⟨gox1, 0, none⟩) x1.O.length x1.O.length)) => (Hx1.out.lt hg))
          obtain ⟨v8, hW⟩ : ∃ W, W = v7.alloc (.cells #[.int .i64 x1.pc, .slice (some ⟨grx1, 0, none⟩) x1.R.length x1.R.length, .slice (some ⟨gmx1, 0, none⟩) x1.M.length x1.M.length, .slice (some ⟨gsx1, 0, none⟩) x1.S.length x1.S.length, .int .i64 x1.inn, .slice (some ⟨gox1, 0, none⟩) x1.O.length x1.O.length, .int .i64 x1.cd, .int .i64 x1.st] 41) := ⟨_, rfl⟩
          have hb : Below v7.heap.size v7 v8 := by rw [hW]; exact (Below.refl _ _).alloc (Nat.le_refl _) _
          have X1 : Hid (v8.heap[v7.heap.size]? = some (.cells #[.int .i64 x1.pc, .slice (some ⟨grx1, 0, none⟩) x1.R.length x1.R.length, .slice (some ⟨gmx1, 0, none⟩) x1.M.length x1.M.length, .slice (some ⟨gsx1, 0, none⟩) x1.S.length x1.S.length, .int .i64 x1.inn, .slice (some ⟨gox1, 0, none⟩) x1.O.length x1.O.length, .int .i64 x1.cd, .int .i64 x1.st] 41 (0, 0))) := Lib.hid (by rw [hW]; exact heap_alloc_new _ _)
          have BX1 := Lib.hid (show v7.heap.size < v8.heap.size from (Array.getElem?_eq_some_iff.1 X1.out).1)
          have HW := Lib.hid hW
          clear hW
          have Z10 := Lib.hid hb.size
          replace C0 := Lib.hid (C0.out.trans (hb.mono C0.out.size))
          replace A0 := Lib.hid ((hb.block _ (Array.getElem?_eq_some_iff.1 A0.out).1).trans A0.out)
          replace A1 := Lib.hid ((hb.block _ (Array.getElem?_eq_some_iff.1 A1.out).1).trans A1.out)
          replace Rs0 := Lib.hid ((hb.block _ (Array.getElem?_eq_some_iff.1 Rs0.out).1).trans Rs0.out)
          replace Os0 := Lib.hid (Os0.out.keep hb)
          replace Hx0 := Lib.hid (own_keep Hx0.out hb)
          replace X0 := Lib.hid ((hb.block _ (Array.getElem?_eq_some_iff.1 X0.out).1).trans X0.out)
          replace Hx1 := Lib.hid (Hx1.out.keep hb)
          clear hb
          go_wp2_with fail
          rw [← HW.out]
          clear HW
          refine (to_Int L2 _ _ (IS2.out.below C0.out) (by omega)).mono ?_
          rintro e v9 ⟨gx2, rfl, hh, hb⟩
          have Hx2 := Lib.hid hh
          clear hh
          have Z12 := Lib.hid hb.size
          replace C0 := Lib.hid (C0.out.trans (hb.mono C0.out.size))
          replace A0 := Lib.hid ((hb.block _ (Array.getElem?_eq_some_iff.1 A0.out).1).trans A0.out)
          replace A1 := Lib.hid ((hb.block _ (Array.getElem?_eq_some_iff.1 A1.out).1).trans A1.out)
          replace Rs0 := Lib.hid ((hb.block _ (Array.getElem?_eq_some_iff.1 Rs0.out).1).trans Rs0.out)
          replace Os0 := Lib.hid (Os0.out.keep hb)
          replace Hx0 := Lib.hid (own_keep Hx0.out hb)
          replace X0 := Lib.hid ((hb.block _ (Array.getElem?_eq_some_iff.1 X0.out).1).trans X0.out)
          replace Hx1 := Lib.hid (Hx1.out.keep hb)
          replace X1 := Lib.hid ((hb.block _ (Array.getElem?_eq_some_iff.1 X1.out).1).trans X1.out)
          clear hb
          have IHx2 := Lib.hid (fun g (hg : g ∈ (Value.slice (some ⟨gx2, 0, none⟩) L2.length L2.length).ownBlock.toList) => (own_lt Hx2.out hg))
          obtain ⟨z0_0, z0_1, z0_2, z0_3⟩ := cell4_row X0.out
          obtain ⟨z1_0, z1_1, z1_2, z1_3, z1_4, z1_5, z1_6, z1_7⟩ := cell8_row X1.out
          go_wp2_with fail
          clear z0_0 z0_1 z0_2 z0_3 z1_0 z1_1 z1_2 z1_3 z1_4 z1_5 z1_6 z1_7
          refine (KI.out _ _ _ _ _ _ _ ((Cs.shows_of_owns Hx0.out).down (Nat.zero_le _)) (Hx1.out.shows) ((Cs.shows_of_owns Hx2.out).down (Nat.zero_le _))).mono ?_
          rintro e v10 ⟨hb, i0rq, i0rc, i0mq, i0mc, i0sq, i0sc, i0oq, i0oc, rfl, hh⟩
          have Oi0 := Lib.hid hh
          clear hh
          have Z13 := Lib.hid hb.size
          replace C0 := Lib.hid (C0.out.trans (hb.mono C0.out.size))
          replace A0 := Lib.hid ((hb.block _ (Array.getElem?_eq_some_iff.1 A0.out).1).trans A0.out)
          replace A1 := Lib.hid ((hb.block _ (Array.getElem?_eq_some_iff.1 A1.out).1).trans A1.out)
          replace Rs0 := Lib.hid ((hb.block _ (Array.getElem?_eq_some_iff.1 Rs0.out).1).trans Rs0.out)
          replace Os0 := Lib.hid (Os0.out.keep hb)
          replace Hx0 := Lib.hid (own_keep Hx0.out hb)
          replace X0 := Lib.hid ((hb.block _ (Array.getElem?_eq_some_iff.1 X0.out).1).trans X0.out)
          replace Hx1 := Lib.hid (Hx1.out.keep hb)
          replace X1 := Lib.hid ((hb.block _ (Array.getElem?_eq_some_iff.1 X1.out).1).trans X1.out)
          replace Hx2 := Lib.hid (own_keep Hx2.out hb)
          clear hb
          have IOi0 := Lib.hid (fun g (hg : g ∈ StB (.slice i0rq x.R.length i0rc) (.slice i0mq x.M.length i0mc) (.slice i0sq x.S.length i0sc) (.slice i0oq x.O.length i0oc)) => (Oi0.out.lt hg))
          obtain ⟨z0_0, z0_1, z0_2, z0_3, z0_4, z0_5, z0_6, z0_7⟩ := cell8_row Rs0.out
          have hyl0 := World.block_lt_of_cell? _ _ z0_0
          obtain ⟨v11, hW⟩ : ∃ W, W = v10.alloc (.cells #[.int .i64 x.pc, .slice i0rq x.R.length i0rc, .slice i0mq x.M.length i0mc, .slice i0sq x.S.length i0sc, .int .i64 x.inn, .slice i0oq x.O.length i0oc, .int .i64 x.cd, .int .i64 x.st] 41) := ⟨_, rfl⟩
          have hb : Below v10.heap.size v10 v11 := by rw [hW]; exact (Below.refl _ _).alloc (Nat.le_refl _) _
          have Ri0 : Hid (v11.heap[v10.heap.size]? = some (.cells #[.int .i64 x.pc, .slice i0rq x.R.length i0rc, .slice i0mq x.M.length i0mc, .slice i0sq x.S.length i0sc, .int .i64 x.inn, .slice i0oq x.O.length i0oc, .int .i64 x.cd, .int .i64 x.st] 41 (0, 0))) := Lib.hid (by rw [hW]; exact heap_alloc_new _ _)
          have BRi0 := Lib.hid (show v10.heap.size < v11.heap.size from (Array.getElem?_eq_some_iff.1 Ri0.out).1)
          have HW := Lib.hid hW
          clear hW
          have Z14 := Lib.hid hb.size
          replace C0 := Lib.hid (C0.out.trans (hb.mono C0.out.size))
          replace A0 := Lib.hid ((hb.block _ (Array.getElem?_eq_some_iff.1 A0.out).1).trans A0.out)
          replace A1 := Lib.hid ((hb.block _ (Array.getElem?_eq_some_iff.1 A1.out).1).trans A1.out)
          replace Rs0 := Lib.hid ((hb.block _ (Array.getElem?_eq_some_iff.1 Rs0.out).1).trans Rs0.out)
          replace Os0 := Lib.hid (Os0.out.keep hb)
          replace Hx0 := Lib.hid (own_keep Hx0.out hb)
          replace X0 := Lib.hid ((hb.block _ (Array.getElem?_eq_some_iff.1 X0.out).1).trans X0.out)
          replace Hx1 := Lib.hid (Hx1.out.keep hb)
          replace X1 := Lib.hid ((hb.block _ (Array.getElem?_eq_some_iff.1 X1.out).1).trans X1.out)
          replace Hx2 := Lib.hid (own_keep Hx2.out hb)
          replace Oi0 := Lib.hid (Oi0.out.keep hb)
          clear hb
          go_wp2_with fail
          rw [← HW.out]
          clear HW z0_0 z0_1 z0_2 z0_3 z0_4 z0_5 z0_6 z0_7 hyl0
          refine (eq_State x _ _ _ _ _ _ _ _ _ (Oi0.out.shows) (Os0.out.shows) (by omega)).mono ?_
          rintro e v12 ⟨rfl, hb⟩
          have Z16 := Lib.hid hb.size
          replace C0 := Lib.hid (C0.out.trans (hb.mono C0.out.size))
          replace A0 := Lib.hid ((hb.block _ (Array.getElem?_eq_some_iff.1 A0.out).1).trans A0.out)
          replace A1 := Lib.hid ((hb.block _ (Array.getElem?_eq_some_iff.1 A1.out).1).trans A1.out)
          replace Rs0 := Lib.hid ((hb.block _ (Array.getElem?_eq_some_iff.1 Rs0.out).1).trans Rs0.out)
          replace Os0 := Lib.hid (Os0.out.keep hb)
          replace Hx0 := Lib.hid (own_keep Hx0.out hb)
          replace X0 := Lib.hid ((hb.block _ (Array.getElem?_eq_some_iff.1 X0.out).1).trans X0.out)
          replace Hx1 := Lib.hid (Hx1.out.keep hb)
          replace X1 := Lib.hid ((hb.block _ (Array.getElem?_eq_some_iff.1 X1.out).1).trans X1.out)
          replace Hx2 := Lib.hid (own_keep Hx2.out hb)
          replace Oi0 := Lib.hid (Oi0.out.keep hb)
          replace Ri0 := Lib.hid ((hb.block _ (Array.getElem?_eq_some_iff.1 Ri0.out).1).trans Ri0.out)
          clear hb
          obtain ⟨z0_0, z0_1, z0_2, z0_3⟩ := cell4_row A0.out
          obtain ⟨z1_0, z1_1, z1_2, z1_3⟩ := cell4_row X0.out
          go_wp2
          go_region_with (first | (go_at_call 11; replace C0 := Lib.hid C0.out.drew; replace A0 := Lib.hid (drew_block A0.out); replace A1 := Lib.hid (drew_block A1.out); replace Rs0 := Lib.hid (drew_block Rs0.out); replace Os0 := Lib.hid Os0.out.drew; replace Hx0 := Lib.hid Hx0.out.drew; replace X0 := Lib.hid (drew_block X0.out); replace Hx1 := Lib.hid Hx1.out.drew; replace X1 := Lib.hid (drew_block X1.out); replace Hx2 := Lib.hid Hx2.out.drew; replace Oi0 := Lib.hid Oi0.out.drew; replace Ri0 := Lib.hid (drew_block Ri0.out); refine (to_Program vw0 vm0 vi0 L0 _ _ (IS0.out.below C0.out) (by omega)).mono ?_; rintro e v13 ⟨ge, rfl, hh, hb⟩; replace C0 := Lib.hid (C0.out.trans (hb.mono C0.out.size)); replace A0 := Lib.hid ((hb.block _ (Array.getElem?_eq_some_iff.1 A0.out).1).trans A0.out); replace A1 := Lib.hid ((hb.block _ (Array.getElem?_eq_some_iff.1 A1.out).1).trans A1.out); replace Rs0 := Lib.hid ((hb.block _ (Array.getElem?_eq_some_iff.1 Rs0.out).1).trans Rs0.out); replace Os0 := Lib.hid (Os0.out.keep hb); replace Hx0 := Lib.hid (own_keep Hx0.out hb); replace X0 := Lib.hid ((hb.block _ (Array.getElem?_eq_some_iff.1 X0.out).1).trans X0.out); replace Hx1 := Lib.hid (Hx1.out.keep hb); replace X1 := Lib.hid ((hb.block _ (Array.getElem?_eq_some_iff.1 X1.out).1).trans X1.out); replace Hx2 := Lib.hid (own_keep Hx2.out hb); replace Oi0 := Lib.hid (Oi0.out.keep hb); replace Ri0 := Lib.hid ((hb.block _ (Array.getElem?_eq_some_iff.1 Ri0.out).1).trans Ri0.out); have HR := Lib.hid ((Cs.shows_of_owns hh).down (Nat.zero_le _)); obtain ⟨z1_0, z1_1, z1_2, z1_3⟩ := cell4_row X0.out; clear hh hb) | (go_at_call 14; refine (eq_Program vw0 vm0 vi0 L0 _ _ _ ((Cs.shows_of_owns Hx0.out).down (Nat.zero_le _)) HR.out (by omega)).mono ?_; rintro e v14 ⟨rfl, hb⟩; replace C0 := Lib.hid (C0.out.trans (hb.mono C0.out.size)); replace A0 := Lib.hid ((hb.block _ (Array.getElem?_eq_some_iff.1 A0.out).1).trans A0.out); replace A1 := Lib.hid ((hb.block _ (Array.getElem?_eq_some_iff.1 A1.out).1).trans A1.out); replace Rs0 := Lib.hid ((hb.block _ (Array.getElem?_eq_some_iff.1 Rs0.out).1).trans Rs0.out); replace Os0 := Lib.hid (Os0.out.keep hb); replace Hx0 := Lib.hid (own_keep Hx0.out hb); replace X0 := Lib.hid ((hb.block _ (Array.getElem?_eq_some_iff.1 X0.out).1).trans X0.out); replace Hx1 := Lib.hid (Hx1.out.keep hb); replace X1 := Lib.hid ((hb.block _ (Array.getElem?_eq_some_iff.1 X1.out).1).trans X1.out); replace Hx2 := Lib.hid (own_keep Hx2.out hb); replace Oi0 := Lib.hid (Oi0.out.keep hb); replace Ri0 := Lib.hid ((hb.block _ (Array.getElem?_eq_some_iff.1 Ri0.out).1).trans Ri0.out); clear hb HR))
          all_goals
            clear z0_0 z0_1 z0_2 z0_3 z1_0 z1_1 z1_2 z1_3
            obtain ⟨z0_0, z0_1, z0_2, z0_3, z0_4, z0_5, z0_6, z0_7⟩ := cell8_row A1.out
            obtain ⟨z1_0, z1_1, z1_2, z1_3, z1_4, z1_5, z1_6, z1_7⟩ := cell8_row X1.out
            go_wp2
            go_region_with (first | (go_at_call 20; replace C0 := Lib.hid C0.out.drew; replace A0 := Lib.hid (drew_block A0.out); replace A1 := Lib.hid (drew_block A1.out); replace Rs0 := Lib.hid (drew_block Rs0.out); replace Os0 := Lib.hid Os0.out.drew; replace Hx0 := Lib.hid Hx0.out.drew; replace X0 := Lib.hid (drew_block X0.out); replace Hx1 := Lib.hid Hx1.out.drew; replace X1 := Lib.hid (drew_block X1.out); replace Hx2 := Lib.hid Hx2.out.drew; replace Oi0 := Lib.hid Oi0.out.drew; replace Ri0 := Lib.hid (drew_block Ri0.out); refine (to_State x1 _ _ _ _ _ (IS1.out.below C0.out) (by omega)).mono ?_; rintro e v15 ⟨gre, gme, gse, goe, rfl, hh, hb⟩; replace C0 := Lib.hid (C0.out.trans (hb.mono C0.out.size)); replace A0 := Lib.hid ((hb.block _ (Array.getElem?_eq_some_iff.1 A0.out).1).trans A0.out); replace A1 := Lib.hid ((hb.block _ (Array.getElem?_eq_some_iff.1 A1.out).1).trans A1.out); replace Rs0 := Lib.hid ((hb.block _ (Array.getElem?_eq_some_iff.1 Rs0.out).1).trans Rs0.out); replace Os0 := Lib.hid (Os0.out.keep hb); replace Hx0 := Lib.hid (own_keep Hx0.out hb); replace X0 := Lib.hid ((hb.block _ (Array.getElem?_eq_some_iff.1 X0.out).1).trans X0.out); replace Hx1 := Lib.hid (Hx1.out.keep hb); replace X1 := Lib.hid ((hb.block _ (Array.getElem?_eq_some_iff.1 X1.out).1).trans X1.out); replace Hx2 := Lib.hid (own_keep Hx2.out hb); replace Oi0 := Lib.hid (Oi0.out.keep hb); replace Ri0 := Lib.hid ((hb.block _ (Array.getElem?_eq_some_iff.1 Ri0.out).1).trans Ri0.out); have HR := Lib.hid (hh.shows); obtain ⟨z1_0, z1_1, z1_2, z1_3, z1_4, z1_5, z1_6, z1_7⟩ := cell8_row X1.out; clear hh hb) | (go_at_call 23; refine (eq_State x1 _ _ _ _ _ _ _ _ _ (Hx1.out.shows) HR.out (by omega)).mono ?_; rintro e v16 ⟨rfl, hb⟩; replace C0 := Lib.hid (C0.out.trans (hb.mono C0.out.size)); replace A0 := Lib.hid ((hb.block _ (Array.getElem?_eq_some_iff.1 A0.out).1).trans A0.out); replace A1 := Lib.hid ((hb.block _ (Array.getElem?_eq_some_iff.1 A1.out).1).trans A1.out); replace Rs0 := Lib.hid ((hb.block _ (Array.getElem?_eq_some_iff.1 Rs0.out).1).trans Rs0.out); replace Os0 := Lib.hid (Os0.out.keep hb); replace Hx0 := Lib.hid (own_keep Hx0.out hb); replace X0 := Lib.hid ((hb.block _ (Array.getElem?_eq_some_iff.1 X0.out).1).trans X0.out); replace Hx1 := Lib.hid (Hx1.out.keep hb); replace X1 := Lib.hid ((hb.block _ (Array.getElem?_eq_some_iff.1 X1.out).1).trans X1.out); replace Hx2 := Lib.hid (own_keep Hx2.out hb); replace Oi0 := Lib.hid (Oi0.out.keep hb); replace Ri0 := Lib.hid ((hb.block _ (Array.getElem?_eq_some_iff.1 Ri0.out).1).trans Ri0.out); clear hb HR))
            all_goals
              clear z0_0 z0_1 z0_2 z0_3 z0_4 z0_5 z0_6 z0_7 z1_0 z1_1 z1_2 z1_3 z1_4 z1_5 z1_6 z1_7
              go_wp2_with fail
              refine (to_Int L2 _ _ (IS2.out.below C0.out) (by omega)).mono ?_
              rintro e v17 ⟨ge2, rfl, hh, hb⟩
              have He2 := Lib.hid hh
              clear hh
              have Z17 := Lib.hid hb.size
              replace C0 := Lib.hid (C0.out.trans (hb.mono C0.out.size))
              replace A0 := Lib.hid ((hb.block _ (Array.getElem?_eq_some_iff.1 A0.out).1).trans A0.out)
              replace A1 := Lib.hid ((hb.block _ (Array.getElem?_eq_some_iff.1 A1.out).1).trans A1.out)
              replace Rs0 := Lib.hid ((hb.block _ (Array.getElem?_eq_some_iff.1 Rs0.out).1).trans Rs0.out)
              replace Os0 := Lib.hid (Os0.out.keep hb)
              replace Hx0 := Lib.hid (own_keep Hx0.out hb)
              replace X0 := Lib.hid ((hb.block _ (Array.getElem?_eq_some_iff.1 X0.out).1).trans X0.out)
              replace Hx1 := Lib.hid (Hx1.out.keep hb)
              replace X1 := Lib.hid ((hb.block _ (Array.getElem?_eq_some_iff.1 X1.out).1).trans X1.out)
              replace Hx2 := Lib.hid (own_keep Hx2.out hb)
              replace Oi0 := Lib.hid (Oi0.out.keep hb)
              replace Ri0 := Lib.hid ((hb.block _ (Array.getElem?_eq_some_iff.1 Ri0.out).1).trans Ri0.out)
              clear hb
              have IHe2 := Lib.hid (fun g (hg : g ∈ (Value.slice (some ⟨ge2, 0, none⟩) L2.length L2.length).ownBlock.toList) => (own_lt He2.out hg))
              go_wp2_with fail
              refine (eq_Int L2 _ _ _ ((Cs.shows_of_owns Hx2.out).down (Nat.zero_le _)) ((Cs.shows_of_owns He2.out).down (Nat.zero_le _)) (by omega)).mono ?_
              rintro e v18 ⟨rfl, hb⟩
              have Z18 := Lib.hid hb.size
              replace C0 := Lib.hid (C0.out.trans (hb.mono C0.out.size))
              replace A0 := Lib.hid ((hb.block _ (Array.getElem?_eq_some_iff.1 A0.out).1).trans A0.out)
              replace A1 := Lib.hid ((hb.block _ (Array.getElem?_eq_some_iff.1 A1.out).1).trans A1.out)
              replace Rs0 := Lib.hid ((hb.block _ (Array.getElem?_eq_some_iff.1 Rs0.out).1).trans Rs0.out)
              replace Os0 := Lib.hid (Os0.out.keep hb)
              replace Hx0 := Lib.hid (own_keep Hx0.out hb)
              replace X0 := Lib.hid ((hb.block _ (Array.getElem?_eq_some_iff.1 X0.out).1).trans X0.out)
              replace Hx1 := Lib.hid (Hx1.out.keep hb)
              replace X1 := Lib.hid ((hb.block _ (Array.getElem?_eq_some_iff.1 X1.out).1).trans X1.out)
              replace Hx2 := Lib.hid (own_keep Hx2.out hb)
              replace Oi0 := Lib.hid (Oi0.out.keep hb)
              replace Ri0 := Lib.hid ((hb.block _ (Array.getElem?_eq_some_iff.1 Ri0.out).1).trans Ri0.out)
              replace He2 := Lib.hid (own_keep He2.out hb)
              clear hb
              clear He2
              obtain ⟨z0_0, z0_1, z0_2, z0_3⟩ := cell4_row X0.out
              go_wp2_with fail
              clear z0_0 z0_1 z0_2 z0_3
              refine (mark_Program vw0 vm0 vi0 L0 _ _ 1 _ _ Hx0.out (by omega) (by omega)).mono ?_
              rintro e v19 ⟨rfl, hh, hap⟩
              skip
              clear hh
              replace C0 := Lib.hid (C0.out.trans (hap.below C0.out.size (fun g hg => by have x1 := IHx0.out _ hg; have y0 := Z0.out; have y1 := BA1.out; have y2 := Z2.out; have y3 := Z3.out; have y4 := Z4.out; have y5 := BRs0.out; have y6 := Z6.out; have y7 := Z7.out; have y8 := BX0.out; have y9 := Z9.out; have y10 := Z10.out; have y11 := BX1.out; have y12 := Z12.out; have y13 := Z13.out; have y14 := Z14.out; have y15 := BRi0.out; have y16 := Z16.out; have y17 := Z17.out; have y18 := Z18.out; omega)))
              replace A0 := Lib.hid ((hap.block _ (Array.getElem?_eq_some_iff.1 A0.out).1 (fun hm => by have x1 := IHx0.out _ hm; have y0 := Z0.out; have y1 := BA1.out; have y2 := Z2.out; have y3 := Z3.out; have y4 := Z4.out; have y5 := BRs0.out; have y6 := Z6.out; have y7 := Z7.out; have y8 := BX0.out; have y9 := Z9.out; have y10 := Z10.out; have y11 := BX1.out; have y12 := Z12.out; have y13 := Z13.out; have y14 := Z14.out; have y15 := BRi0.out; have y16 := Z16.out; have y17 := Z17.out; have y18 := Z18.out; omega)).trans A0.out)
              replace A1 := Lib.hid ((hap.block _ (Array.getElem?_eq_some_iff.1 A1.out).1 (fun hm => by have x1 := IHx0.out _ hm; have y0 := Z0.out; have y1 := BA1.out; have y2 := Z2.out; have y3 := Z3.out; have y4 := Z4.out; have y5 := BRs0.out; have y6 := Z6.out; have y7 := Z7.out; have y8 := BX0.out; have y9 := Z9.out; have y10 := Z10.out; have y11 := BX1.out; have y12 := Z12.out; have y13 := Z13.out; have y14 := Z14.out; have y15 := BRi0.out; have y16 := Z16.out; have y17 := Z17.out; have y18 := Z18.out; omega)).trans A1.out)
              replace Rs0 := Lib.hid ((hap.block _ (Array.getElem?_eq_some_iff.1 Rs0.out).1 (fun hm => by have x1 := IHx0.out _ hm; have y0 := Z0.out; have y1 := BA1.out; have y2 := Z2.out; have y3 := Z3.out; have y4 := Z4.out; have y5 := BRs0.out; have y6 := Z6.out; have y7 := Z7.out; have y8 := BX0.out; have y9 := Z9.out; have y10 := Z10.out; have y11 := BX1.out; have y12 := Z12.out; have y13 := Z13.out; have y14 := Z14.out; have y15 := BRi0.out; have y16 := Z16.out; have y17 := Z17.out; have y18 := Z18.out; omega)).trans Rs0.out)
              replace Os0 := Lib.hid (Os0.out.same (fun g hg => hap.block g (Os0.out.lt hg).2 (fun hm => by have x1 := IHx0.out _ hm; have y0 := Z0.out; have y1 := BA1.out; have y2 := Z2.out; have y3 := Z3.out; have y4 := Z4.out; have y5 := BRs0.out; have y6 := Z6.out; have y7 := Z7.out; have y8 := BX0.out; have y9 := Z9.out; have y10 := Z10.out; have y11 := BX1.out; have y12 := Z12.out; have y13 := Z13.out; have y14 := Z14.out; have y15 := BRi0.out; have y16 := Z16.out; have y17 := Z17.out; have y18 := Z18.out; have x2 := IOs0.out _ hg; omega)))
              replace X0 := Lib.hid ((hap.block _ (Array.getElem?_eq_some_iff.1 X0.out).1 (fun hm => by have x1 := IHx0.out _ hm; have y0 := Z0.out; have y1 := BA1.out; have y2 := Z2.out; have y3 := Z3.out; have y4 := Z4.out; have y5 := BRs0.out; have y6 := Z6.out; have y7 := Z7.out; have y8 := BX0.out; have y9 := Z9.out; have y10 := Z10.out; have y11 := BX1.out; have y12 := Z12.out; have y13 := Z13.out; have y14 := Z14.out; have y15 := BRi0.out; have y16 := Z16.out; have y17 := Z17.out; have y18 := Z18.out; omega)).trans X0.out)
              replace Hx1 := Lib.hid (Hx1.out.same (fun g hg => hap.block g (Hx1.out.lt hg).2 (fun hm => by have x1 := IHx0.out _ hm; have y0 := Z0.out; have y1 := BA1.out; have y2 := Z2.out; have y3 := Z3.out; have y4 := Z4.out; have y5 := BRs0.out; have y6 := Z6.out; have y7 := Z7.out; have y8 := BX0.out; have y9 := Z9.out; have y10 := Z10.out; have y11 := BX1.out; have y12 := Z12.out; have y13 := Z13.out; have y14 := Z14.out; have y15 := BRi0.out; have y16 := Z16.out; have y17 := Z17.out; have y18 := Z18.out; have x2 := IHx1.out _ hg; omega)))
              replace X1 := Lib.hid ((hap.block _ (Array.getElem?_eq_some_iff.1 X1.out).1 (fun hm => by have x1 := IHx0.out _ hm; have y0 := Z0.out; have y1 := BA1.out; have y2 := Z2.out; have y3 := Z3.out; have y4 := Z4.out; have y5 := BRs0.out; have y6 := Z6.out; have y7 := Z7.out; have y8 := BX0.out; have y9 := Z9.out; have y10 := Z10.out; have y11 := BX1.out; have y12 := Z12.out; have y13 := Z13.out; have y14 := Z14.out; have y15 := BRi0.out; have y16 := Z16.out; have y17 := Z17.out; have y18 := Z18.out; omega)).trans X1.out)
              replace Hx2 := Lib.hid (own_same Hx2.out (fun g hg => hap.block g (own_lt Hx2.out hg).2 (fun hm => by have x1 := IHx0.out _ hm; have y0 := Z0.out; have y1 := BA1.out; have y2 := Z2.out; have y3 := Z3.out; have y4 := Z4.out; have y5 := BRs0.out; have y6 := Z6.out; have y7 := Z7.out; have y8 := BX0.out; have y9 := Z9.out; have y10 := Z10.out; have y11 := BX1.out; have y12 := Z12.out; have y13 := Z13.out; have y14 := Z14.out; have y15 := BRi0.out; have y16 := Z16.out; have y17 := Z17.out; have y18 := Z18.out; have x2 := IHx2.out _ hg; omega)))
              replace Oi0 := Lib.hid (Oi0.out.same (fun g hg => hap.block g (Oi0.out.lt hg).2 (fun hm => by have x1 := IHx0.out _ hm; have y0 := Z0.out; have y1 := BA1.out; have y2 := Z2.out; have y3 := Z3.out; have y4 := Z4.out; have y5 := BRs0.out; have y6 := Z6.out; have y7 := Z7.out; have y8 := BX0.out; have y9 := Z9.out; have y10 := Z10.out; have y11 := BX1.out; have y12 := Z12.out; have y13 := Z13.out; have y14 := Z14.out; have y15 := BRi0.out; have y16 := Z16.out; have y17 := Z17.out; have y18 := Z18.out; have x2 := IOi0.out _ hg; omega)))
              replace Ri0 := Lib.hid ((hap.block _ (Array.getElem?_eq_some_iff.1 Ri0.out).1 (fun hm => by have x1 := IHx0.out _ hm; have y0 := Z0.out; have y1 := BA1.out; have y2 := Z2.out; have y3 := Z3.out; have y4 := Z4.out; have y5 := BRs0.out; have y6 := Z6.out; have y7 := Z7.out; have y8 := BX0.out; have y9 := Z9.out; have y10 := Z10.out; have y11 := BX1.out; have y12 := Z12.out; have y13 := Z13.out; have y14 := Z14.out; have y15 := BRi0.out; have y16 := Z16.out; have y17 := Z17.out; have y18 := Z18.out; omega)).trans Ri0.out)
              clear hap
              clear Hx0
              clear X0
              obtain ⟨z0_0, z0_1, z0_2, z0_3, z0_4, z0_5, z0_6, z0_7⟩ := cell8_row X1.out
              go_wp2_with fail
              clear z0_0 z0_1 z0_2 z0_3 z0_4 z0_5 z0_6 z0_7
              refine (mark_State x1 _ _ _ _ (1 + 4 * L0.length) _ _ Hx1.out (by omega) (by omega)).mono ?_
              rintro e v20 ⟨rfl, hh, hap⟩
              skip
              clear hh
              replace C0 := Lib.hid (C0.out.trans (hap.below C0.out.size (fun g hg => by have x1 := IHx1.out _ hg; have y0 := Z0.out; have y1 := BA1.out; have y2 := Z2.out; have y3 := Z3.out; have y4 := Z4.out; have y5 := BRs0.out; have y6 := Z6.out; have y7 := Z7.out; have y8 := BX0.out; have y9 := Z9.out; have y10 := Z10.out; have y11 := BX1.out; have y12 := Z12.out; have y13 := Z13.out; have y14 := Z14.out; have y15 := BRi0.out; have y16 := Z16.out; have y17 := Z17.out; have y18 := Z18.out; omega)))
              replace A0 := Lib.hid ((hap.block _ (Array.getElem?_eq_some_iff.1 A0.out).1 (fun hm => by have x1 := IHx1.out _ hm; have y0 := Z0.out; have y1 := BA1.out; have y2 := Z2.out; have y3 := Z3.out; have y4 := Z4.out; have y5 := BRs0.out; have y6 := Z6.out; have y7 := Z7.out; have y8 := BX0.out; have y9 := Z9.out; have y10 := Z10.out; have y11 := BX1.out; have y12 := Z12.out; have y13 := Z13.out; have y14 := Z14.out; have y15 := BRi0.out; have y16 := Z16.out; have y17 := Z17.out; have y18 := Z18.out; omega)).trans A0.out)
              replace A1 := Lib.hid ((hap.block _ (Array.getElem?_eq_some_iff.1 A1.out).1 (fun hm => by have x1 := IHx1.out _ hm; have y0 := Z0.out; have y1 := BA1.out; have y2 := Z2.out; have y3 := Z3.out; have y4 := Z4.out; have y5 := BRs0.out; have y6 := Z6.out; have y7 := Z7.out; have y8 := BX0.out; have y9 := Z9.out; have y10 := Z10.out; have y11 := BX1.out; have y12 := Z12.out; have y13 := Z13.out; have y14 := Z14.out; have y15 := BRi0.out; have y16 := Z16.out; have y17 := Z17.out; have y18 := Z18.out; omega)).trans A1.out)
              replace Rs0 := Lib.hid ((hap.block _ (Array.getElem?_eq_some_iff.1 Rs0.out).1 (fun hm => by have x1 := IHx1.out _ hm; have y0 := Z0.out; have y1 := BA1.out; have y2 := Z2.out; have y3 := Z3.out; have y4 := Z4.out; have y5 := BRs0.out; have y6 := Z6.out; have y7 := Z7.out; have y8 := BX0.out; have y9 := Z9.out; have y10 := Z10.out; have y11 := BX1.out; have y12 := Z12.out; have y13 := Z13.out; have y14 := Z14.out; have y15 := BRi0.out; have y16 := Z16.out; have y17 := Z17.out; have y18 := Z18.out; omega)).trans Rs0.out)
              replace Os0 := Lib.hid (Os0.out.same (fun g hg => hap.block g (Os0.out.lt hg).2 (fun hm => by have x1 := IHx1.out _ hm; have y0 := Z0.out; have y1 := BA1.out; have y2 := Z2.out; have y3 := Z3.out; have y4 := Z4.out; have y5 := BRs0.out; have y6 := Z6.out; have y7 := Z7.out; have y8 := BX0.out; have y9 := Z9.out; have y10 := Z10.out; have y11 := BX1.out; have y12 := Z12.out; have y13 := Z13.out; have y14 := Z14.out; have y15 := BRi0.out; have y16 := Z16.out; have y17 := Z17.out; have y18 := Z18.out; have x2 := IOs0.out _ hg; omega)))
              replace X1 := Lib.hid ((hap.block _ (Array.getElem?_eq_some_iff.1 X1.out).1 (fun hm => by have x1 := IHx1.out _ hm; have y0 := Z0.out; have y1 := BA1.out; have y2 := Z2.out; have y3 := Z3.out; have y4 := Z4.out; have y5 := BRs0.out; have y6 := Z6.out; have y7 := Z7.out; have y8 := BX0.out; have y9 := Z9.out; have y10 := Z10.out; have y11 := BX1.out; have y12 := Z12.out; have y13 := Z13.out; have y14 := Z14.out; have y15 := BRi0.out; have y16 := Z16.out; have y17 := Z17.out; have y18 := Z18.out; omega)).trans X1.out)
              replace Hx2 := Lib.hid (own_same Hx2.out (fun g hg => hap.block g (own_lt Hx2.out hg).2 (fun hm => by have x1 := IHx1.out _ hm; have y0 := Z0.out; have y1 := BA1.out; have y2 := Z2.out; have y3 := Z3.out; have y4 := Z4.out; have y5 := BRs0.out; have y6 := Z6.out; have y7 := Z7.out; have y8 := BX0.out; have y9 := Z9.out; have y10 := Z10.out; have y11 := BX1.out; have y12 := Z12.out; have y13 := Z13.out; have y14 := Z14.out; have y15 := BRi0.out; have y16 := Z16.out; have y17 := Z17.out; have y18 := Z18.out; have x2 := IHx2.out _ hg; omega)))
              replace Oi0 := Lib.hid (Oi0.out.same (fun g hg => hap.block g (Oi0.out.lt hg).2 (fun hm => by have x1 := IHx1.out _ hm; have y0 := Z0.out; have y1 := BA1.out; have y2 := Z2.out; have y3 := Z3.out; have y4 := Z4.out; have y5 := BRs0.out; have y6 := Z6.out; have y7 := Z7.out; have y8 := BX0.out; have y9 := Z9.out; have y10 := Z10.out; have y11 := BX1.out; have y12 := Z12.out; have y13 := Z13.out; have y14 := Z14.out; have y15 := BRi0.out; have y16 := Z16.out; have y17 := Z17.out; have y18 := Z18.out; have x2 := IOi0.out _ hg; omega)))
              replace Ri0 := Lib.hid ((hap.block _ (Array.getElem?_eq_some_iff.1 Ri0.out).1 (fun hm => by have x1 := IHx1.out _ hm; have y0 := Z0.out; have y1 := BA1.out; have y2 := Z2.out; have y3 := Z3.out; have y4 := Z4.out; have y5 := BRs0.out; have y6 := Z6.out; have y7 := Z7.out; have y8 := BX0.out; have y9 := Z9.out; have y10 := Z10.out; have y11 := BX1.out; have y12 := Z12.out; have y13 := Z13.out; have y14 := Z14.out; have y15 := BRi0.out; have y16 := Z16.out; have y17 := Z17.out; have y18 := Z18.out; omega)).trans Ri0.out)
              clear hap
              clear Hx1
              clear X1
              go_wp2_with fail
              refine (mark_Int L2 _ ((1 + 4 * L0.length) + x1.cost) _ _ Hx2.out (by omega) (by omega)).mono ?_
              rintro e v21 ⟨rfl, hh, hap⟩
              skip
              clear hh
              replace C0 := Lib.hid (C0.out.trans (hap.below C0.out.size (fun g hg => by have x1 := IHx2.out _ hg; have y0 := Z0.out; have y1 := BA1.out; have y2 := Z2.out; have y3 := Z3.out; have y4 := Z4.out; have y5 := BRs0.out; have y6 := Z6.out; have y7 := Z7.out; have y8 := BX0.out; have y9 := Z9.out; have y10 := Z10.out; have y11 := BX1.out; have y12 := Z12.out; have y13 := Z13.out; have y14 := Z14.out; have y15 := BRi0.out; have y16 := Z16.out; have y17 := Z17.out; have y18 := Z18.out; omega)))
              replace A0 := Lib.hid ((hap.block _ (Array.getElem?_eq_some_iff.1 A0.out).1 (fun hm => by have x1 := IHx2.out _ hm; have y0 := Z0.out; have y1 := BA1.out; have y2 := Z2.out; have y3 := Z3.out; have y4 := Z4.out; have y5 := BRs0.out; have y6 := Z6.out; have y7 := Z7.out; have y8 := BX0.out; have y9 := Z9.out; have y10 := Z10.out; have y11 := BX1.out; have y12 := Z12.out; have y13 := Z13.out; have y14 := Z14.out; have y15 := BRi0.out; have y16 := Z16.out; have y17 := Z17.out; have y18 := Z18.out; omega)).trans A0.out)
              replace A1 := Lib.hid ((hap.block _ (Array.getElem?_eq_some_iff.1 A1.out).1 (fun hm => by have x1 := IHx2.out _ hm; have y0 := Z0.out; have y1 := BA1.out; have y2 := Z2.out; have y3 := Z3.out; have y4 := Z4.out; have y5 := BRs0.out; have y6 := Z6.out; have y7 := Z7.out; have y8 := BX0.out; have y9 := Z9.out; have y10 := Z10.out; have y11 := BX1.out; have y12 := Z12.out; have y13 := Z13.out; have y14 := Z14.out; have y15 := BRi0.out; have y16 := Z16.out; have y17 := Z17.out; have y18 := Z18.out; omega)).trans A1.out)
              replace Rs0 := Lib.hid ((hap.block _ (Array.getElem?_eq_some_iff.1 Rs0.out).1 (fun hm => by have x1 := IHx2.out _ hm; have y0 := Z0.out; have y1 := BA1.out; have y2 := Z2.out; have y3 := Z3.out; have y4 := Z4.out; have y5 := BRs0.out; have y6 := Z6.out; have y7 := Z7.out; have y8 := BX0.out; have y9 := Z9.out; have y10 := Z10.out; have y11 := BX1.out; have y12 := Z12.out; have y13 := Z13.out; have y14 := Z14.out; have y15 := BRi0.out; have y16 := Z16.out; have y17 := Z17.out; have y18 := Z18.out; omega)).trans Rs0.out)
              replace Os0 := Lib.hid (Os0.out.same (fun g hg => hap.block g (Os0.out.lt hg).2 (fun hm => by have x1 := IHx2.out _ hm; have y0 := Z0.out; have y1 := BA1.out; have y2 := Z2.out; have y3 := Z3.out; have y4 := Z4.out; have y5 := BRs0.out; have y6 := Z6.out; have y7 := Z7.out; have y8 := BX0.out; have y9 := Z9.out; have y10 := Z10.out; have y11 := BX1.out; have y12 := Z12.out; have y13 := Z13.out; have y14 := Z14.out; have y15 := BRi0.out; have y16 := Z16.out; have y17 := Z17.out; have y18 := Z18.out; have x2 := IOs0.out _ hg; omega)))
              replace Oi0 := Lib.hid (Oi0.out.same (fun g hg => hap.block g (Oi0.out.lt hg).2 (fun hm => by have x1 := IHx2.out _ hm; have y0 := Z0.out; have y1 := BA1.out; have y2 := Z2.out; have y3 := Z3.out; have y4 := Z4.out; have y5 := BRs0.out; have y6 := Z6.out; have y7 := Z7.out; have y8 := BX0.out; have y9 := Z9.out; have y10 := Z10.out; have y11 := BX1.out; have y12 := Z12.out; have y13 := Z13.out; have y14 := Z14.out; have y15 := BRi0.out; have y16 := Z16.out; have y17 := Z17.out; have y18 := Z18.out; have x2 := IOi0.out _ hg; omega)))
              replace Ri0 := Lib.hid ((hap.block _ (Array.getElem?_eq_some_iff.1 Ri0.out).1 (fun hm => by have x1 := IHx2.out _ hm; have y0 := Z0.out; have y1 := BA1.out; have y2 := Z2.out; have y3 := Z3.out; have y4 := Z4.out; have y5 := BRs0.out; have y6 := Z6.out; have y7 := Z7.out; have y8 := BX0.out; have y9 := Z9.out; have y10 := Z10.out; have y11 := BX1.out; have y12 := Z12.out; have y13 := Z13.out; have y14 := Z14.out; have y15 := BRi0.out; have y16 := Z16.out; have y17 := Z17.out; have y18 := Z18.out; omega)).trans Ri0.out)
              clear hap
              clear Hx2
              obtain ⟨z0_0, z0_1, z0_2, z0_3, z0_4, z0_5, z0_6, z0_7⟩ := cell8_row Ri0.out
              obtain ⟨z1_0, z1_1, z1_2, z1_3, z1_4, z1_5, z1_6, z1_7⟩ := cell8_row Rs0.out
              go_wp2_with fail
              clear z0_0 z0_1 z0_2 z0_3 z0_4 z0_5 z0_6 z0_7 z1_0 z1_1 z1_2 z1_3 z1_4 z1_5 z1_6 z1_7
              refine (eq_State x _ _ _ _ _ _ _ _ _ (Oi0.out.shows) (Os0.out.shows) (by omega)).mono ?_
              rintro e v22 ⟨rfl, hb⟩
              have Z19 := Lib.hid hb.size
              replace C0 := Lib.hid (C0.out.trans (hb.mono C0.out.size))
              replace A0 := Lib.hid ((hb.block _ (Array.getElem?_eq_some_iff.1 A0.out).1).trans A0.out)
              replace A1 := Lib.hid ((hb.block _ (Array.getElem?_eq_some_iff.1 A1.out).1).trans A1.out)
              replace Rs0 := Lib.hid ((hb.block _ (Array.getElem?_eq_some_iff.1 Rs0.out).1).trans Rs0.out)
              replace Os0 := Lib.hid (Os0.out.keep hb)
              replace Oi0 := Lib.hid (Oi0.out.keep hb)
              replace Ri0 := Lib.hid ((hb.block _ (Array.getElem?_eq_some_iff.1 Ri0.out).1).trans Ri0.out)
              clear hb
              obtain ⟨z0_0, z0_1, z0_2, z0_3, z0_4, z0_5, z0_6, z0_7⟩ := cell8_row Ri0.out
              go_wp2_with fail
              clear z0_0 z0_1 z0_2 z0_3 z0_4 z0_5 z0_6 z0_7
              refine (mark_State x _ _ _ _ 1 _ _ Oi0.out (by omega) (by omega)).mono ?_
              rintro e v23 ⟨rfl, hh, hap⟩
              have M0 := Lib.hid hh
              clear hh
              replace C0 := Lib.hid (C0.out.trans (hap.below C0.out.size (fun g hg => by have x1 := IOi0.out _ hg; have y0 := Z0.out; have y1 := BA1.out; have y2 := Z2.out; have y3 := Z3.out; have y4 := Z4.out; have y5 := BRs0.out; have y6 := Z6.out; have y7 := Z7.out; have y8 := BX0.out; have y9 := Z9.out; have y10 := Z10.out; have y11 := BX1.out; have y12 := Z12.out; have y13 := Z13.out; have y14 := Z14.out; have y15 := BRi0.out; have y16 := Z16.out; have y17 := Z17.out; have y18 := Z18.out; have y19 := Z19.out; omega)))
              replace A0 := Lib.hid ((hap.block _ (Array.getElem?_eq_some_iff.1 A0.out).1 (fun hm => by have x1 := IOi0.out _ hm; have y0 := Z0.out; have y1 := BA1.out; have y2 := Z2.out; have y3 := Z3.out; have y4 := Z4.out; have y5 := BRs0.out; have y6 := Z6.out; have y7 := Z7.out; have y8 := BX0.out; have y9 := Z9.out; have y10 := Z10.out; have y11 := BX1.out; have y12 := Z12.out; have y13 := Z13.out; have y14 := Z14.out; have y15 := BRi0.out; have y16 := Z16.out; have y17 := Z17.out; have y18 := Z18.out; have y19 := Z19.out; omega)).trans A0.out)
              replace A1 := Lib.hid ((hap.block _ (Array.getElem?_eq_some_iff.1 A1.out).1 (fun hm => by have x1 := IOi0.out _ hm; have y0 := Z0.out; have y1 := BA1.out; have y2 := Z2.out; have y3 := Z3.out; have y4 := Z4.out; have y5 := BRs0.out; have y6 := Z6.out; have y7 := Z7.out; have y8 := BX0.out; have y9 := Z9.out; have y10 := Z10.out; have y11 := BX1.out; have y12 := Z12.out; have y13 := Z13.out; have y14 := Z14.out; have y15 := BRi0.out; have y16 := Z16.out; have y17 := Z17.out; have y18 := Z18.out; have y19 := Z19.out; omega)).trans A1.out)
              replace Rs0 := Lib.hid ((hap.block _ (Array.getElem?_eq_some_iff.1 Rs0.out).1 (fun hm => by have x1 := IOi0.out _ hm; have y0 := Z0.out; have y1 := BA1.out; have y2 := Z2.out; have y3 := Z3.out; have y4 := Z4.out; have y5 := BRs0.out; have y6 := Z6.out; have y7 := Z7.out; have y8 := BX0.out; have y9 := Z9.out; have y10 := Z10.out; have y11 := BX1.out; have y12 := Z12.out; have y13 := Z13.out; have y14 := Z14.out; have y15 := BRi0.out; have y16 := Z16.out; have y17 := Z17.out; have y18 := Z18.out; have y19 := Z19.out; omega)).trans Rs0.out)
              replace Os0 := Lib.hid (Os0.out.same (fun g hg => hap.block g (Os0.out.lt hg).2 (fun hm => by have x1 := IOi0.out _ hm; have y0 := Z0.out; have y1 := BA1.out; have y2 := Z2.out; have y3 := Z3.out; have y4 := Z4.out; have y5 := BRs0.out; have y6 := Z6.out; have y7 := Z7.out; have y8 := BX0.out; have y9 := Z9.out; have y10 := Z10.out; have y11 := BX1.out; have y12 := Z12.out; have y13 := Z13.out; have y14 := Z14.out; have y15 := BRi0.out; have y16 := Z16.out; have y17 := Z17.out; have y18 := Z18.out; have y19 := Z19.out; have x2 := IOs0.out _ hg; omega)))
              replace Ri0 := Lib.hid ((hap.block _ (Array.getElem?_eq_some_iff.1 Ri0.out).1 (fun hm => by have x1 := IOi0.out _ hm; have y0 := Z0.out; have y1 := BA1.out; have y2 := Z2.out; have y3 := Z3.out; have y4 := Z4.out; have y5 := BRs0.out; have y6 := Z6.out; have y7 := Z7.out; have y8 := BX0.out; have y9 := Z9.out; have y10 := Z10.out; have y11 := BX1.out; have y12 := Z12.out; have y13 := Z13.out; have y14 := Z14.out; have y15 := BRi0.out; have y16 := Z16.out; have y17 := Z17.out; have y18 := Z18.out; have y19 := Z19.out; omega)).trans Ri0.out)
              clear hap
              clear Oi0
              have IM0 := IOi0
              obtain ⟨z0_0, z0_1, z0_2, z0_3, z0_4, z0_5, z0_6, z0_7⟩ := cell8_row Ri0.out
              go_wp2_with fail
              clear z0_0 z0_1 z0_2 z0_3 z0_4 z0_5 z0_6 z0_7
              refine (held_State x _ _ _ _ 1 _ M0.out.shows (by omega) (by omega)).mono ?_
              rintro e v24 ⟨rfl, hb⟩
              have Z20 := Lib.hid hb.size
              replace C0 := Lib.hid (C0.out.trans (hb.mono C0.out.size))
              replace A0 := Lib.hid ((hb.block _ (Array.getElem?_eq_some_iff.1 A0.out).1).trans A0.out)
              replace A1 := Lib.hid ((hb.block _ (Array.getElem?_eq_some_iff.1 A1.out).1).trans A1.out)
              replace Rs0 := Lib.hid ((hb.block _ (Array.getElem?_eq_some_iff.1 Rs0.out).1).trans Rs0.out)
              replace Os0 := Lib.hid (Os0.out.keep hb)
              replace Ri0 := Lib.hid ((hb.block _ (Array.getElem?_eq_some_iff.1 Ri0.out).1).trans Ri0.out)
              replace M0 := Lib.hid (M0.out.keep hb)
              clear hb
              go_upto_region 37 with fail
              go_cut [16] from 94 to 100 (fun v wx => ∃ g rq rc mq mc sq sc oq oc, v = .pointer (some ⟨g, 0, none⟩) ∧ v24.heap.size ≤ g ∧ wx.heap[g]? = some (.cells #[.int .i64 x.pc, .slice rq x.R.length rc, .slice mq x.M.length mc, .slice sq x.S.length sc, .int .i64 x.inn, .slice oq x.O.length oc, .int .i64 x.cd, .int .i64 x.st] 41 (0, 0)) ∧ StO wx v24.heap.size x (.slice rq x.R.length rc) (.slice mq x.M.length mc) (.slice sq x.S.length sc) (.slice oq x.O.length oc) ∧ Below v24.heap.size v24 wx)
              case first =>
                replace C0 := Lib.hid C0.out.drew
                have CR := Lib.hid (Below.refl v24.drew.heap.size v24.drew)
                have CB := Lib.hid (show Below v24.heap.size v24 v24.drew from (Below.refl _ _).drew)
                refine region_s [8] (fun V => Below v24.drew.heap.size v24.drew V) (by kernel_rfl) ?_
                refine take_s (i := 0) (v := .agg #[.int .i64 vw0, .int .i64 vm0, .int .i64 vi0, .slice q0 L0.length cap0]) rfl (by kernel_rfl) (fun _ _ _ h => h) CR.out rfl (fun V hV => ?_) ?_
                · obtain ⟨z0, z1, z2, z3⟩ := cell4_row ((hV.block _ (Array.getElem?_eq_some_iff.1 A0.out).1).trans A0.out)
                  go_simp
                refine take_s (i := 2) (v := .agg #[.int .i64 x1.pc, .slice qr1 x1.R.length cr1, .slice qm1 x1.M.length cm1, .slice qs1 x1.S.length cs1, .int .i64 x1.inn, .slice qo1 x1.O.length co1, .int .i64 x1.cd, .int .i64 x1.st]) rfl (by kernel_rfl) (fun _ _ _ h => h) CR.out rfl (fun V hV => ?_) ?_
                · obtain ⟨z0, z1, z2, z3, z4, z5, z6, z7⟩ := cell8_row ((hV.block _ (Array.getElem?_eq_some_iff.1 A1.out).1).trans A1.out)
                  go_simp
                refine take_s (i := 4) (v := .slice q2 L2.length cap2) rfl (by kernel_rfl) (fun _ _ _ h => h) CR.out rfl (fun V hV => ?_) ?_
                · go_simp
                refine two_s (i := 1) (k := 7) (by kernel_rfl) (op_list rfl ?_) (op_list rfl ?_)
                · go_wp2_with fail
                  refine (to_Program vw0 vm0 vi0 L0 _ _ (IS0.out.below C0.out) (by omega)).mono ?_
                  rintro e v25 ⟨gp0, rfl, hh, hb⟩
                  have Hp0 := Lib.hid hh
                  clear hh
                  have Z21 := Lib.hid hb.size
                  replace C0 := Lib.hid (C0.out.trans (hb.mono C0.out.size))
                  replace CR := Lib.hid (CR.out.trans (hb.mono CR.out.size))
                  replace CB := Lib.hid (CB.out.trans (hb.mono CB.out.size))
                  clear hb
                  go_wp2
                  refine ⟨fun _ => CR.out, ?_⟩
                  refine two_s (i := 3) (k := 7) (by kernel_rfl) (op_list rfl ?_) (op_list rfl ?_)
                  · go_wp2_with fail
                    refine (to_State x1 _ _ _ _ _ (IS1.out.below C0.out) (by omega)).mono ?_
                    rintro e v26 ⟨grp1, gmp1, gsp1, gop1, rfl, hh, hb⟩
                    have Hp1 := Lib.hid hh
                    clear hh
                    have Z22 := Lib.hid hb.size
                    replace C0 := Lib.hid (C0.out.trans (hb.mono C0.out.size))
                    replace CR := Lib.hid (CR.out.trans (hb.mono CR.out.size))
                    replace CB := Lib.hid (CB.out.trans (hb.mono CB.out.size))
                    replace Hp0 := Lib.hid (own_keep Hp0.out hb)
                    clear hb
                    go_wp2
                    refine ⟨fun _ => CR.out, ?_⟩
                    refine two_s (i := 5) (k := 7) (by kernel_rfl) (op_list rfl ?_) (op_list rfl ?_)
                    · go_wp2_with fail
                      refine (to_Int L2 _ _ (IS2.out.below C0.out) (by omega)).mono ?_
                      rintro e v27 ⟨gp2, rfl, hh, hb⟩
                      have Hp2 := Lib.hid hh
                      clear hh
                      have Z23 := Lib.hid hb.size
                      replace C0 := Lib.hid (C0.out.trans (hb.mono C0.out.size))
                      replace CR := Lib.hid (CR.out.trans (hb.mono CR.out.size))
                      replace CB := Lib.hid (CB.out.trans (hb.mono CB.out.size))
                      replace Hp0 := Lib.hid (own_keep Hp0.out hb)
                      replace Hp1 := Lib.hid (Hp1.out.keep hb)
                      clear hb
                      go_wp2
                      refine ⟨fun _ => CR.out, ?_⟩
                      refine two_s (i := 6) (k := 7) (by kernel_rfl) (op_list rfl ?_) (op_list rfl ?_)
                      · go_wp2_with fail
                        refine (KI.out _ _ _ _ _ _ _ ((Cs.shows_of_owns Hp0.out).down (Nat.zero_le _)) (Hp1.out.shows) ((Cs.shows_of_owns Hp2.out).down (Nat.zero_le _))).mono ?_
                        rintro e v28 ⟨hb, rq, rc, mq, mc, sq, sc, oq, oc, rfl, hh⟩
                        have OV := Lib.hid (hh.base (base' := v24.heap.size) (by have := CB.out.size; omega))
                        clear hh
                        have Z24 := Lib.hid hb.size
                        replace C0 := Lib.hid (C0.out.trans (hb.mono C0.out.size))
                        replace CR := Lib.hid (CR.out.trans (hb.mono CR.out.size))
                        replace CB := Lib.hid (CB.out.trans (hb.mono CB.out.size))
                        replace Hp0 := Lib.hid (own_keep Hp0.out hb)
                        replace Hp1 := Lib.hid (Hp1.out.keep hb)
                        replace Hp2 := Lib.hid (own_keep Hp2.out hb)
                        clear hb
                        go_wp2
                        refine ⟨fun _ => CR.out, ?_⟩
                        refine one_s (i := 7) (by kernel_rfl) (op_list rfl ?_)
                        go_wp2
                        obtain ⟨v29, hwa⟩ : ∃ W9, W9 = v28.alloc (.cells #[.int .i64 0, .slice none 0 0, .slice none 0 0, .slice none 0 0, .int .i64 0, .slice none 0 0, .int .i64 0, .int .i64 0] 41) := ⟨_, rfl⟩
                        have hb : Below v28.heap.size v28 v29 := by rw [hwa]; exact (Below.refl v28.heap.size v28).alloc (Nat.le_refl _) (.cells #[.int .i64 0, .slice none 0 0, .slice none 0 0, .slice none 0 0, .int .i64 0, .slice none 0 0, .int .i64 0, .int .i64 0] 41)
                        have hra : v29.heap[v28.heap.size]? = some (.cells #[.int .i64 0, .slice none 0 0, .slice none 0 0, .slice none 0 0, .int .i64 0, .slice none 0 0, .int .i64 0, .int .i64 0] 41 (0, 0)) := by rw [hwa]; exact heap_alloc_new v28 _
                        obtain ⟨b, hbq⟩ : ∃ g, g = v28.heap.size := ⟨_, rfl⟩
                        have hbge : v24.heap.size ≤ b := by have := CB.out.size; omega
                        rw [← hbq] at hra
                        rw [← hwa, ← hbq]
                        clear hwa hbq
                        have RB := Lib.hid hra
                        clear hra
                        have Z25 := Lib.hid hb.size
                        replace C0 := Lib.hid (C0.out.trans (hb.mono C0.out.size))
                        replace CR := Lib.hid (CR.out.trans (hb.mono CR.out.size))
                        replace CB := Lib.hid (CB.out.trans (hb.mono CB.out.size))
                        replace Hp0 := Lib.hid (own_keep Hp0.out hb)
                        replace Hp1 := Lib.hid (Hp1.out.keep hb)
                        replace Hp2 := Lib.hid (own_keep Hp2.out hb)
                        replace OV := Lib.hid (OV.out.keep hb)
                        clear hb
                        refine ⟨fun _ => CR.out, ?_⟩
                        obtain ⟨z0, z1, z2, z3, z4, z5, z6, z7⟩ := cell8_row RB.out
                        obtain ⟨f0, f1, f2, f3, f4, f5, f6, f7⟩ := froz8_row RB.out
                        refine one_s (i := 8) (by kernel_rfl) (op_list rfl ?_)
                        go_wp2
                        refine ⟨late_s (by kernel_rfl), done_s (by kernel_rfl) ?_ _⟩
                        obtain ⟨we, hwe⟩ : ∃ W9, W9 = ((((((((v29.setCell ⟨b, 0, none⟩ (.int .i64 x.pc)).setCell ⟨b, 1, none⟩ (.slice rq x.R.length rc)).setCell ⟨b, 2, none⟩ (.slice mq x.M.length mc)).setCell ⟨b, 3, none⟩ (.slice sq x.S.length sc)).setCell ⟨b, 4, none⟩ (.int .i64 x.inn)).setCell ⟨b, 5, none⟩ (.slice oq x.O.length oc)).setCell ⟨b, 6, none⟩ (.int .i64 x.cd)).setCell ⟨b, 7, none⟩ (.int .i64 x.st)) := ⟨_, rfl⟩
                        have D2 := Lib.hid (show we.heap[b]? = some (.cells #[.int .i64 x.pc, .slice rq x.R.length rc, .slice mq x.M.length mc, .slice sq x.S.length sc, .int .i64 x.inn, .slice oq x.O.length oc, .int .i64 x.cd, .int .i64 x.st] 41 (0, 0)) by rw [hwe]; exact set8_row RB.out _ _ _ _ _ _ _ _)
                        have BE := Lib.hid (show Below v24.heap.size v24 we by rw [hwe]; exact set8_below CB.out hbge _ _ _ _ _ _ _ _)
                        have OE := Lib.hid (show StO we v24.heap.size x _ _ _ _ by rw [hwe]; exact OV.out.set8 (OV.out.off (T := 41) (by decide) RB.out) _ _ _ _ _ _ _ _)
                        rw [← hwe]
                        clear hwe z0 z1 z2 z3 z4 z5 z6 z7 f0 f1 f2 f3 f4 f5 f6 f7
                        go_wp2_with fail
                        go_meet
                        exact ⟨b, rq, rc, mq, mc, sq, sc, oq, oc, rfl, hbge, D2.out, OE.out, BE.out⟩
                      · go_wp2
                        obtain ⟨v28, hwa⟩ : ∃ W9, W9 = v27.alloc (.cells #[.int .i64 0, .slice none 0 0, .slice none 0 0, .slice none 0 0, .int .i64 0, .slice none 0 0, .int .i64 0, .int .i64 0] 41) := ⟨_, rfl⟩
                        have hb : Below v27.heap.size v27 v28 := by rw [hwa]; exact (Below.refl v27.heap.size v27).alloc (Nat.le_refl _) (.cells #[.int .i64 0, .slice none 0 0, .slice none 0 0, .slice none 0 0, .int .i64 0, .slice none 0 0, .int .i64 0, .int .i64 0] 41)
                        have hra : v28.heap[v27.heap.size]? = some (.cells #[.int .i64 0, .slice none 0 0, .slice none 0 0, .slice none 0 0, .int .i64 0, .slice none 0 0, .int .i64 0, .int .i64 0] 41 (0, 0)) := by rw [hwa]; exact heap_alloc_new v27 _
                        obtain ⟨b, hbq⟩ : ∃ g, g = v27.heap.size := ⟨_, rfl⟩
                        have hbge : v24.heap.size ≤ b := by have := CB.out.size; omega
                        rw [← hbq] at hra
                        rw [← hwa, ← hbq]
                        clear hwa hbq
                        have RB := Lib.hid hra
                        clear hra
                        have Z24 := Lib.hid hb.size
                        replace C0 := Lib.hid (C0.out.trans (hb.mono C0.out.size))
                        replace CR := Lib.hid (CR.out.trans (hb.mono CR.out.size))
                        replace CB := Lib.hid (CB.out.trans (hb.mono CB.out.size))
                        replace Hp0 := Lib.hid (own_keep Hp0.out hb)
                        replace Hp1 := Lib.hid (Hp1.out.keep hb)
                        replace Hp2 := Lib.hid (own_keep Hp2.out hb)
                        clear hb
                        refine ⟨fun _ => CR.out, ?_⟩
                        refine one_s (i := 6) (by kernel_rfl) (op_list rfl ?_)
                        go_wp2_with fail
                        refine (KI.out _ _ _ _ _ _ _ ((Cs.shows_of_owns Hp0.out).down (Nat.zero_le _)) (Hp1.out.shows) ((Cs.shows_of_owns Hp2.out).down (Nat.zero_le _))).mono ?_
                        rintro e v29 ⟨hb, rq, rc, mq, mc, sq, sc, oq, oc, rfl, hh⟩
                        have OV := Lib.hid (hh.base (base' := v24.heap.size) (by have := CB.out.size; omega))
                        clear hh
                        have Z25 := Lib.hid hb.size
                        replace C0 := Lib.hid (C0.out.trans (hb.mono C0.out.size))
                        replace CR := Lib.hid (CR.out.trans (hb.mono CR.out.size))
                        replace CB := Lib.hid (CB.out.trans (hb.mono CB.out.size))
                        replace Hp0 := Lib.hid (own_keep Hp0.out hb)
                        replace Hp1 := Lib.hid (Hp1.out.keep hb)
                        replace Hp2 := Lib.hid (own_keep Hp2.out hb)
                        replace RB := Lib.hid ((hb.block _ (Array.getElem?_eq_some_iff.1 RB.out).1).trans RB.out)
                        clear hb
                        go_wp2
                        refine ⟨fun _ => CR.out, ?_⟩
                        obtain ⟨z0, z1, z2, z3, z4, z5, z6, z7⟩ := cell8_row RB.out
                        obtain ⟨f0, f1, f2, f3, f4, f5, f6, f7⟩ := froz8_row RB.out
                        refine one_s (i := 8) (by kernel_rfl) (op_list rfl ?_)
                        go_wp2
                        refine ⟨late_s (by kernel_rfl), done_s (by kernel_rfl) ?_ _⟩
                        obtain ⟨we, hwe⟩ : ∃ W9, W9 = ((((((((v29.setCell ⟨b, 0, none⟩ (.int .i64 x.pc)).setCell ⟨b, 1, none⟩ (.slice rq x.R.length rc)).setCell ⟨b, 2, none⟩ (.slice mq x.M.length mc)).setCell ⟨b, 3, none⟩ (.slice sq x.S.length sc)).setCell ⟨b, 4, none⟩ (.int .i64 x.inn)).setCell ⟨b, 5, none⟩ (.slice oq x.O.length oc)).setCell ⟨b, 6, none⟩ (.int .i64 x.cd)).setCell ⟨b, 7, none⟩ (.int .i64 x.st)) := ⟨_, rfl⟩
                        have D2 := Lib.hid (show we.heap[b]? = some (.cells #[.int .i64 x.pc, .slice rq x.R.length rc, .slice mq x.M.length mc, .slice sq x.S.length sc, .int .i64 x.inn, .slice oq x.O.length oc, .int .i64 x.cd, .int .i64 x.st] 41 (0, 0)) by rw [hwe]; exact set8_row RB.out _ _ _ _ _ _ _ _)
                        have BE := Lib.hid (show Below v24.heap.size v24 we by rw [hwe]; exact set8_below CB.out hbge _ _ _ _ _ _ _ _)
                        have OE := Lib.hid (show StO we v24.heap.size x _ _ _ _ by rw [hwe]; exact OV.out.set8 (OV.out.off (T := 41) (by decide) RB.out) _ _ _ _ _ _ _ _)
                        rw [← hwe]
                        clear hwe z0 z1 z2 z3 z4 z5 z6 z7 f0 f1 f2 f3 f4 f5 f6 f7
                        go_wp2_with fail
                        go_meet
                        exact ⟨b, rq, rc, mq, mc, sq, sc, oq, oc, rfl, hbge, D2.out, OE.out, BE.out⟩
                    · go_wp2
                      obtain ⟨v27, hwa⟩ : ∃ W9, W9 = v26.alloc (.cells #[.int .i64 0, .slice none 0 0, .slice none 0 0, .slice none 0 0, .int .i64 0, .slice none 0 0, .int .i64 0, .int .i64 0] 41) := ⟨_, rfl⟩
                      have hb : Below v26.heap.size v26 v27 := by rw [hwa]; exact (Below.refl v26.heap.size v26).alloc (Nat.le_refl _) (.cells #[.int .i64 0, .slice none 0 0, .slice none 0 0, .slice none 0 0, .int .i64 0, .slice none 0 0, .int .i64 0, .int .i64 0] 41)
                      have hra : v27.heap[v26.heap.size]? = some (.cells #[.int .i64 0, .slice none 0 0, .slice none 0 0, .slice none 0 0, .int .i64 0, .slice none 0 0, .int .i64 0, .int .i64 0] 41 (0, 0)) := by rw [hwa]; exact heap_alloc_new v26 _
                      obtain ⟨b, hbq⟩ : ∃ g, g = v26.heap.size := ⟨_, rfl⟩
                      have hbge : v24.heap.size ≤ b := by have := CB.out.size; omega
                      rw [← hbq] at hra
                      rw [← hwa, ← hbq]
                      clear hwa hbq
                      have RB := Lib.hid hra
                      clear hra
                      have Z23 := Lib.hid hb.size
                      replace C0 := Lib.hid (C0.out.trans (hb.mono C0.out.size))
                      replace CR := Lib.hid (CR.out.trans (hb.mono CR.out.size))
                      replace CB := Lib.hid (CB.out.trans (hb.mono CB.out.size))
                      replace Hp0 := Lib.hid (own_keep Hp0.out hb)
                      replace Hp1 := Lib.hid (Hp1.out.keep hb)
                      clear hb
                      refine ⟨fun _ => CR.out, ?_⟩
                      refine one_s (i := 5) (by kernel_rfl) (op_list rfl ?_)
                      go_wp2_with fail
                      refine (to_Int L2 _ _ (IS2.out.below C0.out) (by omega)).mono ?_
                      rintro e v28 ⟨gp2, rfl, hh, hb⟩
                      have Hp2 := Lib.hid hh
                      clear hh
                      have Z24 := Lib.hid hb.size
                      replace C0 := Lib.hid (C0.out.trans (hb.mono C0.out.size))
                      replace CR := Lib.hid (CR.out.trans (hb.mono CR.out.size))
                      replace CB := Lib.hid (CB.out.trans (hb.mono CB.out.size))
                      replace Hp0 := Lib.hid (own_keep Hp0.out hb)
                      replace Hp1 := Lib.hid (Hp1.out.keep hb)
                      replace RB := Lib.hid ((hb.block _ (Array.getElem?_eq_some_iff.1 RB.out).1).trans RB.out)
                      clear hb
                      go_wp2
                      refine ⟨fun _ => CR.out, ?_⟩
                      refine one_s (i := 6) (by kernel_rfl) (op_list rfl ?_)
                      go_wp2_with fail
                      refine (KI.out _ _ _ _ _ _ _ ((Cs.shows_of_owns Hp0.out).down (Nat.zero_le _)) (Hp1.out.shows) ((Cs.shows_of_owns Hp2.out).down (Nat.zero_le _))).mono ?_
                      rintro e v29 ⟨hb, rq, rc, mq, mc, sq, sc, oq, oc, rfl, hh⟩
                      have OV := Lib.hid (hh.base (base' := v24.heap.size) (by have := CB.out.size; omega))
                      clear hh
                      have Z25 := Lib.hid hb.size
                      replace C0 := Lib.hid (C0.out.trans (hb.mono C0.out.size))
                      replace CR := Lib.hid (CR.out.trans (hb.mono CR.out.size))
                      replace CB := Lib.hid (CB.out.trans (hb.mono CB.out.size))
                      replace Hp0 := Lib.hid (own_keep Hp0.out hb)
                      replace Hp1 := Lib.hid (Hp1.out.keep hb)
                      replace RB := Lib.hid ((hb.block _ (Array.getElem?_eq_some_iff.1 RB.out).1).trans RB.out)
                      replace Hp2 := Lib.hid (own_keep Hp2.out hb)
                      clear hb
                      go_wp2
                      refine ⟨fun _ => CR.out, ?_⟩
                      obtain ⟨z0, z1, z2, z3, z4, z5, z6, z7⟩ := cell8_row RB.out
                      obtain ⟨f0, f1, f2, f3, f4, f5, f6, f7⟩ := froz8_row RB.out
                      refine one_s (i := 8) (by kernel_rfl) (op_list rfl ?_)
                      go_wp2
                      refine ⟨late_s (by kernel_rfl), done_s (by kernel_rfl) ?_ _⟩
                      obtain ⟨we, hwe⟩ : ∃ W9, W9 = ((((((((v29.setCell ⟨b, 0, none⟩ (.int .i64 x.pc)).setCell ⟨b, 1, none⟩ (.slice rq x.R.length rc)).setCell ⟨b, 2, none⟩ (.slice mq x.M.length mc)).setCell ⟨b, 3, none⟩ (.slice sq x.S.length sc)).setCell ⟨b, 4, none⟩ (.int .i64 x.inn)).setCell ⟨b, 5, none⟩ (.slice oq x.O.length oc)).setCell ⟨b, 6, none⟩ (.int .i64 x.cd)).setCell ⟨b, 7, none⟩ (.int .i64 x.st)) := ⟨_, rfl⟩
                      have D2 := Lib.hid (show we.heap[b]? = some (.cells #[.int .i64 x.pc, .slice rq x.R.length rc, .slice mq x.M.length mc, .slice sq x.S.length sc, .int .i64 x.inn, .slice oq x.O.length oc, .int .i64 x.cd, .int .i64 x.st] 41 (0, 0)) by rw [hwe]; exact set8_row RB.out _ _ _ _ _ _ _ _)
                      have BE := Lib.hid (show Below v24.heap.size v24 we by rw [hwe]; exact set8_below CB.out hbge _ _ _ _ _ _ _ _)
                      have OE := Lib.hid (show StO we v24.heap.size x _ _ _ _ by rw [hwe]; exact OV.out.set8 (OV.out.off (T := 41) (by decide) RB.out) _ _ _ _ _ _ _ _)
                      rw [← hwe]
                      clear hwe z0 z1 z2 z3 z4 z5 z6 z7 f0 f1 f2 f3 f4 f5 f6 f7
                      go_wp2_with fail
                      go_meet
                      exact ⟨b, rq, rc, mq, mc, sq, sc, oq, oc, rfl, hbge, D2.out, OE.out, BE.out⟩
                  · go_wp2
                    obtain ⟨v26, hwa⟩ : ∃ W9, W9 = v25.alloc (.cells #[.int .i64 0, .slice none 0 0, .slice none 0 0, .slice none 0 0, .int .i64 0, .slice none 0 0, .int .i64 0, .int .i64 0] 41) := ⟨_, rfl⟩
                    have hb : Below v25.heap.size v25 v26 := by rw [hwa]; exact (Below.refl v25.heap.size v25).alloc (Nat.le_refl _) (.cells #[.int .i64 0, .slice none 0 0, .slice none 0 0, .slice none 0 0, .int .i64 0, .slice none 0 0, .int .i64 0, .int .i64 0] 41)
                    have hra : v26.heap[v25.heap.size]? = some (.cells #[.int .i64 0, .slice none 0 0, .slice none 0 0, .slice none 0 0, .int .i64 0, .slice none 0 0, .int .i64 0, .int .i64 0] 41 (0, 0)) := by rw [hwa]; exact heap_alloc_new v25 _
                    obtain ⟨b, hbq⟩ : ∃ g, g = v25.heap.size := ⟨_, rfl⟩
                    have hbge : v24.heap.size ≤ b := by have := CB.out.size; omega
                    rw [← hbq] at hra
                    rw [← hwa, ← hbq]
                    clear hwa hbq
                    have RB := Lib.hid hra
                    clear hra
                    have Z22 := Lib.hid hb.size
                    replace C0 := Lib.hid (C0.out.trans (hb.mono C0.out.size))
                    replace CR := Lib.hid (CR.out.trans (hb.mono CR.out.size))
                    replace CB := Lib.hid (CB.out.trans (hb.mono CB.out.size))
                    replace Hp0 := Lib.hid (own_keep Hp0.out hb)
                    clear hb
                    refine ⟨fun _ => CR.out, ?_⟩
                    refine one_s (i := 3) (by kernel_rfl) (op_list rfl ?_)
                    go_wp2_with fail
                    refine (to_State x1 _ _ _ _ _ (IS1.out.below C0.out) (by omega)).mono ?_
                    rintro e v27 ⟨grp1, gmp1, gsp1, gop1, rfl, hh, hb⟩
                    have Hp1 := Lib.hid hh
                    clear hh
                    have Z23 := Lib.hid hb.size
                    replace C0 := Lib.hid (C0.out.trans (hb.mono C0.out.size))
                    replace CR := Lib.hid (CR.out.trans (hb.mono CR.out.size))
                    replace CB := Lib.hid (CB.out.trans (hb.mono CB.out.size))
                    replace Hp0 := Lib.hid (own_keep Hp0.out hb)
                    replace RB := Lib.hid ((hb.block _ (Array.getElem?_eq_some_iff.1 RB.out).1).trans RB.out)
                    clear hb
                    go_wp2
                    refine ⟨fun _ => CR.out, ?_⟩
                    refine one_s (i := 5) (by kernel_rfl) (op_list rfl ?_)
                    go_wp2_with fail
                    refine (to_Int L2 _ _ (IS2.out.below C0.out) (by omega)).mono ?_
                    rintro e v28 ⟨gp2, rfl, hh, hb⟩
                    have Hp2 := Lib.hid hh
                    clear hh
                    have Z24 := Lib.hid hb.size
                    replace C0 := Lib.hid (C0.out.trans (hb.mono C0.out.size))
                    replace CR := Lib.hid (CR.out.trans (hb.mono CR.out.size))
                    replace CB := Lib.hid (CB.out.trans (hb.mono CB.out.size))
                    replace Hp0 := Lib.hid (own_keep Hp0.out hb)
                    replace RB := Lib.hid ((hb.block _ (Array.getElem?_eq_some_iff.1 RB.out).1).trans RB.out)
                    replace Hp1 := Lib.hid (Hp1.out.keep hb)
                    clear hb
                    go_wp2
                    refine ⟨fun _ => CR.out, ?_⟩
                    refine one_s (i := 6) (by kernel_rfl) (op_list rfl ?_)
                    go_wp2_with fail
                    refine (KI.out _ _ _ _ _ _ _ ((Cs.shows_of_owns Hp0.out).down (Nat.zero_le _)) (Hp1.out.shows) ((Cs.shows_of_owns Hp2.out).down (Nat.zero_le _))).mono ?_
                    rintro e v29 ⟨hb, rq, rc, mq, mc, sq, sc, oq, oc, rfl, hh⟩
                    have OV := Lib.hid (hh.base (base' := v24.heap.size) (by have := CB.out.size; omega))
                    clear hh
                    have Z25 := Lib.hid hb.size
                    replace C0 := Lib.hid (C0.out.trans (hb.mono C0.out.size))
                    replace CR := Lib.hid (CR.out.trans (hb.mono CR.out.size))
                    replace CB := Lib.hid (CB.out.trans (hb.mono CB.out.size))
                    replace Hp0 := Lib.hid (own_keep Hp0.out hb)
                    replace RB := Lib.hid ((hb.block _ (Array.getElem?_eq_some_iff.1 RB.out).1).trans RB.out)
                    replace Hp1 := Lib.hid (Hp1.out.keep hb)
                    replace Hp2 := Lib.hid (own_keep Hp2.out hb)
                    clear hb
                    go_wp2
                    refine ⟨fun _ => CR.out, ?_⟩
                    obtain ⟨z0, z1, z2, z3, z4, z5, z6, z7⟩ := cell8_row RB.out
                    obtain ⟨f0, f1, f2, f3, f4, f5, f6, f7⟩ := froz8_row RB.out
                    refine one_s (i := 8) (by kernel_rfl) (op_list rfl ?_)
                    go_wp2
                    refine ⟨late_s (by kernel_rfl), done_s (by kernel_rfl) ?_ _⟩
                    obtain ⟨we, hwe⟩ : ∃ W9, W9 = ((((((((v29.setCell ⟨b, 0, none⟩ (.int .i64 x.pc)).setCell ⟨b, 1, none⟩ (.slice rq x.R.length rc)).setCell ⟨b, 2, none⟩ (.slice mq x.M.length mc)).setCell ⟨b, 3, none⟩ (.slice sq x.S.length sc)).setCell ⟨b, 4, none⟩ (.int .i64 x.inn)).setCell ⟨b, 5, none⟩ (.slice oq x.O.length oc)).setCell ⟨b, 6, none⟩ (.int .i64 x.cd)).setCell ⟨b, 7, none⟩ (.int .i64 x.st)) := ⟨_, rfl⟩
                    have D2 := Lib.hid (show we.heap[b]? = some (.cells #[.int .i64 x.pc, .slice rq x.R.length rc, .slice mq x.M.length mc, .slice sq x.S.length sc, .int .i64 x.inn, .slice oq x.O.length oc, .int .i64 x.cd, .int .i64 x.st] 41 (0, 0)) by rw [hwe]; exact set8_row RB.out _ _ _ _ _ _ _ _)
                    have BE := Lib.hid (show Below v24.heap.size v24 we by rw [hwe]; exact set8_below CB.out hbge _ _ _ _ _ _ _ _)
                    have OE := Lib.hid (show StO we v24.heap.size x _ _ _ _ by rw [hwe]; exact OV.out.set8 (OV.out.off (T := 41) (by decide) RB.out) _ _ _ _ _ _ _ _)
                    rw [← hwe]
                    clear hwe z0 z1 z2 z3 z4 z5 z6 z7 f0 f1 f2 f3 f4 f5 f6 f7
                    go_wp2_with fail
                    go_meet
                    exact ⟨b, rq, rc, mq, mc, sq, sc, oq, oc, rfl, hbge, D2.out, OE.out, BE.out⟩
                · go_wp2
                  obtain ⟨v25, hwa⟩ : ∃ W9, W9 = (v24.alloc (.cells #[.int .i64 0, .slice none 0 0, .slice none 0 0, .slice none 0 0, .int .i64 0, .slice none 0 0, .int .i64 0, .int .i64 0] 41)).drew := ⟨_, rfl⟩
                  have hb : Below v24.drew.heap.size v24.drew v25 := by rw [hwa]; exact (Below.refl v24.drew.heap.size v24.drew).alloc (Nat.le_refl _) (.cells #[.int .i64 0, .slice none 0 0, .slice none 0 0, .slice none 0 0, .int .i64 0, .slice none 0 0, .int .i64 0, .int .i64 0] 41)
                  have hra : v25.heap[v24.heap.size]? = some (.cells #[.int .i64 0, .slice none 0 0, .slice none 0 0, .slice none 0 0, .int .i64 0, .slice none 0 0, .int .i64 0, .int .i64 0] 41 (0, 0)) := by rw [hwa]; exact heap_alloc_new v24 _
                  obtain ⟨b, hbq⟩ : ∃ g, g = v24.heap.size := ⟨_, rfl⟩
                  have hbge : v24.heap.size ≤ b := by have := CB.out.size; omega
                  rw [← hbq] at hra
                  rw [← hwa, ← hbq]
                  clear hwa hbq
                  have RB := Lib.hid hra
                  clear hra
                  have Z21 := Lib.hid hb.size
                  replace C0 := Lib.hid (C0.out.trans (hb.mono C0.out.size))
                  replace CR := Lib.hid (CR.out.trans (hb.mono CR.out.size))
                  replace CB := Lib.hid (CB.out.trans (hb.mono CB.out.size))
                  clear hb
                  refine ⟨fun _ => CR.out, ?_⟩
                  refine one_s (i := 1) (by kernel_rfl) (op_list rfl ?_)
                  go_wp2_with fail
                  refine (to_Program vw0 vm0 vi0 L0 _ _ (IS0.out.below C0.out) (by omega)).mono ?_
                  rintro e v26 ⟨gp0, rfl, hh, hb⟩
                  have Hp0 := Lib.hid hh
                  clear hh
                  have Z22 := Lib.hid hb.size
                  replace C0 := Lib.hid (C0.out.trans (hb.mono C0.out.size))
                  replace CR := Lib.hid (CR.out.trans (hb.mono CR.out.size))
                  replace CB := Lib.hid (CB.out.trans (hb.mono CB.out.size))
                  replace RB := Lib.hid ((hb.block _ (Array.getElem?_eq_some_iff.1 RB.out).1).trans RB.out)
                  clear hb
                  go_wp2
                  refine ⟨fun _ => CR.out, ?_⟩
                  refine one_s (i := 3) (by kernel_rfl) (op_list rfl ?_)
                  go_wp2_with fail
                  refine (to_State x1 _ _ _ _ _ (IS1.out.below C0.out) (by omega)).mono ?_
                  rintro e v27 ⟨grp1, gmp1, gsp1, gop1, rfl, hh, hb⟩
                  have Hp1 := Lib.hid hh
                  clear hh
                  have Z23 := Lib.hid hb.size
                  replace C0 := Lib.hid (C0.out.trans (hb.mono C0.out.size))
                  replace CR := Lib.hid (CR.out.trans (hb.mono CR.out.size))
                  replace CB := Lib.hid (CB.out.trans (hb.mono CB.out.size))
                  replace RB := Lib.hid ((hb.block _ (Array.getElem?_eq_some_iff.1 RB.out).1).trans RB.out)
                  replace Hp0 := Lib.hid (own_keep Hp0.out hb)
                  clear hb
                  go_wp2
                  refine ⟨fun _ => CR.out, ?_⟩
                  refine one_s (i := 5) (by kernel_rfl) (op_list rfl ?_)
                  go_wp2_with fail
                  refine (to_Int L2 _ _ (IS2.out.below C0.out) (by omega)).mono ?_
                  rintro e v28 ⟨gp2, rfl, hh, hb⟩
                  have Hp2 := Lib.hid hh
                  clear hh
                  have Z24 := Lib.hid hb.size
                  replace C0 := Lib.hid (C0.out.trans (hb.mono C0.out.size))
                  replace CR := Lib.hid (CR.out.trans (hb.mono CR.out.size))
                  replace CB := Lib.hid (CB.out.trans (hb.mono CB.out.size))
                  replace RB := Lib.hid ((hb.block _ (Array.getElem?_eq_some_iff.1 RB.out).1).trans RB.out)
                  replace Hp0 := Lib.hid (own_keep Hp0.out hb)
                  replace Hp1 := Lib.hid (Hp1.out.keep hb)
                  clear hb
                  go_wp2
                  refine ⟨fun _ => CR.out, ?_⟩
                  refine one_s (i := 6) (by kernel_rfl) (op_list rfl ?_)
                  go_wp2_with fail
                  refine (KI.out _ _ _ _ _ _ _ ((Cs.shows_of_owns Hp0.out).down (Nat.zero_le _)) (Hp1.out.shows) ((Cs.shows_of_owns Hp2.out).down (Nat.zero_le _))).mono ?_
                  rintro e v29 ⟨hb, rq, rc, mq, mc, sq, sc, oq, oc, rfl, hh⟩
                  have OV := Lib.hid (hh.base (base' := v24.heap.size) (by have := CB.out.size; omega))
                  clear hh
                  have Z25 := Lib.hid hb.size
                  replace C0 := Lib.hid (C0.out.trans (hb.mono C0.out.size))
                  replace CR := Lib.hid (CR.out.trans (hb.mono CR.out.size))
                  replace CB := Lib.hid (CB.out.trans (hb.mono CB.out.size))
                  replace RB := Lib.hid ((hb.block _ (Array.getElem?_eq_some_iff.1 RB.out).1).trans RB.out)
                  replace Hp0 := Lib.hid (own_keep Hp0.out hb)
                  replace Hp1 := Lib.hid (Hp1.out.keep hb)
                  replace Hp2 := Lib.hid (own_keep Hp2.out hb)
                  clear hb
                  go_wp2
                  refine ⟨fun _ => CR.out, ?_⟩
                  obtain ⟨z0, z1, z2, z3, z4, z5, z6, z7⟩ := cell8_row RB.out
                  obtain ⟨f0, f1, f2, f3, f4, f5, f6, f7⟩ := froz8_row RB.out
                  refine one_s (i := 8) (by kernel_rfl) (op_list rfl ?_)
                  go_wp2
                  refine ⟨late_s (by kernel_rfl), done_s (by kernel_rfl) ?_ _⟩
                  obtain ⟨we, hwe⟩ : ∃ W9, W9 = ((((((((v29.setCell ⟨b, 0, none⟩ (.int .i64 x.pc)).setCell ⟨b, 1, none⟩ (.slice rq x.R.length rc)).setCell ⟨b, 2, none⟩ (.slice mq x.M.length mc)).setCell ⟨b, 3, none⟩ (.slice sq x.S.length sc)).setCell ⟨b, 4, none⟩ (.int .i64 x.inn)).setCell ⟨b, 5, none⟩ (.slice oq x.O.length oc)).setCell ⟨b, 6, none⟩ (.int .i64 x.cd)).setCell ⟨b, 7, none⟩ (.int .i64 x.st)) := ⟨_, rfl⟩
                  have D2 := Lib.hid (show we.heap[b]? = some (.cells #[.int .i64 x.pc, .slice rq x.R.length rc, .slice mq x.M.length mc, .slice sq x.S.length sc, .int .i64 x.inn, .slice oq x.O.length oc, .int .i64 x.cd, .int .i64 x.st] 41 (0, 0)) by rw [hwe]; exact set8_row RB.out _ _ _ _ _ _ _ _)
                  have BE := Lib.hid (show Below v24.heap.size v24 we by rw [hwe]; exact set8_below CB.out hbge _ _ _ _ _ _ _ _)
                  have OE := Lib.hid (show StO we v24.heap.size x _ _ _ _ by rw [hwe]; exact OV.out.set8 (OV.out.off (T := 41) (by decide) RB.out) _ _ _ _ _ _ _ _)
                  rw [← hwe]
                  clear hwe z0 z1 z2 z3 z4 z5 z6 z7 f0 f1 f2 f3 f4 f5 f6 f7
                  go_wp2_with fail
                  go_meet
                  exact ⟨b, rq, rc, mq, mc, sq, sc, oq, oc, rfl, hbge, D2.out, OE.out, BE.out⟩
              case rest =>
                obtain ⟨gj0, j0rq, j0rc, j0mq, j0mc, j0sq, j0sc, j0oq, j0oc, hv9, hge, hR, hO, hb⟩ := hcut
                subst hv9
                rename World => v25
                have Rj0 := Lib.hid hR
                have Oj0 := Lib.hid hO
                clear hR hO hge
                have Z21 := Lib.hid hb.size
                replace C0 := Lib.hid (C0.out.trans (hb.mono C0.out.size))
                replace A0 := Lib.hid ((hb.block _ (Array.getElem?_eq_some_iff.1 A0.out).1).trans A0.out)
                replace A1 := Lib.hid ((hb.block _ (Array.getElem?_eq_some_iff.1 A1.out).1).trans A1.out)
                replace Rs0 := Lib.hid ((hb.block _ (Array.getElem?_eq_some_iff.1 Rs0.out).1).trans Rs0.out)
                replace Os0 := Lib.hid (Os0.out.keep hb)
                replace Ri0 := Lib.hid ((hb.block _ (Array.getElem?_eq_some_iff.1 Ri0.out).1).trans Ri0.out)
                replace M0 := Lib.hid (M0.out.keep hb)
                clear hb
                have BRj0 := Lib.hid (show gj0 < v25.heap.size from (Array.getElem?_eq_some_iff.1 Rj0.out).1)
                have IOj0 := Lib.hid (fun g (hg : g ∈ StB (.slice j0rq x.R.length j0rc) (.slice j0mq x.M.length j0mc) (.slice j0sq x.S.length j0sc) (.slice j0oq x.O.length j0oc)) => (Oj0.out.lt hg))
                obtain ⟨z0_0, z0_1, z0_2, z0_3, z0_4, z0_5, z0_6, z0_7⟩ := cell8_row Rj0.out
                obtain ⟨z1_0, z1_1, z1_2, z1_3, z1_4, z1_5, z1_6, z1_7⟩ := cell8_row Rs0.out
                go_wp2_with fail
                clear z0_0 z0_1 z0_2 z0_3 z0_4 z0_5 z0_6 z0_7 z1_0 z1_1 z1_2 z1_3 z1_4 z1_5 z1_6 z1_7
                refine (eq_State x _ _ _ _ _ _ _ _ _ (Oj0.out.shows) (Os0.out.shows) (by omega)).mono ?_
                rintro e v26 ⟨rfl, hb⟩
                have Z23 := Lib.hid hb.size
                replace C0 := Lib.hid (C0.out.trans (hb.mono C0.out.size))
                replace A0 := Lib.hid ((hb.block _ (Array.getElem?_eq_some_iff.1 A0.out).1).trans A0.out)
                replace A1 := Lib.hid ((hb.block _ (Array.getElem?_eq_some_iff.1 A1.out).1).trans A1.out)
                replace Rs0 := Lib.hid ((hb.block _ (Array.getElem?_eq_some_iff.1 Rs0.out).1).trans Rs0.out)
                replace Os0 := Lib.hid (Os0.out.keep hb)
                replace Ri0 := Lib.hid ((hb.block _ (Array.getElem?_eq_some_iff.1 Ri0.out).1).trans Ri0.out)
                replace M0 := Lib.hid (M0.out.keep hb)
                replace Rj0 := Lib.hid ((hb.block _ (Array.getElem?_eq_some_iff.1 Rj0.out).1).trans Rj0.out)
                replace Oj0 := Lib.hid (Oj0.out.keep hb)
                clear hb
                obtain ⟨z0_0, z0_1, z0_2, z0_3, z0_4, z0_5, z0_6, z0_7⟩ := cell8_row Ri0.out
                go_wp2_with fail
                clear z0_0 z0_1 z0_2 z0_3 z0_4 z0_5 z0_6 z0_7
                refine (held_State x _ _ _ _ 1 _ M0.out.shows (by omega) (by omega)).mono ?_
                rintro e v27 ⟨rfl, hb⟩
                have Z24 := Lib.hid hb.size
                replace C0 := Lib.hid (C0.out.trans (hb.mono C0.out.size))
                replace A0 := Lib.hid ((hb.block _ (Array.getElem?_eq_some_iff.1 A0.out).1).trans A0.out)
                replace A1 := Lib.hid ((hb.block _ (Array.getElem?_eq_some_iff.1 A1.out).1).trans A1.out)
                replace Rs0 := Lib.hid ((hb.block _ (Array.getElem?_eq_some_iff.1 Rs0.out).1).trans Rs0.out)
                replace Os0 := Lib.hid (Os0.out.keep hb)
                replace Ri0 := Lib.hid ((hb.block _ (Array.getElem?_eq_some_iff.1 Ri0.out).1).trans Ri0.out)
                replace M0 := Lib.hid (M0.out.keep hb)
                replace Rj0 := Lib.hid ((hb.block _ (Array.getElem?_eq_some_iff.1 Rj0.out).1).trans Rj0.out)
                replace Oj0 := Lib.hid (Oj0.out.keep hb)
                clear hb
                go_wp2
                go_ret
                exact ⟨rfl, C0.out⟩
      · have hl : left l0 (x1.cost) = -1 := by unfold left; rw [if_neg hc1]
        rw [hl] at SZ1
        clear hl hc1
        go_enter Try.func4, Try.ntmps4
        have C0 := Lib.hid (Below.refl w.heap.size w)
        obtain ⟨v1, hW⟩ : ∃ W, W = (w.alloc (.cells #[.int .i64 vw0, .int .i64 vm0, .int .i64 vi0, .slice q0 L0.length cap0] 24)).alloc (.cells #[.int .i64 x1.pc, .slice qr1 x1.R.length cr1, .slice qm1 x1.M.length cm1, .slice qs1 x1.S.length cs1, .int .i64 x1.inn, .slice qo1 x1.O.length co1, .int .i64 x1.cd, .int .i64 x1.st] 39) := ⟨_, rfl⟩
        have hb : Below w.heap.size w v1 := by rw [hW]; exact ((Below.refl _ _).alloc (Nat.le_refl _) _).alloc (by simp) _
        have A0 := Lib.hid (show v1.heap[w.heap.size]? = some (.cells #[.int .i64 vw0, .int .i64 vm0, .int .i64 vi0, .slice q0 L0.length cap0] 24 (0, 0)) by rw [hW, heap_alloc_old _ _ (by simp)]; exact heap_alloc_new _ _)
        have A1 := Lib.hid (show v1.heap[w.heap.size + 1]? = some (.cells #[.int .i64 x1.pc, .slice qr1 x1.R.length cr1, .slice qm1 x1.M.length cm1, .slice qs1 x1.S.length cs1, .int .i64 x1.inn, .slice qo1 x1.O.length co1, .int .i64 x1.cd, .int .i64 x1.st] 39 (0, 0)) by rw [hW, ← show (w.alloc (.cells #[.int .i64 vw0, .int .i64 vm0, .int .i64 vi0, .slice q0 L0.length cap0] 24)).heap.size = w.heap.size + 1 by simp]; exact heap_alloc_new _ _)
        have BA1 := Lib.hid (show w.heap.size + 1 < v1.heap.size from (Array.getElem?_eq_some_iff.1 A1.out).1)
        have HW := Lib.hid hW
        clear hW
        have Z0 := Lib.hid hb.size
        replace C0 := Lib.hid (C0.out.trans (hb.mono C0.out.size))
        clear hb
        go_wp2_with fail
        rw [← HW.out]
        clear HW
        refine (SZ0.out _ (IS0.out.below C0.out)).mono ?_
        rintro e v2 ⟨rfl, hb⟩
        have Z2 := Lib.hid hb.size
        replace C0 := Lib.hid (C0.out.trans (hb.mono C0.out.size))
        replace A0 := Lib.hid ((hb.block _ (Array.getElem?_eq_some_iff.1 A0.out).1).trans A0.out)
        replace A1 := Lib.hid ((hb.block _ (Array.getElem?_eq_some_iff.1 A1.out).1).trans A1.out)
        clear hb
        obtain ⟨z0_0, z0_1, z0_2, z0_3, z0_4, z0_5, z0_6, z0_7⟩ := cell8_row A1.out
        go_wp2_with fail
        clear z0_0 z0_1 z0_2 z0_3 z0_4 z0_5 z0_6 z0_7
        refine (SZ1.out _ (IS1.out.below C0.out)).mono ?_
        rintro e v3 ⟨rfl, hb⟩
        have Z3 := Lib.hid hb.size
        replace C0 := Lib.hid (C0.out.trans (hb.mono C0.out.size))
        replace A0 := Lib.hid ((hb.block _ (Array.getElem?_eq_some_iff.1 A0.out).1).trans A0.out)
        replace A1 := Lib.hid ((hb.block _ (Array.getElem?_eq_some_iff.1 A1.out).1).trans A1.out)
        clear hb
        go_wp2
        go_ret
        exact ⟨rfl, C0.out⟩
    · have hl : left 1048576 (InsR.costs L0) = -1 := by unfold left; rw [if_neg hc0]
      rw [hl] at SZ0
      clear hl hc0
      go_enter Try.func4, Try.ntmps4
      have C0 := Lib.hid (Below.refl w.heap.size w)
      obtain ⟨v1, hW⟩ : ∃ W, W = (w.alloc (.cells #[.int .i64 vw0, .int .i64 vm0, .int .i64 vi0, .slice q0 L0.length cap0] 24)).alloc (.cells #[.int .i64 x1.pc, .slice qr1 x1.R.length cr1, .slice qm1 x1.M.length cm1, .slice qs1 x1.S.length cs1, .int .i64 x1.inn, .slice qo1 x1.O.length co1, .int .i64 x1.cd, .int .i64 x1.st] 39) := ⟨_, rfl⟩
      have hb : Below w.heap.size w v1 := by rw [hW]; exact ((Below.refl _ _).alloc (Nat.le_refl _) _).alloc (by simp) _
      have A0 := Lib.hid (show v1.heap[w.heap.size]? = some (.cells #[.int .i64 vw0, .int .i64 vm0, .int .i64 vi0, .slice q0 L0.length cap0] 24 (0, 0)) by rw [hW, heap_alloc_old _ _ (by simp)]; exact heap_alloc_new _ _)
      have A1 := Lib.hid (show v1.heap[w.heap.size + 1]? = some (.cells #[.int .i64 x1.pc, .slice qr1 x1.R.length cr1, .slice qm1 x1.M.length cm1, .slice qs1 x1.S.length cs1, .int .i64 x1.inn, .slice qo1 x1.O.length co1, .int .i64 x1.cd, .int .i64 x1.st] 39 (0, 0)) by rw [hW, ← show (w.alloc (.cells #[.int .i64 vw0, .int .i64 vm0, .int .i64 vi0, .slice q0 L0.length cap0] 24)).heap.size = w.heap.size + 1 by simp]; exact heap_alloc_new _ _)
      have BA1 := Lib.hid (show w.heap.size + 1 < v1.heap.size from (Array.getElem?_eq_some_iff.1 A1.out).1)
      have HW := Lib.hid hW
      clear hW
      have Z0 := Lib.hid hb.size
      replace C0 := Lib.hid (C0.out.trans (hb.mono C0.out.size))
      clear hb
      go_wp2_with fail
      rw [← HW.out]
      clear HW
      refine (SZ0.out _ (IS0.out.below C0.out)).mono ?_
      rintro e v2 ⟨rfl, hb⟩
      have Z2 := Lib.hid hb.size
      replace C0 := Lib.hid (C0.out.trans (hb.mono C0.out.size))
      replace A0 := Lib.hid ((hb.block _ (Array.getElem?_eq_some_iff.1 A0.out).1).trans A0.out)
      replace A1 := Lib.hid ((hb.block _ (Array.getElem?_eq_some_iff.1 A1.out).1).trans A1.out)
      clear hb
      go_wp2
      go_ret
      exact ⟨rfl, C0.out⟩
  · have hlong2 : (1048576 : Int) < (L2.length : Int) := by omega
    go_enter Try.func4, Try.ntmps4
    have C0 := Lib.hid (Below.refl w.heap.size w)
    obtain ⟨v1, hW⟩ : ∃ W, W = (w.alloc (.cells #[.int .i64 vw0, .int .i64 vm0, .int .i64 vi0, .slice q0 L0.length cap0] 24)).alloc (.cells #[.int .i64 x1.pc, .slice qr1 x1.R.length cr1, .slice qm1 x1.M.length cm1, .slice qs1 x1.S.length cs1, .int .i64 x1.inn, .slice qo1 x1.O.length co1, .int .i64 x1.cd, .int .i64 x1.st] 39) := ⟨_, rfl⟩
    have hb : Below w.heap.size w v1 := by rw [hW]; exact ((Below.refl _ _).alloc (Nat.le_refl _) _).alloc (by simp) _
    have A0 := Lib.hid (show v1.heap[w.heap.size]? = some (.cells #[.int .i64 vw0, .int .i64 vm0, .int .i64 vi0, .slice q0 L0.length cap0] 24 (0, 0)) by rw [hW, heap_alloc_old _ _ (by simp)]; exact heap_alloc_new _ _)
    have A1 := Lib.hid (show v1.heap[w.heap.size + 1]? = some (.cells #[.int .i64 x1.pc, .slice qr1 x1.R.length cr1, .slice qm1 x1.M.length cm1, .slice qs1 x1.S.length cs1, .int .i64 x1.inn, .slice qo1 x1.O.length co1, .int .i64 x1.cd, .int .i64 x1.st] 39 (0, 0)) by rw [hW, ← show (w.alloc (.cells #[.int .i64 vw0, .int .i64 vm0, .int .i64 vi0, .slice q0 L0.length cap0] 24)).heap.size = w.heap.size + 1 by simp]; exact heap_alloc_new _ _)
    have BA1 := Lib.hid (show w.heap.size + 1 < v1.heap.size from (Array.getElem?_eq_some_iff.1 A1.out).1)
    have HW := Lib.hid hW
    clear hW
    have Z0 := Lib.hid hb.size
    replace C0 := Lib.hid (C0.out.trans (hb.mono C0.out.size))
    clear hb
    go_wp2
    go_ret
    exact ⟨rfl, by rw [← HW.out]; exact C0.out⟩
end Go.Proofs.Ytbdkningngpgcaa
