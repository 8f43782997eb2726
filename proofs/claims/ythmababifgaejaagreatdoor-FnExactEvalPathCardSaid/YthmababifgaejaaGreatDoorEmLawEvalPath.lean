/- The law FnExactEvalPath, walked by the contracts of all that it calls. -/
import Derived.Test.YthmababifgaejaaGreatDoorEmGHpS
import Derived.Test.YthmababifgaejaaGreatDoorEmGEpI
import Derived.Test.YthmababifgaejaaGreatDoorEmGHdState
import Derived.Test.YthmababifgaejaaGreatDoorEmGMkT
import Derived.Test.YthmababifgaejaaGreatDoorEmGMkProg
import Derived.Test.YthmababifgaejaaGreatDoorEmGDat
import Derived.Test.YthmababifgaejaaGreatDoorEmGInb
import Derived.Test.YthmababifgaejaaGreatDoorEmPath
import Derived.Test.YthmababifgaejaaGreatDoorEmGReg
import Derived.Deep.RegionWith
import Derived.Deep.CutRange
import Derived.Laws.Tables
import Derived.Laws.CopyOwn
namespace Go.Proofs.YthmababifgaejaaGreatDoor
open Go.ChangeShapes Go.WideShapes Go.ChangeAt Go.RowKit
/-- a store of a whole row, by its contract: the walk's own steps are slow where the slots are many -/
theorem wpOp_store {P : Program} {ops : Array Oper} {Q : Exit → Act → World → Prop} {i : Nat} {o : Oper} {K : Act → World → Prop} {a : Act} {w : World} (hi : ops[i]? = some o) (hgd : o.guard = none) (ty : TypeId) (x y : Operand) (ho : o.op = .store ty x y)
    (g : Nat) (cells : Array Value) (hx : a.eval x = .pointer (some ⟨g, 0, none⟩)) (hy : a.eval y = .agg cells)
    (t : TypeId) (old : Array Value) (hg : w.heap[g]? = some (.cells old t (0, 0))) (hi2 : (P.info? ty).map (·.size) = some cells.size)
    (hold : old.size = cells.size) (h1 : cells.all (·.oneCell') = true) (h : K (a.put o.dst undef) (w.setRow g cells)) : wpOp P ops Q i K a w :=
  op_list hi (wpList_store_row hgd ty x y ho g cells hx hy t old hg hi2 hold h1 h)
/-- a state that comes out has no more than the path -/
theorem ep_cost (vw vm vi : Int) (L : List InsR) (x : PaR) (l : List Int) : (epV vw vm vi L x l).cost ≤ x.cost := by
  have hxx : x.cost = x.R.cost + x.M.cost + x.S.length + x.O.cost + x.C.cost + x.U.length := rfl
  have h1 := x.R.nodes_le
  have h2 := x.M.nodes_le
  have h3 := x.O.nodes_le
  have h4 := x.R.len_le
  have h5 := x.M.len_le
  have h6 := x.O.len_le
  unfold epV
  by_cases h : epB vw vm vi L x l = true
  · rw [if_pos h]
    unfold epB at h
    simp only [Bool.and_eq_true] at h
    obtain ⟨_, hR, hM, hO⟩ := h
    obtain ⟨rs, hr⟩ := Option.isSome_iff_exists.1 hR
    obtain ⟨ms, hm⟩ := Option.isSome_iff_exists.1 hM
    obtain ⟨os, ho⟩ := Option.isSome_iff_exists.1 hO
    have l1 := evs_len _ _ _ hr
    have l2 := evs_len _ _ _ hm
    have l3 := evs_len _ _ _ ho
    show ((x.R.evs (inV vw l)).getD []).length + ((x.M.evs (inV vw l)).getD []).length + x.S.length + ((x.O.evs (inV vw l)).getD []).length ≤ x.cost
    rw [hr, hm, ho]
    simp only [Option.getD_some]
    omega
  · rw [if_neg h]
    exact Nat.zero_le _
theorem drew_block {w : World} {b : Nat} {o : Obj} (h : w.heap[b]? = some o) : w.drew.heap[b]? = some o := h
set_option maxRecDepth 100000 in
set_option maxHeartbeats 64000000 in
theorem law_FnExactEvalPath (vw0 vm0 vi0 : Int) (L0 : List InsR) (s0 : Value) (x1 : PaR) (r1 m1 s1 o1 c1 u1 : Value) (L2 : List Int) (s2 : Value) (w : World) (hs0 : Cs.Shows w 0 4 s0 L0.length (InsR.all L0)) (hok0 : (-9223372036854775808 ≤ vw0 ∧ vw0 ≤ 9223372036854775807) ∧ (-9223372036854775808 ≤ vm0 ∧ vm0 ≤ 9223372036854775807) ∧ (-9223372036854775808 ≤ vi0 ∧ vi0 ≤ 9223372036854775807) ∧ (∀ r ∈ L0, r.Ok) ∧ L0.length ≤ maxLen) (hs1 : PaS w 0 x1 r1 m1 s1 o1 c1 u1) (hok1 : x1.Ok) (hl1 : x1.Long) (hs2 : Cs.Shows w 0 1 s2 L2.length (IntL.all L2)) (hok2 : ∀ x ∈ L2, IntL.Ok x) (_hl2 : L2.length ≤ maxLen) (htab : Lib.TabIs Tryz.prog w "internal/strconv.uint64pow10" .u64 Lib.pow10Tab) :
    Calls Tryz.prog 3 #[.agg #[.int .i64 vw0, .int .i64 vm0, .int .i64 vi0, s0], .agg #[.int .i64 x1.pc, r1, m1, s1, .int .i64 x1.inn, o1, .int .i64 x1.cd, .int .i64 x1.st, c1, u1], s2] w fun e w' => e = .returned (.bool true) ∧ Below w.heap.size w w' := by
  have hml : maxLen = 9223372036854775807 := rfl
  have IS0 := Lib.hid hs0
  have OK0 := Lib.hid hok0
  obtain ⟨_, q0, cap0, rfl, _⟩ := hs0
  clear hok0
  have IS1 := Lib.hid hs1
  have OK1 := Lib.hid hok1
  have LE1 := Lib.hid hl1
  obtain ⟨⟨_, ⟨_, qr1, cr1, rfl, _⟩, _⟩, ⟨_, ⟨_, qm1, cm1, rfl, _⟩, _⟩, ⟨_, qs1, cs1, rfl, _⟩, ⟨_, ⟨_, qo1, co1, rfl, _⟩, _⟩, ⟨_, ⟨_, qc1, cc1, rfl, _⟩, _⟩, ⟨_, qu1, cu1, rfl, _⟩⟩ := hs1
  clear hok1 hl1
  have IS2 := Lib.hid hs2
  have OK2 := Lib.hid hok2
  obtain ⟨_, q2, cap2, rfl, _⟩ := hs2
  clear hok2 _hl2
  by_cases hlen2 : L2.length ≤ 1048576
  · have hleni2 : ¬ ((1048576 : Int) < (L2.length : Int)) := by omega
    have SZ0 := Lib.hid (fun W (h : Cs.Shows W 0 4 (.slice q0 L0.length cap0) L0.length (InsR.all L0)) => sz_Program vw0 vm0 vi0 L0 _ 1048576 W (by omega) h OK0.out.2.2.2.1 OK0.out.2.2.2.2)
    by_cases hc0 : InsR.costs L0 ≤ 1048576
    · obtain ⟨l0, hl0, hm0⟩ : ∃ l : Nat, left 1048576 (InsR.costs L0) = (l : Int) ∧ l + InsR.costs L0 = 1048576 := ⟨1048576 - InsR.costs L0, by unfold left; rw [if_pos hc0]; omega, by omega⟩
      rw [hl0] at SZ0
      have hq0 : l0 ≤ 1048576 := by omega
      clear hl0 hm0
      have SZ1 := Lib.hid (fun W (h : PaS W 0 x1 (.slice qr1 x1.R.len cr1) (.slice qm1 x1.M.len cm1) (.slice qs1 x1.S.length cs1) (.slice qo1 x1.O.len co1) (.slice qc1 x1.C.len cc1) (.slice qu1 x1.U.length cu1)) => sz_Path x1 _ _ _ _ _ _ l0 W (by omega) h OK1.out LE1.out)
      by_cases hc1 : x1.cost ≤ l0
      · obtain ⟨l1, hl1, hm1⟩ : ∃ l : Nat, left l0 (x1.cost) = (l : Int) ∧ l + x1.cost = l0 := ⟨l0 - x1.cost, by unfold left; rw [if_pos hc1]; omega, by omega⟩
        rw [hl1] at SZ1
        have hq1 : l1 ≤ 1048576 := by omega
        clear hl1 hm1
        have hnl0 := InsR.len_le L0
        have hlc0 : L0.length ≤ 1048576 := by omega
        have hcc0 : InsR.costs L0 ≤ 1048576 := by omega
        clear hnl0
        have hxx1 : x1.cost = x1.R.cost + x1.M.cost + x1.S.length + x1.O.cost + x1.C.cost + x1.U.length := rfl
        have hcc1 : x1.cost ≤ 1048576 := by omega
        have hnR1 := x1.R.nodes_le
        have hnM1 := x1.M.nodes_le
        have hnO1 := x1.O.nodes_le
        have hnC1 := x1.C.nodes_le
        have hlR1 := x1.R.len_le
        have hlM1 := x1.M.len_le
        have hlO1 := x1.O.len_le
        have hlC1 := x1.C.len_le
        have NB1 := Lib.hid (show x1.R.nodes ≤ 1048576 ∧ x1.M.nodes ≤ 1048576 ∧ x1.S.length ≤ 1048576 ∧ x1.O.nodes ≤ 1048576 ∧ x1.C.nodes ≤ 1048576 ∧ x1.U.length ≤ 1048576 from ⟨by omega, by omega, by omega, by omega, by omega, by omega⟩)
        have NE1 := Lib.hid (show x1.R.nodes ≤ 2097152 ∧ x1.M.nodes ≤ 2097152 ∧ x1.S.length ≤ 2097152 ∧ x1.O.nodes ≤ 2097152 ∧ x1.C.nodes ≤ 2097152 ∧ x1.U.length ≤ 2097152 from ⟨by omega, by omega, by omega, by omega, by omega, by omega⟩)
        have hmx1 : x1.marks ≤ 4194304 := by have hx : x1.marks = 4 * x1.R.nodes + 4 * x1.M.nodes + x1.S.length + 4 * x1.O.nodes + 4 * x1.C.nodes + x1.U.length := rfl; omega
        clear hnR1 hlR1
        clear hnM1 hlM1
        clear hnO1 hlO1
        clear hnC1 hlC1
        clear hxx1
        have hll2 : L2.length ≤ maxLen := by omega
        obtain ⟨x, hx⟩ : ∃ x, epV vw0 vm0 vi0 L0 x1 L2 = x := ⟨_, rfl⟩
        obtain ⟨bb, hbb⟩ : ∃ b, epB vw0 vm0 vi0 L0 x1 L2 = b := ⟨_, rfl⟩
        have KS := Lib.hid (fun sL r m s o c u li W h1 h2 h3 => s_epath vw0 vm0 vi0 L0 x1 L2 sL r m s o c u li W h1 h2 h3 OK0.out.2.2.2.1 OK0.out.2.2.2.2 LE1.out hcc1 hll2)
        have KI := Lib.hid (fun sL r m s o c u li W h1 h2 h3 (hb : Below w.heap.size w W) => i_epath vw0 vm0 vi0 L0 x1 L2 sL r m s o c u li W h1 h2 h3 OK0.out.2.2.2.1 OK0.out.2.2.2.2 LE1.out hcc1 hll2 (var_below hb htab))
        have hxc : x.cost ≤ 1048576 := by rw [← hx]; exact Nat.le_trans (ep_cost _ _ _ _ _ _) hcc1
        rw [hx, hbb] at KS KI
        unfold EpEnd at KS KI
        clear hx hbb htab
        clear hc0
        clear hc1
        go_enter Tryz.func3, Tryz.ntmps3
        have C0 := Lib.hid (Below.refl w.heap.size w)
        obtain ⟨v1, hW⟩ : ∃ W, W = (w.alloc (.cells #[.int .i64 vw0, .int .i64 vm0, .int .i64 vi0, .slice q0 L0.length cap0] 24)).alloc (.cells #[.int .i64 x1.pc, .slice qr1 x1.R.len cr1, .slice qm1 x1.M.len cm1, .slice qs1 x1.S.length cs1, .int .i64 x1.inn, .slice qo1 x1.O.len co1, .int .i64 x1.cd, .int .i64 x1.st, .slice qc1 x1.C.len cc1, .slice qu1 x1.U.length cu1] 28) := ⟨_, rfl⟩
        have hb : Below w.heap.size w v1 := by rw [hW]; exact ((Below.refl _ _).alloc (Nat.le_refl _) _).alloc (by simp) _
        have A0 := Lib.hid (show v1.heap[w.heap.size]? = some (.cells #[.int .i64 vw0, .int .i64 vm0, .int .i64 vi0, .slice q0 L0.length cap0] 24 (0, 0)) by rw [hW, heap_alloc_old _ _ (by simp)]; exact heap_alloc_new _ _)
        have A1 := Lib.hid (show v1.heap[w.heap.size + 1]? = some (.cells #[.int .i64 x1.pc, .slice qr1 x1.R.len cr1, .slice qm1 x1.M.len cm1, .slice qs1 x1.S.length cs1, .int .i64 x1.inn, .slice qo1 x1.O.len co1, .int .i64 x1.cd, .int .i64 x1.st, .slice qc1 x1.C.len cc1, .slice qu1 x1.U.length cu1] 28 (0, 0)) by rw [hW, ← show (w.alloc (.cells #[.int .i64 vw0, .int .i64 vm0, .int .i64 vi0, .slice q0 L0.length cap0] 24)).heap.size = w.heap.size + 1 by simp]; exact heap_alloc_new _ _)
        have BA1 := Lib.hid (show w.heap.size + 1 < v1.heap.size from (Array.getElem?_eq_some_iff.1 A1.out).1)
        have HW := Lib.hid hW
        clear hW
        have Z0 := Lib.hid hb.size
        replace C0 := Lib.hid (C0.out.trans (hb.mono C0.out.size))
        clear hb
        go_wp2_with fail
        rw [← HW.out]
        clear HW
        refine (SZ0.out _ (IS0.out.below C0.out)).mono ?_
        rintro e v2 ⟨rfl, hb⟩
        have Z2 := Lib.hid hb.size
        replace C0 := Lib.hid (C0.out.trans (hb.mono C0.out.size))
        replace A0 := Lib.hid ((hb.block _ (Array.getElem?_eq_some_iff.1 A0.out).1).trans A0.out)
        replace A1 := Lib.hid ((hb.block _ (Array.getElem?_eq_some_iff.1 A1.out).1).trans A1.out)
        clear hb
        obtain ⟨z0_0, z0_1, z0_2, z0_3, z0_4, z0_5, z0_6, z0_7, z0_8, z0_9⟩ := cell10_row A1.out
        go_wp2_with fail
        clear z0_0 z0_1 z0_2 z0_3 z0_4 z0_5 z0_6 z0_7 z0_8 z0_9
        refine (SZ1.out _ (IS1.out.below C0.out)).mono ?_
        rintro e v3 ⟨rfl, hb⟩
        have Z3 := Lib.hid hb.size
        replace C0 := Lib.hid (C0.out.trans (hb.mono C0.out.size))
        replace A0 := Lib.hid ((hb.block _ (Array.getElem?_eq_some_iff.1 A0.out).1).trans A0.out)
        replace A1 := Lib.hid ((hb.block _ (Array.getElem?_eq_some_iff.1 A1.out).1).trans A1.out)
        clear hb
        go_upto_region 10 with fail
        go_cut [8, 9] from 33 to 42 (fun v v9 wx => ∃ g rq rc mq mc sq sc oq oc, v = .pointer (some ⟨g, 0, none⟩) ∧ v9 = .bool bb ∧ v3.heap.size ≤ g ∧ wx.heap[g]? = some (.cells #[.int .i64 x.pc, .slice rq x.R.length rc, .slice mq x.M.length mc, .slice sq x.S.length sc, .int .i64 x.inn, .slice oq x.O.length oc, .int .i64 x.cd, .int .i64 x.st] 32 (0, 0)) ∧ StO wx v3.heap.size x (.slice rq x.R.length rc) (.slice mq x.M.length mc) (.slice sq x.S.length sc) (.slice oq x.O.length oc) ∧ Below v3.heap.size v3 wx)
        case first =>
          replace C0 := Lib.hid C0.out.drew
          have CR := Lib.hid (Below.refl v3.drew.heap.size v3.drew)
          have CB := Lib.hid (show Below v3.heap.size v3 v3.drew from (Below.refl _ _).drew)
          refine region_s [11] (fun V => Below v3.drew.heap.size v3.drew V) (by kernel_rfl) ?_
          refine take_s (i := 0) (v := .agg #[.int .i64 vw0, .int .i64 vm0, .int .i64 vi0, .slice q0 L0.length cap0]) rfl (by kernel_rfl) (fun _ _ _ h => h) CR.out rfl (fun V hV => ?_) ?_
          · obtain ⟨z0, z1, z2, z3⟩ := cell4_row ((hV.block _ (Array.getElem?_eq_some_iff.1 A0.out).1).trans A0.out)
            go_simp
          refine take_s (i := 2) (v := .agg #[.int .i64 x1.pc, .slice qr1 x1.R.len cr1, .slice qm1 x1.M.len cm1, .slice qs1 x1.S.length cs1, .int .i64 x1.inn, .slice qo1 x1.O.len co1, .int .i64 x1.cd, .int .i64 x1.st, .slice qc1 x1.C.len cc1, .slice qu1 x1.U.length cu1]) rfl (by kernel_rfl) (fun _ _ _ h => h) CR.out rfl (fun V hV => ?_) ?_
          · obtain ⟨z0, z1, z2, z3, z4, z5, z6, z7, z8, z9⟩ := cell10_row ((hV.block _ (Array.getElem?_eq_some_iff.1 A1.out).1).trans A1.out)
            go_simp
          refine take_s (i := 4) (v := .slice q2 L2.length cap2) rfl (by kernel_rfl) (fun _ _ _ h => h) CR.out rfl (fun V hV => ?_) ?_
          · go_simp
          refine two_s (i := 1) (k := 10) (by kernel_rfl) (op_list rfl ?_) (op_list rfl ?_)
          · go_wp2_with fail
            refine (to_Program vw0 vm0 vi0 L0 _ _ (IS0.out.below C0.out) (by omega)).mono ?_
            rintro e v4 ⟨gp0, rfl, hh, hb⟩
            have Hp0 := Lib.hid hh
            clear hh
            have Z4 := Lib.hid hb.size
            replace C0 := Lib.hid (C0.out.trans (hb.mono C0.out.size))
            replace CR := Lib.hid (CR.out.trans (hb.mono CR.out.size))
            replace CB := Lib.hid (CB.out.trans (hb.mono CB.out.size))
            clear hb
            go_wp2
            refine ⟨fun _ => CR.out, ?_⟩
            refine two_s (i := 3) (k := 10) (by kernel_rfl) (op_list rfl ?_) (op_list rfl ?_)
            · go_wp2_with fail
              refine (to_Path x1 _ _ _ _ _ _ _ (IS1.out.below C0.out) NB1.out).mono ?_
              rintro e v5 ⟨grp1, gmp1, gsp1, gop1, gcp1, gup1, Bp1, rfl, hh, hb⟩
              have Hp1 := Lib.hid hh
              clear hh
              have Z5 := Lib.hid hb.size
              replace C0 := Lib.hid (C0.out.trans (hb.mono C0.out.size))
              replace CR := Lib.hid (CR.out.trans (hb.mono CR.out.size))
              replace CB := Lib.hid (CB.out.trans (hb.mono CB.out.size))
              replace Hp0 := Lib.hid (own_keep Hp0.out hb)
              clear hb
              go_wp2
              refine ⟨fun _ => CR.out, ?_⟩
              refine two_s (i := 5) (k := 10) (by kernel_rfl) (op_list rfl ?_) (op_list rfl ?_)
              · go_wp2_with fail
                refine (to_Int L2 _ _ (IS2.out.below C0.out) (by omega)).mono ?_
                rintro e v6 ⟨gp2, rfl, hh, hb⟩
                have Hp2 := Lib.hid hh
                clear hh
                have Z6 := Lib.hid hb.size
                replace C0 := Lib.hid (C0.out.trans (hb.mono C0.out.size))
                replace CR := Lib.hid (CR.out.trans (hb.mono CR.out.size))
                replace CB := Lib.hid (CB.out.trans (hb.mono CB.out.size))
                replace Hp0 := Lib.hid (own_keep Hp0.out hb)
                replace Hp1 := Lib.hid (Hp1.out.keep hb)
                clear hb
                go_wp2
                refine ⟨fun _ => CR.out, ?_⟩
                refine two_s (i := 6) (k := 10) (by kernel_rfl) (op_list rfl ?_) (op_list rfl ?_)
                · go_wp2_with fail
                  refine (KS.out _ _ _ _ _ _ _ _ _ ((Cs.shows_of_owns Hp0.out).down (Nat.zero_le _)) (Hp1.out.shows) ((Cs.shows_of_owns Hp2.out).down (Nat.zero_le _))).mono ?_
                  rintro e v7 ⟨hb, rq, rc, mq, mc, sq, sc, oq, oc, rfl, hh⟩
                  have OV := Lib.hid (hh.base (base' := v3.heap.size) (by have := CB.out.size; omega))
                  clear hh
                  have Z7 := Lib.hid hb.size
                  replace C0 := Lib.hid (C0.out.trans (hb.mono C0.out.size))
                  replace CR := Lib.hid (CR.out.trans (hb.mono CR.out.size))
                  replace CB := Lib.hid (CB.out.trans (hb.mono CB.out.size))
                  replace Hp0 := Lib.hid (own_keep Hp0.out hb)
                  replace Hp1 := Lib.hid (Hp1.out.keep hb)
                  replace Hp2 := Lib.hid (own_keep Hp2.out hb)
                  clear hb
                  go_wp2
                  refine ⟨fun _ => CR.out, ?_⟩
                  refine take_s (i := 7) (v := .tuple #[.agg #[.int .i64 x.pc, .slice rq x.R.length rc, .slice mq x.M.length mc, .slice sq x.S.length sc, .int .i64 x.inn, .slice oq x.O.length oc, .int .i64 x.cd, .int .i64 x.st], .bool bb]) rfl (by kernel_rfl) (fun _ _ _ h => h) CR.out rfl (fun V hV => ?_) ?_
                  · go_simp
                  refine take_s (i := 8) (v := .agg #[.int .i64 x.pc, .slice rq x.R.length rc, .slice mq x.M.length mc, .slice sq x.S.length sc, .int .i64 x.inn, .slice oq x.O.length oc, .int .i64 x.cd, .int .i64 x.st]) rfl (by kernel_rfl) (fun _ _ _ h => h) CR.out rfl (fun V hV => ?_) ?_
                  · go_simp
                  refine take_p (i := 9) (v := .bool bb) rfl (by kernel_rfl) (fun _ _ _ h => h) CR.out rfl (fun V => ?_) ?_
                  · go_simp
                  refine one_s (i := 10) (by kernel_rfl) (op_list rfl ?_)
                  go_wp2
                  obtain ⟨v8, hwa⟩ : ∃ W9, W9 = v7.alloc (.cells #[.int .i64 0, .slice none 0 0, .slice none 0 0, .slice none 0 0, .int .i64 0, .slice none 0 0, .int .i64 0, .int .i64 0] 32) := ⟨_, rfl⟩
                  have hb : Below v7.heap.size v7 v8 := by rw [hwa]; exact (Below.refl v7.heap.size v7).alloc (Nat.le_refl _) (.cells #[.int .i64 0, .slice none 0 0, .slice none 0 0, .slice none 0 0, .int .i64 0, .slice none 0 0, .int .i64 0, .int .i64 0] 32)
                  have hra : v8.heap[v7.heap.size]? = some (.cells #[.int .i64 0, .slice none 0 0, .slice none 0 0, .slice none 0 0, .int .i64 0, .slice none 0 0, .int .i64 0, .int .i64 0] 32 (0, 0)) := by rw [hwa]; exact heap_alloc_new v7 _
                  obtain ⟨b, hbq⟩ : ∃ g, g = v7.heap.size := ⟨_, rfl⟩
                  have hbge : v3.heap.size ≤ b := by have := CB.out.size; omega
                  rw [← hbq] at hra
                  rw [← hwa, ← hbq]
                  clear hwa hbq
                  have RB := Lib.hid hra
                  clear hra
                  have Z8 := Lib.hid hb.size
                  replace C0 := Lib.hid (C0.out.trans (hb.mono C0.out.size))
                  replace CR := Lib.hid (CR.out.trans (hb.mono CR.out.size))
                  replace CB := Lib.hid (CB.out.trans (hb.mono CB.out.size))
                  replace Hp0 := Lib.hid (own_keep Hp0.out hb)
                  replace Hp1 := Lib.hid (Hp1.out.keep hb)
                  replace Hp2 := Lib.hid (own_keep Hp2.out hb)
                  replace OV := Lib.hid (OV.out.keep hb)
                  clear hb
                  refine ⟨fun _ => CR.out, ?_⟩
                  refine one_s (i := 11) (by kernel_rfl) (wpOp_store rfl rfl 32 _ _ rfl b #[.int .i64 x.pc, .slice rq x.R.length rc, .slice mq x.M.length mc, .slice sq x.S.length sc, .int .i64 x.inn, .slice oq x.O.length oc, .int .i64 x.cd, .int .i64 x.st] rfl rfl 32 _ RB.out (by kernel_rfl) rfl (by first | (simp [Value.oneCell']; done) | (simp; exact ⟨rfl, rfl, rfl, rfl, rfl, rfl, rfl, rfl⟩) | kernel_rfl) ?_)
                  refine ⟨late_s (by kernel_rfl), ?_⟩
                  obtain ⟨we, hwe⟩ : ∃ W9, W9 = v8.setRow b #[.int .i64 x.pc, .slice rq x.R.length rc, .slice mq x.M.length mc, .slice sq x.S.length sc, .int .i64 x.inn, .slice oq x.O.length oc, .int .i64 x.cd, .int .i64 x.st] := ⟨_, rfl⟩
                  have D2 := Lib.hid (show we.heap[b]? = some (.cells #[.int .i64 x.pc, .slice rq x.R.length rc, .slice mq x.M.length mc, .slice sq x.S.length sc, .int .i64 x.inn, .slice oq x.O.length oc, .int .i64 x.cd, .int .i64 x.st] 32 (0, 0)) by rw [hwe]; exact setRow_heap _ _ _ _ _ _ RB.out)
                  have BE := Lib.hid (show Below v3.heap.size v3 we by rw [hwe]; exact below_setRow CB.out hbge _)
                  have OE := Lib.hid (show StO we v3.heap.size x _ _ _ _ from OV.out.same (fun g hg => by rw [hwe]; exact setRow_other _ _ _ _ (fun e => OV.out.off (T := 32) (by decide) RB.out (by rw [← e]; exact hg))))
                  rw [← hwe]
                  clear hwe
                  refine one_s (i := 12) (by kernel_rfl) (op_list rfl ?_)
                  go_wp2
                  refine ⟨late_s (by kernel_rfl), done_s (by kernel_rfl) ?_ _⟩
                  go_wp2_with fail
                  go_meet
                  exact ⟨b, rq, rc, mq, mc, sq, sc, oq, oc, rfl, rfl, hbge, D2.out, OE.out, BE.out⟩
                · go_wp2
                  obtain ⟨v7, hwa⟩ : ∃ W9, W9 = v6.alloc (.cells #[.int .i64 0, .slice none 0 0, .slice none 0 0, .slice none 0 0, .int .i64 0, .slice none 0 0, .int .i64 0, .int .i64 0] 32) := ⟨_, rfl⟩
                  have hb : Below v6.heap.size v6 v7 := by rw [hwa]; exact (Below.refl v6.heap.size v6).alloc (Nat.le_refl _) (.cells #[.int .i64 0, .slice none 0 0, .slice none 0 0, .slice none 0 0, .int .i64 0, .slice none 0 0, .int .i64 0, .int .i64 0] 32)
                  have hra : v7.heap[v6.heap.size]? = some (.cells #[.int .i64 0, .slice none 0 0, .slice none 0 0, .slice none 0 0, .int .i64 0, .slice none 0 0, .int .i64 0, .int .i64 0] 32 (0, 0)) := by rw [hwa]; exact heap_alloc_new v6 _
                  obtain ⟨b, hbq⟩ : ∃ g, g = v6.heap.size := ⟨_, rfl⟩
                  have hbge : v3.heap.size ≤ b := by have := CB.out.size; omega
                  rw [← hbq] at hra
                  rw [← hwa, ← hbq]
                  clear hwa hbq
                  have RB := Lib.hid hra
                  clear hra
                  have Z7 := Lib.hid hb.size
                  replace C0 := Lib.hid (C0.out.trans (hb.mono C0.out.size))
                  replace CR := Lib.hid (CR.out.trans (hb.mono CR.out.size))
                  replace CB := Lib.hid (CB.out.trans (hb.mono CB.out.size))
                  replace Hp0 := Lib.hid (own_keep Hp0.out hb)
                  replace Hp1 := Lib.hid (Hp1.out.keep hb)
                  replace Hp2 := Lib.hid (own_keep Hp2.out hb)
                  clear hb
                  refine ⟨fun _ => CR.out, ?_⟩
                  refine one_s (i := 6) (by kernel_rfl) (op_list rfl ?_)
                  go_wp2_with fail
                  refine (KS.out _ _ _ _ _ _ _ _ _ ((Cs.shows_of_owns Hp0.out).down (Nat.zero_le _)) (Hp1.out.shows) ((Cs.shows_of_owns Hp2.out).down (Nat.zero_le _))).mono ?_
                  rintro e v8 ⟨hb, rq, rc, mq, mc, sq, sc, oq, oc, rfl, hh⟩
                  have OV := Lib.hid (hh.base (base' := v3.heap.size) (by have := CB.out.size; omega))
                  clear hh
                  have Z8 := Lib.hid hb.size
                  replace C0 := Lib.hid (C0.out.trans (hb.mono C0.out.size))
                  replace CR := Lib.hid (CR.out.trans (hb.mono CR.out.size))
                  replace CB := Lib.hid (CB.out.trans (hb.mono CB.out.size))
                  replace Hp0 := Lib.hid (own_keep Hp0.out hb)
                  replace Hp1 := Lib.hid (Hp1.out.keep hb)
                  replace Hp2 := Lib.hid (own_keep Hp2.out hb)
                  replace RB := Lib.hid ((hb.block _ (Array.getElem?_eq_some_iff.1 RB.out).1).trans RB.out)
                  clear hb
                  go_wp2
                  refine ⟨fun _ => CR.out, ?_⟩
                  refine take_s (i := 7) (v := .tuple #[.agg #[.int .i64 x.pc, .slice rq x.R.length rc, .slice mq x.M.length mc, .slice sq x.S.length sc, .int .i64 x.inn, .slice oq x.O.length oc, .int .i64 x.cd, .int .i64 x.st], .bool bb]) rfl (by kernel_rfl) (fun _ _ _ h => h) CR.out rfl (fun V hV => ?_) ?_
                  · go_simp
                  refine take_s (i := 8) (v := .agg #[.int .i64 x.pc, .slice rq x.R.length rc, .slice mq x.M.length mc, .slice sq x.S.length sc, .int .i64 x.inn, .slice oq x.O.length oc, .int .i64 x.cd, .int .i64 x.st]) rfl (by kernel_rfl) (fun _ _ _ h => h) CR.out rfl (fun V hV => ?_) ?_
                  · go_simp
                  refine take_p (i := 9) (v := .bool bb) rfl (by kernel_rfl) (fun _ _ _ h => h) CR.out rfl (fun V => ?_) ?_
                  · go_simp
                  refine one_s (i := 11) (by kernel_rfl) (wpOp_store rfl rfl 32 _ _ rfl b #[.int .i64 x.pc, .slice rq x.R.length rc, .slice mq x.M.length mc, .slice sq x.S.length sc, .int .i64 x.inn, .slice oq x.O.length oc, .int .i64 x.cd, .int .i64 x.st] rfl rfl 32 _ RB.out (by kernel_rfl) rfl (by first | (simp [Value.oneCell']; done) | (simp; exact ⟨rfl, rfl, rfl, rfl, rfl, rfl, rfl, rfl⟩) | kernel_rfl) ?_)
                  refine ⟨late_s (by kernel_rfl), ?_⟩
                  obtain ⟨we, hwe⟩ : ∃ W9, W9 = v8.setRow b #[.int .i64 x.pc, .slice rq x.R.length rc, .slice mq x.M.length mc, .slice sq x.S.length sc, .int .i64 x.inn, .slice oq x.O.length oc, .int .i64 x.cd, .int .i64 x.st] := ⟨_, rfl⟩
                  have D2 := Lib.hid (show we.heap[b]? = some (.cells #[.int .i64 x.pc, .slice rq x.R.length rc, .slice mq x.M.length mc, .slice sq x.S.length sc, .int .i64 x.inn, .slice oq x.O.length oc, .int .i64 x.cd, .int .i64 x.st] 32 (0, 0)) by rw [hwe]; exact setRow_heap _ _ _ _ _ _ RB.out)
                  have BE := Lib.hid (show Below v3.heap.size v3 we by rw [hwe]; exact below_setRow CB.out hbge _)
                  have OE := Lib.hid (show StO we v3.heap.size x _ _ _ _ from OV.out.same (fun g hg => by rw [hwe]; exact setRow_other _ _ _ _ (fun e => OV.out.off (T := 32) (by decide) RB.out (by rw [← e]; exact hg))))
                  rw [← hwe]
                  clear hwe
                  refine one_s (i := 12) (by kernel_rfl) (op_list rfl ?_)
                  go_wp2
                  refine ⟨late_s (by kernel_rfl), done_s (by kernel_rfl) ?_ _⟩
                  go_wp2_with fail
                  go_meet
                  exact ⟨b, rq, rc, mq, mc, sq, sc, oq, oc, rfl, rfl, hbge, D2.out, OE.out, BE.out⟩
              · go_wp2
                obtain ⟨v6, hwa⟩ : ∃ W9, W9 = v5.alloc (.cells #[.int .i64 0, .slice none 0 0, .slice none 0 0, .slice none 0 0, .int .i64 0, .slice none 0 0, .int .i64 0, .int .i64 0] 32) := ⟨_, rfl⟩
                have hb : Below v5.heap.size v5 v6 := by rw [hwa]; exact (Below.refl v5.heap.size v5).alloc (Nat.le_refl _) (.cells #[.int .i64 0, .slice none 0 0, .slice none 0 0, .slice none 0 0, .int .i64 0, .slice none 0 0, .int .i64 0, .int .i64 0] 32)
                have hra : v6.heap[v5.heap.size]? = some (.cells #[.int .i64 0, .slice none 0 0, .slice none 0 0, .slice none 0 0, .int .i64 0, .slice none 0 0, .int .i64 0, .int .i64 0] 32 (0, 0)) := by rw [hwa]; exact heap_alloc_new v5 _
                obtain ⟨b, hbq⟩ : ∃ g, g = v5.heap.size := ⟨_, rfl⟩
                have hbge : v3.heap.size ≤ b := by have := CB.out.size; omega
                rw [← hbq] at hra
                rw [← hwa, ← hbq]
                clear hwa hbq
                have RB := Lib.hid hra
                clear hra
                have Z6 := Lib.hid hb.size
                replace C0 := Lib.hid (C0.out.trans (hb.mono C0.out.size))
                replace CR := Lib.hid (CR.out.trans (hb.mono CR.out.size))
                replace CB := Lib.hid (CB.out.trans (hb.mono CB.out.size))
                replace Hp0 := Lib.hid (own_keep Hp0.out hb)
                replace Hp1 := Lib.hid (Hp1.out.keep hb)
                clear hb
                refine ⟨fun _ => CR.out, ?_⟩
                refine one_s (i := 5) (by kernel_rfl) (op_list rfl ?_)
                go_wp2_with fail
                refine (to_Int L2 _ _ (IS2.out.below C0.out) (by omega)).mono ?_
                rintro e v7 ⟨gp2, rfl, hh, hb⟩
                have Hp2 := Lib.hid hh
                clear hh
                have Z7 := Lib.hid hb.size
                replace C0 := Lib.hid (C0.out.trans (hb.mono C0.out.size))
                replace CR := Lib.hid (CR.out.trans (hb.mono CR.out.size))
                replace CB := Lib.hid (CB.out.trans (hb.mono CB.out.size))
                replace Hp0 := Lib.hid (own_keep Hp0.out hb)
                replace Hp1 := Lib.hid (Hp1.out.keep hb)
                replace RB := Lib.hid ((hb.block _ (Array.getElem?_eq_some_iff.1 RB.out).1).trans RB.out)
                clear hb
                go_wp2
                refine ⟨fun _ => CR.out, ?_⟩
                refine one_s (i := 6) (by kernel_rfl) (op_list rfl ?_)
                go_wp2_with fail
                refine (KS.out _ _ _ _ _ _ _ _ _ ((Cs.shows_of_owns Hp0.out).down (Nat.zero_le _)) (Hp1.out.shows) ((Cs.shows_of_owns Hp2.out).down (Nat.zero_le _))).mono ?_
                rintro e v8 ⟨hb, rq, rc, mq, mc, sq, sc, oq, oc, rfl, hh⟩
                have OV := Lib.hid (hh.base (base' := v3.heap.size) (by have := CB.out.size; omega))
                clear hh
                have Z8 := Lib.hid hb.size
                replace C0 := Lib.hid (C0.out.trans (hb.mono C0.out.size))
                replace CR := Lib.hid (CR.out.trans (hb.mono CR.out.size))
                replace CB := Lib.hid (CB.out.trans (hb.mono CB.out.size))
                replace Hp0 := Lib.hid (own_keep Hp0.out hb)
                replace Hp1 := Lib.hid (Hp1.out.keep hb)
                replace RB := Lib.hid ((hb.block _ (Array.getElem?_eq_some_iff.1 RB.out).1).trans RB.out)
                replace Hp2 := Lib.hid (own_keep Hp2.out hb)
                clear hb
                go_wp2
                refine ⟨fun _ => CR.out, ?_⟩
                refine take_s (i := 7) (v := .tuple #[.agg #[.int .i64 x.pc, .slice rq x.R.length rc, .slice mq x.M.length mc, .slice sq x.S.length sc, .int .i64 x.inn, .slice oq x.O.length oc, .int .i64 x.cd, .int .i64 x.st], .bool bb]) rfl (by kernel_rfl) (fun _ _ _ h => h) CR.out rfl (fun V hV => ?_) ?_
                · go_simp
                refine take_s (i := 8) (v := .agg #[.int .i64 x.pc, .slice rq x.R.length rc, .slice mq x.M.length mc, .slice sq x.S.length sc, .int .i64 x.inn, .slice oq x.O.length oc, .int .i64 x.cd, .int .i64 x.st]) rfl (by kernel_rfl) (fun _ _ _ h => h) CR.out rfl (fun V hV => ?_) ?_
                · go_simp
                refine take_p (i := 9) (v := .bool bb) rfl (by kernel_rfl) (fun _ _ _ h => h) CR.out rfl (fun V => ?_) ?_
                · go_simp
                refine one_s (i := 11) (by kernel_rfl) (wpOp_store rfl rfl 32 _ _ rfl b #[.int .i64 x.pc, .slice rq x.R.length rc, .slice mq x.M.length mc, .slice sq x.S.length sc, .int .i64 x.inn, .slice oq x.O.length oc, .int .i64 x.cd, .int .i64 x.st] rfl rfl 32 _ RB.out (by kernel_rfl) rfl (by first | (simp [Value.oneCell']; done) | (simp; exact ⟨rfl, rfl, rfl, rfl, rfl, rfl, rfl, rfl⟩) | kernel_rfl) ?_)
                refine ⟨late_s (by kernel_rfl), ?_⟩
                obtain ⟨we, hwe⟩ : ∃ W9, W9 = v8.setRow b #[.int .i64 x.pc, .slice rq x.R.length rc, .slice mq x.M.length mc, .slice sq x.S.length sc, .int .i64 x.inn, .slice oq x.O.length oc, .int .i64 x.cd, .int .i64 x.st] := ⟨_, rfl⟩
                have D2 := Lib.hid (show we.heap[b]? = some (.cells #[.int .i64 x.pc, .slice rq x.R.length rc, .slice mq x.M.length mc, .slice sq x.S.length sc, .int .i64 x.inn, .slice oq x.O.length oc, .int .i64 x.cd, .int .i64 x.st] 32 (0, 0)) by rw [hwe]; exact setRow_heap _ _ _ _ _ _ RB.out)
                have BE := Lib.hid (show Below v3.heap.size v3 we by rw [hwe]; exact below_setRow CB.out hbge _)
                have OE := Lib.hid (show StO we v3.heap.size x _ _ _ _ from OV.out.same (fun g hg => by rw [hwe]; exact setRow_other _ _ _ _ (fun e => OV.out.off (T := 32) (by decide) RB.out (by rw [← e]; exact hg))))
                rw [← hwe]
                clear hwe
                refine one_s (i := 12) (by kernel_rfl) (op_list rfl ?_)
                go_wp2
                refine ⟨late_s (by kernel_rfl), done_s (by kernel_rfl) ?_ _⟩
                go_wp2_with fail
                go_meet
                exact ⟨b, rq, rc, mq, mc, sq, sc, oq, oc, rfl, rfl, hbge, D2.out, OE.out, BE.out⟩
            · go_wp2
              obtain ⟨v5, hwa⟩ : ∃ W9, W9 = v4.alloc (.cells #[.int .i64 0, .slice none 0 0, .slice none 0 0, .slice none 0 0, .int .i64 0, .slice none 0 0, .int .i64 0, .int .i64 0] 32) := ⟨_, rfl⟩
              have hb : Below v4.heap.size v4 v5 := by rw [hwa]; exact (Below.refl v4.heap.size v4).alloc (Nat.le_refl _) (.cells #[.int .i64 0, .slice none 0 0, .slice none 0 0, .slice none 0 0, .int .i64 0, .slice none 0 0, .int .i64 0, .int .i64 0] 32)
              have hra : v5.heap[v4.heap.size]? = some (.cells #[.int .i64 0, .slice none 0 0, .slice none 0 0, .slice none 0 0, .int .i64 0, .slice none 0 0, .int .i64 0, .int .i64 0] 32 (0, 0)) := by rw [hwa]; exact heap_alloc_new v4 _
              obtain ⟨b, hbq⟩ : ∃ g, g = v4.heap.size := ⟨_, rfl⟩
              have hbge : v3.heap.size ≤ b := by have := CB.out.size; omega
              rw [← hbq] at hra
              rw [← hwa, ← hbq]
              clear hwa hbq
              have RB := Lib.hid hra
              clear hra
              have Z5 := Lib.hid hb.size
              replace C0 := Lib.hid (C0.out.trans (hb.mono C0.out.size))
              replace CR := Lib.hid (CR.out.trans (hb.mono CR.out.size))
              replace CB := Lib.hid (CB.out.trans (hb.mono CB.out.size))
              replace Hp0 := Lib.hid (own_keep Hp0.out hb)
              clear hb
              refine ⟨fun _ => CR.out, ?_⟩
              refine one_s (i := 3) (by kernel_rfl) (op_list rfl ?_)
              go_wp2_with fail
              refine (to_Path x1 _ _ _ _ _ _ _ (IS1.out.below C0.out) NB1.out).mono ?_
              rintro e v6 ⟨grp1, gmp1, gsp1, gop1, gcp1, gup1, Bp1, rfl, hh, hb⟩
              have Hp1 := Lib.hid hh
              clear hh
              have Z6 := Lib.hid hb.size
              replace C0 := Lib.hid (C0.out.trans (hb.mono C0.out.size))
              replace CR := Lib.hid (CR.out.trans (hb.mono CR.out.size))
              replace CB := Lib.hid (CB.out.trans (hb.mono CB.out.size))
              replace Hp0 := Lib.hid (own_keep Hp0.out hb)
              replace RB := Lib.hid ((hb.block _ (Array.getElem?_eq_some_iff.1 RB.out).1).trans RB.out)
              clear hb
              go_wp2
              refine ⟨fun _ => CR.out, ?_⟩
              refine one_s (i := 5) (by kernel_rfl) (op_list rfl ?_)
              go_wp2_with fail
              refine (to_Int L2 _ _ (IS2.out.below C0.out) (by omega)).mono ?_
              rintro e v7 ⟨gp2, rfl, hh, hb⟩
              have Hp2 := Lib.hid hh
              clear hh
              have Z7 := Lib.hid hb.size
              replace C0 := Lib.hid (C0.out.trans (hb.mono C0.out.size))
              replace CR := Lib.hid (CR.out.trans (hb.mono CR.out.size))
              replace CB := Lib.hid (CB.out.trans (hb.mono CB.out.size))
              replace Hp0 := Lib.hid (own_keep Hp0.out hb)
              replace RB := Lib.hid ((hb.block _ (Array.getElem?_eq_some_iff.1 RB.out).1).trans RB.out)
              replace Hp1 := Lib.hid (Hp1.out.keep hb)
              clear hb
              go_wp2
              refine ⟨fun _ => CR.out, ?_⟩
              refine one_s (i := 6) (by kernel_rfl) (op_list rfl ?_)
              go_wp2_with fail
              refine (KS.out _ _ _ _ _ _ _ _ _ ((Cs.shows_of_owns Hp0.out).down (Nat.zero_le _)) (Hp1.out.shows) ((Cs.shows_of_owns Hp2.out).down (Nat.zero_le _))).mono ?_
              rintro e v8 ⟨hb, rq, rc, mq, mc, sq, sc, oq, oc, rfl, hh⟩
              have OV := Lib.hid (hh.base (base' := v3.heap.size) (by have := CB.out.size; omega))
              clear hh
              have Z8 := Lib.hid hb.size
              replace C0 := Lib.hid (C0.out.trans (hb.mono C0.out.size))
              replace CR := Lib.hid (CR.out.trans (hb.mono CR.out.size))
              replace CB := Lib.hid (CB.out.trans (hb.mono CB.out.size))
              replace Hp0 := Lib.hid (own_keep Hp0.out hb)
              replace RB := Lib.hid ((hb.block _ (Array.getElem?_eq_some_iff.1 RB.out).1).trans RB.out)
              replace Hp1 := Lib.hid (Hp1.out.keep hb)
              replace Hp2 := Lib.hid (own_keep Hp2.out hb)
              clear hb
              go_wp2
              refine ⟨fun _ => CR.out, ?_⟩
              refine take_s (i := 7) (v := .tuple #[.agg #[.int .i64 x.pc, .slice rq x.R.length rc, .slice mq x.M.length mc, .slice sq x.S.length sc, .int .i64 x.inn, .slice oq x.O.length oc, .int .i64 x.cd, .int .i64 x.st], .bool bb]) rfl (by kernel_rfl) (fun _ _ _ h => h) CR.out rfl (fun V hV => ?_) ?_
              · go_simp
              refine take_s (i := 8) (v := .agg #[.int .i64 x.pc, .slice rq x.R.length rc, .slice mq x.M.length mc, .slice sq x.S.length sc, .int .i64 x.inn, .slice oq x.O.length oc, .int .i64 x.cd, .int .i64 x.st]) rfl (by kernel_rfl) (fun _ _ _ h => h) CR.out rfl (fun V hV => ?_) ?_
              · go_simp
              refine take_p (i := 9) (v := .bool bb) rfl (by kernel_rfl) (fun _ _ _ h => h) CR.out rfl (fun V => ?_) ?_
              · go_simp
              refine one_s (i := 11) (by kernel_rfl) (wpOp_store rfl rfl 32 _ _ rfl b #[.int .i64 x.pc, .slice rq x.R.length rc, .slice mq x.M.length mc, .slice sq x.S.length sc, .int .i64 x.inn, .slice oq x.O.length oc, .int .i64 x.cd, .int .i64 x.st] rfl rfl 32 _ RB.out (by kernel_rfl) rfl (by first | (simp [Value.oneCell']; done) | (simp; exact ⟨rfl, rfl, rfl, rfl, rfl, rfl, rfl, rfl⟩) | kernel_rfl) ?_)
              refine ⟨late_s (by kernel_rfl), ?_⟩
              obtain ⟨we, hwe⟩ : ∃ W9, W9 = v8.setRow b #[.int .i64 x.pc, .slice rq x.R.length rc, .slice mq x.M.length mc, .slice sq x.S.length sc, .int .i64 x.inn, .slice oq x.O.length oc, .int .i64 x.cd, .int .i64 x.st] := ⟨_, rfl⟩
              have D2 := Lib.hid (show we.heap[b]? = some (.cells #[.int .i64 x.pc, .slice rq x.R.length rc, .slice mq x.M.length mc, .slice sq x.S.length sc, .int .i64 x.inn, .slice oq x.O.length oc, .int .i64 x.cd, .int .i64 x.st] 32 (0, 0)) by rw [hwe]; exact setRow_heap _ _ _ _ _ _ RB.out)
              have BE := Lib.hid (show Below v3.heap.size v3 we by rw [hwe]; exact below_setRow CB.out hbge _)
              have OE := Lib.hid (show StO we v3.heap.size x _ _ _ _ from OV.out.same (fun g hg => by rw [hwe]; exact setRow_other _ _ _ _ (fun e => OV.out.off (T := 32) (by decide) RB.out (by rw [← e]; exact hg))))
              rw [← hwe]
              clear hwe
              refine one_s (i := 12) (by kernel_rfl) (op_list rfl ?_)
              go_wp2
              refine ⟨late_s (by kernel_rfl), done_s (by kernel_rfl) ?_ _⟩
              go_wp2_with fail
              go_meet
              exact ⟨b, rq, rc, mq, mc, sq, sc, oq, oc, rfl, rfl, hbge, D2.out, OE.out, BE.out⟩
          · go_wp2
            obtain ⟨v4, hwa⟩ : ∃ W9, W9 = (v3.alloc (.cells #[.int .i64 0, .slice none 0 0, .slice none 0 0, .slice none 0 0, .int .i64 0, .slice none 0 0, .int .i64 0, .int .i64 0] 32)).drew := ⟨_, rfl⟩
            have hb : Below v3.drew.heap.size v3.drew v4 := by rw [hwa]; exact (Below.refl v3.drew.heap.size v3.drew).alloc (Nat.le_refl _) (.cells #[.int .i64 0, .slice none 0 0, .slice none 0 0, .slice none 0 0, .int .i64 0, .slice none 0 0, .int .i64 0, .int .i64 0] 32)
            have hra : v4.heap[v3.heap.size]? = some (.cells #[.int .i64 0, .slice none 0 0, .slice none 0 0, .slice none 0 0, .int .i64 0, .slice none 0 0, .int .i64 0, .int .i64 0] 32 (0, 0)) := by rw [hwa]; exact heap_alloc_new v3 _
            obtain ⟨b, hbq⟩ : ∃ g, g = v3.heap.size := ⟨_, rfl⟩
            have hbge : v3.heap.size ≤ b := by have := CB.out.size; omega
            rw [← hbq] at hra
            rw [← hwa, ← hbq]
            clear hwa hbq
            have RB := Lib.hid hra
            clear hra
            have Z4 := Lib.hid hb.size
            replace C0 := Lib.hid (C0.out.trans (hb.mono C0.out.size))
            replace CR := Lib.hid (CR.out.trans (hb.mono CR.out.size))
            replace CB := Lib.hid (CB.out.trans (hb.mono CB.out.size))
            clear hb
            refine ⟨fun _ => CR.out, ?_⟩
            refine one_s (i := 1) (by kernel_rfl) (op_list rfl ?_)
            go_wp2_with fail
            refine (to_Program vw0 vm0 vi0 L0 _ _ (IS0.out.below C0.out) (by omega)).mono ?_
            rintro e v5 ⟨gp0, rfl, hh, hb⟩
            have Hp0 := Lib.hid hh
            clear hh
            have Z5 := Lib.hid hb.size
            replace C0 := Lib.hid (C0.out.trans (hb.mono C0.out.size))
            replace CR := Lib.hid (CR.out.trans (hb.mono CR.out.size))
            replace CB := Lib.hid (CB.out.trans (hb.mono CB.out.size))
            replace RB := Lib.hid ((hb.block _ (Array.getElem?_eq_some_iff.1 RB.out).1).trans RB.out)
            clear hb
            go_wp2
            refine ⟨fun _ => CR.out, ?_⟩
            refine one_s (i := 3) (by kernel_rfl) (op_list rfl ?_)
            go_wp2_with fail
            refine (to_Path x1 _ _ _ _ _ _ _ (IS1.out.below C0.out) NB1.out).mono ?_
            rintro e v6 ⟨grp1, gmp1, gsp1, gop1, gcp1, gup1, Bp1, rfl, hh, hb⟩
            have Hp1 := Lib.hid hh
            clear hh
            have Z6 := Lib.hid hb.size
            replace C0 := Lib.hid (C0.out.trans (hb.mono C0.out.size))
            replace CR := Lib.hid (CR.out.trans (hb.mono CR.out.size))
            replace CB := Lib.hid (CB.out.trans (hb.mono CB.out.size))
            replace RB := Lib.hid ((hb.block _ (Array.getElem?_eq_some_iff.1 RB.out).1).trans RB.out)
            replace Hp0 := Lib.hid (own_keep Hp0.out hb)
            clear hb
            go_wp2
            refine ⟨fun _ => CR.out, ?_⟩
            refine one_s (i := 5) (by kernel_rfl) (op_list rfl ?_)
            go_wp2_with fail
            refine (to_Int L2 _ _ (IS2.out.below C0.out) (by omega)).mono ?_
            rintro e v7 ⟨gp2, rfl, hh, hb⟩
            have Hp2 := Lib.hid hh
            clear hh
            have Z7 := Lib.hid hb.size
            replace C0 := Lib.hid (C0.out.trans (hb.mono C0.out.size))
            replace CR := Lib.hid (CR.out.trans (hb.mono CR.out.size))
            replace CB := Lib.hid (CB.out.trans (hb.mono CB.out.size))
            replace RB := Lib.hid ((hb.block _ (Array.getElem?_eq_some_iff.1 RB.out).1).trans RB.out)
            replace Hp0 := Lib.hid (own_keep Hp0.out hb)
            replace Hp1 := Lib.hid (Hp1.out.keep hb)
            clear hb
            go_wp2
            refine ⟨fun _ => CR.out, ?_⟩
            refine one_s (i := 6) (by kernel_rfl) (op_list rfl ?_)
            go_wp2_with fail
            refine (KS.out _ _ _ _ _ _ _ _ _ ((Cs.shows_of_owns Hp0.out).down (Nat.zero_le _)) (Hp1.out.shows) ((Cs.shows_of_owns Hp2.out).down (Nat.zero_le _))).mono ?_
            rintro e v8 ⟨hb, rq, rc, mq, mc, sq, sc, oq, oc, rfl, hh⟩
            have OV := Lib.hid (hh.base (base' := v3.heap.size) (by have := CB.out.size; omega))
            clear hh
            have Z8 := Lib.hid hb.size
            replace C0 := Lib.hid (C0.out.trans (hb.mono C0.out.size))
            replace CR := Lib.hid (CR.out.trans (hb.mono CR.out.size))
            replace CB := Lib.hid (CB.out.trans (hb.mono CB.out.size))
            replace RB := Lib.hid ((hb.block _ (Array.getElem?_eq_some_iff.1 RB.out).1).trans RB.out)
            replace Hp0 := Lib.hid (own_keep Hp0.out hb)
            replace Hp1 := Lib.hid (Hp1.out.keep hb)
            replace Hp2 := Lib.hid (own_keep Hp2.out hb)
            clear hb
            go_wp2
            refine ⟨fun _ => CR.out, ?_⟩
            refine take_s (i := 7) (v := .tuple #[.agg #[.int .i64 x.pc, .slice rq x.R.length rc, .slice mq x.M.length mc, .slice sq x.S.length sc, .int .i64 x.inn, .slice oq x.O.length oc, .int .i64 x.cd, .int .i64 x.st], .bool bb]) rfl (by kernel_rfl) (fun _ _ _ h => h) CR.out rfl (fun V hV => ?_) ?_
            · go_simp
            refine take_s (i := 8) (v := .agg #[.int .i64 x.pc, .slice rq x.R.length rc, .slice mq x.M.length mc, .slice sq x.S.length sc, .int .i64 x.inn, .slice oq x.O.length oc, .int .i64 x.cd, .int .i64 x.st]) rfl (by kernel_rfl) (fun _ _ _ h => h) CR.out rfl (fun V hV => ?_) ?_
            · go_simp
            refine take_p (i := 9) (v := .bool bb) rfl (by kernel_rfl) (fun _ _ _ h => h) CR.out rfl (fun V => ?_) ?_
            · go_simp
            refine one_s (i := 11) (by kernel_rfl) (wpOp_store rfl rfl 32 _ _ rfl b #[.int .i64 x.pc, .slice rq x.R.length rc, .slice mq x.M.length mc, .slice sq x.S.length sc, .int .i64 x.inn, .slice oq x.O.length oc, .int .i64 x.cd, .int .i64 x.st] rfl rfl 32 _ RB.out (by kernel_rfl) rfl (by first | (simp [Value.oneCell']; done) | (simp; exact ⟨rfl, rfl, rfl, rfl, rfl, rfl, rfl, rfl⟩) | kernel_rfl) ?_)
            refine ⟨late_s (by kernel_rfl), ?_⟩
            obtain ⟨we, hwe⟩ : ∃ W9, W9 = v8.setRow b #[.int .i64 x.pc, .slice rq x.R.length rc, .slice mq x.M.length mc, .slice sq x.S.length sc, .int .i64 x.inn, .slice oq x.O.length oc, .int .i64 x.cd, .int .i64 x.st] := ⟨_, rfl⟩
            have D2 := Lib.hid (show we.heap[b]? = some (.cells #[.int .i64 x.pc, .slice rq x.R.length rc, .slice mq x.M.length mc, .slice sq x.S.length sc, .int .i64 x.inn, .slice oq x.O.length oc, .int .i64 x.cd, .int .i64 x.st] 32 (0, 0)) by rw [hwe]; exact setRow_heap _ _ _ _ _ _ RB.out)
            have BE := Lib.hid (show Below v3.heap.size v3 we by rw [hwe]; exact below_setRow CB.out hbge _)
            have OE := Lib.hid (show StO we v3.heap.size x _ _ _ _ from OV.out.same (fun g hg => by rw [hwe]; exact setRow_other _ _ _ _ (fun e => OV.out.off (T := 32) (by decide) RB.out (by rw [← e]; exact hg))))
            rw [← hwe]
            clear hwe
            refine one_s (i := 12) (by kernel_rfl) (op_list rfl ?_)
            go_wp2
            refine ⟨late_s (by kernel_rfl), done_s (by kernel_rfl) ?_ _⟩
            go_wp2_with fail
            go_meet
            exact ⟨b, rq, rc, mq, mc, sq, sc, oq, oc, rfl, rfl, hbge, D2.out, OE.out, BE.out⟩
        case rest => as_aux_lemma =>
          obtain ⟨gs0, s0rq, s0rc, s0mq, s0mc, s0sq, s0sc, s0oq, s0oc, hv8, hv9, hge, hR, hO, hb⟩ := hcut
          subst hv8 hv9
          rename World => v4
          have Rs0 := Lib.hid hR
          have Os0 := Lib.hid hO
          clear hR hO hge
          have Z4 := Lib.hid hb.size
          replace C0 := Lib.hid (C0.out.trans (hb.mono C0.out.size))
          replace A0 := Lib.hid ((hb.block _ (Array.getElem?_eq_some_iff.1 A0.out).1).trans A0.out)
          replace A1 := Lib.hid ((hb.block _ (Array.getElem?_eq_some_iff.1 A1.out).1).trans A1.out)
          clear hb
          have BRs0 := Lib.hid (show gs0 < v4.heap.size from (Array.getElem?_eq_some_iff.1 Rs0.out).1)
          have IOs0 := Lib.hid (fun g (hg : g ∈ StB (.slice s0rq x.R.length s0rc) (.slice s0mq x.M.length s0mc) (.slice s0sq x.S.length s0sc) (.slice s0oq x.O.length s0oc)) => (Os0.out.lt hg))
          obtain ⟨z0_0, z0_1, z0_2, z0_3⟩ := cell4_row A0.out
          go_wp2_with fail
          clear z0_0 z0_1 z0_2 z0_3
          refine (to_Program vw0 vm0 vi0 L0 _ _ (IS0.out.below C0.out) (by omega)).mono ?_
          rintro e v5 ⟨gx0, rfl, hh, hb⟩
          have Hx0 := Lib.hid hh
          clear hh
          have Z6 := Lib.hid hb.size
          replace C0 := Lib.hid (C0.out.trans (hb.mono C0.out.size))
          replace A0 := Lib.hid ((hb.block _ (Array.getElem?_eq_some_iff.1 A0.out).1).trans A0.out)
          replace A1 := Lib.hid ((hb.block _ (Array.getElem?_eq_some_iff.1 A1.out).1).trans A1.out)
          replace Rs0 := Lib.hid ((hb.block _ (Array.getElem?_eq_some_iff.1 Rs0.out).1).trans Rs0.out)
          replace Os0 := Lib.hid (Os0.out.keep hb)
          clear hb
          have IHx0 := Lib.hid (fun g (hg : g ∈ (Value.slice (some ⟨gx0, 0, none⟩) L0.length L0.length).ownBlock.toList) => (own_lt Hx0.out hg))
          obtain ⟨z0_0, z0_1, z0_2, z0_3, z0_4, z0_5, z0_6, z0_7, z0_8, z0_9⟩ := cell10_row A1.out
          have hyl0 := World.block_lt_of_cell? _ _ z0_0
          obtain ⟨v6, hW⟩ : ∃ W, W = v5.alloc (.cells #[.int .i64 vw0, .int .i64 vm0, .int .i64 vi0, .slice (some ⟨gx0, 0, none⟩) L0.length L0.length] 37) := ⟨_, rfl⟩
          have hb : Below v5.heap.size v5 v6 := by rw [hW]; exact (Below.refl _ _).alloc (Nat.le_refl _) _
          have X0 : Hid (v6.heap[v5.heap.size]? = some (.cells #[.int .i64 vw0, .int .i64 vm0, .int .i64 vi0, .slice (some ⟨gx0, 0, none⟩) L0.length L0.length] 37 (0, 0))) := Lib.hid (by rw [hW]; exact heap_alloc_new _ _)
          have BX0 := Lib.hid (show v5.heap.size < v6.heap.size from (Array.getElem?_eq_some_iff.1 X0.out).1)
          have HW := Lib.hid hW
          clear hW
          have Z7 := Lib.hid hb.size
          replace C0 := Lib.hid (C0.out.trans (hb.mono C0.out.size))
          replace A0 := Lib.hid ((hb.block _ (Array.getElem?_eq_some_iff.1 A0.out).1).trans A0.out)
          replace A1 := Lib.hid ((hb.block _ (Array.getElem?_eq_some_iff.1 A1.out).1).trans A1.out)
          replace Rs0 := Lib.hid ((hb.block _ (Array.getElem?_eq_some_iff.1 Rs0.out).1).trans Rs0.out)
          replace Os0 := Lib.hid (Os0.out.keep hb)
          replace Hx0 := Lib.hid (own_keep Hx0.out hb)
          clear hb
          go_wp2_with fail
          rw [← HW.out]
          clear HW z0_0 z0_1 z0_2 z0_3 z0_4 z0_5 z0_6 z0_7 z0_8 z0_9 hyl0
          refine (to_Path x1 _ _ _ _ _ _ _ (IS1.out.below C0.out) NB1.out).mono ?_
          rintro e v7 ⟨grx1, gmx1, gsx1, gox1, gcx1, gux1, Bx1, rfl, hh, hb⟩
          have Hx1 := Lib.hid hh
          clear hh
          have Z9 := Lib.hid hb.size
          replace C0 := Lib.hid (C0.out.trans (hb.mono C0.out.size))
          replace A0 := Lib.hid ((hb.block _ (Array.getElem?_eq_some_iff.1 A0.out).1).trans A0.out)
          replace A1 := Lib.hid ((hb.block _ (Array.getElem?_eq_some_iff.1 A1.out).1).trans A1.out)
          replace Rs0 := Lib.hid ((hb.block _ (Array.getElem?_eq_some_iff.1 Rs0.out).1).trans Rs0.out)
          replace Os0 := Lib.hid (Os0.out.keep hb)
          replace Hx0 := Lib.hid (own_keep Hx0.out hb)
          replace X0 := Lib.hid ((hb.block _ (Array.getElem?_eq_some_iff.1 X0.out).1).trans X0.out)
          clear hb
          have IHx1 := Lib.hid (fun g (hg : g ∈ Bx1) => (Hx1.out.lt _ hg))
          obtain ⟨v8, hW⟩ : ∃ W, W = v7.alloc (.cells #[.int .i64 x1.pc, .slice (some ⟨grx1, 0, none⟩) x1.R.len x1.R.len, .slice (some ⟨gmx1, 0, none⟩) x1.M.len x1.M.len, .slice (some ⟨gsx1, 0, none⟩) x1.S.length x1.S.length, .int .i64 x1.inn, .slice (some ⟨gox1, 0, none⟩) x1.O.len x1.O.len, .int .i64 x1.cd, .int .i64 x1.st, .slice (some ⟨gcx1, 0, none⟩) x1.C.len x1.C.len, .slice (some ⟨gux1, 0, none⟩) x1.U.length x1.U.length] 41) := ⟨_, rfl⟩
          have hb : Below v7.heap.size v7 v8 := by rw [hW]; exact (Below.refl _ _).alloc (Nat.le_refl _) _
          have X1 : Hid (v8.heap[v7.heap.size]? = some (.cells #[.int .i64 x1.pc, .slice (some ⟨grx1, 0, none⟩) x1.R.len x1.R.len, .slice (some ⟨gmx1, 0, none⟩) x1.M.len x1.M.len, .slice (some ⟨gsx1, 0, none⟩) x1.S.length x1.S.length, .int .i64 x1.inn, .slice (some ⟨gox1, 0, none⟩) x1.O.len x1.O.len, .int .i64 x1.cd, .int .i64 x1.st, .slice (some ⟨gcx1, 0, none⟩) x1.C.len x1.C.len, .slice (some ⟨gux1, 0, none⟩) x1.U.length x1.U.length] 41 (0, 0))) := Lib.hid (by rw [hW]; exact heap_alloc_new _ _)
          have BX1 := Lib.hid (show v7.heap.size < v8.heap.size from (Array.getElem?_eq_some_iff.1 X1.out).1)
          have HW := Lib.hid hW
          clear hW
          have Z10 := Lib.hid hb.size
          replace C0 := Lib.hid (C0.out.trans (hb.mono C0.out.size))
          replace A0 := Lib.hid ((hb.block _ (Array.getElem?_eq_some_iff.1 A0.out).1).trans A0.out)
          replace A1 := Lib.hid ((hb.block _ (Array.getElem?_eq_some_iff.1 A1.out).1).trans A1.out)
          replace Rs0 := Lib.hid ((hb.block _ (Array.getElem?_eq_some_iff.1 Rs0.out).1).trans Rs0.out)
          replace Os0 := Lib.hid (Os0.out.keep hb)
          replace Hx0 := Lib.hid (own_keep Hx0.out hb)
          replace X0 := Lib.hid ((hb.block _ (Array.getElem?_eq_some_iff.1 X0.out).1).trans X0.out)
          replace Hx1 := Lib.hid (Hx1.out.keep hb)
          clear hb
          go_wp2_with fail
          rw [← HW.out]
          clear HW
          refine (to_Int L2 _ _ (IS2.out.below C0.out) (by omega)).mono ?_
          rintro e v9 ⟨gx2, rfl, hh, hb⟩
          have Hx2 := Lib.hid hh
          clear hh
          have Z12 := Lib.hid hb.size
          replace C0 := Lib.hid (C0.out.trans (hb.mono C0.out.size))
          replace A0 := Lib.hid ((hb.block _ (Array.getElem?_eq_some_iff.1 A0.out).1).trans A0.out)
          replace A1 := Lib.hid ((hb.block _ (Array.getElem?_eq_some_iff.1 A1.out).1).trans A1.out)
          replace Rs0 := Lib.hid ((hb.block _ (Array.getElem?_eq_some_iff.1 Rs0.out).1).trans Rs0.out)
          replace Os0 := Lib.hid (Os0.out.keep hb)
          replace Hx0 := Lib.hid (own_keep Hx0.out hb)
          replace X0 := Lib.hid ((hb.block _ (Array.getElem?_eq_some_iff.1 X0.out).1).trans X0.out)
          replace Hx1 := Lib.hid (Hx1.out.keep hb)
          replace X1 := Lib.hid ((hb.block _ (Array.getElem?_eq_some_iff.1 X1.out).1).trans X1.out)
          clear hb
          have IHx2 := Lib.hid (fun g (hg : g ∈ (Value.slice (some ⟨gx2, 0, none⟩) L2.length L2.length).ownBlock.toList) => (own_lt Hx2.out hg))
          obtain ⟨z0_0, z0_1, z0_2, z0_3⟩ := cell4_row X0.out
          obtain ⟨z1_0, z1_1, z1_2, z1_3, z1_4, z1_5, z1_6, z1_7, z1_8, z1_9⟩ := cell10_row X1.out
          go_wp2_with fail
          clear z0_0 z0_1 z0_2 z0_3 z1_0 z1_1 z1_2 z1_3 z1_4 z1_5 z1_6 z1_7 z1_8 z1_9
          refine (KI.out _ _ _ _ _ _ _ _ _ ((Cs.shows_of_owns Hx0.out).down (Nat.zero_le _)) (Hx1.out.shows) ((Cs.shows_of_owns Hx2.out).down (Nat.zero_le _)) C0.out).mono ?_
          rintro e v10 ⟨hb, i0rq, i0rc, i0mq, i0mc, i0sq, i0sc, i0oq, i0oc, rfl, hh⟩
          have Oi0 := Lib.hid hh
          clear hh
          have Z13 := Lib.hid hb.size
          replace C0 := Lib.hid (C0.out.trans (hb.mono C0.out.size))
          replace A0 := Lib.hid ((hb.block _ (Array.getElem?_eq_some_iff.1 A0.out).1).trans A0.out)
          replace A1 := Lib.hid ((hb.block _ (Array.getElem?_eq_some_iff.1 A1.out).1).trans A1.out)
          replace Rs0 := Lib.hid ((hb.block _ (Array.getElem?_eq_some_iff.1 Rs0.out).1).trans Rs0.out)
          replace Os0 := Lib.hid (Os0.out.keep hb)
          replace Hx0 := Lib.hid (own_keep Hx0.out hb)
          replace X0 := Lib.hid ((hb.block _ (Array.getElem?_eq_some_iff.1 X0.out).1).trans X0.out)
          replace Hx1 := Lib.hid (Hx1.out.keep hb)
          replace X1 := Lib.hid ((hb.block _ (Array.getElem?_eq_some_iff.1 X1.out).1).trans X1.out)
          replace Hx2 := Lib.hid (own_keep Hx2.out hb)
          clear hb
          have IOi0 := Lib.hid (fun g (hg : g ∈ StB (.slice i0rq x.R.length i0rc) (.slice i0mq x.M.length i0mc) (.slice i0sq x.S.length i0sc) (.slice i0oq x.O.length i0oc)) => (Oi0.out.lt hg))
          obtain ⟨z0_0, z0_1, z0_2, z0_3, z0_4, z0_5, z0_6, z0_7⟩ := cell8_row Rs0.out
          have hyl0 := World.block_lt_of_cell? _ _ z0_0
          obtain ⟨v11, hW⟩ : ∃ W, W = v10.alloc (.cells #[.int .i64 x.pc, .slice i0rq x.R.length i0rc, .slice i0mq x.M.length i0mc, .slice i0sq x.S.length i0sc, .int .i64 x.inn, .slice i0oq x.O.length i0oc, .int .i64 x.cd, .int .i64 x.st] 32) := ⟨_, rfl⟩
          have hb : Below v10.heap.size v10 v11 := by rw [hW]; exact (Below.refl _ _).alloc (Nat.le_refl _) _
          have Ri0 : Hid (v11.heap[v10.heap.size]? = some (.cells #[.int .i64 x.pc, .slice i0rq x.R.length i0rc, .slice i0mq x.M.length i0mc, .slice i0sq x.S.length i0sc, .int .i64 x.inn, .slice i0oq x.O.length i0oc, .int .i64 x.cd, .int .i64 x.st] 32 (0, 0))) := Lib.hid (by rw [hW]; exact heap_alloc_new _ _)
          have BRi0 := Lib.hid (show v10.heap.size < v11.heap.size from (Array.getElem?_eq_some_iff.1 Ri0.out).1)
          have HW := Lib.hid hW
          clear hW
          have Z14 := Lib.hid hb.size
          replace C0 := Lib.hid (C0.out.trans (hb.mono C0.out.size))
          replace A0 := Lib.hid ((hb.block _ (Array.getElem?_eq_some_iff.1 A0.out).1).trans A0.out)
          replace A1 := Lib.hid ((hb.block _ (Array.getElem?_eq_some_iff.1 A1.out).1).trans A1.out)
          replace Rs0 := Lib.hid ((hb.block _ (Array.getElem?_eq_some_iff.1 Rs0.out).1).trans Rs0.out)
          replace Os0 := Lib.hid (Os0.out.keep hb)
          replace Hx0 := Lib.hid (own_keep Hx0.out hb)
          replace X0 := Lib.hid ((hb.block _ (Array.getElem?_eq_some_iff.1 X0.out).1).trans X0.out)
          replace Hx1 := Lib.hid (Hx1.out.keep hb)
          replace X1 := Lib.hid ((hb.block _ (Array.getElem?_eq_some_iff.1 X1.out).1).trans X1.out)
          replace Hx2 := Lib.hid (own_keep Hx2.out hb)
          replace Oi0 := Lib.hid (Oi0.out.keep hb)
          clear hb
          go_wp2_with fail
          rw [← HW.out]
          clear HW z0_0 z0_1 z0_2 z0_3 z0_4 z0_5 z0_6 z0_7 hyl0
          refine (eq_State x _ _ _ _ _ _ _ _ _ (Oi0.out.shows) (Os0.out.shows) (by omega)).mono ?_
          rintro e v12 ⟨rfl, hb⟩
          have Z16 := Lib.hid hb.size
          replace C0 := Lib.hid (C0.out.trans (hb.mono C0.out.size))
          replace A0 := Lib.hid ((hb.block _ (Array.getElem?_eq_some_iff.1 A0.out).1).trans A0.out)
          replace A1 := Lib.hid ((hb.block _ (Array.getElem?_eq_some_iff.1 A1.out).1).trans A1.out)
          replace Rs0 := Lib.hid ((hb.block _ (Array.getElem?_eq_some_iff.1 Rs0.out).1).trans Rs0.out)
          replace Os0 := Lib.hid (Os0.out.keep hb)
          replace Hx0 := Lib.hid (own_keep Hx0.out hb)
          replace X0 := Lib.hid ((hb.block _ (Array.getElem?_eq_some_iff.1 X0.out).1).trans X0.out)
          replace Hx1 := Lib.hid (Hx1.out.keep hb)
          replace X1 := Lib.hid ((hb.block _ (Array.getElem?_eq_some_iff.1 X1.out).1).trans X1.out)
          replace Hx2 := Lib.hid (own_keep Hx2.out hb)
          replace Oi0 := Lib.hid (Oi0.out.keep hb)
          replace Ri0 := Lib.hid ((hb.block _ (Array.getElem?_eq_some_iff.1 Ri0.out).1).trans Ri0.out)
          clear hb
          as_aux_lemma =>
            go_upto_region 17 with fail
            obtain ⟨v13, hv⟩ : ∃ W, W = v12.drew := ⟨_, rfl⟩
            refine region_c (fun V => Below v13.heap.size v13 V) (by kernel_rfl) ?_
            rw [← hv]
            have hb : Below v12.heap.size v12 v13 := by rw [hv]; exact (Below.refl _ _).drew
            clear hv
            have Z17 := Lib.hid hb.size
            replace C0 := Lib.hid (C0.out.trans (hb.mono C0.out.size))
            replace A0 := Lib.hid ((hb.block _ (Array.getElem?_eq_some_iff.1 A0.out).1).trans A0.out)
            replace A1 := Lib.hid ((hb.block _ (Array.getElem?_eq_some_iff.1 A1.out).1).trans A1.out)
            replace Rs0 := Lib.hid ((hb.block _ (Array.getElem?_eq_some_iff.1 Rs0.out).1).trans Rs0.out)
            replace Os0 := Lib.hid (Os0.out.keep hb)
            replace Hx0 := Lib.hid (own_keep Hx0.out hb)
            replace X0 := Lib.hid ((hb.block _ (Array.getElem?_eq_some_iff.1 X0.out).1).trans X0.out)
            replace Hx1 := Lib.hid (Hx1.out.keep hb)
            replace X1 := Lib.hid ((hb.block _ (Array.getElem?_eq_some_iff.1 X1.out).1).trans X1.out)
            replace Hx2 := Lib.hid (own_keep Hx2.out hb)
            replace Oi0 := Lib.hid (Oi0.out.keep hb)
            replace Ri0 := Lib.hid ((hb.block _ (Array.getElem?_eq_some_iff.1 Ri0.out).1).trans Ri0.out)
            clear hb
            have CR := Lib.hid (Below.refl v13.heap.size v13)
            refine take_c (i := 0) (v := .agg #[.int .i64 vw0, .int .i64 vm0, .int .i64 vi0, .slice (some ⟨gx0, 0, none⟩) L0.length L0.length]) rfl (by kernel_rfl) (by kernel_rfl) (by kernel_rfl) (fun _ _ _ h => h) CR.out rfl (fun V hV => ?_) ?_
            · obtain ⟨z0, z1, z2, z3⟩ := cell4_row ((hV.block _ (Array.getElem?_eq_some_iff.1 X0.out).1).trans X0.out)
              go_simp
            refine take_c (i := 1) (v := .agg #[.int .i64 vw0, .int .i64 vm0, .int .i64 vi0, .slice q0 L0.length cap0]) rfl (by kernel_rfl) (by kernel_rfl) (by kernel_rfl) (fun _ _ _ h => h) CR.out rfl (fun V hV => ?_) ?_
            · obtain ⟨z0, z1, z2, z3⟩ := cell4_row ((hV.block _ (Array.getElem?_eq_some_iff.1 A0.out).1).trans A0.out)
              go_simp
            refine one_c (i := 2) (by kernel_rfl) (op_list rfl ?_)
            go_wp2_with fail
            refine (to_Program vw0 vm0 vi0 L0 _ _ (IS0.out.below C0.out) (by omega)).mono ?_
            rintro e v14 ⟨ge, rfl, hh, hb⟩
            have He := Lib.hid hh
            clear hh
            have Z18 := Lib.hid hb.size
            replace C0 := Lib.hid (C0.out.trans (hb.mono C0.out.size))
            replace A0 := Lib.hid ((hb.block _ (Array.getElem?_eq_some_iff.1 A0.out).1).trans A0.out)
            replace A1 := Lib.hid ((hb.block _ (Array.getElem?_eq_some_iff.1 A1.out).1).trans A1.out)
            replace Rs0 := Lib.hid ((hb.block _ (Array.getElem?_eq_some_iff.1 Rs0.out).1).trans Rs0.out)
            replace Os0 := Lib.hid (Os0.out.keep hb)
            replace Hx0 := Lib.hid (own_keep Hx0.out hb)
            replace X0 := Lib.hid ((hb.block _ (Array.getElem?_eq_some_iff.1 X0.out).1).trans X0.out)
            replace Hx1 := Lib.hid (Hx1.out.keep hb)
            replace X1 := Lib.hid ((hb.block _ (Array.getElem?_eq_some_iff.1 X1.out).1).trans X1.out)
            replace Hx2 := Lib.hid (own_keep Hx2.out hb)
            replace Oi0 := Lib.hid (Oi0.out.keep hb)
            replace Ri0 := Lib.hid ((hb.block _ (Array.getElem?_eq_some_iff.1 Ri0.out).1).trans Ri0.out)
            replace CR := Lib.hid (CR.out.trans (hb.mono CR.out.size))
            clear hb
            go_wp2
            refine ⟨CR.out, ?_⟩
            refine one_c (i := 3) (by kernel_rfl) (op_list rfl ?_)
            go_wp2_with fail
            refine (eq_Program vw0 vm0 vi0 L0 _ _ _ ((Cs.shows_of_owns Hx0.out).down (Nat.zero_le _)) ((Cs.shows_of_owns He.out).down (Nat.zero_le _)) (by omega)).mono ?_
            rintro e v15 ⟨rfl, hb⟩
            have Z19 := Lib.hid hb.size
            replace C0 := Lib.hid (C0.out.trans (hb.mono C0.out.size))
            replace A0 := Lib.hid ((hb.block _ (Array.getElem?_eq_some_iff.1 A0.out).1).trans A0.out)
            replace A1 := Lib.hid ((hb.block _ (Array.getElem?_eq_some_iff.1 A1.out).1).trans A1.out)
            replace Rs0 := Lib.hid ((hb.block _ (Array.getElem?_eq_some_iff.1 Rs0.out).1).trans Rs0.out)
            replace Os0 := Lib.hid (Os0.out.keep hb)
            replace Hx0 := Lib.hid (own_keep Hx0.out hb)
            replace X0 := Lib.hid ((hb.block _ (Array.getElem?_eq_some_iff.1 X0.out).1).trans X0.out)
            replace Hx1 := Lib.hid (Hx1.out.keep hb)
            replace X1 := Lib.hid ((hb.block _ (Array.getElem?_eq_some_iff.1 X1.out).1).trans X1.out)
            replace Hx2 := Lib.hid (own_keep Hx2.out hb)
            replace Oi0 := Lib.hid (Oi0.out.keep hb)
            replace Ri0 := Lib.hid ((hb.block _ (Array.getElem?_eq_some_iff.1 Ri0.out).1).trans Ri0.out)
            replace CR := Lib.hid (CR.out.trans (hb.mono CR.out.size))
            replace He := Lib.hid (own_keep He.out hb)
            clear hb
            go_wp2
            refine ⟨CR.out, ?_⟩
            clear He
            refine one_c (i := 4) (by kernel_rfl) (op_list rfl ?_)
            go_wp2
            refine ⟨CR.out, done_c (by kernel_rfl) ?_ _⟩
            clear CR
            go_upto_region 19 with fail
            obtain ⟨v16, hv⟩ : ∃ W, W = v15.drew := ⟨_, rfl⟩
            refine region_c (fun V => Below v16.heap.size v16 V) (by kernel_rfl) ?_
            rw [← hv]
            have hb : Below v15.heap.size v15 v16 := by rw [hv]; exact (Below.refl _ _).drew
            clear hv
            have Z20 := Lib.hid hb.size
            replace C0 := Lib.hid (C0.out.trans (hb.mono C0.out.size))
            replace A0 := Lib.hid ((hb.block _ (Array.getElem?_eq_some_iff.1 A0.out).1).trans A0.out)
            replace A1 := Lib.hid ((hb.block _ (Array.getElem?_eq_some_iff.1 A1.out).1).trans A1.out)
            replace Rs0 := Lib.hid ((hb.block _ (Array.getElem?_eq_some_iff.1 Rs0.out).1).trans Rs0.out)
            replace Os0 := Lib.hid (Os0.out.keep hb)
            replace Hx0 := Lib.hid (own_keep Hx0.out hb)
            replace X0 := Lib.hid ((hb.block _ (Array.getElem?_eq_some_iff.1 X0.out).1).trans X0.out)
            replace Hx1 := Lib.hid (Hx1.out.keep hb)
            replace X1 := Lib.hid ((hb.block _ (Array.getElem?_eq_some_iff.1 X1.out).1).trans X1.out)
            replace Hx2 := Lib.hid (own_keep Hx2.out hb)
            replace Oi0 := Lib.hid (Oi0.out.keep hb)
            replace Ri0 := Lib.hid ((hb.block _ (Array.getElem?_eq_some_iff.1 Ri0.out).1).trans Ri0.out)
            clear hb
            have CR := Lib.hid (Below.refl v16.heap.size v16)
            refine take_c (i := 0) (v := .agg #[.int .i64 x1.pc, .slice (some ⟨grx1, 0, none⟩) x1.R.len x1.R.len, .slice (some ⟨gmx1, 0, none⟩) x1.M.len x1.M.len, .slice (some ⟨gsx1, 0, none⟩) x1.S.length x1.S.length, .int .i64 x1.inn, .slice (some ⟨gox1, 0, none⟩) x1.O.len x1.O.len, .int .i64 x1.cd, .int .i64 x1.st, .slice (some ⟨gcx1, 0, none⟩) x1.C.len x1.C.len, .slice (some ⟨gux1, 0, none⟩) x1.U.length x1.U.length]) rfl (by kernel_rfl) (by kernel_rfl) (by kernel_rfl) (fun _ _ _ h => h) CR.out rfl (fun V hV => ?_) ?_
            · obtain ⟨z0, z1, z2, z3, z4, z5, z6, z7, z8, z9⟩ := cell10_row ((hV.block _ (Array.getElem?_eq_some_iff.1 X1.out).1).trans X1.out)
              go_simp
            refine take_c (i := 1) (v := .agg #[.int .i64 x1.pc, .slice qr1 x1.R.len cr1, .slice qm1 x1.M.len cm1, .slice qs1 x1.S.length cs1, .int .i64 x1.inn, .slice qo1 x1.O.len co1, .int .i64 x1.cd, .int .i64 x1.st, .slice qc1 x1.C.len cc1, .slice qu1 x1.U.length cu1]) rfl (by kernel_rfl) (by kernel_rfl) (by kernel_rfl) (fun _ _ _ h => h) CR.out rfl (fun V hV => ?_) ?_
            · obtain ⟨z0, z1, z2, z3, z4, z5, z6, z7, z8, z9⟩ := cell10_row ((hV.block _ (Array.getElem?_eq_some_iff.1 A1.out).1).trans A1.out)
              go_simp
            refine one_c (i := 2) (by kernel_rfl) (op_list rfl ?_)
            go_wp2_with fail
            refine (to_Path x1 _ _ _ _ _ _ _ (IS1.out.below C0.out) NB1.out).mono ?_
            rintro e v17 ⟨gre, gme, gse, goe, gce, gue, Be, rfl, hh, hb⟩
            have He := Lib.hid hh
            clear hh
            have Z21 := Lib.hid hb.size
            replace C0 := Lib.hid (C0.out.trans (hb.mono C0.out.size))
            replace A0 := Lib.hid ((hb.block _ (Array.getElem?_eq_some_iff.1 A0.out).1).trans A0.out)
            replace A1 := Lib.hid ((hb.block _ (Array.getElem?_eq_some_iff.1 A1.out).1).trans A1.out)
            replace Rs0 := Lib.hid ((hb.block _ (Array.getElem?_eq_some_iff.1 Rs0.out).1).trans Rs0.out)
            replace Os0 := Lib.hid (Os0.out.keep hb)
            replace Hx0 := Lib.hid (own_keep Hx0.out hb)
            replace X0 := Lib.hid ((hb.block _ (Array.getElem?_eq_some_iff.1 X0.out).1).trans X0.out)
            replace Hx1 := Lib.hid (Hx1.out.keep hb)
            replace X1 := Lib.hid ((hb.block _ (Array.getElem?_eq_some_iff.1 X1.out).1).trans X1.out)
            replace Hx2 := Lib.hid (own_keep Hx2.out hb)
            replace Oi0 := Lib.hid (Oi0.out.keep hb)
            replace Ri0 := Lib.hid ((hb.block _ (Array.getElem?_eq_some_iff.1 Ri0.out).1).trans Ri0.out)
            replace CR := Lib.hid (CR.out.trans (hb.mono CR.out.size))
            clear hb
            go_wp2
            refine ⟨CR.out, ?_⟩
            refine one_c (i := 3) (by kernel_rfl) (op_list rfl ?_)
            go_wp2_with fail
            refine (eq_Path x1 _ _ _ _ _ _ _ _ _ _ _ _ _ (Hx1.out.shows) (He.out.shows) NE1.out).mono ?_
            rintro e v18 ⟨rfl, hb⟩
            have Z22 := Lib.hid hb.size
            replace C0 := Lib.hid (C0.out.trans (hb.mono C0.out.size))
            replace A0 := Lib.hid ((hb.block _ (Array.getElem?_eq_some_iff.1 A0.out).1).trans A0.out)
            replace A1 := Lib.hid ((hb.block _ (Array.getElem?_eq_some_iff.1 A1.out).1).trans A1.out)
            replace Rs0 := Lib.hid ((hb.block _ (Array.getElem?_eq_some_iff.1 Rs0.out).1).trans Rs0.out)
            replace Os0 := Lib.hid (Os0.out.keep hb)
            replace Hx0 := Lib.hid (own_keep Hx0.out hb)
            replace X0 := Lib.hid ((hb.block _ (Array.getElem?_eq_some_iff.1 X0.out).1).trans X0.out)
            replace Hx1 := Lib.hid (Hx1.out.keep hb)
            replace X1 := Lib.hid ((hb.block _ (Array.getElem?_eq_some_iff.1 X1.out).1).trans X1.out)
            replace Hx2 := Lib.hid (own_keep Hx2.out hb)
            replace Oi0 := Lib.hid (Oi0.out.keep hb)
            replace Ri0 := Lib.hid ((hb.block _ (Array.getElem?_eq_some_iff.1 Ri0.out).1).trans Ri0.out)
            replace CR := Lib.hid (CR.out.trans (hb.mono CR.out.size))
            replace He := Lib.hid (He.out.keep hb)
            clear hb
            go_wp2
            refine ⟨CR.out, ?_⟩
            clear He
            refine one_c (i := 4) (by kernel_rfl) (op_list rfl ?_)
            go_wp2
            refine ⟨CR.out, done_c (by kernel_rfl) ?_ _⟩
            clear CR
            go_wp2_with fail
            refine (to_Int L2 _ _ (IS2.out.below C0.out) (by omega)).mono ?_
            rintro e v19 ⟨ge2, rfl, hh, hb⟩
            have He2 := Lib.hid hh
            clear hh
            have Z23 := Lib.hid hb.size
            replace C0 := Lib.hid (C0.out.trans (hb.mono C0.out.size))
            replace A0 := Lib.hid ((hb.block _ (Array.getElem?_eq_some_iff.1 A0.out).1).trans A0.out)
            replace A1 := Lib.hid ((hb.block _ (Array.getElem?_eq_some_iff.1 A1.out).1).trans A1.out)
            replace Rs0 := Lib.hid ((hb.block _ (Array.getElem?_eq_some_iff.1 Rs0.out).1).trans Rs0.out)
            replace Os0 := Lib.hid (Os0.out.keep hb)
            replace Hx0 := Lib.hid (own_keep Hx0.out hb)
            replace X0 := Lib.hid ((hb.block _ (Array.getElem?_eq_some_iff.1 X0.out).1).trans X0.out)
            replace Hx1 := Lib.hid (Hx1.out.keep hb)
            replace X1 := Lib.hid ((hb.block _ (Array.getElem?_eq_some_iff.1 X1.out).1).trans X1.out)
            replace Hx2 := Lib.hid (own_keep Hx2.out hb)
            replace Oi0 := Lib.hid (Oi0.out.keep hb)
            replace Ri0 := Lib.hid ((hb.block _ (Array.getElem?_eq_some_iff.1 Ri0.out).1).trans Ri0.out)
            clear hb
            have IHe2 := Lib.hid (fun g (hg : g ∈ (Value.slice (some ⟨ge2, 0, none⟩) L2.length L2.length).ownBlock.toList) => (own_lt He2.out hg))
            go_wp2_with fail
            refine (eq_Int L2 _ _ _ ((Cs.shows_of_owns Hx2.out).down (Nat.zero_le _)) ((Cs.shows_of_owns He2.out).down (Nat.zero_le _)) (by omega)).mono ?_
            rintro e v20 ⟨rfl, hb⟩
            have Z24 := Lib.hid hb.size
            replace C0 := Lib.hid (C0.out.trans (hb.mono C0.out.size))
            replace A0 := Lib.hid ((hb.block _ (Array.getElem?_eq_some_iff.1 A0.out).1).trans A0.out)
            replace A1 := Lib.hid ((hb.block _ (Array.getElem?_eq_some_iff.1 A1.out).1).trans A1.out)
            replace Rs0 := Lib.hid ((hb.block _ (Array.getElem?_eq_some_iff.1 Rs0.out).1).trans Rs0.out)
            replace Os0 := Lib.hid (Os0.out.keep hb)
            replace Hx0 := Lib.hid (own_keep Hx0.out hb)
            replace X0 := Lib.hid ((hb.block _ (Array.getElem?_eq_some_iff.1 X0.out).1).trans X0.out)
            replace Hx1 := Lib.hid (Hx1.out.keep hb)
            replace X1 := Lib.hid ((hb.block _ (Array.getElem?_eq_some_iff.1 X1.out).1).trans X1.out)
            replace Hx2 := Lib.hid (own_keep Hx2.out hb)
            replace Oi0 := Lib.hid (Oi0.out.keep hb)
            replace Ri0 := Lib.hid ((hb.block _ (Array.getElem?_eq_some_iff.1 Ri0.out).1).trans Ri0.out)
            replace He2 := Lib.hid (own_keep He2.out hb)
            clear hb
            clear He2
            as_aux_lemma =>
              obtain ⟨z0_0, z0_1, z0_2, z0_3⟩ := cell4_row X0.out
              go_wp2_with fail
              clear z0_0 z0_1 z0_2 z0_3
              refine (mark_Program vw0 vm0 vi0 L0 _ _ 1 _ _ Hx0.out (by omega) (by omega)).mono ?_
              rintro e v21 ⟨rfl, hh, hap⟩
              skip
              clear hh
              replace C0 := Lib.hid (C0.out.trans (hap.below C0.out.size (fun g hg => by have x1 := IHx0.out _ hg; have y0 := Z0.out; have y1 := BA1.out; have y2 := Z2.out; have y3 := Z3.out; have y4 := Z4.out; have y5 := BRs0.out; have y6 := Z6.out; have y7 := Z7.out; have y8 := BX0.out; have y9 := Z9.out; have y10 := Z10.out; have y11 := BX1.out; have y12 := Z12.out; have y13 := Z13.out; have y14 := Z14.out; have y15 := BRi0.out; have y16 := Z16.out; have y17 := Z17.out; have y18 := Z18.out; have y19 := Z19.out; have y20 := Z20.out; have y21 := Z21.out; have y22 := Z22.out; have y23 := Z23.out; have y24 := Z24.out; omega)))
              replace A0 := Lib.hid ((hap.block _ (Array.getElem?_eq_some_iff.1 A0.out).1 (fun hm => by have x1 := IHx0.out _ hm; have y0 := Z0.out; have y1 := BA1.out; have y2 := Z2.out; have y3 := Z3.out; have y4 := Z4.out; have y5 := BRs0.out; have y6 := Z6.out; have y7 := Z7.out; have y8 := BX0.out; have y9 := Z9.out; have y10 := Z10.out; have y11 := BX1.out; have y12 := Z12.out; have y13 := Z13.out; have y14 := Z14.out; have y15 := BRi0.out; have y16 := Z16.out; have y17 := Z17.out; have y18 := Z18.out; have y19 := Z19.out; have y20 := Z20.out; have y21 := Z21.out; have y22 := Z22.out; have y23 := Z23.out; have y24 := Z24.out; omega)).trans A0.out)
              replace A1 := Lib.hid ((hap.block _ (Array.getElem?_eq_some_iff.1 A1.out).1 (fun hm => by have x1 := IHx0.out _ hm; have y0 := Z0.out; have y1 := BA1.out; have y2 := Z2.out; have y3 := Z3.out; have y4 := Z4.out; have y5 := BRs0.out; have y6 := Z6.out; have y7 := Z7.out; have y8 := BX0.out; have y9 := Z9.out; have y10 := Z10.out; have y11 := BX1.out; have y12 := Z12.out; have y13 := Z13.out; have y14 := Z14.out; have y15 := BRi0.out; have y16 := Z16.out; have y17 := Z17.out; have y18 := Z18.out; have y19 := Z19.out; have y20 := Z20.out; have y21 := Z21.out; have y22 := Z22.out; have y23 := Z23.out; have y24 := Z24.out; omega)).trans A1.out)
              replace Rs0 := Lib.hid ((hap.block _ (Array.getElem?_eq_some_iff.1 Rs0.out).1 (fun hm => by have x1 := IHx0.out _ hm; have y0 := Z0.out; have y1 := BA1.out; have y2 := Z2.out; have y3 := Z3.out; have y4 := Z4.out; have y5 := BRs0.out; have y6 := Z6.out; have y7 := Z7.out; have y8 := BX0.out; have y9 := Z9.out; have y10 := Z10.out; have y11 := BX1.out; have y12 := Z12.out; have y13 := Z13.out; have y14 := Z14.out; have y15 := BRi0.out; have y16 := Z16.out; have y17 := Z17.out; have y18 := Z18.out; have y19 := Z19.out; have y20 := Z20.out; have y21 := Z21.out; have y22 := Z22.out; have y23 := Z23.out; have y24 := Z24.out; omega)).trans Rs0.out)
              replace Os0 := Lib.hid (Os0.out.same (fun g hg => hap.block g (Os0.out.lt hg).2 (fun hm => by have x1 := IHx0.out _ hm; have y0 := Z0.out; have y1 := BA1.out; have y2 := Z2.out; have y3 := Z3.out; have y4 := Z4.out; have y5 := BRs0.out; have y6 := Z6.out; have y7 := Z7.out; have y8 := BX0.out; have y9 := Z9.out; have y10 := Z10.out; have y11 := BX1.out; have y12 := Z12.out; have y13 := Z13.out; have y14 := Z14.out; have y15 := BRi0.out; have y16 := Z16.out; have y17 := Z17.out; have y18 := Z18.out; have y19 := Z19.out; have y20 := Z20.out; have y21 := Z21.out; have y22 := Z22.out; have y23 := Z23.out; have y24 := Z24.out; have x2 := IOs0.out _ hg; omega)))
              replace X0 := Lib.hid ((hap.block _ (Array.getElem?_eq_some_iff.1 X0.out).1 (fun hm => by have x1 := IHx0.out _ hm; have y0 := Z0.out; have y1 := BA1.out; have y2 := Z2.out; have y3 := Z3.out; have y4 := Z4.out; have y5 := BRs0.out; have y6 := Z6.out; have y7 := Z7.out; have y8 := BX0.out; have y9 := Z9.out; have y10 := Z10.out; have y11 := BX1.out; have y12 := Z12.out; have y13 := Z13.out; have y14 := Z14.out; have y15 := BRi0.out; have y16 := Z16.out; have y17 := Z17.out; have y18 := Z18.out; have y19 := Z19.out; have y20 := Z20.out; have y21 := Z21.out; have y22 := Z22.out; have y23 := Z23.out; have y24 := Z24.out; omega)).trans X0.out)
              replace Hx1 := Lib.hid (Hx1.out.same (fun g hg => hap.block g (Hx1.out.lt g hg).2 (fun hm => by have x1 := IHx0.out _ hm; have y0 := Z0.out; have y1 := BA1.out; have y2 := Z2.out; have y3 := Z3.out; have y4 := Z4.out; have y5 := BRs0.out; have y6 := Z6.out; have y7 := Z7.out; have y8 := BX0.out; have y9 := Z9.out; have y10 := Z10.out; have y11 := BX1.out; have y12 := Z12.out; have y13 := Z13.out; have y14 := Z14.out; have y15 := BRi0.out; have y16 := Z16.out; have y17 := Z17.out; have y18 := Z18.out; have y19 := Z19.out; have y20 := Z20.out; have y21 := Z21.out; have y22 := Z22.out; have y23 := Z23.out; have y24 := Z24.out; have x2 := IHx1.out _ hg; omega)))
              replace X1 := Lib.hid ((hap.block _ (Array.getElem?_eq_some_iff.1 X1.out).1 (fun hm => by have x1 := IHx0.out _ hm; have y0 := Z0.out; have y1 := BA1.out; have y2 := Z2.out; have y3 := Z3.out; have y4 := Z4.out; have y5 := BRs0.out; have y6 := Z6.out; have y7 := Z7.out; have y8 := BX0.out; have y9 := Z9.out; have y10 := Z10.out; have y11 := BX1.out; have y12 := Z12.out; have y13 := Z13.out; have y14 := Z14.out; have y15 := BRi0.out; have y16 := Z16.out; have y17 := Z17.out; have y18 := Z18.out; have y19 := Z19.out; have y20 := Z20.out; have y21 := Z21.out; have y22 := Z22.out; have y23 := Z23.out; have y24 := Z24.out; omega)).trans X1.out)
              replace Hx2 := Lib.hid (own_same Hx2.out (fun g hg => hap.block g (own_lt Hx2.out hg).2 (fun hm => by have x1 := IHx0.out _ hm; have y0 := Z0.out; have y1 := BA1.out; have y2 := Z2.out; have y3 := Z3.out; have y4 := Z4.out; have y5 := BRs0.out; have y6 := Z6.out; have y7 := Z7.out; have y8 := BX0.out; have y9 := Z9.out; have y10 := Z10.out; have y11 := BX1.out; have y12 := Z12.out; have y13 := Z13.out; have y14 := Z14.out; have y15 := BRi0.out; have y16 := Z16.out; have y17 := Z17.out; have y18 := Z18.out; have y19 := Z19.out; have y20 := Z20.out; have y21 := Z21.out; have y22 := Z22.out; have y23 := Z23.out; have y24 := Z24.out; have x2 := IHx2.out _ hg; omega)))
              replace Oi0 := Lib.hid (Oi0.out.same (fun g hg => hap.block g (Oi0.out.lt hg).2 (fun hm => by have x1 := IHx0.out _ hm; have y0 := Z0.out; have y1 := BA1.out; have y2 := Z2.out; have y3 := Z3.out; have y4 := Z4.out; have y5 := BRs0.out; have y6 := Z6.out; have y7 := Z7.out; have y8 := BX0.out; have y9 := Z9.out; have y10 := Z10.out; have y11 := BX1.out; have y12 := Z12.out; have y13 := Z13.out; have y14 := Z14.out; have y15 := BRi0.out; have y16 := Z16.out; have y17 := Z17.out; have y18 := Z18.out; have y19 := Z19.out; have y20 := Z20.out; have y21 := Z21.out; have y22 := Z22.out; have y23 := Z23.out; have y24 := Z24.out; have x2 := IOi0.out _ hg; omega)))
              replace Ri0 := Lib.hid ((hap.block _ (Array.getElem?_eq_some_iff.1 Ri0.out).1 (fun hm => by have x1 := IHx0.out _ hm; have y0 := Z0.out; have y1 := BA1.out; have y2 := Z2.out; have y3 := Z3.out; have y4 := Z4.out; have y5 := BRs0.out; have y6 := Z6.out; have y7 := Z7.out; have y8 := BX0.out; have y9 := Z9.out; have y10 := Z10.out; have y11 := BX1.out; have y12 := Z12.out; have y13 := Z13.out; have y14 := Z14.out; have y15 := BRi0.out; have y16 := Z16.out; have y17 := Z17.out; have y18 := Z18.out; have y19 := Z19.out; have y20 := Z20.out; have y21 := Z21.out; have y22 := Z22.out; have y23 := Z23.out; have y24 := Z24.out; omega)).trans Ri0.out)
              clear hap
              clear Hx0
              clear X0
              obtain ⟨z0_0, z0_1, z0_2, z0_3, z0_4, z0_5, z0_6, z0_7, z0_8, z0_9⟩ := cell10_row X1.out
              go_wp2_with fail
              clear z0_0 z0_1 z0_2 z0_3 z0_4 z0_5 z0_6 z0_7 z0_8 z0_9
              refine (mark_Path x1 _ _ _ _ _ _ (1 + 4 * L0.length) _ _ _ Hx1.out (by omega) (by omega)).mono ?_
              rintro e v22 ⟨rfl, hh, hap⟩
              skip
              clear hh
              replace C0 := Lib.hid (C0.out.trans (hap.below C0.out.size (fun g hg => by have x1 := IHx1.out _ hg; have y0 := Z0.out; have y1 := BA1.out; have y2 := Z2.out; have y3 := Z3.out; have y4 := Z4.out; have y5 := BRs0.out; have y6 := Z6.out; have y7 := Z7.out; have y8 := BX0.out; have y9 := Z9.out; have y10 := Z10.out; have y11 := BX1.out; have y12 := Z12.out; have y13 := Z13.out; have y14 := Z14.out; have y15 := BRi0.out; have y16 := Z16.out; have y17 := Z17.out; have y18 := Z18.out; have y19 := Z19.out; have y20 := Z20.out; have y21 := Z21.out; have y22 := Z22.out; have y23 := Z23.out; have y24 := Z24.out; omega)))
              replace A0 := Lib.hid ((hap.block _ (Array.getElem?_eq_some_iff.1 A0.out).1 (fun hm => by have x1 := IHx1.out _ hm; have y0 := Z0.out; have y1 := BA1.out; have y2 := Z2.out; have y3 := Z3.out; have y4 := Z4.out; have y5 := BRs0.out; have y6 := Z6.out; have y7 := Z7.out; have y8 := BX0.out; have y9 := Z9.out; have y10 := Z10.out; have y11 := BX1.out; have y12 := Z12.out; have y13 := Z13.out; have y14 := Z14.out; have y15 := BRi0.out; have y16 := Z16.out; have y17 := Z17.out; have y18 := Z18.out; have y19 := Z19.out; have y20 := Z20.out; have y21 := Z21.out; have y22 := Z22.out; have y23 := Z23.out; have y24 := Z24.out; omega)).trans A0.out)
              replace A1 := Lib.hid ((hap.block _ (Array.getElem?_eq_some_iff.1 A1.out).1 (fun hm => by have x1 := IHx1.out _ hm; have y0 := Z0.out; have y1 := BA1.out; have y2 := Z2.out; have y3 := Z3.out; have y4 := Z4.out; have y5 := BRs0.out; have y6 := Z6.out; have y7 := Z7.out; have y8 := BX0.out; have y9 := Z9.out; have y10 := Z10.out; have y11 := BX1.out; have y12 := Z12.out; have y13 := Z13.out; have y14 := Z14.out; have y15 := BRi0.out; have y16 := Z16.out; have y17 := Z17.out; have y18 := Z18.out; have y19 := Z19.out; have y20 := Z20.out; have y21 := Z21.out; have y22 := Z22.out; have y23 := Z23.out; have y24 := Z24.out; omega)).trans A1.out)
              replace Rs0 := Lib.hid ((hap.block _ (Array.getElem?_eq_some_iff.1 Rs0.out).1 (fun hm => by have x1 := IHx1.out _ hm; have y0 := Z0.out; have y1 := BA1.out; have y2 := Z2.out; have y3 := Z3.out; have y4 := Z4.out; have y5 := BRs0.out; have y6 := Z6.out; have y7 := Z7.out; have y8 := BX0.out; have y9 := Z9.out; have y10 := Z10.out; have y11 := BX1.out; have y12 := Z12.out; have y13 := Z13.out; have y14 := Z14.out; have y15 := BRi0.out; have y16 := Z16.out; have y17 := Z17.out; have y18 := Z18.out; have y19 := Z19.out; have y20 := Z20.out; have y21 := Z21.out; have y22 := Z22.out; have y23 := Z23.out; have y24 := Z24.out; omega)).trans Rs0.out)
              replace Os0 := Lib.hid (Os0.out.same (fun g hg => hap.block g (Os0.out.lt hg).2 (fun hm => by have x1 := IHx1.out _ hm; have y0 := Z0.out; have y1 := BA1.out; have y2 := Z2.out; have y3 := Z3.out; have y4 := Z4.out; have y5 := BRs0.out; have y6 := Z6.out; have y7 := Z7.out; have y8 := BX0.out; have y9 := Z9.out; have y10 := Z10.out; have y11 := BX1.out; have y12 := Z12.out; have y13 := Z13.out; have y14 := Z14.out; have y15 := BRi0.out; have y16 := Z16.out; have y17 := Z17.out; have y18 := Z18.out; have y19 := Z19.out; have y20 := Z20.out; have y21 := Z21.out; have y22 := Z22.out; have y23 := Z23.out; have y24 := Z24.out; have x2 := IOs0.out _ hg; omega)))
              replace X1 := Lib.hid ((hap.block _ (Array.getElem?_eq_some_iff.1 X1.out).1 (fun hm => by have x1 := IHx1.out _ hm; have y0 := Z0.out; have y1 := BA1.out; have y2 := Z2.out; have y3 := Z3.out; have y4 := Z4.out; have y5 := BRs0.out; have y6 := Z6.out; have y7 := Z7.out; have y8 := BX0.out; have y9 := Z9.out; have y10 := Z10.out; have y11 := BX1.out; have y12 := Z12.out; have y13 := Z13.out; have y14 := Z14.out; have y15 := BRi0.out; have y16 := Z16.out; have y17 := Z17.out; have y18 := Z18.out; have y19 := Z19.out; have y20 := Z20.out; have y21 := Z21.out; have y22 := Z22.out; have y23 := Z23.out; have y24 := Z24.out; omega)).trans X1.out)
              replace Hx2 := Lib.hid (own_same Hx2.out (fun g hg => hap.block g (own_lt Hx2.out hg).2 (fun hm => by have x1 := IHx1.out _ hm; have y0 := Z0.out; have y1 := BA1.out; have y2 := Z2.out; have y3 := Z3.out; have y4 := Z4.out; have y5 := BRs0.out; have y6 := Z6.out; have y7 := Z7.out; have y8 := BX0.out; have y9 := Z9.out; have y10 := Z10.out; have y11 := BX1.out; have y12 := Z12.out; have y13 := Z13.out; have y14 := Z14.out; have y15 := BRi0.out; have y16 := Z16.out; have y17 := Z17.out; have y18 := Z18.out; have y19 := Z19.out; have y20 := Z20.out; have y21 := Z21.out; have y22 := Z22.out; have y23 := Z23.out; have y24 := Z24.out; have x2 := IHx2.out _ hg; omega)))
              replace Oi0 := Lib.hid (Oi0.out.same (fun g hg => hap.block g (Oi0.out.lt hg).2 (fun hm => by have x1 := IHx1.out _ hm; have y0 := Z0.out; have y1 := BA1.out; have y2 := Z2.out; have y3 := Z3.out; have y4 := Z4.out; have y5 := BRs0.out; have y6 := Z6.out; have y7 := Z7.out; have y8 := BX0.out; have y9 := Z9.out; have y10 := Z10.out; have y11 := BX1.out; have y12 := Z12.out; have y13 := Z13.out; have y14 := Z14.out; have y15 := BRi0.out; have y16 := Z16.out; have y17 := Z17.out; have y18 := Z18.out; have y19 := Z19.out; have y20 := Z20.out; have y21 := Z21.out; have y22 := Z22.out; have y23 := Z23.out; have y24 := Z24.out; have x2 := IOi0.out _ hg; omega)))
              replace Ri0 := Lib.hid ((hap.block _ (Array.getElem?_eq_some_iff.1 Ri0.out).1 (fun hm => by have x1 := IHx1.out _ hm; have y0 := Z0.out; have y1 := BA1.out; have y2 := Z2.out; have y3 := Z3.out; have y4 := Z4.out; have y5 := BRs0.out; have y6 := Z6.out; have y7 := Z7.out; have y8 := BX0.out; have y9 := Z9.out; have y10 := Z10.out; have y11 := BX1.out; have y12 := Z12.out; have y13 := Z13.out; have y14 := Z14.out; have y15 := BRi0.out; have y16 := Z16.out; have y17 := Z17.out; have y18 := Z18.out; have y19 := Z19.out; have y20 := Z20.out; have y21 := Z21.out; have y22 := Z22.out; have y23 := Z23.out; have y24 := Z24.out; omega)).trans Ri0.out)
              clear hap
              clear Hx1
              clear X1
              go_wp2_with fail
              refine (mark_Int L2 _ ((1 + 4 * L0.length) + x1.marks) _ _ Hx2.out (by omega) (by omega)).mono ?_
              rintro e v23 ⟨rfl, hh, hap⟩
              skip
              clear hh
              replace C0 := Lib.hid (C0.out.trans (hap.below C0.out.size (fun g hg => by have x1 := IHx2.out _ hg; have y0 := Z0.out; have y1 := BA1.out; have y2 := Z2.out; have y3 := Z3.out; have y4 := Z4.out; have y5 := BRs0.out; have y6 := Z6.out; have y7 := Z7.out; have y8 := BX0.out; have y9 := Z9.out; have y10 := Z10.out; have y11 := BX1.out; have y12 := Z12.out; have y13 := Z13.out; have y14 := Z14.out; have y15 := BRi0.out; have y16 := Z16.out; have y17 := Z17.out; have y18 := Z18.out; have y19 := Z19.out; have y20 := Z20.out; have y21 := Z21.out; have y22 := Z22.out; have y23 := Z23.out; have y24 := Z24.out; omega)))
              replace A0 := Lib.hid ((hap.block _ (Array.getElem?_eq_some_iff.1 A0.out).1 (fun hm => by have x1 := IHx2.out _ hm; have y0 := Z0.out; have y1 := BA1.out; have y2 := Z2.out; have y3 := Z3.out; have y4 := Z4.out; have y5 := BRs0.out; have y6 := Z6.out; have y7 := Z7.out; have y8 := BX0.out; have y9 := Z9.out; have y10 := Z10.out; have y11 := BX1.out; have y12 := Z12.out; have y13 := Z13.out; have y14 := Z14.out; have y15 := BRi0.out; have y16 := Z16.out; have y17 := Z17.out; have y18 := Z18.out; have y19 := Z19.out; have y20 := Z20.out; have y21 := Z21.out; have y22 := Z22.out; have y23 := Z23.out; have y24 := Z24.out; omega)).trans A0.out)
              replace A1 := Lib.hid ((hap.block _ (Array.getElem?_eq_some_iff.1 A1.out).1 (fun hm => by have x1 := IHx2.out _ hm; have y0 := Z0.out; have y1 := BA1.out; have y2 := Z2.out; have y3 := Z3.out; have y4 := Z4.out; have y5 := BRs0.out; have y6 := Z6.out; have y7 := Z7.out; have y8 := BX0.out; have y9 := Z9.out; have y10 := Z10.out; have y11 := BX1.out; have y12 := Z12.out; have y13 := Z13.out; have y14 := Z14.out; have y15 := BRi0.out; have y16 := Z16.out; have y17 := Z17.out; have y18 := Z18.out; have y19 := Z19.out; have y20 := Z20.out; have y21 := Z21.out; have y22 := Z22.out; have y23 := Z23.out; have y24 := Z24.out; omega)).trans A1.out)
              replace Rs0 := Lib.hid ((hap.block _ (Array.getElem?_eq_some_iff.1 Rs0.out).1 (fun hm => by have x1 := IHx2.out _ hm; have y0 := Z0.out; have y1 := BA1.out; have y2 := Z2.out; have y3 := Z3.out; have y4 := Z4.out; have y5 := BRs0.out; have y6 := Z6.out; have y7 := Z7.out; have y8 := BX0.out; have y9 := Z9.out; have y10 := Z10.out; have y11 := BX1.out; have y12 := Z12.out; have y13 := Z13.out; have y14 := Z14.out; have y15 := BRi0.out; have y16 := Z16.out; have y17 := Z17.out; have y18 := Z18.out; have y19 := Z19.out; have y20 := Z20.out; have y21 := Z21.out; have y22 := Z22.out; have y23 := Z23.out; have y24 := Z24.out; omega)).trans Rs0.out)
              replace Os0 := Lib.hid (Os0.out.same (fun g hg => hap.block g (Os0.out.lt hg).2 (fun hm => by have x1 := IHx2.out _ hm; have y0 := Z0.out; have y1 := BA1.out; have y2 := Z2.out; have y3 := Z3.out; have y4 := Z4.out; have y5 := BRs0.out; have y6 := Z6.out; have y7 := Z7.out; have y8 := BX0.out; have y9 := Z9.out; have y10 := Z10.out; have y11 := BX1.out; have y12 := Z12.out; have y13 := Z13.out; have y14 := Z14.out; have y15 := BRi0.out; have y16 := Z16.out; have y17 := Z17.out; have y18 := Z18.out; have y19 := Z19.out; have y20 := Z20.out; have y21 := Z21.out; have y22 := Z22.out; have y23 := Z23.out; have y24 := Z24.out; have x2 := IOs0.out _ hg; omega)))
              replace Oi0 := Lib.hid (Oi0.out.same (fun g hg => hap.block g (Oi0.out.lt hg).2 (fun hm => by have x1 := IHx2.out _ hm; have y0 := Z0.out; have y1 := BA1.out; have y2 := Z2.out; have y3 := Z3.out; have y4 := Z4.out; have y5 := BRs0.out; have y6 := Z6.out; have y7 := Z7.out; have y8 := BX0.out; have y9 := Z9.out; have y10 := Z10.out; have y11 := BX1.out; have y12 := Z12.out; have y13 := Z13.out; have y14 := Z14.out; have y15 := BRi0.out; have y16 := Z16.out; have y17 := Z17.out; have y18 := Z18.out; have y19 := Z19.out; have y20 := Z20.out; have y21 := Z21.out; have y22 := Z22.out; have y23 := Z23.out; have y24 := Z24.out; have x2 := IOi0.out _ hg; omega)))
              replace Ri0 := Lib.hid ((hap.block _ (Array.getElem?_eq_some_iff.1 Ri0.out).1 (fun hm => by have x1 := IHx2.out _ hm; have y0 := Z0.out; have y1 := BA1.out; have y2 := Z2.out; have y3 := Z3.out; have y4 := Z4.out; have y5 := BRs0.out; have y6 := Z6.out; have y7 := Z7.out; have y8 := BX0.out; have y9 := Z9.out; have y10 := Z10.out; have y11 := BX1.out; have y12 := Z12.out; have y13 := Z13.out; have y14 := Z14.out; have y15 := BRi0.out; have y16 := Z16.out; have y17 := Z17.out; have y18 := Z18.out; have y19 := Z19.out; have y20 := Z20.out; have y21 := Z21.out; have y22 := Z22.out; have y23 := Z23.out; have y24 := Z24.out; omega)).trans Ri0.out)
              clear hap
              clear Hx2
              as_aux_lemma =>
                obtain ⟨z0_0, z0_1, z0_2, z0_3, z0_4, z0_5, z0_6, z0_7⟩ := cell8_row Ri0.out
                obtain ⟨z1_0, z1_1, z1_2, z1_3, z1_4, z1_5, z1_6, z1_7⟩ := cell8_row Rs0.out
                go_wp2_with fail
                clear z0_0 z0_1 z0_2 z0_3 z0_4 z0_5 z0_6 z0_7 z1_0 z1_1 z1_2 z1_3 z1_4 z1_5 z1_6 z1_7
                refine (eq_State x _ _ _ _ _ _ _ _ _ (Oi0.out.shows) (Os0.out.shows) (by omega)).mono ?_
                rintro e v24 ⟨rfl, hb⟩
                have Z25 := Lib.hid hb.size
                replace C0 := Lib.hid (C0.out.trans (hb.mono C0.out.size))
                replace A0 := Lib.hid ((hb.block _ (Array.getElem?_eq_some_iff.1 A0.out).1).trans A0.out)
                replace A1 := Lib.hid ((hb.block _ (Array.getElem?_eq_some_iff.1 A1.out).1).trans A1.out)
                replace Rs0 := Lib.hid ((hb.block _ (Array.getElem?_eq_some_iff.1 Rs0.out).1).trans Rs0.out)
                replace Os0 := Lib.hid (Os0.out.keep hb)
                replace Oi0 := Lib.hid (Oi0.out.keep hb)
                replace Ri0 := Lib.hid ((hb.block _ (Array.getElem?_eq_some_iff.1 Ri0.out).1).trans Ri0.out)
                clear hb
                obtain ⟨z0_0, z0_1, z0_2, z0_3, z0_4, z0_5, z0_6, z0_7⟩ := cell8_row Ri0.out
                go_wp2_with fail
                clear z0_0 z0_1 z0_2 z0_3 z0_4 z0_5 z0_6 z0_7
                refine (mark_State x _ _ _ _ 1 _ _ Oi0.out (by omega) (by omega)).mono ?_
                rintro e v25 ⟨rfl, hh, hap⟩
                have M0 := Lib.hid hh
                clear hh
                replace C0 := Lib.hid (C0.out.trans (hap.below C0.out.size (fun g hg => by have x1 := IOi0.out _ hg; have y0 := Z0.out; have y1 := BA1.out; have y2 := Z2.out; have y3 := Z3.out; have y4 := Z4.out; have y5 := BRs0.out; have y6 := Z6.out; have y7 := Z7.out; have y8 := BX0.out; have y9 := Z9.out; have y10 := Z10.out; have y11 := BX1.out; have y12 := Z12.out; have y13 := Z13.out; have y14 := Z14.out; have y15 := BRi0.out; have y16 := Z16.out; have y17 := Z17.out; have y18 := Z18.out; have y19 := Z19.out; have y20 := Z20.out; have y21 := Z21.out; have y22 := Z22.out; have y23 := Z23.out; have y24 := Z24.out; have y25 := Z25.out; omega)))
                replace A0 := Lib.hid ((hap.block _ (Array.getElem?_eq_some_iff.1 A0.out).1 (fun hm => by have x1 := IOi0.out _ hm; have y0 := Z0.out; have y1 := BA1.out; have y2 := Z2.out; have y3 := Z3.out; have y4 := Z4.out; have y5 := BRs0.out; have y6 := Z6.out; have y7 := Z7.out; have y8 := BX0.out; have y9 := Z9.out; have y10 := Z10.out; have y11 := BX1.out; have y12 := Z12.out; have y13 := Z13.out; have y14 := Z14.out; have y15 := BRi0.out; have y16 := Z16.out; have y17 := Z17.out; have y18 := Z18.out; have y19 := Z19.out; have y20 := Z20.out; have y21 := Z21.out; have y22 := Z22.out; have y23 := Z23.out; have y24 := Z24.out; have y25 := Z25.out; omega)).trans A0.out)
                replace A1 := Lib.hid ((hap.block _ (Array.getElem?_eq_some_iff.1 A1.out).1 (fun hm => by have x1 := IOi0.out _ hm; have y0 := Z0.out; have y1 := BA1.out; have y2 := Z2.out; have y3 := Z3.out; have y4 := Z4.out; have y5 := BRs0.out; have y6 := Z6.out; have y7 := Z7.out; have y8 := BX0.out; have y9 := Z9.out; have y10 := Z10.out; have y11 := BX1.out; have y12 := Z12.out; have y13 := Z13.out; have y14 := Z14.out; have y15 := BRi0.out; have y16 := Z16.out; have y17 := Z17.out; have y18 := Z18.out; have y19 := Z19.out; have y20 := Z20.out; have y21 := Z21.out; have y22 := Z22.out; have y23 := Z23.out; have y24 := Z24.out; have y25 := Z25.out; omega)).trans A1.out)
                replace Rs0 := Lib.hid ((hap.block _ (Array.getElem?_eq_some_iff.1 Rs0.out).1 (fun hm => by have x1 := IOi0.out _ hm; have y0 := Z0.out; have y1 := BA1.out; have y2 := Z2.out; have y3 := Z3.out; have y4 := Z4.out; have y5 := BRs0.out; have y6 := Z6.out; have y7 := Z7.out; have y8 := BX0.out; have y9 := Z9.out; have y10 := Z10.out; have y11 := BX1.out; have y12 := Z12.out; have y13 := Z13.out; have y14 := Z14.out; have y15 := BRi0.out; have y16 := Z16.out; have y17 := Z17.out; have y18 := Z18.out; have y19 := Z19.out; have y20 := Z20.out; have y21 := Z21.out; have y22 := Z22.out; have y23 := Z23.out; have y24 := Z24.out; have y25 := Z25.out; omega)).trans Rs0.out)
                replace Os0 := Lib.hid (Os0.out.same (fun g hg => hap.block g (Os0.out.lt hg).2 (fun hm => by have x1 := IOi0.out _ hm; have y0 := Z0.out; have y1 := BA1.out; have y2 := Z2.out; have y3 := Z3.out; have y4 := Z4.out; have y5 := BRs0.out; have y6 := Z6.out; have y7 := Z7.out; have y8 := BX0.out; have y9 := Z9.out; have y10 := Z10.out; have y11 := BX1.out; have y12 := Z12.out; have y13 := Z13.out; have y14 := Z14.out; have y15 := BRi0.out; have y16 := Z16.out; have y17 := Z17.out; have y18 := Z18.out; have y19 := Z19.out; have y20 := Z20.out; have y21 := Z21.out; have y22 := Z22.out; have y23 := Z23.out; have y24 := Z24.out; have y25 := Z25.out; have x2 := IOs0.out _ hg; omega)))
                replace Ri0 := Lib.hid ((hap.block _ (Array.getElem?_eq_some_iff.1 Ri0.out).1 (fun hm => by have x1 := IOi0.out _ hm; have y0 := Z0.out; have y1 := BA1.out; have y2 := Z2.out; have y3 := Z3.out; have y4 := Z4.out; have y5 := BRs0.out; have y6 := Z6.out; have y7 := Z7.out; have y8 := BX0.out; have y9 := Z9.out; have y10 := Z10.out; have y11 := BX1.out; have y12 := Z12.out; have y13 := Z13.out; have y14 := Z14.out; have y15 := BRi0.out; have y16 := Z16.out; have y17 := Z17.out; have y18 := Z18.out; have y19 := Z19.out; have y20 := Z20.out; have y21 := Z21.out; have y22 := Z22.out; have y23 := Z23.out; have y24 := Z24.out; have y25 := Z25.out; omega)).trans Ri0.out)
                clear hap
                clear Oi0
                have IM0 := IOi0
                obtain ⟨z0_0, z0_1, z0_2, z0_3, z0_4, z0_5, z0_6, z0_7⟩ := cell8_row Ri0.out
                go_wp2_with fail
                clear z0_0 z0_1 z0_2 z0_3 z0_4 z0_5 z0_6 z0_7
                refine (held_State x _ _ _ _ 1 _ M0.out.shows (by omega) (by omega)).mono ?_
                rintro e v26 ⟨rfl, hb⟩
                have Z26 := Lib.hid hb.size
                replace C0 := Lib.hid (C0.out.trans (hb.mono C0.out.size))
                replace A0 := Lib.hid ((hb.block _ (Array.getElem?_eq_some_iff.1 A0.out).1).trans A0.out)
                replace A1 := Lib.hid ((hb.block _ (Array.getElem?_eq_some_iff.1 A1.out).1).trans A1.out)
                replace Rs0 := Lib.hid ((hb.block _ (Array.getElem?_eq_some_iff.1 Rs0.out).1).trans Rs0.out)
                replace Os0 := Lib.hid (Os0.out.keep hb)
                replace Ri0 := Lib.hid ((hb.block _ (Array.getElem?_eq_some_iff.1 Ri0.out).1).trans Ri0.out)
                replace M0 := Lib.hid (M0.out.keep hb)
                clear hb
                go_upto_region 37 with fail
                go_cut [18, 19] from 113 to 122 (fun v v9 wx => ∃ g rq rc mq mc sq sc oq oc, v = .pointer (some ⟨g, 0, none⟩) ∧ v9 = .bool bb ∧ v26.heap.size ≤ g ∧ wx.heap[g]? = some (.cells #[.int .i64 x.pc, .slice rq x.R.length rc, .slice mq x.M.length mc, .slice sq x.S.length sc, .int .i64 x.inn, .slice oq x.O.length oc, .int .i64 x.cd, .int .i64 x.st] 32 (0, 0)) ∧ StO wx v26.heap.size x (.slice rq x.R.length rc) (.slice mq x.M.length mc) (.slice sq x.S.length sc) (.slice oq x.O.length oc) ∧ Below v26.heap.size v26 wx)
                case first =>
                  try clear Rs0
                  try clear Os0
                  try clear Ri0
                  try clear M0
                  try clear IA0
                  try clear IA1
                  try clear IRs0
                  try clear IOs0
                  try clear IHx0
                  try clear IX0
                  try clear IHx1
                  try clear IX1
                  try clear IHx2
                  try clear IOi0
                  try clear IRi0
                  try clear IHe2
                  try clear IM0
                  try clear Z0
                  try clear BA1
                  try clear Z2
                  try clear Z3
                  try clear Z4
                  try clear BRs0
                  try clear Z6
                  try clear Z7
                  try clear BX0
                  try clear Z9
                  try clear Z10
                  try clear BX1
                  try clear Z12
                  try clear Z13
                  try clear Z14
                  try clear BRi0
                  try clear Z16
                  try clear Z17
                  try clear Z18
                  try clear Z19
                  try clear Z20
                  try clear Z21
                  try clear Z22
                  try clear Z23
                  try clear Z24
                  try clear Z25
                  try clear Z26
                  try clear KS
                  try clear v25
                  try clear v24
                  try clear v23
                  try clear v22
                  try clear v21
                  try clear v20
                  try clear v19
                  try clear v18
                  try clear v17
                  try clear v16
                  try clear v15
                  try clear v14
                  try clear v13
                  try clear v12
                  try clear v11
                  try clear v10
                  try clear v9
                  try clear v8
                  try clear v7
                  try clear v6
                  try clear v5
                  try clear v4
                  try clear v3
                  try clear v2
                  try clear v1
                  replace C0 := Lib.hid C0.out.drew
                  have CR := Lib.hid (Below.refl v26.drew.heap.size v26.drew)
                  have CB := Lib.hid (show Below v26.heap.size v26 v26.drew from (Below.refl _ _).drew)
                  refine region_s [11] (fun V => Below v26.drew.heap.size v26.drew V) (by kernel_rfl) ?_
                  refine take_s (i := 0) (v := .agg #[.int .i64 vw0, .int .i64 vm0, .int .i64 vi0, .slice q0 L0.length cap0]) rfl (by kernel_rfl) (fun _ _ _ h => h) CR.out rfl (fun V hV => ?_) ?_
                  · obtain ⟨z0, z1, z2, z3⟩ := cell4_row ((hV.block _ (Array.getElem?_eq_some_iff.1 A0.out).1).trans A0.out)
                    go_simp
                  refine take_s (i := 2) (v := .agg #[.int .i64 x1.pc, .slice qr1 x1.R.len cr1, .slice qm1 x1.M.len cm1, .slice qs1 x1.S.length cs1, .int .i64 x1.inn, .slice qo1 x1.O.len co1, .int .i64 x1.cd, .int .i64 x1.st, .slice qc1 x1.C.len cc1, .slice qu1 x1.U.length cu1]) rfl (by kernel_rfl) (fun _ _ _ h => h) CR.out rfl (fun V hV => ?_) ?_
                  · obtain ⟨z0, z1, z2, z3, z4, z5, z6, z7, z8, z9⟩ := cell10_row ((hV.block _ (Array.getElem?_eq_some_iff.1 A1.out).1).trans A1.out)
                    go_simp
                  refine take_s (i := 4) (v := .slice q2 L2.length cap2) rfl (by kernel_rfl) (fun _ _ _ h => h) CR.out rfl (fun V hV => ?_) ?_
                  · go_simp
                  refine two_s (i := 1) (k := 10) (by kernel_rfl) (op_list rfl ?_) (op_list rfl ?_)
                  · go_wp2_with fail
                    refine (to_Program vw0 vm0 vi0 L0 _ _ (IS0.out.below C0.out) (by omega)).mono ?_
                    rintro e v27 ⟨gp0, rfl, hh, hb⟩
                    have Hp0 := Lib.hid hh
                    clear hh
                    have Z27 := Lib.hid hb.size
                    replace C0 := Lib.hid (C0.out.trans (hb.mono C0.out.size))
                    replace CR := Lib.hid (CR.out.trans (hb.mono CR.out.size))
                    replace CB := Lib.hid (CB.out.trans (hb.mono CB.out.size))
                    clear hb
                    go_wp2
                    refine ⟨fun _ => CR.out, ?_⟩
                    refine two_s (i := 3) (k := 10) (by kernel_rfl) (op_list rfl ?_) (op_list rfl ?_)
                    · go_wp2_with fail
                      refine (to_Path x1 _ _ _ _ _ _ _ (IS1.out.below C0.out) NB1.out).mono ?_
                      rintro e v28 ⟨grp1, gmp1, gsp1, gop1, gcp1, gup1, Bp1, rfl, hh, hb⟩
                      have Hp1 := Lib.hid hh
                      clear hh
                      have Z28 := Lib.hid hb.size
                      replace C0 := Lib.hid (C0.out.trans (hb.mono C0.out.size))
                      replace CR := Lib.hid (CR.out.trans (hb.mono CR.out.size))
                      replace CB := Lib.hid (CB.out.trans (hb.mono CB.out.size))
                      replace Hp0 := Lib.hid (own_keep Hp0.out hb)
                      clear hb
                      go_wp2
                      refine ⟨fun _ => CR.out, ?_⟩
                      refine two_s (i := 5) (k := 10) (by kernel_rfl) (op_list rfl ?_) (op_list rfl ?_)
                      · go_wp2_with fail
                        refine (to_Int L2 _ _ (IS2.out.below C0.out) (by omega)).mono ?_
                        rintro e v29 ⟨gp2, rfl, hh, hb⟩
                        have Hp2 := Lib.hid hh
                        clear hh
                        have Z29 := Lib.hid hb.size
                        replace C0 := Lib.hid (C0.out.trans (hb.mono C0.out.size))
                        replace CR := Lib.hid (CR.out.trans (hb.mono CR.out.size))
                        replace CB := Lib.hid (CB.out.trans (hb.mono CB.out.size))
                        replace Hp0 := Lib.hid (own_keep Hp0.out hb)
                        replace Hp1 := Lib.hid (Hp1.out.keep hb)
                        clear hb
                        go_wp2
                        refine ⟨fun _ => CR.out, ?_⟩
                        refine two_s (i := 6) (k := 10) (by kernel_rfl) (op_list rfl ?_) (op_list rfl ?_)
                        · go_wp2_with fail
                          refine (KI.out _ _ _ _ _ _ _ _ _ ((Cs.shows_of_owns Hp0.out).down (Nat.zero_le _)) (Hp1.out.shows) ((Cs.shows_of_owns Hp2.out).down (Nat.zero_le _)) C0.out).mono ?_
                          rintro e v30 ⟨hb, rq, rc, mq, mc, sq, sc, oq, oc, rfl, hh⟩
                          have OV := Lib.hid (hh.base (base' := v26.heap.size) (by have := CB.out.size; omega))
                          clear hh
                          have Z30 := Lib.hid hb.size
                          replace C0 := Lib.hid (C0.out.trans (hb.mono C0.out.size))
                          replace CR := Lib.hid (CR.out.trans (hb.mono CR.out.size))
                          replace CB := Lib.hid (CB.out.trans (hb.mono CB.out.size))
                          replace Hp0 := Lib.hid (own_keep Hp0.out hb)
                          replace Hp1 := Lib.hid (Hp1.out.keep hb)
                          replace Hp2 := Lib.hid (own_keep Hp2.out hb)
                          clear hb
                          go_wp2
                          refine ⟨fun _ => CR.out, ?_⟩
                          refine take_s (i := 7) (v := .tuple #[.agg #[.int .i64 x.pc, .slice rq x.R.length rc, .slice mq x.M.length mc, .slice sq x.S.length sc, .int .i64 x.inn, .slice oq x.O.length oc, .int .i64 x.cd, .int .i64 x.st], .bool bb]) rfl (by kernel_rfl) (fun _ _ _ h => h) CR.out rfl (fun V hV => ?_) ?_
                          · go_simp
                          refine take_s (i := 8) (v := .agg #[.int .i64 x.pc, .slice rq x.R.length rc, .slice mq x.M.length mc, .slice sq x.S.length sc, .int .i64 x.inn, .slice oq x.O.length oc, .int .i64 x.cd, .int .i64 x.st]) rfl (by kernel_rfl) (fun _ _ _ h => h) CR.out rfl (fun V hV => ?_) ?_
                          · go_simp
                          refine take_p (i := 9) (v := .bool bb) rfl (by kernel_rfl) (fun _ _ _ h => h) CR.out rfl (fun V => ?_) ?_
                          · go_simp
                          refine one_s (i := 10) (by kernel_rfl) (op_list rfl ?_)
                          go_wp2
                          obtain ⟨v31, hwa⟩ : ∃ W9, W9 = v30.alloc (.cells #[.int .i64 0, .slice none 0 0, .slice none 0 0, .slice none 0 0, .int .i64 0, .slice none 0 0, .int .i64 0, .int .i64 0] 32) := ⟨_, rfl⟩
                          have hb : Below v30.heap.size v30 v31 := by rw [hwa]; exact (Below.refl v30.heap.size v30).alloc (Nat.le_refl _) (.cells #[.int .i64 0, .slice none 0 0, .slice none 0 0, .slice none 0 0, .int .i64 0, .slice none 0 0, .int .i64 0, .int .i64 0] 32)
                          have hra : v31.heap[v30.heap.size]? = some (.cells #[.int .i64 0, .slice none 0 0, .slice none 0 0, .slice none 0 0, .int .i64 0, .slice none 0 0, .int .i64 0, .int .i64 0] 32 (0, 0)) := by rw [hwa]; exact heap_alloc_new v30 _
                          obtain ⟨b, hbq⟩ : ∃ g, g = v30.heap.size := ⟨_, rfl⟩
                          have hbge : v26.heap.size ≤ b := by have := CB.out.size; omega
                          rw [← hbq] at hra
                          rw [← hwa, ← hbq]
                          clear hwa hbq
                          have RB := Lib.hid hra
                          clear hra
                          have Z31 := Lib.hid hb.size
                          replace C0 := Lib.hid (C0.out.trans (hb.mono C0.out.size))
                          replace CR := Lib.hid (CR.out.trans (hb.mono CR.out.size))
                          replace CB := Lib.hid (CB.out.trans (hb.mono CB.out.size))
                          replace Hp0 := Lib.hid (own_keep Hp0.out hb)
                          replace Hp1 := Lib.hid (Hp1.out.keep hb)
                          replace Hp2 := Lib.hid (own_keep Hp2.out hb)
                          replace OV := Lib.hid (OV.out.keep hb)
                          clear hb
                          refine ⟨fun _ => CR.out, ?_⟩
                          refine one_s (i := 11) (by kernel_rfl) (wpOp_store rfl rfl 32 _ _ rfl b #[.int .i64 x.pc, .slice rq x.R.length rc, .slice mq x.M.length mc, .slice sq x.S.length sc, .int .i64 x.inn, .slice oq x.O.length oc, .int .i64 x.cd, .int .i64 x.st] rfl rfl 32 _ RB.out (by kernel_rfl) rfl (by first | (simp [Value.oneCell']; done) | (simp; exact ⟨rfl, rfl, rfl, rfl, rfl, rfl, rfl, rfl⟩) | kernel_rfl) ?_)
                          refine ⟨late_s (by kernel_rfl), ?_⟩
                          obtain ⟨we, hwe⟩ : ∃ W9, W9 = v31.setRow b #[.int .i64 x.pc, .slice rq x.R.length rc, .slice mq x.M.length mc, .slice sq x.S.length sc, .int .i64 x.inn, .slice oq x.O.length oc, .int .i64 x.cd, .int .i64 x.st] := ⟨_, rfl⟩
                          have D2 := Lib.hid (show we.heap[b]? = some (.cells #[.int .i64 x.pc, .slice rq x.R.length rc, .slice mq x.M.length mc, .slice sq x.S.length sc, .int .i64 x.inn, .slice oq x.O.length oc, .int .i64 x.cd, .int .i64 x.st] 32 (0, 0)) by rw [hwe]; exact setRow_heap _ _ _ _ _ _ RB.out)
                          have BE := Lib.hid (show Below v26.heap.size v26 we by rw [hwe]; exact below_setRow CB.out hbge _)
                          have OE := Lib.hid (show StO we v26.heap.size x _ _ _ _ from OV.out.same (fun g hg => by rw [hwe]; exact setRow_other _ _ _ _ (fun e => OV.out.off (T := 32) (by decide) RB.out (by rw [← e]; exact hg))))
                          rw [← hwe]
                          clear hwe
                          refine one_s (i := 12) (by kernel_rfl) (op_list rfl ?_)
                          go_wp2
                          refine ⟨late_s (by kernel_rfl), done_s (by kernel_rfl) ?_ _⟩
                          go_wp2_with fail
                          go_meet
                          exact ⟨b, rq, rc, mq, mc, sq, sc, oq, oc, rfl, rfl, hbge, D2.out, OE.out, BE.out⟩
                        · go_wp2
                          obtain ⟨v30, hwa⟩ : ∃ W9, W9 = v29.alloc (.cells #[.int .i64 0, .slice none 0 0, .slice none 0 0, .slice none 0 0, .int .i64 0, .slice none 0 0, .int .i64 0, .int .i64 0] 32) := ⟨_, rfl⟩
                          have hb : Below v29.heap.size v29 v30 := by rw [hwa]; exact (Below.refl v29.heap.size v29).alloc (Nat.le_refl _) (.cells #[.int .i64 0, .slice none 0 0, .slice none 0 0, .slice none 0 0, .int .i64 0, .slice none 0 0, .int .i64 0, .int .i64 0] 32)
                          have hra : v30.heap[v29.heap.size]? = some (.cells #[.int .i64 0, .slice none 0 0, .slice none 0 0, .slice none 0 0, .int .i64 0, .slice none 0 0, .int .i64 0, .int .i64 0] 32 (0, 0)) := by rw [hwa]; exact heap_alloc_new v29 _
                          obtain ⟨b, hbq⟩ : ∃ g, g = v29.heap.size := ⟨_, rfl⟩
                          have hbge : v26.heap.size ≤ b := by have := CB.out.size; omega
                          rw [← hbq] at hra
                          rw [← hwa, ← hbq]
                          clear hwa hbq
                          have RB := Lib.hid hra
                          clear hra
                          have Z30 := Lib.hid hb.size
                          replace C0 := Lib.hid (C0.out.trans (hb.mono C0.out.size))
                          replace CR := Lib.hid (CR.out.trans (hb.mono CR.out.size))
                          replace CB := Lib.hid (CB.out.trans (hb.mono CB.out.size))
                          replace Hp0 := Lib.hid (own_keep Hp0.out hb)
                          replace Hp1 := Lib.hid (Hp1.out.keep hb)
                          replace Hp2 := Lib.hid (own_keep Hp2.out hb)
                          clear hb
                          refine ⟨fun _ => CR.out, ?_⟩
                          refine one_s (i := 6) (by kernel_rfl) (op_list rfl ?_)
                          go_wp2_with fail
                          refine (KI.out _ _ _ _ _ _ _ _ _ ((Cs.shows_of_owns Hp0.out).down (Nat.zero_le _)) (Hp1.out.shows) ((Cs.shows_of_owns Hp2.out).down (Nat.zero_le _)) C0.out).mono ?_
                          rintro e v31 ⟨hb, rq, rc, mq, mc, sq, sc, oq, oc, rfl, hh⟩
                          have OV := Lib.hid (hh.base (base' := v26.heap.size) (by have := CB.out.size; omega))
                          clear hh
                          have Z31 := Lib.hid hb.size
                          replace C0 := Lib.hid (C0.out.trans (hb.mono C0.out.size))
                          replace CR := Lib.hid (CR.out.trans (hb.mono CR.out.size))
                          replace CB := Lib.hid (CB.out.trans (hb.mono CB.out.size))
                          replace Hp0 := Lib.hid (own_keep Hp0.out hb)
                          replace Hp1 := Lib.hid (Hp1.out.keep hb)
                          replace Hp2 := Lib.hid (own_keep Hp2.out hb)
                          replace RB := Lib.hid ((hb.block _ (Array.getElem?_eq_some_iff.1 RB.out).1).trans RB.out)
                          clear hb
                          go_wp2
                          refine ⟨fun _ => CR.out, ?_⟩
                          refine take_s (i := 7) (v := .tuple #[.agg #[.int .i64 x.pc, .slice rq x.R.length rc, .slice mq x.M.length mc, .slice sq x.S.length sc, .int .i64 x.inn, .slice oq x.O.length oc, .int .i64 x.cd, .int .i64 x.st], .bool bb]) rfl (by kernel_rfl) (fun _ _ _ h => h) CR.out rfl (fun V hV => ?_) ?_
                          · go_simp
                          refine take_s (i := 8) (v := .agg #[.int .i64 x.pc, .slice rq x.R.length rc, .slice mq x.M.length mc, .slice sq x.S.length sc, .int .i64 x.inn, .slice oq x.O.length oc, .int .i64 x.cd, .int .i64 x.st]) rfl (by kernel_rfl) (fun _ _ _ h => h) CR.out rfl (fun V hV => ?_) ?_
                          · go_simp
                          refine take_p (i := 9) (v := .bool bb) rfl (by kernel_rfl) (fun _ _ _ h => h) CR.out rfl (fun V => ?_) ?_
                          · go_simp
                          refine one_s (i := 11) (by kernel_rfl) (wpOp_store rfl rfl 32 _ _ rfl b #[.int .i64 x.pc, .slice rq x.R.length rc, .slice mq x.M.length mc, .slice sq x.S.length sc, .int .i64 x.inn, .slice oq x.O.length oc, .int .i64 x.cd, .int .i64 x.st] rfl rfl 32 _ RB.out (by kernel_rfl) rfl (by first | (simp [Value.oneCell']; done) | (simp; exact ⟨rfl, rfl, rfl, rfl, rfl, rfl, rfl, rfl⟩) | kernel_rfl) ?_)
                          refine ⟨late_s (by kernel_rfl), ?_⟩
                          obtain ⟨we, hwe⟩ : ∃ W9, W9 = v31.setRow b #[.int .i64 x.pc, .slice rq x.R.length rc, .slice mq x.M.length mc, .slice sq x.S.length sc, .int .i64 x.inn, .slice oq x.O.length oc, .int .i64 x.cd, .int .i64 x.st] := ⟨_, rfl⟩
                          have D2 := Lib.hid (show we.heap[b]? = some (.cells #[.int .i64 x.pc, .slice rq x.R.length rc, .slice mq x.M.length mc, .slice sq x.S.length sc, .int .i64 x.inn, .slice oq x.O.length oc, .int .i64 x.cd, .int .i64 x.st] 32 (0, 0)) by rw [hwe]; exact setRow_heap _ _ _ _ _ _ RB.out)
                          have BE := Lib.hid (show Below v26.heap.size v26 we by rw [hwe]; exact below_setRow CB.out hbge _)
                          have OE := Lib.hid (show StO we v26.heap.size x _ _ _ _ from OV.out.same (fun g hg => by rw [hwe]; exact setRow_other _ _ _ _ (fun e => OV.out.off (T := 32) (by decide) RB.out (by rw [← e]; exact hg))))
                          rw [← hwe]
                          clear hwe
                          refine one_s (i := 12) (by kernel_rfl) (op_list rfl ?_)
                          go_wp2
                          refine ⟨late_s (by kernel_rfl), done_s (by kernel_rfl) ?_ _⟩
                          go_wp2_with fail
                          go_meet
                          exact ⟨b, rq, rc, mq, mc, sq, sc, oq, oc, rfl, rfl, hbge, D2.out, OE.out, BE.out⟩
                      · go_wp2
                        obtain ⟨v29, hwa⟩ : ∃ W9, W9 = v28.alloc (.cells #[.int .i64 0, .slice none 0 0, .slice none 0 0, .slice none 0 0, .int .i64 0, .slice none 0 0, .int .i64 0, .int .i64 0] 32) := ⟨_, rfl⟩
                        have hb : Below v28.heap.size v28 v29 := by rw [hwa]; exact (Below.refl v28.heap.size v28).alloc (Nat.le_refl _) (.cells #[.int .i64 0, .slice none 0 0, .slice none 0 0, .slice none 0 0, .int .i64 0, .slice none 0 0, .int .i64 0, .int .i64 0] 32)
                        have hra : v29.heap[v28.heap.size]? = some (.cells #[.int .i64 0, .slice none 0 0, .slice none 0 0, .slice none 0 0, .int .i64 0, .slice none 0 0, .int .i64 0, .int .i64 0] 32 (0, 0)) := by rw [hwa]; exact heap_alloc_new v28 _
                        obtain ⟨b, hbq⟩ : ∃ g, g = v28.heap.size := ⟨_, rfl⟩
                        have hbge : v26.heap.size ≤ b := by have := CB.out.size; omega
                        rw [← hbq] at hra
                        rw [← hwa, ← hbq]
                        clear hwa hbq
                        have RB := Lib.hid hra
                        clear hra
                        have Z29 := Lib.hid hb.size
                        replace C0 := Lib.hid (C0.out.trans (hb.mono C0.out.size))
                        replace CR := Lib.hid (CR.out.trans (hb.mono CR.out.size))
                        replace CB := Lib.hid (CB.out.trans (hb.mono CB.out.size))
                        replace Hp0 := Lib.hid (own_keep Hp0.out hb)
                        replace Hp1 := Lib.hid (Hp1.out.keep hb)
                        clear hb
                        refine ⟨fun _ => CR.out, ?_⟩
                        refine one_s (i := 5) (by kernel_rfl) (op_list rfl ?_)
                        go_wp2_with fail
                        refine (to_Int L2 _ _ (IS2.out.below C0.out) (by omega)).mono ?_
                        rintro e v30 ⟨gp2, rfl, hh, hb⟩
                        have Hp2 := Lib.hid hh
                        clear hh
                        have Z30 := Lib.hid hb.size
                        replace C0 := Lib.hid (C0.out.trans (hb.mono C0.out.size))
                        replace CR := Lib.hid (CR.out.trans (hb.mono CR.out.size))
                        replace CB := Lib.hid (CB.out.trans (hb.mono CB.out.size))
                        replace Hp0 := Lib.hid (own_keep Hp0.out hb)
                        replace Hp1 := Lib.hid (Hp1.out.keep hb)
                        replace RB := Lib.hid ((hb.block _ (Array.getElem?_eq_some_iff.1 RB.out).1).trans RB.out)
                        clear hb
                        go_wp2
                        refine ⟨fun _ => CR.out, ?_⟩
                        refine one_s (i := 6) (by kernel_rfl) (op_list rfl ?_)
                        go_wp2_with fail
                        refine (KI.out _ _ _ _ _ _ _ _ _ ((Cs.shows_of_owns Hp0.out).down (Nat.zero_le _)) (Hp1.out.shows) ((Cs.shows_of_owns Hp2.out).down (Nat.zero_le _)) C0.out).mono ?_
                        rintro e v31 ⟨hb, rq, rc, mq, mc, sq, sc, oq, oc, rfl, hh⟩
                        have OV := Lib.hid (hh.base (base' := v26.heap.size) (by have := CB.out.size; omega))
                        clear hh
                        have Z31 := Lib.hid hb.size
                        replace C0 := Lib.hid (C0.out.trans (hb.mono C0.out.size))
                        replace CR := Lib.hid (CR.out.trans (hb.mono CR.out.size))
                        replace CB := Lib.hid (CB.out.trans (hb.mono CB.out.size))
                        replace Hp0 := Lib.hid (own_keep Hp0.out hb)
                        replace Hp1 := Lib.hid (Hp1.out.keep hb)
                        replace RB := Lib.hid ((hb.block _ (Array.getElem?_eq_some_iff.1 RB.out).1).trans RB.out)
                        replace Hp2 := Lib.hid (own_keep Hp2.out hb)
                        clear hb
                        go_wp2
                        refine ⟨fun _ => CR.out, ?_⟩
                        refine take_s (i := 7) (v := .tuple #[.agg #[.int .i64 x.pc, .slice rq x.R.length rc, .slice mq x.M.length mc, .slice sq x.S.length sc, .int .i64 x.inn, .slice oq x.O.length oc, .int .i64 x.cd, .int .i64 x.st], .bool bb]) rfl (by kernel_rfl) (fun _ _ _ h => h) CR.out rfl (fun V hV => ?_) ?_
                        · go_simp
                        refine take_s (i := 8) (v := .agg #[.int .i64 x.pc, .slice rq x.R.length rc, .slice mq x.M.length mc, .slice sq x.S.length sc, .int .i64 x.inn, .slice oq x.O.length oc, .int .i64 x.cd, .int .i64 x.st]) rfl (by kernel_rfl) (fun _ _ _ h => h) CR.out rfl (fun V hV => ?_) ?_
                        · go_simp
                        refine take_p (i := 9) (v := .bool bb) rfl (by kernel_rfl) (fun _ _ _ h => h) CR.out rfl (fun V => ?_) ?_
                        · go_simp
                        refine one_s (i := 11) (by kernel_rfl) (wpOp_store rfl rfl 32 _ _ rfl b #[.int .i64 x.pc, .slice rq x.R.length rc, .slice mq x.M.length mc, .slice sq x.S.length sc, .int .i64 x.inn, .slice oq x.O.length oc, .int .i64 x.cd, .int .i64 x.st] rfl rfl 32 _ RB.out (by kernel_rfl) rfl (by first | (simp [Value.oneCell']; done) | (simp; exact ⟨rfl, rfl, rfl, rfl, rfl, rfl, rfl, rfl⟩) | kernel_rfl) ?_)
                        refine ⟨late_s (by kernel_rfl), ?_⟩
                        obtain ⟨we, hwe⟩ : ∃ W9, W9 = v31.setRow b #[.int .i64 x.pc, .slice rq x.R.length rc, .slice mq x.M.length mc, .slice sq x.S.length sc, .int .i64 x.inn, .slice oq x.O.length oc, .int .i64 x.cd, .int .i64 x.st] := ⟨_, rfl⟩
                        have D2 := Lib.hid (show we.heap[b]? = some (.cells #[.int .i64 x.pc, .slice rq x.R.length rc, .slice mq x.M.length mc, .slice sq x.S.length sc, .int .i64 x.inn, .slice oq x.O.length oc, .int .i64 x.cd, .int .i64 x.st] 32 (0, 0)) by rw [hwe]; exact setRow_heap _ _ _ _ _ _ RB.out)
                        have BE := Lib.hid (show Below v26.heap.size v26 we by rw [hwe]; exact below_setRow CB.out hbge _)
                        have OE := Lib.hid (show StO we v26.heap.size x _ _ _ _ from OV.out.same (fun g hg => by rw [hwe]; exact setRow_other _ _ _ _ (fun e => OV.out.off (T := 32) (by decide) RB.out (by rw [← e]; exact hg))))
                        rw [← hwe]
                        clear hwe
                        refine one_s (i := 12) (by kernel_rfl) (op_list rfl ?_)
                        go_wp2
                        refine ⟨late_s (by kernel_rfl), done_s (by kernel_rfl) ?_ _⟩
                        go_wp2_with fail
                        go_meet
                        exact ⟨b, rq, rc, mq, mc, sq, sc, oq, oc, rfl, rfl, hbge, D2.out, OE.out, BE.out⟩
                    · go_wp2
                      obtain ⟨v28, hwa⟩ : ∃ W9, W9 = v27.alloc (.cells #[.int .i64 0, .slice none 0 0, .slice none 0 0, .slice none 0 0, .int .i64 0, .slice none 0 0, .int .i64 0, .int .i64 0] 32) := ⟨_, rfl⟩
                      have hb : Below v27.heap.size v27 v28 := by rw [hwa]; exact (Below.refl v27.heap.size v27).alloc (Nat.le_refl _) (.cells #[.int .i64 0, .slice none 0 0, .slice none 0 0, .slice none 0 0, .int .i64 0, .slice none 0 0, .int .i64 0, .int .i64 0] 32)
                      have hra : v28.heap[v27.heap.size]? = some (.cells #[.int .i64 0, .slice none 0 0, .slice none 0 0, .slice none 0 0, .int .i64 0, .slice none 0 0, .int .i64 0, .int .i64 0] 32 (0, 0)) := by rw [hwa]; exact heap_alloc_new v27 _
                      obtain ⟨b, hbq⟩ : ∃ g, g = v27.heap.size := ⟨_, rfl⟩
                      have hbge : v26.heap.size ≤ b := by have := CB.out.size; omega
                      rw [← hbq] at hra
                      rw [← hwa, ← hbq]
                      clear hwa hbq
                      have RB := Lib.hid hra
                      clear hra
                      have Z28 := Lib.hid hb.size
                      replace C0 := Lib.hid (C0.out.trans (hb.mono C0.out.size))
                      replace CR := Lib.hid (CR.out.trans (hb.mono CR.out.size))
                      replace CB := Lib.hid (CB.out.trans (hb.mono CB.out.size))
                      replace Hp0 := Lib.hid (own_keep Hp0.out hb)
                      clear hb
                      refine ⟨fun _ => CR.out, ?_⟩
                      refine one_s (i := 3) (by kernel_rfl) (op_list rfl ?_)
                      go_wp2_with fail
                      refine (to_Path x1 _ _ _ _ _ _ _ (IS1.out.below C0.out) NB1.out).mono ?_
                      rintro e v29 ⟨grp1, gmp1, gsp1, gop1, gcp1, gup1, Bp1, rfl, hh, hb⟩
                      have Hp1 := Lib.hid hh
                      clear hh
                      have Z29 := Lib.hid hb.size
                      replace C0 := Lib.hid (C0.out.trans (hb.mono C0.out.size))
                      replace CR := Lib.hid (CR.out.trans (hb.mono CR.out.size))
                      replace CB := Lib.hid (CB.out.trans (hb.mono CB.out.size))
                      replace Hp0 := Lib.hid (own_keep Hp0.out hb)
                      replace RB := Lib.hid ((hb.block _ (Array.getElem?_eq_some_iff.1 RB.out).1).trans RB.out)
                      clear hb
                      go_wp2
                      refine ⟨fun _ => CR.out, ?_⟩
                      refine one_s (i := 5) (by kernel_rfl) (op_list rfl ?_)
                      go_wp2_with fail
                      refine (to_Int L2 _ _ (IS2.out.below C0.out) (by omega)).mono ?_
                      rintro e v30 ⟨gp2, rfl, hh, hb⟩
                      have Hp2 := Lib.hid hh
                      clear hh
                      have Z30 := Lib.hid hb.size
                      replace C0 := Lib.hid (C0.out.trans (hb.mono C0.out.size))
                      replace CR := Lib.hid (CR.out.trans (hb.mono CR.out.size))
                      replace CB := Lib.hid (CB.out.trans (hb.mono CB.out.size))
                      replace Hp0 := Lib.hid (own_keep Hp0.out hb)
                      replace RB := Lib.hid ((hb.block _ (Array.getElem?_eq_some_iff.1 RB.out).1).trans RB.out)
                      replace Hp1 := Lib.hid (Hp1.out.keep hb)
                      clear hb
                      go_wp2
                      refine ⟨fun _ => CR.out, ?_⟩
                      refine one_s (i := 6) (by kernel_rfl) (op_list rfl ?_)
                      go_wp2_with fail
                      refine (KI.out _ _ _ _ _ _ _ _ _ ((Cs.shows_of_owns Hp0.out).down (Nat.zero_le _)) (Hp1.out.shows) ((Cs.shows_of_owns Hp2.out).down (Nat.zero_le _)) C0.out).mono ?_
                      rintro e v31 ⟨hb, rq, rc, mq, mc, sq, sc, oq, oc, rfl, hh⟩
                      have OV := Lib.hid (hh.base (base' := v26.heap.size) (by have := CB.out.size; omega))
                      clear hh
                      have Z31 := Lib.hid hb.size
                      replace C0 := Lib.hid (C0.out.trans (hb.mono C0.out.size))
                      replace CR := Lib.hid (CR.out.trans (hb.mono CR.out.size))
                      replace CB := Lib.hid (CB.out.trans (hb.mono CB.out.size))
                      replace Hp0 := Lib.hid (own_keep Hp0.out hb)
                      replace RB := Lib.hid ((hb.block _ (Array.getElem?_eq_some_iff.1 RB.out).1).trans RB.out)
                      replace Hp1 := Lib.hid (Hp1.out.keep hb)
                      replace Hp2 := Lib.hid (own_keep Hp2.out hb)
                      clear hb
                      go_wp2
                      refine ⟨fun _ => CR.out, ?_⟩
                      refine take_s (i := 7) (v := .tuple #[.agg #[.int .i64 x.pc, .slice rq x.R.length rc, .slice mq x.M.length mc, .slice sq x.S.length sc, .int .i64 x.inn, .slice oq x.O.length oc, .int .i64 x.cd, .int .i64 x.st], .bool bb]) rfl (by kernel_rfl) (fun _ _ _ h => h) CR.out rfl (fun V hV => ?_) ?_
                      · go_simp
                      refine take_s (i := 8) (v := .agg #[.int .i64 x.pc, .slice rq x.R.length rc, .slice mq x.M.length mc, .slice sq x.S.length sc, .int .i64 x.inn, .slice oq x.O.length oc, .int .i64 x.cd, .int .i64 x.st]) rfl (by kernel_rfl) (fun _ _ _ h => h) CR.out rfl (fun V hV => ?_) ?_
                      · go_simp
                      refine take_p (i := 9) (v := .bool bb) rfl (by kernel_rfl) (fun _ _ _ h => h) CR.out rfl (fun V => ?_) ?_
                      · go_simp
                      refine one_s (i := 11) (by kernel_rfl) (wpOp_store rfl rfl 32 _ _ rfl b #[.int .i64 x.pc, .slice rq x.R.length rc, .slice mq x.M.length mc, .slice sq x.S.length sc, .int .i64 x.inn, .slice oq x.O.length oc, .int .i64 x.cd, .int .i64 x.st] rfl rfl 32 _ RB.out (by kernel_rfl) rfl (by first | (simp [Value.oneCell']; done) | (simp; exact ⟨rfl, rfl, rfl, rfl, rfl, rfl, rfl, rfl⟩) | kernel_rfl) ?_)
                      refine ⟨late_s (by kernel_rfl), ?_⟩
                      obtain ⟨we, hwe⟩ : ∃ W9, W9 = v31.setRow b #[.int .i64 x.pc, .slice rq x.R.length rc, .slice mq x.M.length mc, .slice sq x.S.length sc, .int .i64 x.inn, .slice oq x.O.length oc, .int .i64 x.cd, .int .i64 x.st] := ⟨_, rfl⟩
                      have D2 := Lib.hid (show we.heap[b]? = some (.cells #[.int .i64 x.pc, .slice rq x.R.length rc, .slice mq x.M.length mc, .slice sq x.S.length sc, .int .i64 x.inn, .slice oq x.O.length oc, .int .i64 x.cd, .int .i64 x.st] 32 (0, 0)) by rw [hwe]; exact setRow_heap _ _ _ _ _ _ RB.out)
                      have BE := Lib.hid (show Below v26.heap.size v26 we by rw [hwe]; exact below_setRow CB.out hbge _)
                      have OE := Lib.hid (show StO we v26.heap.size x _ _ _ _ from OV.out.same (fun g hg => by rw [hwe]; exact setRow_other _ _ _ _ (fun e => OV.out.off (T := 32) (by decide) RB.out (by rw [← e]; exact hg))))
                      rw [← hwe]
                      clear hwe
                      refine one_s (i := 12) (by kernel_rfl) (op_list rfl ?_)
                      go_wp2
                      refine ⟨late_s (by kernel_rfl), done_s (by kernel_rfl) ?_ _⟩
                      go_wp2_with fail
                      go_meet
                      exact ⟨b, rq, rc, mq, mc, sq, sc, oq, oc, rfl, rfl, hbge, D2.out, OE.out, BE.out⟩
                  · go_wp2
                    obtain ⟨v27, hwa⟩ : ∃ W9, W9 = (v26.alloc (.cells #[.int .i64 0, .slice none 0 0, .slice none 0 0, .slice none 0 0, .int .i64 0, .slice none 0 0, .int .i64 0, .int .i64 0] 32)).drew := ⟨_, rfl⟩
                    have hb : Below v26.drew.heap.size v26.drew v27 := by rw [hwa]; exact (Below.refl v26.drew.heap.size v26.drew).alloc (Nat.le_refl _) (.cells #[.int .i64 0, .slice none 0 0, .slice none 0 0, .slice none 0 0, .int .i64 0, .slice none 0 0, .int .i64 0, .int .i64 0] 32)
                    have hra : v27.heap[v26.heap.size]? = some (.cells #[.int .i64 0, .slice none 0 0, .slice none 0 0, .slice none 0 0, .int .i64 0, .slice none 0 0, .int .i64 0, .int .i64 0] 32 (0, 0)) := by rw [hwa]; exact heap_alloc_new v26 _
                    obtain ⟨b, hbq⟩ : ∃ g, g = v26.heap.size := ⟨_, rfl⟩
                    have hbge : v26.heap.size ≤ b := by have := CB.out.size; omega
                    rw [← hbq] at hra
                    rw [← hwa, ← hbq]
                    clear hwa hbq
                    have RB := Lib.hid hra
                    clear hra
                    have Z27 := Lib.hid hb.size
                    replace C0 := Lib.hid (C0.out.trans (hb.mono C0.out.size))
                    replace CR := Lib.hid (CR.out.trans (hb.mono CR.out.size))
                    replace CB := Lib.hid (CB.out.trans (hb.mono CB.out.size))
                    clear hb
                    refine ⟨fun _ => CR.out, ?_⟩
                    refine one_s (i := 1) (by kernel_rfl) (op_list rfl ?_)
                    go_wp2_with fail
                    refine (to_Program vw0 vm0 vi0 L0 _ _ (IS0.out.below C0.out) (by omega)).mono ?_
                    rintro e v28 ⟨gp0, rfl, hh, hb⟩
                    have Hp0 := Lib.hid hh
                    clear hh
                    have Z28 := Lib.hid hb.size
                    replace C0 := Lib.hid (C0.out.trans (hb.mono C0.out.size))
                    replace CR := Lib.hid (CR.out.trans (hb.mono CR.out.size))
                    replace CB := Lib.hid (CB.out.trans (hb.mono CB.out.size))
                    replace RB := Lib.hid ((hb.block _ (Array.getElem?_eq_some_iff.1 RB.out).1).trans RB.out)
                    clear hb
                    go_wp2
                    refine ⟨fun _ => CR.out, ?_⟩
                    refine one_s (i := 3) (by kernel_rfl) (op_list rfl ?_)
                    go_wp2_with fail
                    refine (to_Path x1 _ _ _ _ _ _ _ (IS1.out.below C0.out) NB1.out).mono ?_
                    rintro e v29 ⟨grp1, gmp1, gsp1, gop1, gcp1, gup1, Bp1, rfl, hh, hb⟩
                    have Hp1 := Lib.hid hh
                    clear hh
                    have Z29 := Lib.hid hb.size
                    replace C0 := Lib.hid (C0.out.trans (hb.mono C0.out.size))
                    replace CR := Lib.hid (CR.out.trans (hb.mono CR.out.size))
                    replace CB := Lib.hid (CB.out.trans (hb.mono CB.out.size))
                    replace RB := Lib.hid ((hb.block _ (Array.getElem?_eq_some_iff.1 RB.out).1).trans RB.out)
                    replace Hp0 := Lib.hid (own_keep Hp0.out hb)
                    clear hb
                    go_wp2
                    refine ⟨fun _ => CR.out, ?_⟩
                    refine one_s (i := 5) (by kernel_rfl) (op_list rfl ?_)
                    go_wp2_with fail
                    refine (to_Int L2 _ _ (IS2.out.below C0.out) (by omega)).mono ?_
                    rintro e v30 ⟨gp2, rfl, hh, hb⟩
                    have Hp2 := Lib.hid hh
                    clear hh
                    have Z30 := Lib.hid hb.size
                    replace C0 := Lib.hid (C0.out.trans (hb.mono C0.out.size))
                    replace CR := Lib.hid (CR.out.trans (hb.mono CR.out.size))
                    replace CB := Lib.hid (CB.out.trans (hb.mono CB.out.size))
                    replace RB := Lib.hid ((hb.block _ (Array.getElem?_eq_some_iff.1 RB.out).1).trans RB.out)
                    replace Hp0 := Lib.hid (own_keep Hp0.out hb)
                    replace Hp1 := Lib.hid (Hp1.out.keep hb)
                    clear hb
                    go_wp2
                    refine ⟨fun _ => CR.out, ?_⟩
                    refine one_s (i := 6) (by kernel_rfl) (op_list rfl ?_)
                    go_wp2_with fail
                    refine (KI.out _ _ _ _ _ _ _ _ _ ((Cs.shows_of_owns Hp0.out).down (Nat.zero_le _)) (Hp1.out.shows) ((Cs.shows_of_owns Hp2.out).down (Nat.zero_le _)) C0.out).mono ?_
                    rintro e v31 ⟨hb, rq, rc, mq, mc, sq, sc, oq, oc, rfl, hh⟩
                    have OV := Lib.hid (hh.base (base' := v26.heap.size) (by have := CB.out.size; omega))
                    clear hh
                    have Z31 := Lib.hid hb.size
                    replace C0 := Lib.hid (C0.out.trans (hb.mono C0.out.size))
                    replace CR := Lib.hid (CR.out.trans (hb.mono CR.out.size))
                    replace CB := Lib.hid (CB.out.trans (hb.mono CB.out.size))
                    replace RB := Lib.hid ((hb.block _ (Array.getElem?_eq_some_iff.1 RB.out).1).trans RB.out)
                    replace Hp0 := Lib.hid (own_keep Hp0.out hb)
                    replace Hp1 := Lib.hid (Hp1.out.keep hb)
                    replace Hp2 := Lib.hid (own_keep Hp2.out hb)
                    clear hb
                    go_wp2
                    refine ⟨fun _ => CR.out, ?_⟩
                    refine take_s (i := 7) (v := .tuple #[.agg #[.int .i64 x.pc, .slice rq x.R.length rc, .slice mq x.M.length mc, .slice sq x.S.length sc, .int .i64 x.inn, .slice oq x.O.length oc, .int .i64 x.cd, .int .i64 x.st], .bool bb]) rfl (by kernel_rfl) (fun _ _ _ h => h) CR.out rfl (fun V hV => ?_) ?_
                    · go_simp
                    refine take_s (i := 8) (v := .agg #[.int .i64 x.pc, .slice rq x.R.length rc, .slice mq x.M.length mc, .slice sq x.S.length sc, .int .i64 x.inn, .slice oq x.O.length oc, .int .i64 x.cd, .int .i64 x.st]) rfl (by kernel_rfl) (fun _ _ _ h => h) CR.out rfl (fun V hV => ?_) ?_
                    · go_simp
                    refine take_p (i := 9) (v := .bool bb) rfl (by kernel_rfl) (fun _ _ _ h => h) CR.out rfl (fun V => ?_) ?_
                    · go_simp
                    refine one_s (i := 11) (by kernel_rfl) (wpOp_store rfl rfl 32 _ _ rfl b #[.int .i64 x.pc, .slice rq x.R.length rc, .slice mq x.M.length mc, .slice sq x.S.length sc, .int .i64 x.inn, .slice oq x.O.length oc, .int .i64 x.cd, .int .i64 x.st] rfl rfl 32 _ RB.out (by kernel_rfl) rfl (by first | (simp [Value.oneCell']; done) | (simp; exact ⟨rfl, rfl, rfl, rfl, rfl, rfl, rfl, rfl⟩) | kernel_rfl) ?_)
                    refine ⟨late_s (by kernel_rfl), ?_⟩
                    obtain ⟨we, hwe⟩ : ∃ W9, W9 = v31.setRow b #[.int .i64 x.pc, .slice rq x.R.length rc, .slice mq x.M.length mc, .slice sq x.S.length sc, .int .i64 x.inn, .slice oq x.O.length oc, .int .i64 x.cd, .int .i64 x.st] := ⟨_, rfl⟩
                    have D2 := Lib.hid (show we.heap[b]? = some (.cells #[.int .i64 x.pc, .slice rq x.R.length rc, .slice mq x.M.length mc, .slice sq x.S.length sc, .int .i64 x.inn, .slice oq x.O.length oc, .int .i64 x.cd, .int .i64 x.st] 32 (0, 0)) by rw [hwe]; exact setRow_heap _ _ _ _ _ _ RB.out)
                    have BE := Lib.hid (show Below v26.heap.size v26 we by rw [hwe]; exact below_setRow CB.out hbge _)
                    have OE := Lib.hid (show StO we v26.heap.size x _ _ _ _ from OV.out.same (fun g hg => by rw [hwe]; exact setRow_other _ _ _ _ (fun e => OV.out.off (T := 32) (by decide) RB.out (by rw [← e]; exact hg))))
                    rw [← hwe]
                    clear hwe
                    refine one_s (i := 12) (by kernel_rfl) (op_list rfl ?_)
                    go_wp2
                    refine ⟨late_s (by kernel_rfl), done_s (by kernel_rfl) ?_ _⟩
                    go_wp2_with fail
                    go_meet
                    exact ⟨b, rq, rc, mq, mc, sq, sc, oq, oc, rfl, rfl, hbge, D2.out, OE.out, BE.out⟩
                case rest => as_aux_lemma =>
                  obtain ⟨gj0, j0rq, j0rc, j0mq, j0mc, j0sq, j0sc, j0oq, j0oc, hv8, hv9, hge, hR, hO, hb⟩ := hcut
                  subst hv8 hv9
                  rename World => v27
                  have Rj0 := Lib.hid hR
                  have Oj0 := Lib.hid hO
                  clear hR hO hge
                  have Z27 := Lib.hid hb.size
                  replace C0 := Lib.hid (C0.out.trans (hb.mono C0.out.size))
                  replace A0 := Lib.hid ((hb.block _ (Array.getElem?_eq_some_iff.1 A0.out).1).trans A0.out)
                  replace A1 := Lib.hid ((hb.block _ (Array.getElem?_eq_some_iff.1 A1.out).1).trans A1.out)
                  replace Rs0 := Lib.hid ((hb.block _ (Array.getElem?_eq_some_iff.1 Rs0.out).1).trans Rs0.out)
                  replace Os0 := Lib.hid (Os0.out.keep hb)
                  replace Ri0 := Lib.hid ((hb.block _ (Array.getElem?_eq_some_iff.1 Ri0.out).1).trans Ri0.out)
                  replace M0 := Lib.hid (M0.out.keep hb)
                  clear hb
                  have BRj0 := Lib.hid (show gj0 < v27.heap.size from (Array.getElem?_eq_some_iff.1 Rj0.out).1)
                  have IOj0 := Lib.hid (fun g (hg : g ∈ StB (.slice j0rq x.R.length j0rc) (.slice j0mq x.M.length j0mc) (.slice j0sq x.S.length j0sc) (.slice j0oq x.O.length j0oc)) => (Oj0.out.lt hg))
                  obtain ⟨z0_0, z0_1, z0_2, z0_3, z0_4, z0_5, z0_6, z0_7⟩ := cell8_row Rj0.out
                  obtain ⟨z1_0, z1_1, z1_2, z1_3, z1_4, z1_5, z1_6, z1_7⟩ := cell8_row Rs0.out
                  go_wp2_with fail
                  clear z0_0 z0_1 z0_2 z0_3 z0_4 z0_5 z0_6 z0_7 z1_0 z1_1 z1_2 z1_3 z1_4 z1_5 z1_6 z1_7
                  refine (eq_State x _ _ _ _ _ _ _ _ _ (Oj0.out.shows) (Os0.out.shows) (by omega)).mono ?_
                  rintro e v28 ⟨rfl, hb⟩
                  have Z29 := Lib.hid hb.size
                  replace C0 := Lib.hid (C0.out.trans (hb.mono C0.out.size))
                  replace A0 := Lib.hid ((hb.block _ (Array.getElem?_eq_some_iff.1 A0.out).1).trans A0.out)
                  replace A1 := Lib.hid ((hb.block _ (Array.getElem?_eq_some_iff.1 A1.out).1).trans A1.out)
                  replace Rs0 := Lib.hid ((hb.block _ (Array.getElem?_eq_some_iff.1 Rs0.out).1).trans Rs0.out)
                  replace Os0 := Lib.hid (Os0.out.keep hb)
                  replace Ri0 := Lib.hid ((hb.block _ (Array.getElem?_eq_some_iff.1 Ri0.out).1).trans Ri0.out)
                  replace M0 := Lib.hid (M0.out.keep hb)
                  replace Rj0 := Lib.hid ((hb.block _ (Array.getElem?_eq_some_iff.1 Rj0.out).1).trans Rj0.out)
                  replace Oj0 := Lib.hid (Oj0.out.keep hb)
                  clear hb
                  obtain ⟨z0_0, z0_1, z0_2, z0_3, z0_4, z0_5, z0_6, z0_7⟩ := cell8_row Ri0.out
                  go_wp2_with fail
                  clear z0_0 z0_1 z0_2 z0_3 z0_4 z0_5 z0_6 z0_7
                  refine (held_State x _ _ _ _ 1 _ M0.out.shows (by omega) (by omega)).mono ?_
                  rintro e v29 ⟨rfl, hb⟩
                  have Z30 := Lib.hid hb.size
                  replace C0 := Lib.hid (C0.out.trans (hb.mono C0.out.size))
                  replace A0 := Lib.hid ((hb.block _ (Array.getElem?_eq_some_iff.1 A0.out).1).trans A0.out)
                  replace A1 := Lib.hid ((hb.block _ (Array.getElem?_eq_some_iff.1 A1.out).1).trans A1.out)
                  replace Rs0 := Lib.hid ((hb.block _ (Array.getElem?_eq_some_iff.1 Rs0.out).1).trans Rs0.out)
                  replace Os0 := Lib.hid (Os0.out.keep hb)
                  replace Ri0 := Lib.hid ((hb.block _ (Array.getElem?_eq_some_iff.1 Ri0.out).1).trans Ri0.out)
                  replace M0 := Lib.hid (M0.out.keep hb)
                  replace Rj0 := Lib.hid ((hb.block _ (Array.getElem?_eq_some_iff.1 Rj0.out).1).trans Rj0.out)
                  replace Oj0 := Lib.hid (Oj0.out.keep hb)
                  clear hb
                  go_wp2
                  go_ret
                  exact ⟨rfl, C0.out⟩
      · have hl : left l0 (x1.cost) = -1 := by unfold left; rw [if_neg hc1]
        rw [hl] at SZ1
        clear hl hc1
        go_enter Tryz.func3, Tryz.ntmps3
        have C0 := Lib.hid (Below.refl w.heap.size w)
        obtain ⟨v1, hW⟩ : ∃ W, W = (w.alloc (.cells #[.int .i64 vw0, .int .i64 vm0, .int .i64 vi0, .slice q0 L0.length cap0] 24)).alloc (.cells #[.int .i64 x1.pc, .slice qr1 x1.R.len cr1, .slice qm1 x1.M.len cm1, .slice qs1 x1.S.length cs1, .int .i64 x1.inn, .slice qo1 x1.O.len co1, .int .i64 x1.cd, .int .i64 x1.st, .slice qc1 x1.C.len cc1, .slice qu1 x1.U.length cu1] 28) := ⟨_, rfl⟩
        have hb : Below w.heap.size w v1 := by rw [hW]; exact ((Below.refl _ _).alloc (Nat.le_refl _) _).alloc (by simp) _
        have A0 := Lib.hid (show v1.heap[w.heap.size]? = some (.cells #[.int .i64 vw0, .int .i64 vm0, .int .i64 vi0, .slice q0 L0.length cap0] 24 (0, 0)) by rw [hW, heap_alloc_old _ _ (by simp)]; exact heap_alloc_new _ _)
        have A1 := Lib.hid (show v1.heap[w.heap.size + 1]? = some (.cells #[.int .i64 x1.pc, .slice qr1 x1.R.len cr1, .slice qm1 x1.M.len cm1, .slice qs1 x1.S.length cs1, .int .i64 x1.inn, .slice qo1 x1.O.len co1, .int .i64 x1.cd, .int .i64 x1.st, .slice qc1 x1.C.len cc1, .slice qu1 x1.U.length cu1] 28 (0, 0)) by rw [hW, ← show (w.alloc (.cells #[.int .i64 vw0, .int .i64 vm0, .int .i64 vi0, .slice q0 L0.length cap0] 24)).heap.size = w.heap.size + 1 by simp]; exact heap_alloc_new _ _)
        have BA1 := Lib.hid (show w.heap.size + 1 < v1.heap.size from (Array.getElem?_eq_some_iff.1 A1.out).1)
        have HW := Lib.hid hW
        clear hW
        have Z0 := Lib.hid hb.size
        replace C0 := Lib.hid (C0.out.trans (hb.mono C0.out.size))
        clear hb
        go_wp2_with fail
        rw [← HW.out]
        clear HW
        refine (SZ0.out _ (IS0.out.below C0.out)).mono ?_
        rintro e v2 ⟨rfl, hb⟩
        have Z2 := Lib.hid hb.size
        replace C0 := Lib.hid (C0.out.trans (hb.mono C0.out.size))
        replace A0 := Lib.hid ((hb.block _ (Array.getElem?_eq_some_iff.1 A0.out).1).trans A0.out)
        replace A1 := Lib.hid ((hb.block _ (Array.getElem?_eq_some_iff.1 A1.out).1).trans A1.out)
        clear hb
        obtain ⟨z0_0, z0_1, z0_2, z0_3, z0_4, z0_5, z0_6, z0_7, z0_8, z0_9⟩ := cell10_row A1.out
        go_wp2_with fail
        clear z0_0 z0_1 z0_2 z0_3 z0_4 z0_5 z0_6 z0_7 z0_8 z0_9
        refine (SZ1.out _ (IS1.out.below C0.out)).mono ?_
        rintro e v3 ⟨rfl, hb⟩
        have Z3 := Lib.hid hb.size
        replace C0 := Lib.hid (C0.out.trans (hb.mono C0.out.size))
        replace A0 := Lib.hid ((hb.block _ (Array.getElem?_eq_some_iff.1 A0.out).1).trans A0.out)
        replace A1 := Lib.hid ((hb.block _ (Array.getElem?_eq_some_iff.1 A1.out).1).trans A1.out)
        clear hb
        go_wp2
        go_ret
        exact ⟨rfl, C0.out⟩
    · have hl : left 1048576 (InsR.costs L0) = -1 := by unfold left; rw [if_neg hc0]
      rw [hl] at SZ0
      clear hl hc0
      go_enter Tryz.func3, Tryz.ntmps3
      have C0 := Lib.hid (Below.refl w.heap.size w)
      obtain ⟨v1, hW⟩ : ∃ W, W = (w.alloc (.cells #[.int .i64 vw0, .int .i64 vm0, .int .i64 vi0, .slice q0 L0.length cap0] 24)).alloc (.cells #[.int .i64 x1.pc, .slice qr1 x1.R.len cr1, .slice qm1 x1.M.len cm1, .slice qs1 x1.S.length cs1, .int .i64 x1.inn, .slice qo1 x1.O.len co1, .int .i64 x1.cd, .int .i64 x1.st, .slice qc1 x1.C.len cc1, .slice qu1 x1.U.length cu1] 28) := ⟨_, rfl⟩
      have hb : Below w.heap.size w v1 := by rw [hW]; exact ((Below.refl _ _).alloc (Nat.le_refl _) _).alloc (by simp) _
      have A0 := Lib.hid (show v1.heap[w.heap.size]? = some (.cells #[.int .i64 vw0, .int .i64 vm0, .int .i64 vi0, .slice q0 L0.length cap0] 24 (0, 0)) by rw [hW, heap_alloc_old _ _ (by simp)]; exact heap_alloc_new _ _)
      have A1 := Lib.hid (show v1.heap[w.heap.size + 1]? = some (.cells #[.int .i64 x1.pc, .slice qr1 x1.R.len cr1, .slice qm1 x1.M.len cm1, .slice qs1 x1.S.length cs1, .int .i64 x1.inn, .slice qo1 x1.O.len co1, .int .i64 x1.cd, .int .i64 x1.st, .slice qc1 x1.C.len cc1, .slice qu1 x1.U.length cu1] 28 (0, 0)) by rw [hW, ← show (w.alloc (.cells #[.int .i64 vw0, .int .i64 vm0, .int .i64 vi0, .slice q0 L0.length cap0] 24)).heap.size = w.heap.size + 1 by simp]; exact heap_alloc_new _ _)
      have BA1 := Lib.hid (show w.heap.size + 1 < v1.heap.size from (Array.getElem?_eq_some_iff.1 A1.out).1)
      have HW := Lib.hid hW
      clear hW
      have Z0 := Lib.hid hb.size
      replace C0 := Lib.hid (C0.out.trans (hb.mono C0.out.size))
      clear hb
      go_wp2_with fail
      rw [← HW.out]
      clear HW
      refine (SZ0.out _ (IS0.out.below C0.out)).mono ?_
      rintro e v2 ⟨rfl, hb⟩
      have Z2 := Lib.hid hb.size
      replace C0 := Lib.hid (C0.out.trans (hb.mono C0.out.size))
      replace A0 := Lib.hid ((hb.block _ (Array.getElem?_eq_some_iff.1 A0.out).1).trans A0.out)
      replace A1 := Lib.hid ((hb.block _ (Array.getElem?_eq_some_iff.1 A1.out).1).trans A1.out)
      clear hb
      go_wp2
      go_ret
      exact ⟨rfl, C0.out⟩
  · have hlong2 : (1048576 : Int) < (L2.length : Int) := by omega
    go_enter Tryz.func3, Tryz.ntmps3
    have C0 := Lib.hid (Below.refl w.heap.size w)
    obtain ⟨v1, hW⟩ : ∃ W, W = (w.alloc (.cells #[.int .i64 vw0, .int .i64 vm0, .int .i64 vi0, .slice q0 L0.length cap0] 24)).alloc (.cells #[.int .i64 x1.pc, .slice qr1 x1.R.len cr1, .slice qm1 x1.M.len cm1, .slice qs1 x1.S.length cs1, .int .i64 x1.inn, .slice qo1 x1.O.len co1, .int .i64 x1.cd, .int .i64 x1.st, .slice qc1 x1.C.len cc1, .slice qu1 x1.U.length cu1] 28) := ⟨_, rfl⟩
    have hb : Below w.heap.size w v1 := by rw [hW]; exact ((Below.refl _ _).alloc (Nat.le_refl _) _).alloc (by simp) _
    have A0 := Lib.hid (show v1.heap[w.heap.size]? = some (.cells #[.int .i64 vw0, .int .i64 vm0, .int .i64 vi0, .slice q0 L0.length cap0] 24 (0, 0)) by rw [hW, heap_alloc_old _ _ (by simp)]; exact heap_alloc_new _ _)
    have A1 := Lib.hid (show v1.heap[w.heap.size + 1]? = some (.cells #[.int .i64 x1.pc, .slice qr1 x1.R.len cr1, .slice qm1 x1.M.len cm1, .slice qs1 x1.S.length cs1, .int .i64 x1.inn, .slice qo1 x1.O.len co1, .int .i64 x1.cd, .int .i64 x1.st, .slice qc1 x1.C.len cc1, .slice qu1 x1.U.length cu1] 28 (0, 0)) by rw [hW, ← show (w.alloc (.cells #[.int .i64 vw0, .int .i64 vm0, .int .i64 vi0, .slice q0 L0.length cap0] 24)).heap.size = w.heap.size + 1 by simp]; exact heap_alloc_new _ _)
    have BA1 := Lib.hid (show w.heap.size + 1 < v1.heap.size from (Array.getElem?_eq_some_iff.1 A1.out).1)
    have HW := Lib.hid hW
    clear hW
    have Z0 := Lib.hid hb.size
    replace C0 := Lib.hid (C0.out.trans (hb.mono C0.out.size))
    clear hb
    go_wp2
    go_ret
    exact ⟨rfl, by rw [← HW.out]; exact C0.out⟩
end Go.Proofs.YthmababifgaejaaGreatDoor
