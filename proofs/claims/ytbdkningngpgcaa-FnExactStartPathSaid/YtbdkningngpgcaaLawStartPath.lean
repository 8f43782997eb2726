/- The law FnExactStartPath, walked by the contracts of all that it calls. -/
import Derived.Test.YtbdkningngpgcaaSpS
import Derived.Test.YtbdkningngpgcaaSpI
import Derived.Test.YtbdkningngpgcaaHdPath
import Derived.Test.YtbdkningngpgcaaMkProg
import Derived.Test.YtbdkningngpgcaaProgram
import Derived.Test.YtbdkningngpgcaaPath
import Derived.Deep.RegionWith
namespace Go.Proofs.Ytbdkningngpgcaa
open Go.ChangeShapes Go.WideShapes Go.ChangeAt Go.RowKit
theorem drew_block {w : World} {b : Nat} {o : Obj} (h : w.heap[b]? = some o) : w.drew.heap[b]? = some o := h
set_option maxRecDepth 100000 in
set_option maxHeartbeats 4000000 in
theorem law_FnExactStartPath (vw0 vm0 vi0 : Int) (L0 : List InsR) (s0 : Value) (w : World) (hs0 : Cs.Shows w 0 4 s0 L0.length (InsR.all L0)) (hok0 : (-9223372036854775808 ≤ vw0 ∧ vw0 ≤ 9223372036854775807) ∧ (-9223372036854775808 ≤ vm0 ∧ vm0 ≤ 9223372036854775807) ∧ (-9223372036854775808 ≤ vi0 ∧ vi0 ≤ 9223372036854775807) ∧ (∀ r ∈ L0, r.Ok) ∧ L0.length ≤ maxLen) :
    Calls Try.prog 8 #[.agg #[.int .i64 vw0, .int .i64 vm0, .int .i64 vi0, s0]] w fun e w' => e = .returned (.bool true) ∧ Below w.heap.size w w' := by
  have hml : maxLen = 9223372036854775807 := rfl
  have IS0 := Lib.hid hs0
  have OK0 := Lib.hid hok0
  obtain ⟨_, q0, cap0, rfl, _⟩ := hs0
  clear hok0
  have SZ0 := Lib.hid (fun W (h : Cs.Shows W 0 4 (.slice q0 L0.length cap0) L0.length (InsR.all L0)) => sz_Program vw0 vm0 vi0 L0 _ 1048576 W (by omega) h OK0.out.2.2.2.1 OK0.out.2.2.2.2)
  by_cases hc0 : InsR.costs L0 ≤ 1048576
  · obtain ⟨l0, hl0, hm0⟩ : ∃ l : Nat, left 1048576 (InsR.costs L0) = (l : Int) ∧ l + InsR.costs L0 = 1048576 := ⟨1048576 - InsR.costs L0, by unfold left; rw [if_pos hc0]; omega, by omega⟩
    rw [hl0] at SZ0
    have hq0 : l0 ≤ 1048576 := by omega
    clear hl0 hm0
    have hnl0 := InsR.len_le L0
    have hlc0 : L0.length ≤ 1048576 := by omega
    have hcc0 : InsR.costs L0 ≤ 1048576 := by omega
    clear hnl0
    obtain ⟨x, hx⟩ : ∃ x, spV vw0 vm0 vi0 L0 = x := ⟨_, rfl⟩
    have KS := Lib.hid (fun s W h => s_start vw0 vm0 vi0 L0 s W h OK0.out.2.2.2.1 OK0.out.2.2.2.2)
    have KI := Lib.hid (fun s W h => i_start vw0 vm0 vi0 L0 s W h OK0.out.2.2.2.1 OK0.out.2.2.2.2)
    obtain ⟨hxn, hxm⟩ := sp_small vw0 vm0 vi0 L0
    rw [hx] at KS KI hxn hxm
    have HXN := Lib.hid hxn
    unfold SpEnd at KS KI
    clear hx hxn
    clear hc0
    go_enter Try.func8, Try.ntmps8
    have C0 := Lib.hid (Below.refl w.heap.size w)
    obtain ⟨v1, hW⟩ : ∃ W, W = w.alloc (.cells #[.int .i64 vw0, .int .i64 vm0, .int .i64 vi0, .slice q0 L0.length cap0] 24) := ⟨_, rfl⟩
    have hb : Below w.heap.size w v1 := by rw [hW]; exact (Below.refl _ _).alloc (Nat.le_refl _) _
    have A0 : Hid (v1.heap[w.heap.size]? = some (.cells #[.int .i64 vw0, .int .i64 vm0, .int .i64 vi0, .slice q0 L0.length cap0] 24 (0, 0))) := Lib.hid (by rw [hW]; exact heap_alloc_new _ _)
    have BA0 := Lib.hid (show w.heap.size < v1.heap.size from (Array.getElem?_eq_some_iff.1 A0.out).1)
    have HW := Lib.hid hW
    clear hW
    have Z0 := Lib.hid hb.size
    replace C0 := Lib.hid (C0.out.trans (hb.mono C0.out.size))
    clear hb
    go_wp2_with fail
    rw [← HW.out]
    clear HW
    refine (SZ0.out _ (IS0.out.below C0.out)).mono ?_
    rintro e v2 ⟨rfl, hb⟩
    have Z2 := Lib.hid hb.size
    replace C0 := Lib.hid (C0.out.trans (hb.mono C0.out.size))
    replace A0 := Lib.hid ((hb.block _ (Array.getElem?_eq_some_iff.1 A0.out).1).trans A0.out)
    clear hb
    obtain ⟨z0_0, z0_1, z0_2, z0_3⟩ := cell4_row A0.out
    go_wp2_with fail
    clear z0_0 z0_1 z0_2 z0_3
    refine (to_Program vw0 vm0 vi0 L0 _ _ (IS0.out.below C0.out) (by omega)).mono ?_
    rintro e v3 ⟨gp0, rfl, hh, hb⟩
    have Hp0 := Lib.hid hh
    clear hh
    have Z3 := Lib.hid hb.size
    replace C0 := Lib.hid (C0.out.trans (hb.mono C0.out.size))
    replace A0 := Lib.hid ((hb.block _ (Array.getElem?_eq_some_iff.1 A0.out).1).trans A0.out)
    clear hb
    have IHp0 := Lib.hid (fun g (hg : g ∈ (Value.slice (some ⟨gp0, 0, none⟩) L0.length L0.length).ownBlock.toList) => (own_lt Hp0.out hg))
    go_wp2_with fail
    refine (KS.out _ _ ((Cs.shows_of_owns Hp0.out).down (Nat.zero_le _))).mono ?_
    rintro e v4 ⟨hb, s0rq, s0rc, s0mq, s0mc, s0sq, s0sc, s0oq, s0oc, s0cq, s0cc, s0uq, s0uc, s0B, rfl, hh⟩
    have Os0 := Lib.hid hh
    clear hh
    have Z4 := Lib.hid hb.size
    replace C0 := Lib.hid (C0.out.trans (hb.mono C0.out.size))
    replace A0 := Lib.hid ((hb.block _ (Array.getElem?_eq_some_iff.1 A0.out).1).trans A0.out)
    replace Hp0 := Lib.hid (own_keep Hp0.out hb)
    clear hb
    clear Hp0
    have IOs0 := Lib.hid (fun g (hg : g ∈ s0B) => (Os0.out.lt _ hg))
    obtain ⟨z0_0, z0_1, z0_2, z0_3⟩ := cell4_row A0.out
    have hyl0 := World.block_lt_of_cell? _ _ z0_0
    obtain ⟨v5, hW⟩ : ∃ W, W = v4.alloc (.cells #[.int .i64 x.pc, .slice s0rq x.R.len s0rc, .slice s0mq x.M.len s0mc, .slice s0sq x.S.length s0sc, .int .i64 x.inn, .slice s0oq x.O.len s0oc, .int .i64 x.cd, .int .i64 x.st, .slice s0cq x.C.len s0cc, .slice s0uq x.U.length s0uc] 58) := ⟨_, rfl⟩
    have hb : Below v4.heap.size v4 v5 := by rw [hW]; exact (Below.refl _ _).alloc (Nat.le_refl _) _
    have Rs0 : Hid (v5.heap[v4.heap.size]? = some (.cells #[.int .i64 x.pc, .slice s0rq x.R.len s0rc, .slice s0mq x.M.len s0mc, .slice s0sq x.S.length s0sc, .int .i64 x.inn, .slice s0oq x.O.len s0oc, .int .i64 x.cd, .int .i64 x.st, .slice s0cq x.C.len s0cc, .slice s0uq x.U.length s0uc] 58 (0, 0))) := Lib.hid (by rw [hW]; exact heap_alloc_new _ _)
    have BRs0 := Lib.hid (show v4.heap.size < v5.heap.size from (Array.getElem?_eq_some_iff.1 Rs0.out).1)
    have HW := Lib.hid hW
    clear hW
    have Z5 := Lib.hid hb.size
    replace C0 := Lib.hid (C0.out.trans (hb.mono C0.out.size))
    replace A0 := Lib.hid ((hb.block _ (Array.getElem?_eq_some_iff.1 A0.out).1).trans A0.out)
    replace Os0 := Lib.hid (Os0.out.keep hb)
    clear hb
    go_wp2_with fail
    rw [← HW.out]
    clear HW z0_0 z0_1 z0_2 z0_3 hyl0
    refine (to_Program vw0 vm0 vi0 L0 _ _ (IS0.out.below C0.out) (by omega)).mono ?_
    rintro e v6 ⟨gx0, rfl, hh, hb⟩
    have Hx0 := Lib.hid hh
    clear hh
    have Z7 := Lib.hid hb.size
    replace C0 := Lib.hid (C0.out.trans (hb.mono C0.out.size))
    replace A0 := Lib.hid ((hb.block _ (Array.getElem?_eq_some_iff.1 A0.out).1).trans A0.out)
    replace Os0 := Lib.hid (Os0.out.keep hb)
    replace Rs0 := Lib.hid ((hb.block _ (Array.getElem?_eq_some_iff.1 Rs0.out).1).trans Rs0.out)
    clear hb
    have IHx0 := Lib.hid (fun g (hg : g ∈ (Value.slice (some ⟨gx0, 0, none⟩) L0.length L0.length).ownBlock.toList) => (own_lt Hx0.out hg))
    obtain ⟨v7, hW⟩ : ∃ W, W = v6.alloc (.cells #[.int .i64 vw0, .int .i64 vm0, .int .i64 vi0, .slice (some ⟨gx0, 0, none⟩) L0.length L0.length] 30) := ⟨_, rfl⟩
    have hb : Below v6.heap.size v6 v7 := by rw [hW]; exact (Below.refl _ _).alloc (Nat.le_refl _) _
    have X0 : Hid (v7.heap[v6.heap.size]? = some (.cells #[.int .i64 vw0, .int .i64 vm0, .int .i64 vi0, .slice (some ⟨gx0, 0, none⟩) L0.length L0.length] 30 (0, 0))) := Lib.hid (by rw [hW]; exact heap_alloc_new _ _)
    have BX0 := Lib.hid (show v6.heap.size < v7.heap.size from (Array.getElem?_eq_some_iff.1 X0.out).1)
    have HW := Lib.hid hW
    clear hW
    have Z8 := Lib.hid hb.size
    replace C0 := Lib.hid (C0.out.trans (hb.mono C0.out.size))
    replace A0 := Lib.hid ((hb.block _ (Array.getElem?_eq_some_iff.1 A0.out).1).trans A0.out)
    replace Os0 := Lib.hid (Os0.out.keep hb)
    replace Rs0 := Lib.hid ((hb.block _ (Array.getElem?_eq_some_iff.1 Rs0.out).1).trans Rs0.out)
    replace Hx0 := Lib.hid (own_keep Hx0.out hb)
    clear hb
    go_wp2_with fail
    rw [← HW.out]
    clear HW
    refine (KI.out _ _ ((Cs.shows_of_owns Hx0.out).down (Nat.zero_le _))).mono ?_
    rintro e v8 ⟨hb, i0rq, i0rc, i0mq, i0mc, i0sq, i0sc, i0oq, i0oc, i0cq, i0cc, i0uq, i0uc, i0B, rfl, hh⟩
    have Oi0 := Lib.hid hh
    clear hh
    have Z10 := Lib.hid hb.size
    replace C0 := Lib.hid (C0.out.trans (hb.mono C0.out.size))
    replace A0 := Lib.hid ((hb.block _ (Array.getElem?_eq_some_iff.1 A0.out).1).trans A0.out)
    replace Os0 := Lib.hid (Os0.out.keep hb)
    replace Rs0 := Lib.hid ((hb.block _ (Array.getElem?_eq_some_iff.1 Rs0.out).1).trans Rs0.out)
    replace Hx0 := Lib.hid (own_keep Hx0.out hb)
    replace X0 := Lib.hid ((hb.block _ (Array.getElem?_eq_some_iff.1 X0.out).1).trans X0.out)
    clear hb
    have IOi0 := Lib.hid (fun g (hg : g ∈ i0B) => (Oi0.out.lt _ hg))
    obtain ⟨z0_0, z0_1, z0_2, z0_3, z0_4, z0_5, z0_6, z0_7, z0_8, z0_9⟩ := cell10_row Rs0.out
    have hyl0 := World.block_lt_of_cell? _ _ z0_0
    obtain ⟨v9, hW⟩ : ∃ W, W = v8.alloc (.cells #[.int .i64 x.pc, .slice i0rq x.R.len i0rc, .slice i0mq x.M.len i0mc, .slice i0sq x.S.length i0sc, .int .i64 x.inn, .slice i0oq x.O.len i0oc, .int .i64 x.cd, .int .i64 x.st, .slice i0cq x.C.len i0cc, .slice i0uq x.U.length i0uc] 58) := ⟨_, rfl⟩
    have hb : Below v8.heap.size v8 v9 := by rw [hW]; exact (Below.refl _ _).alloc (Nat.le_refl _) _
    have Ri0 : Hid (v9.heap[v8.heap.size]? = some (.cells #[.int .i64 x.pc, .slice i0rq x.R.len i0rc, .slice i0mq x.M.len i0mc, .slice i0sq x.S.length i0sc, .int .i64 x.inn, .slice i0oq x.O.len i0oc, .int .i64 x.cd, .int .i64 x.st, .slice i0cq x.C.len i0cc, .slice i0uq x.U.length i0uc] 58 (0, 0))) := Lib.hid (by rw [hW]; exact heap_alloc_new _ _)
    have BRi0 := Lib.hid (show v8.heap.size < v9.heap.size from (Array.getElem?_eq_some_iff.1 Ri0.out).1)
    have HW := Lib.hid hW
    clear hW
    have Z11 := Lib.hid hb.size
    replace C0 := Lib.hid (C0.out.trans (hb.mono C0.out.size))
    replace A0 := Lib.hid ((hb.block _ (Array.getElem?_eq_some_iff.1 A0.out).1).trans A0.out)
    replace Os0 := Lib.hid (Os0.out.keep hb)
    replace Rs0 := Lib.hid ((hb.block _ (Array.getElem?_eq_some_iff.1 Rs0.out).1).trans Rs0.out)
    replace Hx0 := Lib.hid (own_keep Hx0.out hb)
    replace X0 := Lib.hid ((hb.block _ (Array.getElem?_eq_some_iff.1 X0.out).1).trans X0.out)
    replace Oi0 := Lib.hid (Oi0.out.keep hb)
    clear hb
    go_wp2_with fail
    rw [← HW.out]
    clear HW z0_0 z0_1 z0_2 z0_3 z0_4 z0_5 z0_6 z0_7 z0_8 z0_9 hyl0
    refine (eq_Path x _ _ _ _ _ _ _ _ _ _ _ _ _ (Oi0.out.shows) (Os0.out.shows) HXN.out).mono ?_
    rintro e v10 ⟨rfl, hb⟩
    have Z13 := Lib.hid hb.size
    replace C0 := Lib.hid (C0.out.trans (hb.mono C0.out.size))
    replace A0 := Lib.hid ((hb.block _ (Array.getElem?_eq_some_iff.1 A0.out).1).trans A0.out)
    replace Os0 := Lib.hid (Os0.out.keep hb)
    replace Rs0 := Lib.hid ((hb.block _ (Array.getElem?_eq_some_iff.1 Rs0.out).1).trans Rs0.out)
    replace Hx0 := Lib.hid (own_keep Hx0.out hb)
    replace X0 := Lib.hid ((hb.block _ (Array.getElem?_eq_some_iff.1 X0.out).1).trans X0.out)
    replace Oi0 := Lib.hid (Oi0.out.keep hb)
    replace Ri0 := Lib.hid ((hb.block _ (Array.getElem?_eq_some_iff.1 Ri0.out).1).trans Ri0.out)
    clear hb
    obtain ⟨z0_0, z0_1, z0_2, z0_3⟩ := cell4_row A0.out
    obtain ⟨z1_0, z1_1, z1_2, z1_3⟩ := cell4_row X0.out
    go_wp2
    go_region_with (first | (go_at_call 11; replace C0 := Lib.hid C0.out.drew; replace A0 := Lib.hid (drew_block A0.out); replace Os0 := Lib.hid (Os0.out.same (w' := v10.drew) (fun g _ => rfl)); replace Rs0 := Lib.hid (drew_block Rs0.out); replace Hx0 := Lib.hid Hx0.out.drew; replace X0 := Lib.hid (drew_block X0.out); replace Oi0 := Lib.hid (Oi0.out.same (w' := v10.drew) (fun g _ => rfl)); replace Ri0 := Lib.hid (drew_block Ri0.out); refine (to_Program vw0 vm0 vi0 L0 _ _ (IS0.out.below C0.out) (by omega)).mono ?_; rintro e v11 ⟨ge, rfl, hh, hb⟩; replace C0 := Lib.hid (C0.out.trans (hb.mono C0.out.size)); replace A0 := Lib.hid ((hb.block _ (Array.getElem?_eq_some_iff.1 A0.out).1).trans A0.out); replace Os0 := Lib.hid (Os0.out.keep hb); replace Rs0 := Lib.hid ((hb.block _ (Array.getElem?_eq_some_iff.1 Rs0.out).1).trans Rs0.out); replace Hx0 := Lib.hid (own_keep Hx0.out hb); replace X0 := Lib.hid ((hb.block _ (Array.getElem?_eq_some_iff.1 X0.out).1).trans X0.out); replace Oi0 := Lib.hid (Oi0.out.keep hb); replace Ri0 := Lib.hid ((hb.block _ (Array.getElem?_eq_some_iff.1 Ri0.out).1).trans Ri0.out); have HR := Lib.hid ((Cs.shows_of_owns hh).down (Nat.zero_le _)); obtain ⟨z1_0, z1_1, z1_2, z1_3⟩ := cell4_row X0.out; clear hh hb) | (go_at_call 14; refine (eq_Program vw0 vm0 vi0 L0 _ _ _ ((Cs.shows_of_owns Hx0.out).down (Nat.zero_le _)) HR.out (by omega)).mono ?_; rintro e v12 ⟨rfl, hb⟩; replace C0 := Lib.hid (C0.out.trans (hb.mono C0.out.size)); replace A0 := Lib.hid ((hb.block _ (Array.getElem?_eq_some_iff.1 A0.out).1).trans A0.out); replace Os0 := Lib.hid (Os0.out.keep hb); replace Rs0 := Lib.hid ((hb.block _ (Array.getElem?_eq_some_iff.1 Rs0.out).1).trans Rs0.out); replace Hx0 := Lib.hid (own_keep Hx0.out hb); replace X0 := Lib.hid ((hb.block _ (Array.getElem?_eq_some_iff.1 X0.out).1).trans X0.out); replace Oi0 := Lib.hid (Oi0.out.keep hb); replace Ri0 := Lib.hid ((hb.block _ (Array.getElem?_eq_some_iff.1 Ri0.out).1).trans Ri0.out); clear hb HR))
    all_goals
      clear z0_0 z0_1 z0_2 z0_3 z1_0 z1_1 z1_2 z1_3
      obtain ⟨z0_0, z0_1, z0_2, z0_3⟩ := cell4_row X0.out
      go_wp2_with fail
      clear z0_0 z0_1 z0_2 z0_3
      refine (mark_Program vw0 vm0 vi0 L0 _ _ 1 _ _ Hx0.out (by omega) (by omega)).mono ?_
      rintro e v13 ⟨rfl, hh, hap⟩
      skip
      clear hh
      replace C0 := Lib.hid (C0.out.trans (hap.below C0.out.size (fun g hg => by have x1 := IHx0.out _ hg; have y0 := Z0.out; have y1 := BA0.out; have y2 := Z2.out; have y3 := Z3.out; have y4 := Z4.out; have y5 := Z5.out; have y6 := BRs0.out; have y7 := Z7.out; have y8 := Z8.out; have y9 := BX0.out; have y10 := Z10.out; have y11 := Z11.out; have y12 := BRi0.out; have y13 := Z13.out; omega)))
      replace A0 := Lib.hid ((hap.block _ (Array.getElem?_eq_some_iff.1 A0.out).1 (fun hm => by have x1 := IHx0.out _ hm; have y0 := Z0.out; have y1 := BA0.out; have y2 := Z2.out; have y3 := Z3.out; have y4 := Z4.out; have y5 := Z5.out; have y6 := BRs0.out; have y7 := Z7.out; have y8 := Z8.out; have y9 := BX0.out; have y10 := Z10.out; have y11 := Z11.out; have y12 := BRi0.out; have y13 := Z13.out; omega)).trans A0.out)
      replace Os0 := Lib.hid (Os0.out.same (fun g hg => hap.block g (Os0.out.lt g hg).2 (fun hm => by have x1 := IHx0.out _ hm; have y0 := Z0.out; have y1 := BA0.out; have y2 := Z2.out; have y3 := Z3.out; have y4 := Z4.out; have y5 := Z5.out; have y6 := BRs0.out; have y7 := Z7.out; have y8 := Z8.out; have y9 := BX0.out; have y10 := Z10.out; have y11 := Z11.out; have y12 := BRi0.out; have y13 := Z13.out; have x2 := IOs0.out _ hg; omega)))
      replace Rs0 := Lib.hid ((hap.block _ (Array.getElem?_eq_some_iff.1 Rs0.out).1 (fun hm => by have x1 := IHx0.out _ hm; have y0 := Z0.out; have y1 := BA0.out; have y2 := Z2.out; have y3 := Z3.out; have y4 := Z4.out; have y5 := Z5.out; have y6 := BRs0.out; have y7 := Z7.out; have y8 := Z8.out; have y9 := BX0.out; have y10 := Z10.out; have y11 := Z11.out; have y12 := BRi0.out; have y13 := Z13.out; omega)).trans Rs0.out)
      replace X0 := Lib.hid ((hap.block _ (Array.getElem?_eq_some_iff.1 X0.out).1 (fun hm => by have x1 := IHx0.out _ hm; have y0 := Z0.out; have y1 := BA0.out; have y2 := Z2.out; have y3 := Z3.out; have y4 := Z4.out; have y5 := Z5.out; have y6 := BRs0.out; have y7 := Z7.out; have y8 := Z8.out; have y9 := BX0.out; have y10 := Z10.out; have y11 := Z11.out; have y12 := BRi0.out; have y13 := Z13.out; omega)).trans X0.out)
      replace Oi0 := Lib.hid (Oi0.out.same (fun g hg => hap.block g (Oi0.out.lt g hg).2 (fun hm => by have x1 := IHx0.out _ hm; have y0 := Z0.out; have y1 := BA0.out; have y2 := Z2.out; have y3 := Z3.out; have y4 := Z4.out; have y5 := Z5.out; have y6 := BRs0.out; have y7 := Z7.out; have y8 := Z8.out; have y9 := BX0.out; have y10 := Z10.out; have y11 := Z11.out; have y12 := BRi0.out; have y13 := Z13.out; have x2 := IOi0.out _ hg; omega)))
      replace Ri0 := Lib.hid ((hap.block _ (Array.getElem?_eq_some_iff.1 Ri0.out).1 (fun hm => by have x1 := IHx0.out _ hm; have y0 := Z0.out; have y1 := BA0.out; have y2 := Z2.out; have y3 := Z3.out; have y4 := Z4.out; have y5 := Z5.out; have y6 := BRs0.out; have y7 := Z7.out; have y8 := Z8.out; have y9 := BX0.out; have y10 := Z10.out; have y11 := Z11.out; have y12 := BRi0.out; have y13 := Z13.out; omega)).trans Ri0.out)
      clear hap
      clear Hx0
      clear X0
      obtain ⟨z0_0, z0_1, z0_2, z0_3, z0_4, z0_5, z0_6, z0_7, z0_8, z0_9⟩ := cell10_row Ri0.out
      obtain ⟨z1_0, z1_1, z1_2, z1_3, z1_4, z1_5, z1_6, z1_7, z1_8, z1_9⟩ := cell10_row Rs0.out
      go_wp2_with fail
      clear z0_0 z0_1 z0_2 z0_3 z0_4 z0_5 z0_6 z0_7 z0_8 z0_9 z1_0 z1_1 z1_2 z1_3 z1_4 z1_5 z1_6 z1_7 z1_8 z1_9
      refine (eq_Path x _ _ _ _ _ _ _ _ _ _ _ _ _ (Oi0.out.shows) (Os0.out.shows) HXN.out).mono ?_
      rintro e v14 ⟨rfl, hb⟩
      have Z14 := Lib.hid hb.size
      replace C0 := Lib.hid (C0.out.trans (hb.mono C0.out.size))
      replace A0 := Lib.hid ((hb.block _ (Array.getElem?_eq_some_iff.1 A0.out).1).trans A0.out)
      replace Os0 := Lib.hid (Os0.out.keep hb)
      replace Rs0 := Lib.hid ((hb.block _ (Array.getElem?_eq_some_iff.1 Rs0.out).1).trans Rs0.out)
      replace Oi0 := Lib.hid (Oi0.out.keep hb)
      replace Ri0 := Lib.hid ((hb.block _ (Array.getElem?_eq_some_iff.1 Ri0.out).1).trans Ri0.out)
      clear hb
      obtain ⟨z0_0, z0_1, z0_2, z0_3, z0_4, z0_5, z0_6, z0_7, z0_8, z0_9⟩ := cell10_row Ri0.out
      go_wp2_with fail
      clear z0_0 z0_1 z0_2 z0_3 z0_4 z0_5 z0_6 z0_7 z0_8 z0_9
      refine (mark_Path x _ _ _ _ _ _ 1 _ _ _ Oi0.out (by omega) (by omega)).mono ?_
      rintro e v15 ⟨rfl, hh, hap⟩
      have M0 := Lib.hid hh
      clear hh
      replace C0 := Lib.hid (C0.out.trans (hap.below C0.out.size (fun g hg => by have x1 := IOi0.out _ hg; have y0 := Z0.out; have y1 := BA0.out; have y2 := Z2.out; have y3 := Z3.out; have y4 := Z4.out; have y5 := Z5.out; have y6 := BRs0.out; have y7 := Z7.out; have y8 := Z8.out; have y9 := BX0.out; have y10 := Z10.out; have y11 := Z11.out; have y12 := BRi0.out; have y13 := Z13.out; have y14 := Z14.out; omega)))
      replace A0 := Lib.hid ((hap.block _ (Array.getElem?_eq_some_iff.1 A0.out).1 (fun hm => by have x1 := IOi0.out _ hm; have y0 := Z0.out; have y1 := BA0.out; have y2 := Z2.out; have y3 := Z3.out; have y4 := Z4.out; have y5 := Z5.out; have y6 := BRs0.out; have y7 := Z7.out; have y8 := Z8.out; have y9 := BX0.out; have y10 := Z10.out; have y11 := Z11.out; have y12 := BRi0.out; have y13 := Z13.out; have y14 := Z14.out; omega)).trans A0.out)
      replace Os0 := Lib.hid (Os0.out.same (fun g hg => hap.block g (Os0.out.lt g hg).2 (fun hm => by have x1 := IOi0.out _ hm; have y0 := Z0.out; have y1 := BA0.out; have y2 := Z2.out; have y3 := Z3.out; have y4 := Z4.out; have y5 := Z5.out; have y6 := BRs0.out; have y7 := Z7.out; have y8 := Z8.out; have y9 := BX0.out; have y10 := Z10.out; have y11 := Z11.out; have y12 := BRi0.out; have y13 := Z13.out; have y14 := Z14.out; have x2 := IOs0.out _ hg; omega)))
      replace Rs0 := Lib.hid ((hap.block _ (Array.getElem?_eq_some_iff.1 Rs0.out).1 (fun hm => by have x1 := IOi0.out _ hm; have y0 := Z0.out; have y1 := BA0.out; have y2 := Z2.out; have y3 := Z3.out; have y4 := Z4.out; have y5 := Z5.out; have y6 := BRs0.out; have y7 := Z7.out; have y8 := Z8.out; have y9 := BX0.out; have y10 := Z10.out; have y11 := Z11.out; have y12 := BRi0.out; have y13 := Z13.out; have y14 := Z14.out; omega)).trans Rs0.out)
      replace Ri0 := Lib.hid ((hap.block _ (Array.getElem?_eq_some_iff.1 Ri0.out).1 (fun hm => by have x1 := IOi0.out _ hm; have y0 := Z0.out; have y1 := BA0.out; have y2 := Z2.out; have y3 := Z3.out; have y4 := Z4.out; have y5 := Z5.out; have y6 := BRs0.out; have y7 := Z7.out; have y8 := Z8.out; have y9 := BX0.out; have y10 := Z10.out; have y11 := Z11.out; have y12 := BRi0.out; have y13 := Z13.out; have y14 := Z14.out; omega)).trans Ri0.out)
      clear hap
      clear Oi0
      have IM0 := IOi0
      obtain ⟨z0_0, z0_1, z0_2, z0_3, z0_4, z0_5, z0_6, z0_7, z0_8, z0_9⟩ := cell10_row Ri0.out
      go_wp2_with fail
      clear z0_0 z0_1 z0_2 z0_3 z0_4 z0_5 z0_6 z0_7 z0_8 z0_9
      refine (held_Path x _ _ _ _ _ _ 1 _ M0.out.shows (by omega) (by omega)).mono ?_
      rintro e v16 ⟨rfl, hb⟩
      have Z15 := Lib.hid hb.size
      replace C0 := Lib.hid (C0.out.trans (hb.mono C0.out.size))
      replace A0 := Lib.hid ((hb.block _ (Array.getElem?_eq_some_iff.1 A0.out).1).trans A0.out)
      replace Os0 := Lib.hid (Os0.out.keep hb)
      replace Rs0 := Lib.hid ((hb.block _ (Array.getElem?_eq_some_iff.1 Rs0.out).1).trans Rs0.out)
      replace Ri0 := Lib.hid ((hb.block _ (Array.getElem?_eq_some_iff.1 Ri0.out).1).trans Ri0.out)
      replace M0 := Lib.hid (M0.out.keep hb)
      clear hb
      obtain ⟨z0_0, z0_1, z0_2, z0_3⟩ := cell4_row A0.out
      go_wp2_with fail
      clear z0_0 z0_1 z0_2 z0_3
      refine (to_Program vw0 vm0 vi0 L0 _ _ (IS0.out.below C0.out) (by omega)).mono ?_
      rintro e v17 ⟨gh0, rfl, hh, hb⟩
      have Hh0 := Lib.hid hh
      clear hh
      have Z16 := Lib.hid hb.size
      replace C0 := Lib.hid (C0.out.trans (hb.mono C0.out.size))
      replace A0 := Lib.hid ((hb.block _ (Array.getElem?_eq_some_iff.1 A0.out).1).trans A0.out)
      replace Os0 := Lib.hid (Os0.out.keep hb)
      replace Rs0 := Lib.hid ((hb.block _ (Array.getElem?_eq_some_iff.1 Rs0.out).1).trans Rs0.out)
      replace Ri0 := Lib.hid ((hb.block _ (Array.getElem?_eq_some_iff.1 Ri0.out).1).trans Ri0.out)
      replace M0 := Lib.hid (M0.out.keep hb)
      clear hb
      have IHh0 := Lib.hid (fun g (hg : g ∈ (Value.slice (some ⟨gh0, 0, none⟩) L0.length L0.length).ownBlock.toList) => (own_lt Hh0.out hg))
      go_wp2_with fail
      refine (KI.out _ _ ((Cs.shows_of_owns Hh0.out).down (Nat.zero_le _))).mono ?_
      rintro e v18 ⟨hb, j0rq, j0rc, j0mq, j0mc, j0sq, j0sc, j0oq, j0oc, j0cq, j0cc, j0uq, j0uc, j0B, rfl, hh⟩
      have Oj0 := Lib.hid hh
      clear hh
      have Z17 := Lib.hid hb.size
      replace C0 := Lib.hid (C0.out.trans (hb.mono C0.out.size))
      replace A0 := Lib.hid ((hb.block _ (Array.getElem?_eq_some_iff.1 A0.out).1).trans A0.out)
      replace Os0 := Lib.hid (Os0.out.keep hb)
      replace Rs0 := Lib.hid ((hb.block _ (Array.getElem?_eq_some_iff.1 Rs0.out).1).trans Rs0.out)
      replace Ri0 := Lib.hid ((hb.block _ (Array.getElem?_eq_some_iff.1 Ri0.out).1).trans Ri0.out)
      replace M0 := Lib.hid (M0.out.keep hb)
      replace Hh0 := Lib.hid (own_keep Hh0.out hb)
      clear hb
      have IOj0 := Lib.hid (fun g (hg : g ∈ j0B) => (Oj0.out.lt _ hg))
      clear Hh0
      obtain ⟨z0_0, z0_1, z0_2, z0_3, z0_4, z0_5, z0_6, z0_7, z0_8, z0_9⟩ := cell10_row Rs0.out
      have hyl0 := World.block_lt_of_cell? _ _ z0_0
      obtain ⟨v19, hW⟩ : ∃ W, W = v18.alloc (.cells #[.int .i64 x.pc, .slice j0rq x.R.len j0rc, .slice j0mq x.M.len j0mc, .slice j0sq x.S.length j0sc, .int .i64 x.inn, .slice j0oq x.O.len j0oc, .int .i64 x.cd, .int .i64 x.st, .slice j0cq x.C.len j0cc, .slice j0uq x.U.length j0uc] 58) := ⟨_, rfl⟩
      have hb : Below v18.heap.size v18 v19 := by rw [hW]; exact (Below.refl _ _).alloc (Nat.le_refl _) _
      have Rj0 : Hid (v19.heap[v18.heap.size]? = some (.cells #[.int .i64 x.pc, .slice j0rq x.R.len j0rc, .slice j0mq x.M.len j0mc, .slice j0sq x.S.length j0sc, .int .i64 x.inn, .slice j0oq x.O.len j0oc, .int .i64 x.cd, .int .i64 x.st, .slice j0cq x.C.len j0cc, .slice j0uq x.U.length j0uc] 58 (0, 0))) := Lib.hid (by rw [hW]; exact heap_alloc_new _ _)
      have BRj0 := Lib.hid (show v18.heap.size < v19.heap.size from (Array.getElem?_eq_some_iff.1 Rj0.out).1)
      have HW := Lib.hid hW
      clear hW
      have Z18 := Lib.hid hb.size
      replace C0 := Lib.hid (C0.out.trans (hb.mono C0.out.size))
      replace A0 := Lib.hid ((hb.block _ (Array.getElem?_eq_some_iff.1 A0.out).1).trans A0.out)
      replace Os0 := Lib.hid (Os0.out.keep hb)
      replace Rs0 := Lib.hid ((hb.block _ (Array.getElem?_eq_some_iff.1 Rs0.out).1).trans Rs0.out)
      replace Ri0 := Lib.hid ((hb.block _ (Array.getElem?_eq_some_iff.1 Ri0.out).1).trans Ri0.out)
      replace M0 := Lib.hid (M0.out.keep hb)
      replace Oj0 := Lib.hid (Oj0.out.keep hb)
      clear hb
      go_wp2_with fail
      rw [← HW.out]
      clear HW z0_0 z0_1 z0_2 z0_3 z0_4 z0_5 z0_6 z0_7 z0_8 z0_9 hyl0
      refine (eq_Path x _ _ _ _ _ _ _ _ _ _ _ _ _ (Oj0.out.shows) (Os0.out.shows) HXN.out).mono ?_
      rintro e v20 ⟨rfl, hb⟩
      have Z20 := Lib.hid hb.size
      replace C0 := Lib.hid (C0.out.trans (hb.mono C0.out.size))
      replace A0 := Lib.hid ((hb.block _ (Array.getElem?_eq_some_iff.1 A0.out).1).trans A0.out)
      replace Os0 := Lib.hid (Os0.out.keep hb)
      replace Rs0 := Lib.hid ((hb.block _ (Array.getElem?_eq_some_iff.1 Rs0.out).1).trans Rs0.out)
      replace Ri0 := Lib.hid ((hb.block _ (Array.getElem?_eq_some_iff.1 Ri0.out).1).trans Ri0.out)
      replace M0 := Lib.hid (M0.out.keep hb)
      replace Oj0 := Lib.hid (Oj0.out.keep hb)
      replace Rj0 := Lib.hid ((hb.block _ (Array.getElem?_eq_some_iff.1 Rj0.out).1).trans Rj0.out)
      clear hb
      obtain ⟨z0_0, z0_1, z0_2, z0_3, z0_4, z0_5, z0_6, z0_7, z0_8, z0_9⟩ := cell10_row Ri0.out
      go_wp2_with fail
      clear z0_0 z0_1 z0_2 z0_3 z0_4 z0_5 z0_6 z0_7 z0_8 z0_9
      refine (held_Path x _ _ _ _ _ _ 1 _ M0.out.shows (by omega) (by omega)).mono ?_
      rintro e v21 ⟨rfl, hb⟩
      have Z21 := Lib.hid hb.size
      replace C0 := Lib.hid (C0.out.trans (hb.mono C0.out.size))
      replace A0 := Lib.hid ((hb.block _ (Array.getElem?_eq_some_iff.1 A0.out).1).trans A0.out)
      replace Os0 := Lib.hid (Os0.out.keep hb)
      replace Rs0 := Lib.hid ((hb.block _ (Array.getElem?_eq_some_iff.1 Rs0.out).1).trans Rs0.out)
      replace Ri0 := Lib.hid ((hb.block _ (Array.getElem?_eq_some_iff.1 Ri0.out).1).trans Ri0.out)
      replace M0 := Lib.hid (M0.out.keep hb)
      replace Oj0 := Lib.hid (Oj0.out.keep hb)
      replace Rj0 := Lib.hid ((hb.block _ (Array.getElem?_eq_some_iff.1 Rj0.out).1).trans Rj0.out)
      clear hb
      go_wp2
      go_ret
      exact ⟨rfl, C0.out⟩
  · have hl : left 1048576 (InsR.costs L0) = -1 := by unfold left; rw [if_neg hc0]
    rw [hl] at SZ0
    clear hl hc0
    go_enter Try.func8, Try.ntmps8
    have C0 := Lib.hid (Below.refl w.heap.size w)
    obtain ⟨v1, hW⟩ : ∃ W, W = w.alloc (.cells #[.int .i64 vw0, .int .i64 vm0, .int .i64 vi0, .slice q0 L0.length cap0] 24) := ⟨_, rfl⟩
    have hb : Below w.heap.size w v1 := by rw [hW]; exact (Below.refl _ _).alloc (Nat.le_refl _) _
    have A0 : Hid (v1.heap[w.heap.size]? = some (.cells #[.int .i64 vw0, .int .i64 vm0, .int .i64 vi0, .slice q0 L0.length cap0] 24 (0, 0))) := Lib.hid (by rw [hW]; exact heap_alloc_new _ _)
    have BA0 := Lib.hid (show w.heap.size < v1.heap.size from (Array.getElem?_eq_some_iff.1 A0.out).1)
    have HW := Lib.hid hW
    clear hW
    have Z0 := Lib.hid hb.size
    replace C0 := Lib.hid (C0.out.trans (hb.mono C0.out.size))
    clear hb
    go_wp2_with fail
    rw [← HW.out]
    clear HW
    refine (SZ0.out _ (IS0.out.below C0.out)).mono ?_
    rintro e v2 ⟨rfl, hb⟩
    have Z2 := Lib.hid hb.size
    replace C0 := Lib.hid (C0.out.trans (hb.mono C0.out.size))
    replace A0 := Lib.hid ((hb.block _ (Array.getElem?_eq_some_iff.1 A0.out).1).trans A0.out)
    clear hb
    go_wp2
    go_ret
    exact ⟨rfl, C0.out⟩
end Go.Proofs.Ytbdkningngpgcaa
