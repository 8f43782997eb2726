/- The law FnExactTraceOf, walked by the contracts of all that it calls. -/
import Derived.Test.YtnhagmjknfiphaaCmGRnS
import Derived.Test.YtnhagmjknfiphaaCmGRnR
import Derived.Test.YtnhagmjknfiphaaTmHdState
import Derived.Test.YtnhagmjknfiphaaCmGMkProg
import Derived.Test.YtnhagmjknfiphaaCmProgram
import Derived.Test.YtnhagmjknfiphaaTmStEq
import Derived.Deep.RegionWith
namespace Go.Proofs.Ytnhagmjknfiphaa
open Go.ChangeShapes Go.WideShapes Go.ChangeAt Go.RowKit
theorem drew_block {w : World} {b : Nat} {o : Obj} (h : w.heap[b]? = some o) : w.drew.heap[b]? = some o := h
set_option maxRecDepth 100000 in
set_option maxHeartbeats 4000000 in
theorem law_FnExactTraceOf (vw0 vm0 vi0 : Int) (L0 : List InsR) (s0 : Value) (L1 : List Int) (s1 : Value) (a2 : Int) (w : World) (hs0 : Cs.Shows w 0 4 s0 L0.length (InsR.all L0)) (hok0 : (-9223372036854775808 ≤ vw0 ∧ vw0 ≤ 9223372036854775807) ∧ (-9223372036854775808 ≤ vm0 ∧ vm0 ≤ 9223372036854775807) ∧ (-9223372036854775808 ≤ vi0 ∧ vi0 ≤ 9223372036854775807) ∧ (∀ r ∈ L0, r.Ok) ∧ L0.length ≤ maxLen) (hs1 : Cs.Shows w 0 1 s1 L1.length (IntL.all L1)) (hok1 : ∀ x ∈ L1, IntL.Ok x) (_hl1 : L1.length ≤ maxLen) :
    Calls Try.prog 7 #[.agg #[.int .i64 vw0, .int .i64 vm0, .int .i64 vi0, s0], s1, .int .i64 a2] w fun e w' => e = .returned (.bool true) ∧ Below w.heap.size w w' := by
  have hml : maxLen = 9223372036854775807 := rfl
  have IS0 := Lib.hid hs0
  have OK0 := Lib.hid hok0
  obtain ⟨_, q0, cap0, rfl, _⟩ := hs0
  clear hok0
  have IS1 := Lib.hid hs1
  have OK1 := Lib.hid hok1
  obtain ⟨_, q1, cap1, rfl, _⟩ := hs1
  clear hok1 _hl1
  by_cases hlen1 : L1.length ≤ 1048576
  · have hleni1 : ¬ ((1048576 : Int) < (L1.length : Int)) := by omega
    have SZ0 := Lib.hid (fun W (h : Cs.Shows W 0 4 (.slice q0 L0.length cap0) L0.length (InsR.all L0)) => sz_Program vw0 vm0 vi0 L0 _ 1048576 W (by omega) h OK0.out.2.2.2.1 OK0.out.2.2.2.2)
    by_cases hc0 : InsR.costs L0 ≤ 1048576
    · obtain ⟨l0, hl0, hm0⟩ : ∃ l : Nat, left 1048576 (InsR.costs L0) = (l : Int) ∧ l + InsR.costs L0 = 1048576 := ⟨1048576 - InsR.costs L0, by unfold left; rw [if_pos hc0]; omega, by omega⟩
      rw [hl0] at SZ0
      have hq0 : l0 ≤ 1048576 := by omega
      clear hl0 hm0
      have hnl0 := InsR.len_le L0
      have hlc0 : L0.length ≤ 1048576 := by omega
      have hcc0 : InsR.costs L0 ≤ 1048576 := by omega
      clear hnl0
      have hll1 : L1.length ≤ maxLen := by omega
      obtain ⟨x, hx⟩ : ∃ x, rtV vw0 vm0 vi0 L0 L1 a2 = x := ⟨_, rfl⟩
      have KS := Lib.hid (fun s s' W h h' => s_tracep vw0 vm0 vi0 L0 L1 a2 s s' W h h' OK0.out.2.2.2.1 OK0.out.2.2.2.2 hll1)
      have KI := Lib.hid (fun s s' W h h' => i_traceof vw0 vm0 vi0 L0 L1 a2 s s' W h h' OK0.out.2.2.2.1 OK0.out.2.2.2.2 hll1)
      have hxc : x.length ≤ 400 := by rw [← hx]; exact rt_len _ _ _ _ _ _
      unfold NxOwn at KS KI
      rw [hx] at KS KI
      clear hx
      clear hc0
      go_enter Try.func7, Try.ntmps7
      have C0 := Lib.hid (Below.refl w.heap.size w)
      obtain ⟨v1, hW⟩ : ∃ W, W = w.alloc (.cells #[.int .i64 vw0, .int .i64 vm0, .int .i64 vi0, .slice q0 L0.length cap0] 24) := ⟨_, rfl⟩
      have hb : Below w.heap.size w v1 := by rw [hW]; exact (Below.refl _ _).alloc (Nat.le_refl _) _
      have A0 : Hid (v1.heap[w.heap.size]? = some (.cells #[.int .i64 vw0, .int .i64 vm0, .int .i64 vi0, .slice q0 L0.length cap0] 24 (0, 0))) := Lib.hid (by rw [hW]; exact heap_alloc_new _ _)
      have BA0 := Lib.hid (show w.heap.size < v1.heap.size from (Array.getElem?_eq_some_iff.1 A0.out).1)
      have HW := Lib.hid hW
      clear hW
      have Z0 := Lib.hid hb.size
      replace C0 := Lib.hid (C0.out.trans (hb.mono C0.out.size))
      clear hb
      go_wp2_with fail
      rw [← HW.out]
      clear HW
      refine (SZ0.out _ (IS0.out.below C0.out)).mono ?_
      rintro e v2 ⟨rfl, hb⟩
      have Z2 := Lib.hid hb.size
      replace C0 := Lib.hid (C0.out.trans (hb.mono C0.out.size))
      replace A0 := Lib.hid ((hb.block _ (Array.getElem?_eq_some_iff.1 A0.out).1).trans A0.out)
      clear hb
      obtain ⟨z0_0, z0_1, z0_2, z0_3⟩ := cell4_row A0.out
      go_wp2_with fail
      clear z0_0 z0_1 z0_2 z0_3
      refine (to_Program vw0 vm0 vi0 L0 _ _ (IS0.out.below C0.out) (by omega)).mono ?_
      rintro e v3 ⟨gp0, rfl, hh, hb⟩
      have Hp0 := Lib.hid hh
      clear hh
      have Z3 := Lib.hid hb.size
      replace C0 := Lib.hid (C0.out.trans (hb.mono C0.out.size))
      replace A0 := Lib.hid ((hb.block _ (Array.getElem?_eq_some_iff.1 A0.out).1).trans A0.out)
      clear hb
      have IHp0 := Lib.hid (fun g (hg : g ∈ (Value.slice (some ⟨gp0, 0, none⟩) L0.length L0.length).ownBlock.toList) => (own_lt Hp0.out hg))
      go_wp2_with fail
      refine (to_Int L1 _ _ (IS1.out.below C0.out) (by omega)).mono ?_
      rintro e v4 ⟨gp1, rfl, hh, hb⟩
      have Hp1 := Lib.hid hh
      clear hh
      have Z4 := Lib.hid hb.size
      replace C0 := Lib.hid (C0.out.trans (hb.mono C0.out.size))
      replace A0 := Lib.hid ((hb.block _ (Array.getElem?_eq_some_iff.1 A0.out).1).trans A0.out)
      replace Hp0 := Lib.hid (own_keep Hp0.out hb)
      clear hb
      have IHp1 := Lib.hid (fun g (hg : g ∈ (Value.slice (some ⟨gp1, 0, none⟩) L1.length L1.length).ownBlock.toList) => (own_lt Hp1.out hg))
      go_wp2_with fail
      refine (KS.out _ _ _ ((Cs.shows_of_owns Hp0.out).down (Nat.zero_le _)) ((Cs.shows_of_owns Hp1.out).down (Nat.zero_le _))).mono ?_
      rintro e v5 ⟨hb, s0q, s0c, rfl, hh⟩
      have Os0 := Lib.hid hh
      clear hh
      have Z5 := Lib.hid hb.size
      replace C0 := Lib.hid (C0.out.trans (hb.mono C0.out.size))
      replace A0 := Lib.hid ((hb.block _ (Array.getElem?_eq_some_iff.1 A0.out).1).trans A0.out)
      replace Hp0 := Lib.hid (own_keep Hp0.out hb)
      replace Hp1 := Lib.hid (own_keep Hp1.out hb)
      clear hb
      clear Hp0
      clear Hp1
      have IOs0 := Lib.hid (fun g (hg : g ∈ (Value.slice s0q x.length s0c).ownBlock.toList) => (own_lt Os0.out hg))
      obtain ⟨z0_0, z0_1, z0_2, z0_3⟩ := cell4_row A0.out
      go_wp2_with fail
      clear z0_0 z0_1 z0_2 z0_3
      refine (to_Program vw0 vm0 vi0 L0 _ _ (IS0.out.below C0.out) (by omega)).mono ?_
      rintro e v6 ⟨gx0, rfl, hh, hb⟩
      have Hx0 := Lib.hid hh
      clear hh
      have Z6 := Lib.hid hb.size
      replace C0 := Lib.hid (C0.out.trans (hb.mono C0.out.size))
      replace A0 := Lib.hid ((hb.block _ (Array.getElem?_eq_some_iff.1 A0.out).1).trans A0.out)
      replace Os0 := Lib.hid (own_keep Os0.out hb)
      clear hb
      have IHx0 := Lib.hid (fun g (hg : g ∈ (Value.slice (some ⟨gx0, 0, none⟩) L0.length L0.length).ownBlock.toList) => (own_lt Hx0.out hg))
      obtain ⟨v7, hW⟩ : ∃ W, W = v6.alloc (.cells #[.int .i64 vw0, .int .i64 vm0, .int .i64 vi0, .slice (some ⟨gx0, 0, none⟩) L0.length L0.length] 30) := ⟨_, rfl⟩
      have hb : Below v6.heap.size v6 v7 := by rw [hW]; exact (Below.refl _ _).alloc (Nat.le_refl _) _
      have X0 : Hid (v7.heap[v6.heap.size]? = some (.cells #[.int .i64 vw0, .int .i64 vm0, .int .i64 vi0, .slice (some ⟨gx0, 0, none⟩) L0.length L0.length] 30 (0, 0))) := Lib.hid (by rw [hW]; exact heap_alloc_new _ _)
      have BX0 := Lib.hid (show v6.heap.size < v7.heap.size from (Array.getElem?_eq_some_iff.1 X0.out).1)
      have HW := Lib.hid hW
      clear hW
      have Z7 := Lib.hid hb.size
      replace C0 := Lib.hid (C0.out.trans (hb.mono C0.out.size))
      replace A0 := Lib.hid ((hb.block _ (Array.getElem?_eq_some_iff.1 A0.out).1).trans A0.out)
      replace Os0 := Lib.hid (own_keep Os0.out hb)
      replace Hx0 := Lib.hid (own_keep Hx0.out hb)
      clear hb
      go_wp2_with fail
      rw [← HW.out]
      clear HW
      refine (to_Int L1 _ _ (IS1.out.below C0.out) (by omega)).mono ?_
      rintro e v8 ⟨gx1, rfl, hh, hb⟩
      have Hx1 := Lib.hid hh
      clear hh
      have Z9 := Lib.hid hb.size
      replace C0 := Lib.hid (C0.out.trans (hb.mono C0.out.size))
      replace A0 := Lib.hid ((hb.block _ (Array.getElem?_eq_some_iff.1 A0.out).1).trans A0.out)
      replace Os0 := Lib.hid (own_keep Os0.out hb)
      replace Hx0 := Lib.hid (own_keep Hx0.out hb)
      replace X0 := Lib.hid ((hb.block _ (Array.getElem?_eq_some_iff.1 X0.out).1).trans X0.out)
      clear hb
      have IHx1 := Lib.hid (fun g (hg : g ∈ (Value.slice (some ⟨gx1, 0, none⟩) L1.length L1.length).ownBlock.toList) => (own_lt Hx1.out hg))
      obtain ⟨z0_0, z0_1, z0_2, z0_3⟩ := cell4_row X0.out
      go_wp2_with fail
      clear z0_0 z0_1 z0_2 z0_3
      refine (KI.out _ _ _ ((Cs.shows_of_owns Hx0.out).down (Nat.zero_le _)) ((Cs.shows_of_owns Hx1.out).down (Nat.zero_le _))).mono ?_
      rintro e v9 ⟨hb, i0q, i0c, rfl, hh⟩
      have Oi0 := Lib.hid hh
      clear hh
      have Z10 := Lib.hid hb.size
      replace C0 := Lib.hid (C0.out.trans (hb.mono C0.out.size))
      replace A0 := Lib.hid ((hb.block _ (Array.getElem?_eq_some_iff.1 A0.out).1).trans A0.out)
      replace Os0 := Lib.hid (own_keep Os0.out hb)
      replace Hx0 := Lib.hid (own_keep Hx0.out hb)
      replace X0 := Lib.hid ((hb.block _ (Array.getElem?_eq_some_iff.1 X0.out).1).trans X0.out)
      replace Hx1 := Lib.hid (own_keep Hx1.out hb)
      clear hb
      have IOi0 := Lib.hid (fun g (hg : g ∈ (Value.slice i0q x.length i0c).ownBlock.toList) => (own_lt Oi0.out hg))
      go_wp2_with fail
      refine (eq_Int x _ _ _ ((Cs.shows_of_owns Oi0.out).down (Nat.zero_le _)) ((Cs.shows_of_owns Os0.out).down (Nat.zero_le _)) (by omega)).mono ?_
      rintro e v10 ⟨rfl, hb⟩
      have Z11 := Lib.hid hb.size
      replace C0 := Lib.hid (C0.out.trans (hb.mono C0.out.size))
      replace A0 := Lib.hid ((hb.block _ (Array.getElem?_eq_some_iff.1 A0.out).1).trans A0.out)
      replace Os0 := Lib.hid (own_keep Os0.out hb)
      replace Hx0 := Lib.hid (own_keep Hx0.out hb)
      replace X0 := Lib.hid ((hb.block _ (Array.getElem?_eq_some_iff.1 X0.out).1).trans X0.out)
      replace Hx1 := Lib.hid (own_keep Hx1.out hb)
      replace Oi0 := Lib.hid (own_keep Oi0.out hb)
      clear hb
      obtain ⟨z0_0, z0_1, z0_2, z0_3⟩ := cell4_row A0.out
      obtain ⟨z1_0, z1_1, z1_2, z1_3⟩ := cell4_row X0.out
      go_wp2
      go_region_with (first | (go_at_call 10; replace C0 := Lib.hid C0.out.drew; replace A0 := Lib.hid (drew_block A0.out); replace Os0 := Lib.hid Os0.out.drew; replace Hx0 := Lib.hid Hx0.out.drew; replace X0 := Lib.hid (drew_block X0.out); replace Hx1 := Lib.hid Hx1.out.drew; replace Oi0 := Lib.hid Oi0.out.drew; refine (to_Program vw0 vm0 vi0 L0 _ _ (IS0.out.below C0.out) (by omega)).mono ?_; rintro e v11 ⟨ge, rfl, hh, hb⟩; replace C0 := Lib.hid (C0.out.trans (hb.mono C0.out.size)); replace A0 := Lib.hid ((hb.block _ (Array.getElem?_eq_some_iff.1 A0.out).1).trans A0.out); replace Os0 := Lib.hid (own_keep Os0.out hb); replace Hx0 := Lib.hid (own_keep Hx0.out hb); replace X0 := Lib.hid ((hb.block _ (Array.getElem?_eq_some_iff.1 X0.out).1).trans X0.out); replace Hx1 := Lib.hid (own_keep Hx1.out hb); replace Oi0 := Lib.hid (own_keep Oi0.out hb); have HR := Lib.hid ((Cs.shows_of_owns hh).down (Nat.zero_le _)); obtain ⟨z1_0, z1_1, z1_2, z1_3⟩ := cell4_row X0.out; clear hh hb) | (go_at_call 13; refine (eq_Program vw0 vm0 vi0 L0 _ _ _ ((Cs.shows_of_owns Hx0.out).down (Nat.zero_le _)) HR.out (by omega)).mono ?_; rintro e v12 ⟨rfl, hb⟩; replace C0 := Lib.hid (C0.out.trans (hb.mono C0.out.size)); replace A0 := Lib.hid ((hb.block _ (Array.getElem?_eq_some_iff.1 A0.out).1).trans A0.out); replace Os0 := Lib.hid (own_keep Os0.out hb); replace Hx0 := Lib.hid (own_keep Hx0.out hb); replace X0 := Lib.hid ((hb.block _ (Array.getElem?_eq_some_iff.1 X0.out).1).trans X0.out); replace Hx1 := Lib.hid (own_keep Hx1.out hb); replace Oi0 := Lib.hid (own_keep Oi0.out hb); clear hb HR))
      all_goals
        clear z0_0 z0_1 z0_2 z0_3 z1_0 z1_1 z1_2 z1_3
        go_wp2_with fail
        refine (to_Int L1 _ _ (IS1.out.below C0.out) (by omega)).mono ?_
        rintro e v13 ⟨ge1, rfl, hh, hb⟩
        have He1 := Lib.hid hh
        clear hh
        have Z12 := Lib.hid hb.size
        replace C0 := Lib.hid (C0.out.trans (hb.mono C0.out.size))
        replace A0 := Lib.hid ((hb.block _ (Array.getElem?_eq_some_iff.1 A0.out).1).trans A0.out)
        replace Os0 := Lib.hid (own_keep Os0.out hb)
        replace Hx0 := Lib.hid (own_keep Hx0.out hb)
        replace X0 := Lib.hid ((hb.block _ (Array.getElem?_eq_some_iff.1 X0.out).1).trans X0.out)
        replace Hx1 := Lib.hid (own_keep Hx1.out hb)
        replace Oi0 := Lib.hid (own_keep Oi0.out hb)
        clear hb
        have IHe1 := Lib.hid (fun g (hg : g ∈ (Value.slice (some ⟨ge1, 0, none⟩) L1.length L1.length).ownBlock.toList) => (own_lt He1.out hg))
        go_wp2_with fail
        refine (eq_Int L1 _ _ _ ((Cs.shows_of_owns Hx1.out).down (Nat.zero_le _)) ((Cs.shows_of_owns He1.out).down (Nat.zero_le _)) (by omega)).mono ?_
        rintro e v14 ⟨rfl, hb⟩
        have Z13 := Lib.hid hb.size
        replace C0 := Lib.hid (C0.out.trans (hb.mono C0.out.size))
        replace A0 := Lib.hid ((hb.block _ (Array.getElem?_eq_some_iff.1 A0.out).1).trans A0.out)
        replace Os0 := Lib.hid (own_keep Os0.out hb)
        replace Hx0 := Lib.hid (own_keep Hx0.out hb)
        replace X0 := Lib.hid ((hb.block _ (Array.getElem?_eq_some_iff.1 X0.out).1).trans X0.out)
        replace Hx1 := Lib.hid (own_keep Hx1.out hb)
        replace Oi0 := Lib.hid (own_keep Oi0.out hb)
        replace He1 := Lib.hid (own_keep He1.out hb)
        clear hb
        clear He1
        obtain ⟨z0_0, z0_1, z0_2, z0_3⟩ := cell4_row X0.out
        go_wp2_with fail
        clear z0_0 z0_1 z0_2 z0_3
        refine (mark_Program vw0 vm0 vi0 L0 _ _ 1 _ _ Hx0.out (by omega) (by omega)).mono ?_
        rintro e v15 ⟨rfl, hh, hap⟩
        skip
        clear hh
        replace C0 := Lib.hid (C0.out.trans (hap.below C0.out.size (fun g hg => by have x1 := IHx0.out _ hg; have y0 := Z0.out; have y1 := BA0.out; have y2 := Z2.out; have y3 := Z3.out; have y4 := Z4.out; have y5 := Z5.out; have y6 := Z6.out; have y7 := Z7.out; have y8 := BX0.out; have y9 := Z9.out; have y10 := Z10.out; have y11 := Z11.out; have y12 := Z12.out; have y13 := Z13.out; omega)))
        replace A0 := Lib.hid ((hap.block _ (Array.getElem?_eq_some_iff.1 A0.out).1 (fun hm => by have x1 := IHx0.out _ hm; have y0 := Z0.out; have y1 := BA0.out; have y2 := Z2.out; have y3 := Z3.out; have y4 := Z4.out; have y5 := Z5.out; have y6 := Z6.out; have y7 := Z7.out; have y8 := BX0.out; have y9 := Z9.out; have y10 := Z10.out; have y11 := Z11.out; have y12 := Z12.out; have y13 := Z13.out; omega)).trans A0.out)
        replace Os0 := Lib.hid (own_same Os0.out (fun g hg => hap.block g (own_lt Os0.out hg).2 (fun hm => by have x1 := IHx0.out _ hm; have y0 := Z0.out; have y1 := BA0.out; have y2 := Z2.out; have y3 := Z3.out; have y4 := Z4.out; have y5 := Z5.out; have y6 := Z6.out; have y7 := Z7.out; have y8 := BX0.out; have y9 := Z9.out; have y10 := Z10.out; have y11 := Z11.out; have y12 := Z12.out; have y13 := Z13.out; have x2 := IOs0.out _ hg; omega)))
        replace X0 := Lib.hid ((hap.block _ (Array.getElem?_eq_some_iff.1 X0.out).1 (fun hm => by have x1 := IHx0.out _ hm; have y0 := Z0.out; have y1 := BA0.out; have y2 := Z2.out; have y3 := Z3.out; have y4 := Z4.out; have y5 := Z5.out; have y6 := Z6.out; have y7 := Z7.out; have y8 := BX0.out; have y9 := Z9.out; have y10 := Z10.out; have y11 := Z11.out; have y12 := Z12.out; have y13 := Z13.out; omega)).trans X0.out)
        replace Hx1 := Lib.hid (own_same Hx1.out (fun g hg => hap.block g (own_lt Hx1.out hg).2 (fun hm => by have x1 := IHx0.out _ hm; have y0 := Z0.out; have y1 := BA0.out; have y2 := Z2.out; have y3 := Z3.out; have y4 := Z4.out; have y5 := Z5.out; have y6 := Z6.out; have y7 := Z7.out; have y8 := BX0.out; have y9 := Z9.out; have y10 := Z10.out; have y11 := Z11.out; have y12 := Z12.out; have y13 := Z13.out; have x2 := IHx1.out _ hg; omega)))
        replace Oi0 := Lib.hid (own_same Oi0.out (fun g hg => hap.block g (own_lt Oi0.out hg).2 (fun hm => by have x1 := IHx0.out _ hm; have y0 := Z0.out; have y1 := BA0.out; have y2 := Z2.out; have y3 := Z3.out; have y4 := Z4.out; have y5 := Z5.out; have y6 := Z6.out; have y7 := Z7.out; have y8 := BX0.out; have y9 := Z9.out; have y10 := Z10.out; have y11 := Z11.out; have y12 := Z12.out; have y13 := Z13.out; have x2 := IOi0.out _ hg; omega)))
        clear hap
        clear Hx0
        clear X0
        go_wp2_with fail
        refine (mark_Int L1 _ (1 + 4 * L0.length) _ _ Hx1.out (by omega) (by omega)).mono ?_
        rintro e v16 ⟨rfl, hh, hap⟩
        skip
        clear hh
        replace C0 := Lib.hid (C0.out.trans (hap.below C0.out.size (fun g hg => by have x1 := IHx1.out _ hg; have y0 := Z0.out; have y1 := BA0.out; have y2 := Z2.out; have y3 := Z3.out; have y4 := Z4.out; have y5 := Z5.out; have y6 := Z6.out; have y7 := Z7.out; have y8 := BX0.out; have y9 := Z9.out; have y10 := Z10.out; have y11 := Z11.out; have y12 := Z12.out; have y13 := Z13.out; omega)))
        replace A0 := Lib.hid ((hap.block _ (Array.getElem?_eq_some_iff.1 A0.out).1 (fun hm => by have x1 := IHx1.out _ hm; have y0 := Z0.out; have y1 := BA0.out; have y2 := Z2.out; have y3 := Z3.out; have y4 := Z4.out; have y5 := Z5.out; have y6 := Z6.out; have y7 := Z7.out; have y8 := BX0.out; have y9 := Z9.out; have y10 := Z10.out; have y11 := Z11.out; have y12 := Z12.out; have y13 := Z13.out; omega)).trans A0.out)
        replace Os0 := Lib.hid (own_same Os0.out (fun g hg => hap.block g (own_lt Os0.out hg).2 (fun hm => by have x1 := IHx1.out _ hm; have y0 := Z0.out; have y1 := BA0.out; have y2 := Z2.out; have y3 := Z3.out; have y4 := Z4.out; have y5 := Z5.out; have y6 := Z6.out; have y7 := Z7.out; have y8 := BX0.out; have y9 := Z9.out; have y10 := Z10.out; have y11 := Z11.out; have y12 := Z12.out; have y13 := Z13.out; have x2 := IOs0.out _ hg; omega)))
        replace Oi0 := Lib.hid (own_same Oi0.out (fun g hg => hap.block g (own_lt Oi0.out hg).2 (fun hm => by have x1 := IHx1.out _ hm; have y0 := Z0.out; have y1 := BA0.out; have y2 := Z2.out; have y3 := Z3.out; have y4 := Z4.out; have y5 := Z5.out; have y6 := Z6.out; have y7 := Z7.out; have y8 := BX0.out; have y9 := Z9.out; have y10 := Z10.out; have y11 := Z11.out; have y12 := Z12.out; have y13 := Z13.out; have x2 := IOi0.out _ hg; omega)))
        clear hap
        clear Hx1
        go_wp2_with fail
        refine (eq_Int x _ _ _ ((Cs.shows_of_owns Oi0.out).down (Nat.zero_le _)) ((Cs.shows_of_owns Os0.out).down (Nat.zero_le _)) (by omega)).mono ?_
        rintro e v17 ⟨rfl, hb⟩
        have Z14 := Lib.hid hb.size
        replace C0 := Lib.hid (C0.out.trans (hb.mono C0.out.size))
        replace A0 := Lib.hid ((hb.block _ (Array.getElem?_eq_some_iff.1 A0.out).1).trans A0.out)
        replace Os0 := Lib.hid (own_keep Os0.out hb)
        replace Oi0 := Lib.hid (own_keep Oi0.out hb)
        clear hb
        go_wp2_with fail
        refine (mark_Int x _ 1 _ _ Oi0.out (by omega) (by omega)).mono ?_
        rintro e v18 ⟨rfl, hh, hap⟩
        have M0 := Lib.hid hh
        clear hh
        replace C0 := Lib.hid (C0.out.trans (hap.below C0.out.size (fun g hg => by have x1 := IOi0.out _ hg; have y0 := Z0.out; have y1 := BA0.out; have y2 := Z2.out; have y3 := Z3.out; have y4 := Z4.out; have y5 := Z5.out; have y6 := Z6.out; have y7 := Z7.out; have y8 := BX0.out; have y9 := Z9.out; have y10 := Z10.out; have y11 := Z11.out; have y12 := Z12.out; have y13 := Z13.out; have y14 := Z14.out; omega)))
        replace A0 := Lib.hid ((hap.block _ (Array.getElem?_eq_some_iff.1 A0.out).1 (fun hm => by have x1 := IOi0.out _ hm; have y0 := Z0.out; have y1 := BA0.out; have y2 := Z2.out; have y3 := Z3.out; have y4 := Z4.out; have y5 := Z5.out; have y6 := Z6.out; have y7 := Z7.out; have y8 := BX0.out; have y9 := Z9.out; have y10 := Z10.out; have y11 := Z11.out; have y12 := Z12.out; have y13 := Z13.out; have y14 := Z14.out; omega)).trans A0.out)
        replace Os0 := Lib.hid (own_same Os0.out (fun g hg => hap.block g (own_lt Os0.out hg).2 (fun hm => by have x1 := IOi0.out _ hm; have y0 := Z0.out; have y1 := BA0.out; have y2 := Z2.out; have y3 := Z3.out; have y4 := Z4.out; have y5 := Z5.out; have y6 := Z6.out; have y7 := Z7.out; have y8 := BX0.out; have y9 := Z9.out; have y10 := Z10.out; have y11 := Z11.out; have y12 := Z12.out; have y13 := Z13.out; have y14 := Z14.out; have x2 := IOs0.out _ hg; omega)))
        clear hap
        clear Oi0
        have IM0 := IOi0
        go_wp2_with fail
        refine (held_Int x _ 1 _ ((Cs.shows_of_owns M0.out).down (Nat.zero_le _)) (by omega) (by omega)).mono ?_
        rintro e v19 ⟨rfl, hb⟩
        have Z15 := Lib.hid hb.size
        replace C0 := Lib.hid (C0.out.trans (hb.mono C0.out.size))
        replace A0 := Lib.hid ((hb.block _ (Array.getElem?_eq_some_iff.1 A0.out).1).trans A0.out)
        replace Os0 := Lib.hid (own_keep Os0.out hb)
        replace M0 := Lib.hid (own_keep M0.out hb)
        clear hb
        obtain ⟨z0_0, z0_1, z0_2, z0_3⟩ := cell4_row A0.out
        go_wp2_with fail
        clear z0_0 z0_1 z0_2 z0_3
        refine (to_Program vw0 vm0 vi0 L0 _ _ (IS0.out.below C0.out) (by omega)).mono ?_
        rintro e v20 ⟨gh0, rfl, hh, hb⟩
        have Hh0 := Lib.hid hh
        clear hh
        have Z16 := Lib.hid hb.size
        replace C0 := Lib.hid (C0.out.trans (hb.mono C0.out.size))
        replace A0 := Lib.hid ((hb.block _ (Array.getElem?_eq_some_iff.1 A0.out).1).trans A0.out)
        replace Os0 := Lib.hid (own_keep Os0.out hb)
        replace M0 := Lib.hid (own_keep M0.out hb)
        clear hb
        have IHh0 := Lib.hid (fun g (hg : g ∈ (Value.slice (some ⟨gh0, 0, none⟩) L0.length L0.length).ownBlock.toList) => (own_lt Hh0.out hg))
        go_wp2_with fail
        refine (to_Int L1 _ _ (IS1.out.below C0.out) (by omega)).mono ?_
        rintro e v21 ⟨gh1, rfl, hh, hb⟩
        have Hh1 := Lib.hid hh
        clear hh
        have Z17 := Lib.hid hb.size
        replace C0 := Lib.hid (C0.out.trans (hb.mono C0.out.size))
        replace A0 := Lib.hid ((hb.block _ (Array.getElem?_eq_some_iff.1 A0.out).1).trans A0.out)
        replace Os0 := Lib.hid (own_keep Os0.out hb)
        replace M0 := Lib.hid (own_keep M0.out hb)
        replace Hh0 := Lib.hid (own_keep Hh0.out hb)
        clear hb
        have IHh1 := Lib.hid (fun g (hg : g ∈ (Value.slice (some ⟨gh1, 0, none⟩) L1.length L1.length).ownBlock.toList) => (own_lt Hh1.out hg))
        go_wp2_with fail
        refine (KI.out _ _ _ ((Cs.shows_of_owns Hh0.out).down (Nat.zero_le _)) ((Cs.shows_of_owns Hh1.out).down (Nat.zero_le _))).mono ?_
        rintro e v22 ⟨hb, j0q, j0c, rfl, hh⟩
        have Oj0 := Lib.hid hh
        clear hh
        have Z18 := Lib.hid hb.size
        replace C0 := Lib.hid (C0.out.trans (hb.mono C0.out.size))
        replace A0 := Lib.hid ((hb.block _ (Array.getElem?_eq_some_iff.1 A0.out).1).trans A0.out)
        replace Os0 := Lib.hid (own_keep Os0.out hb)
        replace M0 := Lib.hid (own_keep M0.out hb)
        replace Hh0 := Lib.hid (own_keep Hh0.out hb)
        replace Hh1 := Lib.hid (own_keep Hh1.out hb)
        clear hb
        have IOj0 := Lib.hid (fun g (hg : g ∈ (Value.slice j0q x.length j0c).ownBlock.toList) => (own_lt Oj0.out hg))
        clear Hh0
        clear Hh1
        go_wp2_with fail
        refine (eq_Int x _ _ _ ((Cs.shows_of_owns Oj0.out).down (Nat.zero_le _)) ((Cs.shows_of_owns Os0.out).down (Nat.zero_le _)) (by omega)).mono ?_
        rintro e v23 ⟨rfl, hb⟩
        have Z19 := Lib.hid hb.size
        replace C0 := Lib.hid (C0.out.trans (hb.mono C0.out.size))
        replace A0 := Lib.hid ((hb.block _ (Array.getElem?_eq_some_iff.1 A0.out).1).trans A0.out)
        replace Os0 := Lib.hid (own_keep Os0.out hb)
        replace M0 := Lib.hid (own_keep M0.out hb)
        replace Oj0 := Lib.hid (own_keep Oj0.out hb)
        clear hb
        go_wp2_with fail
        refine (held_Int x _ 1 _ ((Cs.shows_of_owns M0.out).down (Nat.zero_le _)) (by omega) (by omega)).mono ?_
        rintro e v24 ⟨rfl, hb⟩
        have Z20 := Lib.hid hb.size
        replace C0 := Lib.hid (C0.out.trans (hb.mono C0.out.size))
        replace A0 := Lib.hid ((hb.block _ (Array.getElem?_eq_some_iff.1 A0.out).1).trans A0.out)
        replace Os0 := Lib.hid (own_keep Os0.out hb)
        replace M0 := Lib.hid (own_keep M0.out hb)
        replace Oj0 := Lib.hid (own_keep Oj0.out hb)
        clear hb
        go_wp2
        go_ret
        exact ⟨rfl, C0.out⟩
    · have hl : left 1048576 (InsR.costs L0) = -1 := by unfold left; rw [if_neg hc0]
      rw [hl] at SZ0
      clear hl hc0
      go_enter Try.func7, Try.ntmps7
      have C0 := Lib.hid (Below.refl w.heap.size w)
      obtain ⟨v1, hW⟩ : ∃ W, W = w.alloc (.cells #[.int .i64 vw0, .int .i64 vm0, .int .i64 vi0, .slice q0 L0.length cap0] 24) := ⟨_, rfl⟩
      have hb : Below w.heap.size w v1 := by rw [hW]; exact (Below.refl _ _).alloc (Nat.le_refl _) _
      have A0 : Hid (v1.heap[w.heap.size]? = some (.cells #[.int .i64 vw0, .int .i64 vm0, .int .i64 vi0, .slice q0 L0.length cap0] 24 (0, 0))) := Lib.hid (by rw [hW]; exact heap_alloc_new _ _)
      have BA0 := Lib.hid (show w.heap.size < v1.heap.size from (Array.getElem?_eq_some_iff.1 A0.out).1)
      have HW := Lib.hid hW
      clear hW
      have Z0 := Lib.hid hb.size
      replace C0 := Lib.hid (C0.out.trans (hb.mono C0.out.size))
      clear hb
      go_wp2_with fail
      rw [← HW.out]
      clear HW
      refine (SZ0.out _ (IS0.out.below C0.out)).mono ?_
      rintro e v2 ⟨rfl, hb⟩
      have Z2 := Lib.hid hb.size
      replace C0 := Lib.hid (C0.out.trans (hb.mono C0.out.size))
      replace A0 := Lib.hid ((hb.block _ (Array.getElem?_eq_some_iff.1 A0.out).1).trans A0.out)
      clear hb
      go_wp2
      go_ret
      exact ⟨rfl, C0.out⟩
  · have hlong1 : (1048576 : Int) < (L1.length : Int) := by omega
    go_enter Try.func7, Try.ntmps7
    have C0 := Lib.hid (Below.refl w.heap.size w)
    obtain ⟨v1, hW⟩ : ∃ W, W = w.alloc (.cells #[.int .i64 vw0, .int .i64 vm0, .int .i64 vi0, .slice q0 L0.length cap0] 24) := ⟨_, rfl⟩
    have hb : Below w.heap.size w v1 := by rw [hW]; exact (Below.refl _ _).alloc (Nat.le_refl _) _
    have A0 : Hid (v1.heap[w.heap.size]? = some (.cells #[.int .i64 vw0, .int .i64 vm0, .int .i64 vi0, .slice q0 L0.length cap0] 24 (0, 0))) := Lib.hid (by rw [hW]; exact heap_alloc_new _ _)
    have BA0 := Lib.hid (show w.heap.size < v1.heap.size from (Array.getElem?_eq_some_iff.1 A0.out).1)
    have HW := Lib.hid hW
    clear hW
    have Z0 := Lib.hid hb.size
    replace C0 := Lib.hid (C0.out.trans (hb.mono C0.out.size))
    clear hb
    go_wp2
    go_ret
    exact ⟨rfl, by rw [← HW.out]; exact C0.out⟩
end Go.Proofs.Ytnhagmjknfiphaa
