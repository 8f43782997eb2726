/- The law FnExactNewSession, walked by the contracts of all that it calls. -/
import Derived.Test.YtbbalmeglgecgaaNwS
import Derived.Deep.RegionWith
namespace Go.Proofs.Ytbbalmeglgecgaa
open Go.ChangeShapes Go.WideShapes Go.ChangeAt Go.RowKit
theorem drew_block {w : World} {b : Nat} {o : Obj} (h : w.heap[b]? = some o) : w.drew.heap[b]? = some o := h
set_option maxRecDepth 100000 in
set_option maxHeartbeats 4000000 in
theorem law_FnExactNewSession  (w : World)  :
    Calls Try.prog 3 #[] w fun e w' => e = .returned (.bool true) ∧ Below w.heap.size w w' := by
  have hml : maxLen = 9223372036854775807 := rfl
  have KS := Lib.hid s_newsess
  have KI := Lib.hid i_newsess
  unfold NwEnd at KS KI
  go_enter Try.func3, Try.ntmps3
  have C0 := Lib.hid (Below.refl w.heap.size w)
  go_wp2_with fail
  refine (KS.out _).mono ?_
  rintro e v1 ⟨hb, s0g, rfl, hh⟩
  have Os0 := Lib.hid hh
  clear hh
  have Z0 := Lib.hid hb.size
  replace C0 := Lib.hid (C0.out.trans (hb.mono C0.out.size))
  clear hb
  have IOs0 := Lib.hid (fun g (hg : g ∈ (Value.slice (some ⟨s0g, 0, none⟩) nwL.length nwL.length).ownBlock.toList) => (own_lt Os0.out hg))
  obtain ⟨v2, hW⟩ : ∃ W, W = v1.alloc (.cells #[.int .i64 4, .int .i64 1, .int .i64 1, .slice (some ⟨s0g, 0, none⟩) nwL.length nwL.length, .int .i64 20, .slice none 0 0] 27) := ⟨_, rfl⟩
  have hb : Below v1.heap.size v1 v2 := by rw [hW]; exact (Below.refl _ _).alloc (Nat.le_refl _) _
  have Rs0 : Hid (v2.heap[v1.heap.size]? = some (.cells #[.int .i64 4, .int .i64 1, .int .i64 1, .slice (some ⟨s0g, 0, none⟩) nwL.length nwL.length, .int .i64 20, .slice none 0 0] 27 (0, 0))) := Lib.hid (by rw [hW]; exact heap_alloc_new _ _)
  have BRs0 := Lib.hid (show v1.heap.size < v2.heap.size from (Array.getElem?_eq_some_iff.1 Rs0.out).1)
  have HW := Lib.hid hW
  clear hW
  have Z1 := Lib.hid hb.size
  replace C0 := Lib.hid (C0.out.trans (hb.mono C0.out.size))
  replace Os0 := Lib.hid (own_keep Os0.out hb)
  clear hb
  go_wp2_with fail
  rw [← HW.out]
  clear HW
  refine (KI.out _).mono ?_
  rintro e v3 ⟨hb, i0g, rfl, hh⟩
  have Oi0 := Lib.hid hh
  clear hh
  have Z3 := Lib.hid hb.size
  replace C0 := Lib.hid (C0.out.trans (hb.mono C0.out.size))
  replace Os0 := Lib.hid (own_keep Os0.out hb)
  replace Rs0 := Lib.hid ((hb.block _ (Array.getElem?_eq_some_iff.1 Rs0.out).1).trans Rs0.out)
  clear hb
  have IOi0 := Lib.hid (fun g (hg : g ∈ (Value.slice (some ⟨i0g, 0, none⟩) nwL.length nwL.length).ownBlock.toList) => (own_lt Oi0.out hg))
  obtain ⟨z0_0, z0_1, z0_2, z0_3, z0_4, z0_5⟩ := cell6_row Rs0.out
  have hyl0 := World.block_lt_of_cell? _ _ z0_0
  obtain ⟨v4, hW⟩ : ∃ W, W = v3.alloc (.cells #[.int .i64 4, .int .i64 1, .int .i64 1, .slice (some ⟨i0g, 0, none⟩) nwL.length nwL.length, .int .i64 20, .slice none 0 0] 27) := ⟨_, rfl⟩
  have hb : Below v3.heap.size v3 v4 := by rw [hW]; exact (Below.refl _ _).alloc (Nat.le_refl _) _
  have Ri0 : Hid (v4.heap[v3.heap.size]? = some (.cells #[.int .i64 4, .int .i64 1, .int .i64 1, .slice (some ⟨i0g, 0, none⟩) nwL.length nwL.length, .int .i64 20, .slice none 0 0] 27 (0, 0))) := Lib.hid (by rw [hW]; exact heap_alloc_new _ _)
  have BRi0 := Lib.hid (show v3.heap.size < v4.heap.size from (Array.getElem?_eq_some_iff.1 Ri0.out).1)
  have HW := Lib.hid hW
  clear hW
  have Z4 := Lib.hid hb.size
  replace C0 := Lib.hid (C0.out.trans (hb.mono C0.out.size))
  replace Os0 := Lib.hid (own_keep Os0.out hb)
  replace Rs0 := Lib.hid ((hb.block _ (Array.getElem?_eq_some_iff.1 Rs0.out).1).trans Rs0.out)
  replace Oi0 := Lib.hid (own_keep Oi0.out hb)
  clear hb
  go_wp2_with fail
  rw [← HW.out]
  clear HW z0_0 z0_1 z0_2 z0_3 z0_4 z0_5 hyl0
  refine (eq_SessNw _ _ _ ((Cs.shows_of_owns Oi0.out).down (Nat.zero_le _)) ((Cs.shows_of_owns Os0.out).down (Nat.zero_le _))).mono ?_
  rintro e v5 ⟨rfl, hb⟩
  have Z6 := Lib.hid hb.size
  replace C0 := Lib.hid (C0.out.trans (hb.mono C0.out.size))
  replace Os0 := Lib.hid (own_keep Os0.out hb)
  replace Rs0 := Lib.hid ((hb.block _ (Array.getElem?_eq_some_iff.1 Rs0.out).1).trans Rs0.out)
  replace Oi0 := Lib.hid (own_keep Oi0.out hb)
  replace Ri0 := Lib.hid ((hb.block _ (Array.getElem?_eq_some_iff.1 Ri0.out).1).trans Ri0.out)
  clear hb
  obtain ⟨z0_0, z0_1, z0_2, z0_3, z0_4, z0_5⟩ := cell6_row Ri0.out
  go_wp2_with fail
  clear z0_0 z0_1 z0_2 z0_3 z0_4 z0_5
  refine (mark_Session 4 1 1 20 nwL _ _ 1 _ _ Oi0.out (by omega) (by decide)).mono ?_
  rintro e v6 ⟨rfl, hh, hap⟩
  have M0 := Lib.hid hh
  clear hh
  replace C0 := Lib.hid (C0.out.trans (hap.below C0.out.size (fun g hg => by have x1 := IOi0.out _ hg; have y0 := Z0.out; have y1 := Z1.out; have y2 := BRs0.out; have y3 := Z3.out; have y4 := Z4.out; have y5 := BRi0.out; have y6 := Z6.out; omega)))
  replace Os0 := Lib.hid (own_same Os0.out (fun g hg => hap.block g (own_lt Os0.out hg).2 (fun hm => by have x1 := IOi0.out _ hm; have y0 := Z0.out; have y1 := Z1.out; have y2 := BRs0.out; have y3 := Z3.out; have y4 := Z4.out; have y5 := BRi0.out; have y6 := Z6.out; have x2 := IOs0.out _ hg; omega)))
  replace Rs0 := Lib.hid ((hap.block _ (Array.getElem?_eq_some_iff.1 Rs0.out).1 (fun hm => by have x1 := IOi0.out _ hm; have y0 := Z0.out; have y1 := Z1.out; have y2 := BRs0.out; have y3 := Z3.out; have y4 := Z4.out; have y5 := BRi0.out; have y6 := Z6.out; omega)).trans Rs0.out)
  replace Ri0 := Lib.hid ((hap.block _ (Array.getElem?_eq_some_iff.1 Ri0.out).1 (fun hm => by have x1 := IOi0.out _ hm; have y0 := Z0.out; have y1 := Z1.out; have y2 := BRs0.out; have y3 := Z3.out; have y4 := Z4.out; have y5 := BRi0.out; have y6 := Z6.out; omega)).trans Ri0.out)
  clear hap
  clear Oi0
  have IM0 := IOi0
  obtain ⟨z0_0, z0_1, z0_2, z0_3, z0_4, z0_5⟩ := cell6_row Ri0.out
  go_wp2_with fail
  clear z0_0 z0_1 z0_2 z0_3 z0_4 z0_5
  refine (held_Session 4 1 1 20 nwL _ _ 1 _ ((Cs.shows_of_owns M0.out).down (Nat.zero_le _)) (by omega) (by decide)).mono ?_
  rintro e v7 ⟨rfl, hb⟩
  have Z7 := Lib.hid hb.size
  replace C0 := Lib.hid (C0.out.trans (hb.mono C0.out.size))
  replace Os0 := Lib.hid (own_keep Os0.out hb)
  replace Rs0 := Lib.hid ((hb.block _ (Array.getElem?_eq_some_iff.1 Rs0.out).1).trans Rs0.out)
  replace Ri0 := Lib.hid ((hb.block _ (Array.getElem?_eq_some_iff.1 Ri0.out).1).trans Ri0.out)
  replace M0 := Lib.hid (own_keep M0.out hb)
  clear hb
  go_wp2_with fail
  refine (KI.out _).mono ?_
  rintro e v8 ⟨hb, j0g, rfl, hh⟩
  have Oj0 := Lib.hid hh
  clear hh
  have Z8 := Lib.hid hb.size
  replace C0 := Lib.hid (C0.out.trans (hb.mono C0.out.size))
  replace Os0 := Lib.hid (own_keep Os0.out hb)
  replace Rs0 := Lib.hid ((hb.block _ (Array.getElem?_eq_some_iff.1 Rs0.out).1).trans Rs0.out)
  replace Ri0 := Lib.hid ((hb.block _ (Array.getElem?_eq_some_iff.1 Ri0.out).1).trans Ri0.out)
  replace M0 := Lib.hid (own_keep M0.out hb)
  clear hb
  have IOj0 := Lib.hid (fun g (hg : g ∈ (Value.slice (some ⟨j0g, 0, none⟩) nwL.length nwL.length).ownBlock.toList) => (own_lt Oj0.out hg))
  obtain ⟨z0_0, z0_1, z0_2, z0_3, z0_4, z0_5⟩ := cell6_row Rs0.out
  have hyl0 := World.block_lt_of_cell? _ _ z0_0
  obtain ⟨v9, hW⟩ : ∃ W, W = v8.alloc (.cells #[.int .i64 4, .int .i64 1, .int .i64 1, .slice (some ⟨j0g, 0, none⟩) nwL.length nwL.length, .int .i64 20, .slice none 0 0] 27) := ⟨_, rfl⟩
  have hb : Below v8.heap.size v8 v9 := by rw [hW]; exact (Below.refl _ _).alloc (Nat.le_refl _) _
  have Rj0 : Hid (v9.heap[v8.heap.size]? = some (.cells #[.int .i64 4, .int .i64 1, .int .i64 1, .slice (some ⟨j0g, 0, none⟩) nwL.length nwL.length, .int .i64 20, .slice none 0 0] 27 (0, 0))) := Lib.hid (by rw [hW]; exact heap_alloc_new _ _)
  have BRj0 := Lib.hid (show v8.heap.size < v9.heap.size from (Array.getElem?_eq_some_iff.1 Rj0.out).1)
  have HW := Lib.hid hW
  clear hW
  have Z9 := Lib.hid hb.size
  replace C0 := Lib.hid (C0.out.trans (hb.mono C0.out.size))
  replace Os0 := Lib.hid (own_keep Os0.out hb)
  replace Rs0 := Lib.hid ((hb.block _ (Array.getElem?_eq_some_iff.1 Rs0.out).1).trans Rs0.out)
  replace Ri0 := Lib.hid ((hb.block _ (Array.getElem?_eq_some_iff.1 Ri0.out).1).trans Ri0.out)
  replace M0 := Lib.hid (own_keep M0.out hb)
  replace Oj0 := Lib.hid (own_keep Oj0.out hb)
  clear hb
  go_wp2_with fail
  rw [← HW.out]
  clear HW z0_0 z0_1 z0_2 z0_3 z0_4 z0_5 hyl0
  refine (eq_SessNw _ _ _ ((Cs.shows_of_owns Oj0.out).down (Nat.zero_le _)) ((Cs.shows_of_owns Os0.out).down (Nat.zero_le _))).mono ?_
  rintro e v10 ⟨rfl, hb⟩
  have Z11 := Lib.hid hb.size
  replace C0 := Lib.hid (C0.out.trans (hb.mono C0.out.size))
  replace Os0 := Lib.hid (own_keep Os0.out hb)
  replace Rs0 := Lib.hid ((hb.block _ (Array.getElem?_eq_some_iff.1 Rs0.out).1).trans Rs0.out)
  replace Ri0 := Lib.hid ((hb.block _ (Array.getElem?_eq_some_iff.1 Ri0.out).1).trans Ri0.out)
  replace M0 := Lib.hid (own_keep M0.out hb)
  replace Oj0 := Lib.hid (own_keep Oj0.out hb)
  replace Rj0 := Lib.hid ((hb.block _ (Array.getElem?_eq_some_iff.1 Rj0.out).1).trans Rj0.out)
  clear hb
  obtain ⟨z0_0, z0_1, z0_2, z0_3, z0_4, z0_5⟩ := cell6_row Ri0.out
  go_wp2_with fail
  clear z0_0 z0_1 z0_2 z0_3 z0_4 z0_5
  refine (held_Session 4 1 1 20 nwL _ _ 1 _ ((Cs.shows_of_owns M0.out).down (Nat.zero_le _)) (by omega) (by decide)).mono ?_
  rintro e v11 ⟨rfl, hb⟩
  have Z12 := Lib.hid hb.size
  replace C0 := Lib.hid (C0.out.trans (hb.mono C0.out.size))
  replace Os0 := Lib.hid (own_keep Os0.out hb)
  replace Rs0 := Lib.hid ((hb.block _ (Array.getElem?_eq_some_iff.1 Rs0.out).1).trans Rs0.out)
  replace Ri0 := Lib.hid ((hb.block _ (Array.getElem?_eq_some_iff.1 Ri0.out).1).trans Ri0.out)
  replace M0 := Lib.hid (own_keep M0.out hb)
  replace Oj0 := Lib.hid (own_keep Oj0.out hb)
  replace Rj0 := Lib.hid ((hb.block _ (Array.getElem?_eq_some_iff.1 Rj0.out).1).trans Rj0.out)
  clear hb
  go_wp2
  go_ret
  exact ⟨rfl, C0.out⟩

end Go.Proofs.Ytbbalmeglgecgaa
