/- The law FnExactIfOf, walked by the contracts of all that it calls. -/
import Derived.Test.YtimjkgciakbolabGtV
import Derived.Test.YtimjkgciakbolabMkCirc
import Derived.Deep.RegionWith
namespace Go.Proofs.Ytimjkgciakbolab
open Go.ChangeShapes Go.WideShapes Go.ChangeAt Go.RowKit
theorem drew_block {w : World} {b : Nat} {o : Obj} (h : w.heap[b]? = some o) : w.drew.heap[b]? = some o := h
set_option maxRecDepth 100000 in
set_option maxHeartbeats 4000000 in
theorem law_FnExactIfOf (vr0 : Int) (L0 : List GateR) (s0 : Value) (a0 a1 a2 : Int) (w : World) (hs0 : Cs.Shows w 0 2 s0 L0.length (GateR.all L0)) (hok0 : (-9223372036854775808 ≤ vr0 ∧ vr0 ≤ 9223372036854775807) ∧ (∀ r ∈ L0, r.Ok) ∧ L0.length ≤ maxLen) :
    Calls Try.prog 7 #[.agg #[.int .i64 vr0, s0], .int .i64 a0, .int .i64 a1, .int .i64 a2] w fun e w' => e = .returned (.bool true) ∧ Below w.heap.size w w' := by
  have hml : maxLen = 9223372036854775807 := rfl
  have IS0 := Lib.hid hs0
  have OK0 := Lib.hid hok0
  obtain ⟨_, q0, cap0, rfl, _⟩ := hs0
  clear hok0
  have SZ0 := Lib.hid (fun W (h : Cs.Shows W 0 2 (.slice q0 L0.length cap0) L0.length (GateR.all L0)) => sz_Circuit vr0 L0 _ 1048576 W (by omega) h OK0.out.2.1 OK0.out.2.2)
  by_cases hc0 : (GateR.costs L0) ≤ 1048576
  · obtain ⟨l0, hl0, hm0⟩ : ∃ l : Nat, left 1048576 (GateR.costs L0) = (l : Int) ∧ l + (GateR.costs L0) = 1048576 := ⟨1048576 - (GateR.costs L0), by unfold left; rw [if_pos hc0]; omega, by omega⟩
    rw [hl0] at SZ0
    have hq0 : l0 ≤ 1048576 := by omega
    clear hl0 hm0
    have hnl0 := GateR.len_le L0
    have hlc0 : L0.length ≤ 1048576 := by omega
    have hcc0 : GateR.costs L0 ≤ 1048576 := by omega
    clear hnl0
    have KS := Lib.hid (fun s W h => s_IfOf vr0 L0 s a0 a1 a2 W h OK0.out.1 OK0.out.2.1 OK0.out.2.2)
    have KI := Lib.hid (fun s W h => i_IfOf vr0 L0 s a0 a1 a2 W h OK0.out.1 OK0.out.2.1 OK0.out.2.2)
    have hgl := len_IfOf vr0 L0 a0 a1 a2 OK0.out.2.1
    unfold BtEnd at KS KI
    generalize btV vr0 L0 [a0, a1, a2] (ifN vr0 ⟨L0, false⟩ a0 a1 a2) = o at *
    generalize btI vr0 o = GI at *
    generalize btL o = G at *
    generalize btX o = X at *
    generalize o.isSome = BB at *
    clear hc0
    go_enter Try.func7, Try.ntmps7
    have C0 := Lib.hid (Below.refl w.heap.size w)
    obtain ⟨v1, hW⟩ : ∃ W, W = w.alloc (.cells #[.int .i64 vr0, .slice q0 L0.length cap0] 24) := ⟨_, rfl⟩
    have hb : Below w.heap.size w v1 := by rw [hW]; exact (Below.refl _ _).alloc (Nat.le_refl _) _
    have HA : Hid (v1.heap[w.heap.size]? = some (.cells #[.int .i64 vr0, .slice q0 L0.length cap0] 24 (0, 0))) := Lib.hid (by rw [hW]; exact heap_alloc_new _ _)
    have HW := Lib.hid hW
    clear hW
    replace C0 := Lib.hid (C0.out.trans (hb.mono C0.out.size))
    clear hb
    go_wp2_with fail
    rw [← HW.out]
    clear HW
    refine (SZ0.out _ (IS0.out.below C0.out)).mono ?_
    rintro e v2 ⟨rfl, hb⟩
    replace C0 := Lib.hid (C0.out.trans (hb.mono C0.out.size))
    replace HA := Lib.hid ((hb.block _ (Array.getElem?_eq_some_iff.1 HA.out).1).trans HA.out)
    clear hb
    obtain ⟨z0_0, z0_1, _, _⟩ := cell2_at HA.out
    go_wp2_with fail
    clear z0_0 z0_1
    refine (to_Circuit vr0 L0 _ _ (IS0.out.below C0.out) (by omega)).mono ?_
    rintro e v3 ⟨gp, rfl, hh, hb⟩
    have HP := Lib.hid hh
    clear hh
    replace C0 := Lib.hid (C0.out.trans (hb.mono C0.out.size))
    replace HA := Lib.hid ((hb.block _ (Array.getElem?_eq_some_iff.1 HA.out).1).trans HA.out)
    clear hb
    go_wp2_with fail
    refine (KS.out _ _ ((Cs.shows_of_owns HP.out).down (Nat.zero_le _))).mono ?_
    rintro e v4 ⟨hb, sq, sc, rfl, hh⟩
    replace C0 := Lib.hid (C0.out.trans (hb.mono C0.out.size))
    replace HA := Lib.hid ((hb.block _ (Array.getElem?_eq_some_iff.1 HA.out).1).trans HA.out)
    replace HP := Lib.hid (own_keep HP.out hb)
    clear hb
    clear HP
    have SF := Lib.hid hh
    clear hh
    obtain ⟨z0_0, z0_1, _, _⟩ := cell2_at HA.out
    have hyl := World.block_lt_of_cell? _ _ z0_0
    obtain ⟨v5, hW⟩ : ∃ W, W = v4.alloc (.cells #[.int .i64 GI, .slice sq G.length sc] 29) := ⟨_, rfl⟩
    have hb : Below v4.heap.size v4 v5 := by rw [hW]; exact (Below.refl _ _).alloc (Nat.le_refl _) _
    have HW0 : Hid (v5.heap[v4.heap.size]? = some (.cells #[.int .i64 GI, .slice sq G.length sc] 29 (0, 0))) := Lib.hid (by rw [hW]; exact heap_alloc_new _ _)
    have HW := Lib.hid hW
    clear hW
    replace C0 := Lib.hid (C0.out.trans (hb.mono C0.out.size))
    replace HA := Lib.hid ((hb.block _ (Array.getElem?_eq_some_iff.1 HA.out).1).trans HA.out)
    replace SF := Lib.hid (own_keep SF.out hb)
    clear hb
    go_wp2_with fail
    rw [← HW.out]
    clear HW hyl z0_0 z0_1
    have ZX := Lib.hid (show w.heap.size < v5.heap.size from (Array.getElem?_eq_some_iff.1 HA.out).1)
    have ZW := Lib.hid (show v4.heap.size < v5.heap.size from (Array.getElem?_eq_some_iff.1 HW0.out).1)
    have YS := Lib.hid (fun g (hg : g ∈ (Value.slice sq G.length sc).ownBlock.toList) => (own_lt SF.out hg).2)
    refine (to_Circuit vr0 L0 _ _ (IS0.out.below C0.out) (by omega)).mono ?_
    rintro e v6 ⟨gx, rfl, hh, hb⟩
    have HX := Lib.hid hh
    clear hh
    have hxk := hb.size
    replace C0 := Lib.hid (C0.out.trans (hb.mono C0.out.size))
    replace HA := Lib.hid ((hb.block _ (Array.getElem?_eq_some_iff.1 HA.out).1).trans HA.out)
    replace SF := Lib.hid (own_keep SF.out hb)
    replace HW0 := Lib.hid ((hb.block _ (Array.getElem?_eq_some_iff.1 HW0.out).1).trans HW0.out)
    clear hb
    have LX := Lib.hid (fun g (hg : g ∈ (Value.slice (some ⟨gx, 0, none⟩) L0.length L0.length).ownBlock.toList) => own_lt HX.out hg)
    obtain ⟨v7, hW⟩ : ∃ W, W = v6.alloc (.cells #[.int .i64 vr0, .slice (some ⟨gx, 0, none⟩) L0.length L0.length] 29) := ⟨_, rfl⟩
    have hb : Below v6.heap.size v6 v7 := by rw [hW]; exact (Below.refl _ _).alloc (Nat.le_refl _) _
    have HX0 : Hid (v7.heap[v6.heap.size]? = some (.cells #[.int .i64 vr0, .slice (some ⟨gx, 0, none⟩) L0.length L0.length] 29 (0, 0))) := Lib.hid (by rw [hW]; exact heap_alloc_new _ _)
    have HW := Lib.hid hW
    clear hW
    replace C0 := Lib.hid (C0.out.trans (hb.mono C0.out.size))
    replace HA := Lib.hid ((hb.block _ (Array.getElem?_eq_some_iff.1 HA.out).1).trans HA.out)
    replace SF := Lib.hid (own_keep SF.out hb)
    replace HW0 := Lib.hid ((hb.block _ (Array.getElem?_eq_some_iff.1 HW0.out).1).trans HW0.out)
    replace HX := Lib.hid (own_keep HX.out hb)
    clear hb
    have ZK := Lib.hid (show v6.heap.size < v7.heap.size from (Array.getElem?_eq_some_iff.1 HX0.out).1)
    have ZL := Lib.hid (show v5.heap.size ≤ v6.heap.size from hxk)
    clear hxk
    go_wp2_with fail
    rw [← HW.out]
    clear HW
    refine (KI.out _ _ ((Cs.shows_of_owns HX.out).down (Nat.zero_le _))).mono ?_
    rintro e v8 ⟨hb, iq, ic, rfl, hh⟩
    have GF := Lib.hid hh
    clear hh
    have LG := Lib.hid (fun g (hg : g ∈ (Value.slice iq G.length ic).ownBlock.toList) => (own_lt GF.out hg).1)
    have LG2 := Lib.hid (fun g (hg : g ∈ (Value.slice iq G.length ic).ownBlock.toList) => (own_lt GF.out hg).2)
    have ZG := Lib.hid hb.size
    replace C0 := Lib.hid (C0.out.trans (hb.mono C0.out.size))
    replace HA := Lib.hid ((hb.block _ (Array.getElem?_eq_some_iff.1 HA.out).1).trans HA.out)
    replace SF := Lib.hid (own_keep SF.out hb)
    replace HW0 := Lib.hid ((hb.block _ (Array.getElem?_eq_some_iff.1 HW0.out).1).trans HW0.out)
    replace HX := Lib.hid (own_keep HX.out hb)
    replace HX0 := Lib.hid ((hb.block _ (Array.getElem?_eq_some_iff.1 HX0.out).1).trans HX0.out)
    clear hb
    obtain ⟨z0_0, z0_1, _, _⟩ := cell2_at HW0.out
    have hyl := World.block_lt_of_cell? _ _ z0_0
    obtain ⟨v9, hW⟩ : ∃ W, W = v8.alloc (.cells #[.int .i64 GI, .slice iq G.length ic] 29) := ⟨_, rfl⟩
    have hb : Below v8.heap.size v8 v9 := by rw [hW]; exact (Below.refl _ _).alloc (Nat.le_refl _) _
    have HG0 : Hid (v9.heap[v8.heap.size]? = some (.cells #[.int .i64 GI, .slice iq G.length ic] 29 (0, 0))) := Lib.hid (by rw [hW]; exact heap_alloc_new _ _)
    have HW := Lib.hid hW
    clear hW
    replace C0 := Lib.hid (C0.out.trans (hb.mono C0.out.size))
    replace HA := Lib.hid ((hb.block _ (Array.getElem?_eq_some_iff.1 HA.out).1).trans HA.out)
    replace SF := Lib.hid (own_keep SF.out hb)
    replace HW0 := Lib.hid ((hb.block _ (Array.getElem?_eq_some_iff.1 HW0.out).1).trans HW0.out)
    replace HX := Lib.hid (own_keep HX.out hb)
    replace HX0 := Lib.hid ((hb.block _ (Array.getElem?_eq_some_iff.1 HX0.out).1).trans HX0.out)
    replace GF := Lib.hid (own_keep GF.out hb)
    clear hb
    go_wp2_with fail
    rw [← HW.out]
    clear HW hyl z0_0 z0_1
    refine (eq_Circuit GI G _ _ _ ((Cs.shows_of_owns GF.out).down (Nat.zero_le _)) ((Cs.shows_of_owns SF.out).down (Nat.zero_le _)) (by rw [GateR.costs_len]; omega)).mono ?_
    rintro e v10 ⟨rfl, hb⟩
    replace C0 := Lib.hid (C0.out.trans (hb.mono C0.out.size))
    replace HA := Lib.hid ((hb.block _ (Array.getElem?_eq_some_iff.1 HA.out).1).trans HA.out)
    replace SF := Lib.hid (own_keep SF.out hb)
    replace HW0 := Lib.hid ((hb.block _ (Array.getElem?_eq_some_iff.1 HW0.out).1).trans HW0.out)
    replace HX := Lib.hid (own_keep HX.out hb)
    replace HX0 := Lib.hid ((hb.block _ (Array.getElem?_eq_some_iff.1 HX0.out).1).trans HX0.out)
    replace GF := Lib.hid (own_keep GF.out hb)
    replace HG0 := Lib.hid ((hb.block _ (Array.getElem?_eq_some_iff.1 HG0.out).1).trans HG0.out)
    clear hb
    obtain ⟨z0_0, z0_1, _, _⟩ := cell2_at HA.out
    obtain ⟨z1_0, z1_1, _, _⟩ := cell2_at HX0.out
    go_wp2
    go_region_with (first | (go_at_call 11; replace C0 := Lib.hid C0.out.drew; replace HA := Lib.hid (drew_block HA.out); replace SF := Lib.hid (SF.out.drew); replace HW0 := Lib.hid (drew_block HW0.out); replace HX := Lib.hid (HX.out.drew); replace HX0 := Lib.hid (drew_block HX0.out); replace GF := Lib.hid (GF.out.drew); replace HG0 := Lib.hid (drew_block HG0.out); refine (to_Circuit vr0 L0 _ _ (IS0.out.below C0.out) (by omega)).mono ?_; rintro e v11 ⟨ge, rfl, hh, hb⟩; replace C0 := Lib.hid (C0.out.trans (hb.mono C0.out.size)); replace HA := Lib.hid ((hb.block _ (Array.getElem?_eq_some_iff.1 HA.out).1).trans HA.out); replace SF := Lib.hid (own_keep SF.out hb); replace HW0 := Lib.hid ((hb.block _ (Array.getElem?_eq_some_iff.1 HW0.out).1).trans HW0.out); replace HX := Lib.hid (own_keep HX.out hb); replace HX0 := Lib.hid ((hb.block _ (Array.getElem?_eq_some_iff.1 HX0.out).1).trans HX0.out); replace GF := Lib.hid (own_keep GF.out hb); replace HG0 := Lib.hid ((hb.block _ (Array.getElem?_eq_some_iff.1 HG0.out).1).trans HG0.out); have HR := Lib.hid ((Cs.shows_of_owns hh).down (Nat.zero_le _)); obtain ⟨z1_0, z1_1, _, _⟩ := cell2_at HX0.out; clear hh hb) | (go_at_call 13; refine (eq_Circuit vr0 L0 _ _ _ ((Cs.shows_of_owns HX.out).down (Nat.zero_le _)) HR.out (by omega)).mono ?_; rintro e v12 ⟨rfl, hb⟩; replace C0 := Lib.hid (C0.out.trans (hb.mono C0.out.size)); replace HA := Lib.hid ((hb.block _ (Array.getElem?_eq_some_iff.1 HA.out).1).trans HA.out); replace SF := Lib.hid (own_keep SF.out hb); replace HW0 := Lib.hid ((hb.block _ (Array.getElem?_eq_some_iff.1 HW0.out).1).trans HW0.out); replace HX := Lib.hid (own_keep HX.out hb); replace HX0 := Lib.hid ((hb.block _ (Array.getElem?_eq_some_iff.1 HX0.out).1).trans HX0.out); replace GF := Lib.hid (own_keep GF.out hb); replace HG0 := Lib.hid ((hb.block _ (Array.getElem?_eq_some_iff.1 HG0.out).1).trans HG0.out); clear hb HR))
    all_goals
      clear z0_0 z0_1 z1_0 z1_1
      obtain ⟨z0_0, z0_1, _, _⟩ := cell2_at HX0.out
      go_wp2_with fail
      clear z0_0 z0_1
      refine (mark_Circuit vr0 L0 _ _ 1 _ _ HX.out (by omega) (by omega)).mono ?_
      rintro e v13 ⟨rfl, hh, hap⟩
      clear hh
      replace C0 := Lib.hid (C0.out.trans (hap.below C0.out.size (fun g hg => by have h1 := LX.out _ hg; have h2 := ZX.out; have h3 := ZW.out; have h4 := ZK.out; have h5 := ZG.out; omega)))
      replace HA := Lib.hid ((hap.block _ (Array.getElem?_eq_some_iff.1 HA.out).1 (fun hm => by have h1 := LX.out _ hm; have h2 := ZX.out; have h3 := ZW.out; have h4 := ZK.out; have h5 := ZG.out; omega)).trans HA.out)
      replace SF := Lib.hid (own_same SF.out (fun g hg => hap.block g (own_lt SF.out hg).2 (fun hm => by have h1 := LX.out _ hm; have h2 := ZX.out; have h3 := ZW.out; have h4 := ZK.out; have h5 := ZG.out; have h6 := YS.out _ hg; omega)))
      replace HW0 := Lib.hid ((hap.block _ (Array.getElem?_eq_some_iff.1 HW0.out).1 (fun hm => by have h1 := LX.out _ hm; have h2 := ZX.out; have h3 := ZW.out; have h4 := ZK.out; have h5 := ZG.out; omega)).trans HW0.out)
      replace GF := Lib.hid (own_same GF.out (fun g hg => hap.block g (own_lt GF.out hg).2 (fun hm => by have h1 := LX.out _ hm; have h2 := ZX.out; have h3 := ZW.out; have h4 := ZK.out; have h5 := ZG.out; have h6 := LG.out _ hg; omega)))
      replace HG0 := Lib.hid ((hap.block _ (Array.getElem?_eq_some_iff.1 HG0.out).1 (fun hm => by have h1 := LX.out _ hm; have h2 := ZX.out; have h3 := ZW.out; have h4 := ZK.out; have h5 := ZG.out; omega)).trans HG0.out)
      clear hap HX HX0
      obtain ⟨z0_0, z0_1, _, _⟩ := cell2_at HG0.out
      obtain ⟨z1_0, z1_1, _, _⟩ := cell2_at HW0.out
      go_wp2_with fail
      clear z0_0 z0_1 z1_0 z1_1
      refine (eq_Circuit GI G _ _ _ ((Cs.shows_of_owns GF.out).down (Nat.zero_le _)) ((Cs.shows_of_owns SF.out).down (Nat.zero_le _)) (by rw [GateR.costs_len]; omega)).mono ?_
      rintro e v14 ⟨rfl, hb⟩
      replace C0 := Lib.hid (C0.out.trans (hb.mono C0.out.size))
      replace HA := Lib.hid ((hb.block _ (Array.getElem?_eq_some_iff.1 HA.out).1).trans HA.out)
      replace SF := Lib.hid (own_keep SF.out hb)
      replace HW0 := Lib.hid ((hb.block _ (Array.getElem?_eq_some_iff.1 HW0.out).1).trans HW0.out)
      replace GF := Lib.hid (own_keep GF.out hb)
      replace HG0 := Lib.hid ((hb.block _ (Array.getElem?_eq_some_iff.1 HG0.out).1).trans HG0.out)
      clear hb
      obtain ⟨z0_0, z0_1, _, _⟩ := cell2_at HG0.out
      go_wp2_with fail
      clear z0_0 z0_1
      refine (mark_Circuit GI G _ _ 1 _ _ GF.out (by omega) (by omega)).mono ?_
      rintro e v15 ⟨rfl, hh, hap⟩
      have GM := Lib.hid hh
      clear hh
      replace C0 := Lib.hid (C0.out.trans (hap.below C0.out.size (fun g hg => by have h1 := LG.out _ hg; have h7 := LG2.out _ hg; have h2 := ZX.out; have h3 := ZW.out; have h4 := ZK.out; have h5 := ZG.out; have h8 := ZL.out; omega)))
      replace HA := Lib.hid ((hap.block _ (Array.getElem?_eq_some_iff.1 HA.out).1 (fun hm => by have h1 := LG.out _ hm; have h7 := LG2.out _ hm; have h2 := ZX.out; have h3 := ZW.out; have h4 := ZK.out; have h5 := ZG.out; have h8 := ZL.out; omega)).trans HA.out)
      replace SF := Lib.hid (own_same SF.out (fun g hg => hap.block g (own_lt SF.out hg).2 (fun hm => by have h1 := LG.out _ hm; have h7 := LG2.out _ hm; have h2 := ZX.out; have h3 := ZW.out; have h4 := ZK.out; have h5 := ZG.out; have h8 := ZL.out; have h6 := YS.out _ hg; omega)))
      replace HW0 := Lib.hid ((hap.block _ (Array.getElem?_eq_some_iff.1 HW0.out).1 (fun hm => by have h1 := LG.out _ hm; have h7 := LG2.out _ hm; have h2 := ZX.out; have h3 := ZW.out; have h4 := ZK.out; have h5 := ZG.out; have h8 := ZL.out; omega)).trans HW0.out)
      replace HG0 := Lib.hid ((hap.block _ (Array.getElem?_eq_some_iff.1 HG0.out).1 (fun hm => by have h1 := LG.out _ hm; have h7 := LG2.out _ hm; have h2 := ZX.out; have h3 := ZW.out; have h4 := ZK.out; have h5 := ZG.out; have h8 := ZL.out; omega)).trans HG0.out)
      clear hap GF
      obtain ⟨z0_0, z0_1, _, _⟩ := cell2_at HG0.out
      go_wp2_with fail
      clear z0_0 z0_1
      refine (held_Circuit GI G _ _ 1 _ ((Cs.shows_of_owns GM.out).down (Nat.zero_le _)) (by omega) (by omega)).mono ?_
      rintro e v16 ⟨rfl, hb⟩
      replace C0 := Lib.hid (C0.out.trans (hb.mono C0.out.size))
      replace HA := Lib.hid ((hb.block _ (Array.getElem?_eq_some_iff.1 HA.out).1).trans HA.out)
      replace SF := Lib.hid (own_keep SF.out hb)
      replace HW0 := Lib.hid ((hb.block _ (Array.getElem?_eq_some_iff.1 HW0.out).1).trans HW0.out)
      replace HG0 := Lib.hid ((hb.block _ (Array.getElem?_eq_some_iff.1 HG0.out).1).trans HG0.out)
      replace GM := Lib.hid (own_keep GM.out hb)
      clear hb
      obtain ⟨z0_0, z0_1, _, _⟩ := cell2_at HA.out
      go_wp2_with fail
      clear z0_0 z0_1
      refine (to_Circuit vr0 L0 _ _ (IS0.out.below C0.out) (by omega)).mono ?_
      rintro e v17 ⟨gh, rfl, hh, hb⟩
      have HP := Lib.hid hh
      clear hh
      replace C0 := Lib.hid (C0.out.trans (hb.mono C0.out.size))
      replace HA := Lib.hid ((hb.block _ (Array.getElem?_eq_some_iff.1 HA.out).1).trans HA.out)
      replace SF := Lib.hid (own_keep SF.out hb)
      replace HW0 := Lib.hid ((hb.block _ (Array.getElem?_eq_some_iff.1 HW0.out).1).trans HW0.out)
      replace HG0 := Lib.hid ((hb.block _ (Array.getElem?_eq_some_iff.1 HG0.out).1).trans HG0.out)
      replace GM := Lib.hid (own_keep GM.out hb)
      clear hb
      go_wp2_with fail
      refine (KI.out _ _ ((Cs.shows_of_owns HP.out).down (Nat.zero_le _))).mono ?_
      rintro e v18 ⟨hb, jq, jc, rfl, hh⟩
      replace C0 := Lib.hid (C0.out.trans (hb.mono C0.out.size))
      replace HA := Lib.hid ((hb.block _ (Array.getElem?_eq_some_iff.1 HA.out).1).trans HA.out)
      replace SF := Lib.hid (own_keep SF.out hb)
      replace HW0 := Lib.hid ((hb.block _ (Array.getElem?_eq_some_iff.1 HW0.out).1).trans HW0.out)
      replace HG0 := Lib.hid ((hb.block _ (Array.getElem?_eq_some_iff.1 HG0.out).1).trans HG0.out)
      replace GM := Lib.hid (own_keep GM.out hb)
      replace HP := Lib.hid (own_keep HP.out hb)
      clear hb
      clear HP
      have GF := Lib.hid hh
      clear hh
      obtain ⟨z0_0, z0_1, _, _⟩ := cell2_at HW0.out
      have hyl := World.block_lt_of_cell? _ _ z0_0
      obtain ⟨v19, hW⟩ : ∃ W, W = v18.alloc (.cells #[.int .i64 GI, .slice jq G.length jc] 29) := ⟨_, rfl⟩
      have hb : Below v18.heap.size v18 v19 := by rw [hW]; exact (Below.refl _ _).alloc (Nat.le_refl _) _
      have HH0 : Hid (v19.heap[v18.heap.size]? = some (.cells #[.int .i64 GI, .slice jq G.length jc] 29 (0, 0))) := Lib.hid (by rw [hW]; exact heap_alloc_new _ _)
      have HW := Lib.hid hW
      clear hW
      replace C0 := Lib.hid (C0.out.trans (hb.mono C0.out.size))
      replace HA := Lib.hid ((hb.block _ (Array.getElem?_eq_some_iff.1 HA.out).1).trans HA.out)
      replace SF := Lib.hid (own_keep SF.out hb)
      replace HW0 := Lib.hid ((hb.block _ (Array.getElem?_eq_some_iff.1 HW0.out).1).trans HW0.out)
      replace HG0 := Lib.hid ((hb.block _ (Array.getElem?_eq_some_iff.1 HG0.out).1).trans HG0.out)
      replace GM := Lib.hid (own_keep GM.out hb)
      replace GF := Lib.hid (own_keep GF.out hb)
      clear hb
      go_wp2_with fail
      rw [← HW.out]
      clear HW hyl z0_0 z0_1
      refine (eq_Circuit GI G _ _ _ ((Cs.shows_of_owns GF.out).down (Nat.zero_le _)) ((Cs.shows_of_owns SF.out).down (Nat.zero_le _)) (by rw [GateR.costs_len]; omega)).mono ?_
      rintro e v20 ⟨rfl, hb⟩
      replace C0 := Lib.hid (C0.out.trans (hb.mono C0.out.size))
      replace HA := Lib.hid ((hb.block _ (Array.getElem?_eq_some_iff.1 HA.out).1).trans HA.out)
      replace SF := Lib.hid (own_keep SF.out hb)
      replace HW0 := Lib.hid ((hb.block _ (Array.getElem?_eq_some_iff.1 HW0.out).1).trans HW0.out)
      replace HG0 := Lib.hid ((hb.block _ (Array.getElem?_eq_some_iff.1 HG0.out).1).trans HG0.out)
      replace GM := Lib.hid (own_keep GM.out hb)
      replace GF := Lib.hid (own_keep GF.out hb)
      replace HH0 := Lib.hid ((hb.block _ (Array.getElem?_eq_some_iff.1 HH0.out).1).trans HH0.out)
      clear hb
      obtain ⟨z0_0, z0_1, _, _⟩ := cell2_at HG0.out
      go_wp2_with fail
      clear z0_0 z0_1
      refine (held_Circuit GI G _ _ 1 _ ((Cs.shows_of_owns GM.out).down (Nat.zero_le _)) (by omega) (by omega)).mono ?_
      rintro e v21 ⟨rfl, hb⟩
      replace C0 := Lib.hid (C0.out.trans (hb.mono C0.out.size))
      replace HA := Lib.hid ((hb.block _ (Array.getElem?_eq_some_iff.1 HA.out).1).trans HA.out)
      replace SF := Lib.hid (own_keep SF.out hb)
      replace HW0 := Lib.hid ((hb.block _ (Array.getElem?_eq_some_iff.1 HW0.out).1).trans HW0.out)
      replace HG0 := Lib.hid ((hb.block _ (Array.getElem?_eq_some_iff.1 HG0.out).1).trans HG0.out)
      replace GM := Lib.hid (own_keep GM.out hb)
      replace GF := Lib.hid (own_keep GF.out hb)
      replace HH0 := Lib.hid ((hb.block _ (Array.getElem?_eq_some_iff.1 HH0.out).1).trans HH0.out)
      clear hb
      go_wp2
      go_ret
      exact ⟨rfl, C0.out⟩
  · have hl : left 1048576 (GateR.costs L0) = -1 := by unfold left; rw [if_neg hc0]
    rw [hl] at SZ0
    clear hl hc0
    go_enter Try.func7, Try.ntmps7
    have C0 := Lib.hid (Below.refl w.heap.size w)
    obtain ⟨w1, hW⟩ : ∃ W, W = w.alloc (.cells #[.int .i64 vr0, .slice q0 L0.length cap0] 24) := ⟨_, rfl⟩
    have hb : Below w.heap.size w w1 := by rw [hW]; exact (Below.refl _ _).alloc (Nat.le_refl _) _
    have HW := Lib.hid hW
    clear hW
    replace C0 := Lib.hid (C0.out.trans (hb.mono C0.out.size))
    clear hb
    go_wp2_with fail
    rw [← HW.out]
    clear HW
    refine (SZ0.out _ (IS0.out.below C0.out)).mono ?_
    rintro e w2 ⟨rfl, hb⟩
    replace C0 := Lib.hid (C0.out.trans (hb.mono C0.out.size))
    clear hb
    go_wp2
    go_ret
    exact ⟨rfl, C0.out⟩
end Go.Proofs.Ytimjkgciakbolab
