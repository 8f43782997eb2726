/- What the specification's ReachedOf returns. No condition. -/
import Derived.Test.YtnhagmjknfiphabRcM
import Derived.Test.YtnhagmjknfiphabOwAt
import Derived.Test.YtnhagmjknfiphabNxS
import Derived.Deep.LoopGhost
namespace Go.Proofs.Ytnhagmjknfiphab
open Go.ChangeShapes Go.WideShapes Go.ChangeAt Go.RowKit
theorem infoBl : (Try.prog.info? 4).map (fun i => (i.zero, i.size, i.bytes)) = some (some (.bool false), 1, 1) := by kernel_rfl
theorem made_false (n : Nat) : (madeCells (Value.bool false).cells (n * 1)).toList = (List.replicate n false).map Value.bool := by
  apply List.ext_getElem?
  intro i
  rw [List.map_replicate, List.getElem?_replicate, Array.getElem?_toList]
  by_cases h : i < n
  · rw [if_pos h, Array.getElem?_eq_getElem (by rw [size_madeCells]; omega)]
    simp [madeCells, Value.cells, Nat.mod_one]
  · rw [if_neg h, Array.getElem?_eq_none (by rw [size_madeCells]; omega)]
theorem putAt_set (S : List Bool) (j : Nat) : putAt (S.map Value.bool) j [.bool true] = (S.set j true).map Value.bool := by
  show (S.map Value.bool).set j (.bool true) = _
  rw [List.map_set]
def RcP (S : List Bool) (x : Nat) : Prop := S.getD x false = true
/-- the specification's first loop, at most m rounds to come -/
def RcRel (vw vm vi : Int) (L : List InsR) (q : Option Addr) (cap sb : Nat) (w : World) (m : Nat) (v : Value) (wr : World) : Prop := ∃ S W k, m = rcm S W ∧ k + m ≤ 124 ∧ RcS vw vm vi L S W ∧ OwAt wr w.heap.size v k W ∧ wr.ownsRow w.heap.size 4 1 (.slice (some ⟨sb, 0, none⟩) (L.length + 1) (L.length + 1)) (L.length + 1) (S.map Value.bool) ∧ Below w.heap.size w wr ∧
  wr.heap[w.heap.size]? = some (.cells #[.int .i64 vw, .int .i64 vm, .int .i64 vi, .slice q L.length cap] 30 (0, 0))
set_option maxRecDepth 100000 in
set_option maxHeartbeats 4000000 in
theorem s_reached (vw vm vi : Int) (L : List InsR) (s : Value) (w : World) (hs : Cs.Shows w 0 4 s L.length (InsR.all L)) (hok : ∀ r ∈ L, r.Ok) (hL : L.length ≤ maxLen) :
    Calls Try.prog 16 #[.agg #[.int .i64 vw, .int .i64 vm, .int .i64 vi, s]] w (NxOwn (rcV vw vm vi L) w) := by
  have hml : maxLen = 9223372036854775807 := rfl
  have K1 := Lib.hid (fun W (hb : Below w.heap.size w W) => s_prog vw vm vi L s W (hs.below hb) hok hL)
  have KN := Lib.hid (fun pc W (hb : Below w.heap.size w W) => s_next vw vm vi L s pc W (hs.below hb) hok hL)
  obtain ⟨_, q, cap, rfl, _⟩ := hs
  obtain ⟨b1, hb1⟩ : ∃ B, prB vw vm vi L = B := ⟨_, rfl⟩
  rw [hb1] at K1
  obtain ⟨V, hV⟩ : ∃ V, rcV vw vm vi L = V := ⟨_, rfl⟩
  rw [hV]
  have HV := Lib.hid hV
  clear hV
  obtain ⟨i0, hi, hz0, hz1, hz2⟩ := info_parts infoBl
  obtain ⟨i9, hi9, hz9, hzs9, hzb9⟩ := info_parts zero_Int
  obtain ⟨w0, hw0⟩ : ∃ w0, w0 = w.alloc (.cells #[.int .i64 vw, .int .i64 vm, .int .i64 vi, .slice q L.length cap] 30) := ⟨_, rfl⟩
  have HB0 := Lib.hid (show Below w.heap.size w w0 by rw [hw0]; exact (Below.refl _ _).alloc (Nat.le_refl _) _)
  have hs0 : w0.heap.size = w.heap.size + 1 := by rw [hw0]; simp
  have XR0 := Lib.hid (show w0.heap[w.heap.size]? = some (.cells #[.int .i64 vw, .int .i64 vm, .int .i64 vi, .slice q L.length cap] 30 (0, 0)) by rw [hw0]; exact heap_alloc_new _ _)
  obtain ⟨x0, x1, x2, x3⟩ := cell4_row XR0.out
  rw [hw0] at x0 x1 x2 x3
  go_enter Try.func16, Try.ntmps16
  go_wp2_with fail
  rw [← hw0]
  clear hw0 x0 x1 x2 x3
  refine (K1.out _ HB0.out).mono ?_
  rintro e w1 ⟨rfl, hb⟩
  have HB1 := Lib.hid (HB0.out.trans (hb.mono HB0.out.size))
  have XR1 := Lib.hid ((hb.block w.heap.size (by omega)).trans XR0.out)
  have hs1 := hb.size
  have hz1' : w.heap.size + 1 ≤ w1.heap.size := by omega
  clear hb hs1 hs0
  cases b1
  case false =>
    have hv : V = [] := by rw [← HV.out]; unfold rcV; rw [hb1]; simp
    subst hv
    go_wp2
    go_ret
    exact nx_none rfl HB1.out
  case true =>
    obtain ⟨⟨-, -, -, -, -, -, -, hl1, hl40⟩, -⟩ := pr_in hb1
    have hv : V = ascP (Rch vw vm vi L) (L.length + 1) := by rw [← HV.out]; unfold rcV; rw [if_pos hb1]
    have HW := Lib.hid hv
    clear hv HV
    obtain ⟨x0, x1, x2, x3⟩ := cell4_row XR1.out
    go_wp2_with (refine wpList_make_full _ rfl _ _ 58 rfl w.heap.size 4 i0 (.bool false) 1 Try.underlying58 hi hz0 hz1 .i64 .i64 _ _ (L.length + 1) rfl rfl (by simp) (by simp) (by rw [hz2]; omega) (by omega) HB1.out.size ?_; intro w2 hown hgrow; have hb2 := (Below.refl w1.heap.size w1).grown hgrow (Nat.le_refl _) (fun k e => by cases e); have HO := Lib.hid hown; have HB2 := Lib.hid hb2; clear hown hgrow hb2 x0 x1 x2 x3)
    have HOB := Lib.hid (show w2.ownsRow w.heap.size 4 1 (.slice (some ⟨w1.heap.size, 0, none⟩) (L.length + 1) (L.length + 1)) (L.length + 1) ((List.replicate (L.length + 1) false).map Value.bool) by rw [← made_false]; exact HO.out)
    have hs2 := HB2.out.size
    have XR2 := Lib.hid ((HB2.out.block w.heap.size (by omega)).trans XR1.out)
    have HBA := Lib.hid (HB1.out.trans (HB2.out.mono HB1.out.size))
    obtain ⟨sb, hsb⟩ : ∃ g, g = w1.heap.size := ⟨_, rfl⟩
    rw [← hsb] at HOB ⊢
    clear hsb HO
    obtain ⟨w3, hw3⟩ : ∃ W, W = w2.alloc (.cells #[.int .i64 0] 3) := ⟨_, rfl⟩
    have hb3 : Below w2.heap.size w2 w3 := by rw [hw3]; exact (Below.refl _ _).alloc (Nat.le_refl _) _
    have RS := Lib.hid (show RcRel vw vm vi L q cap sb w (rcm (List.replicate (L.length + 1) false) [0]) (.slice (some ⟨w2.heap.size, 0, none⟩) 1 1) w3 from ⟨_, _, 0, rfl, by unfold rcm; simp; omega, rcs_start vw vm vi L, owat_of (W := [0]) (by rw [hw3]; exact World.ownsRow_lit (base := w.heap.size) (e := 3) (size := 1) w2 #[.int .i64 0] 1 (by omega) (by omega) rfl), own_keep HOB.out hb3, HBA.out.trans (hb3.mono HBA.out.size), (hb3.block w.heap.size (by omega)).trans XR2.out⟩)
    clear hb3
    go_wp2
    rw [← hw3]
    clear hw3
    go_loopg [4] (rcm (List.replicate (L.length + 1) false) [0]) (fun kx v wr => RcRel vw vm vi L q cap sb w kx v wr)
    case atStart => exact RS.out
    case round =>
      obtain ⟨S, W, k, hm, hk, hS, hO, hob, hB, hX⟩ := hrel
      have OB := Lib.hid hob
      have HBr := Lib.hid hB
      have XRr := Lib.hid hX
      have HSr := Lib.hid hS
      have hsr := hB.size
      have hwx : w.heap.size < wr.heap.size := (Array.getElem?_eq_some_iff.1 hX).1
      have hSl := hS.1
      clear hob hB hX
      cases W with
      | cons x W =>
        have hxp := hS.2.1 x List.mem_cons_self
        obtain ⟨j, rfl⟩ : ∃ j : Nat, x = j := ⟨x.toNat, by omega⟩
        have hjn : j < L.length + 1 := by omega
        obtain ⟨g, c, rfl, hc1, hc2, hgl, hcell, hO2⟩ := owat_tail hO
        have OT := Lib.hid hO2
        clear hxp hO hO2 hS
        have hlen : W.length ≤ 124 := by unfold rcm at hm; rw [List.length_cons] at hm; omega
        obtain ⟨bj, hbj⟩ : ∃ b, S.getD j false = b := ⟨_, rfl⟩
        have cS : wr.cell? ⟨sb, j, none⟩ = some (.bool bj) := by
          rw [OB.out.cellAt j (by omega), List.getElem?_map, List.getElem?_eq_getElem (by omega), Option.map_some, ← hbj, List.getD_eq_getElem?_getD, List.getElem?_eq_getElem (by omega), Option.getD_some]
        have fS : wr.frozen? ⟨sb, j, none⟩ = false := OB.out.frozenAt j
        have hgt : (0 : Int) < (W.length : Int) + 1 := by omega
        have hji : (j : Int) < (L.length : Int) + 1 := by omega
        by_cases hc0 : c = 0
        case pos =>
          subst hc0
          have hW0 : W.length = 0 := by omega
          simp only [if_pos] at OT
          rw [hW0] at OT
          cases bj
          case true =>
            have RN := Lib.hid (show RcRel vw vm vi L q cap sb w (rcm S W) (.slice (some ⟨g, k, none⟩) 0 0) wr from ⟨S, W, k, rfl, by have := rcm_old S W j; omega, rcs_old HSr.out hbj, OT.out, OB.out, HBr.out, XRr.out⟩)
            have hlt := rcm_old S W j
            clear hbj
            go_wp2
            go_roundg (rcm S W)
            case measure => omega
            case rel => exact RN.out
          case false =>
            obtain ⟨w5, hw5⟩ : ∃ W9, W9 = wr.setCell ⟨sb, j, none⟩ (.bool true) := ⟨_, rfl⟩
            have OB5 := Lib.hid (show w5.ownsRow w.heap.size 4 1 (.slice (some ⟨sb, 0, none⟩) (L.length + 1) (L.length + 1)) (L.length + 1) ((S.set j true).map Value.bool) by rw [hw5, ← putAt_set]; exact own_put [.bool true] j wr _ OB.out)
            have hsbl := (own_lt OB.out (g := sb) (by simp [Value.ownBlock])).1
            have HB5 := Lib.hid (show Below w.heap.size w w5 by rw [hw5]; exact HBr.out.setCell hsbl _)
            have OT5 := Lib.hid (show OwAt w5 w.heap.size (.slice (some ⟨g, k, none⟩) 0 0) (k) W by rw [hw5]; exact owat_same OT.out (fun b hb => heap_setCell_other _ _ _ _ (fun h => owat_off (by decide) OT.out OB.out (by have h2 : b = sb := h; rw [← h2]; exact hb))))
            have hsx : sb ≠ w.heap.size := fun h => by
              obtain ⟨_, _, h1, _⟩ := own_form OB.out
              rw [h, XRr.out] at h1
              injection h1 with h1
              injection h1 with _ h1
              exact absurd h1 (by decide)
            have XR5 := Lib.hid (show w5.heap[w.heap.size]? = some (.cells #[.int .i64 vw, .int .i64 vm, .int .i64 vi, .slice q L.length cap] 30 (0, 0)) by rw [hw5, heap_setCell_other _ _ _ _ (Ne.symm hsx)]; exact XRr.out)
            have KC := Lib.hid (KN.out j w5 HB5.out)
            unfold NxOwn at KC
            have hlt := rcm_new (vw := vw) (vm := vm) (vi := vi) (L := L) (W := W) hbj (show j < S.length by omega)
            have hnl := nxL_len vw vm vi L j
            have hmk : rcm (S.set j true) (W ++ nxL vw vm vi L j) < gk := by omega
            have hs5 := HB5.out.size
            have RSN := Lib.hid (rcs_new HSr.out)
            clear hlt hbj
            obtain ⟨x0, x1, x2, x3⟩ := cell4_row XR5.out
            rw [hw5] at x0 x1 x2 x3
            go_wp2_with fail
            rw [← hw5]
            clear hw5 x0 x1 x2 x3 cS fS hcell
            refine KC.out.mono ?_
            rintro e w6 ⟨hb, nq, nc, rfl, ho⟩
            have ON := Lib.hid ho
            have HB6 := Lib.hid (HB5.out.trans (hb.mono HB5.out.size))
            have OT6 := Lib.hid (owat_keep OT5.out hb)
            have OB6 := Lib.hid (own_keep OB5.out hb)
            have XR6 := Lib.hid ((hb.block w.heap.size (row_lt XR5.out)).trans XR5.out)
            have hs6 := HB6.out.size
            clear hb ho KC
            go_wp2_with (at_builtin; refine wpList_append_owat rfl _ _ 26 rfl w.heap.size i9 8 Try.underlying26 hi9 hz9 hzs9 hzb9 _ (k) W rfl OT6.out nq (nxL vw vm vi L j).length nc (nxL vw vm vi L j) rfl rfl ?c1 ?c2 ?c3 hs6 ?_)
            case c1 => exact news_of' (Cs.shows_of_owns ON.out)
            case c2 => omega
            case c3 => omega
            intro v' k' w7 hk' hown hb7 hgr hat
            have RN := Lib.hid (show RcRel vw vm vi L q cap sb w (rcm (S.set j true) (W ++ nxL vw vm vi L j)) v' w7 from ⟨_, _, k', rfl, by omega, RSN.out, hown, own_same OB6.out (fun b hb => hgr.block b (own_lt OB6.out hb).2 (fun h => by
              simp [Value.ownBlock] at hb
              subst hb
              exact owat_off (by decide) OT6.out OB6.out (by rw [← h]; simp))), HB6.out.trans hb7, (hgr.block _ (row_lt XR6.out) (fun h => by have := (owat_lt OT6.out (g := w.heap.size) (by rw [← h]; simp)); exact absurd h (by
                intro h
                obtain ⟨g9, c9, D9, F9, e9, _, _, _, h9⟩ := OT6.out
                injection e9 with e9
                injection e9 with e9
                injection e9 with e9
                simp [Value.ownBlock] at h
                obtain ⟨_, _, h8, _⟩ := own_form h9
                rw [← e9, ← h, XR6.out] at h8
                injection h8 with h8
                injection h8 with _ h8
                exact absurd h8 (by decide)))).trans XR6.out⟩)
            clear hown hb7 hgr hat
            go_wp2
            go_roundg (rcm (S.set j true) (W ++ nxL vw vm vi L j))
            case measure => exact hmk
            case rel => exact RN.out
        case neg =>
          rw [if_neg hc0] at OT
          cases bj
          case true =>
            have RN := Lib.hid (show RcRel vw vm vi L q cap sb w (rcm S W) (.slice (some ⟨g, k + 1, none⟩) W.length c) wr from ⟨S, W, k + 1, rfl, by have := rcm_old S W j; omega, rcs_old HSr.out hbj, OT.out, OB.out, HBr.out, XRr.out⟩)
            have hlt := rcm_old S W j
            clear hbj
            go_wp2
            go_roundg (rcm S W)
            case measure => omega
            case rel => exact RN.out
          case false =>
            obtain ⟨w5, hw5⟩ : ∃ W9, W9 = wr.setCell ⟨sb, j, none⟩ (.bool true) := ⟨_, rfl⟩
            have OB5 := Lib.hid (show w5.ownsRow w.heap.size 4 1 (.slice (some ⟨sb, 0, none⟩) (L.length + 1) (L.length + 1)) (L.length + 1) ((S.set j true).map Value.bool) by rw [hw5, ← putAt_set]; exact own_put [.bool true] j wr _ OB.out)
            have hsbl := (own_lt OB.out (g := sb) (by simp [Value.ownBlock])).1
            have HB5 := Lib.hid (show Below w.heap.size w w5 by rw [hw5]; exact HBr.out.setCell hsbl _)
            have OT5 := Lib.hid (show OwAt w5 w.heap.size (.slice (some ⟨g, k + 1, none⟩) W.length c) (k + 1) W by rw [hw5]; exact owat_same OT.out (fun b hb => heap_setCell_other _ _ _ _ (fun h => owat_off (by decide) OT.out OB.out (by have h2 : b = sb := h; rw [← h2]; exact hb))))
            have hsx : sb ≠ w.heap.size := fun h => by
              obtain ⟨_, _, h1, _⟩ := own_form OB.out
              rw [h, XRr.out] at h1
              injection h1 with h1
              injection h1 with _ h1
              exact absurd h1 (by decide)
            have XR5 := Lib.hid (show w5.heap[w.heap.size]? = some (.cells #[.int .i64 vw, .int .i64 vm, .int .i64 vi, .slice q L.length cap] 30 (0, 0)) by rw [hw5, heap_setCell_other _ _ _ _ (Ne.symm hsx)]; exact XRr.out)
            have KC := Lib.hid (KN.out j w5 HB5.out)
            unfold NxOwn at KC
            have hlt := rcm_new (vw := vw) (vm := vm) (vi := vi) (L := L) (W := W) hbj (show j < S.length by omega)
            have hnl := nxL_len vw vm vi L j
            have hmk : rcm (S.set j true) (W ++ nxL vw vm vi L j) < gk := by omega
            have hs5 := HB5.out.size
            have RSN := Lib.hid (rcs_new HSr.out)
            clear hlt hbj
            obtain ⟨x0, x1, x2, x3⟩ := cell4_row XR5.out
            rw [hw5] at x0 x1 x2 x3
            go_wp2_with fail
            rw [← hw5]
            clear hw5 x0 x1 x2 x3 cS fS hcell
            refine KC.out.mono ?_
            rintro e w6 ⟨hb, nq, nc, rfl, ho⟩
            have ON := Lib.hid ho
            have HB6 := Lib.hid (HB5.out.trans (hb.mono HB5.out.size))
            have OT6 := Lib.hid (owat_keep OT5.out hb)
            have OB6 := Lib.hid (own_keep OB5.out hb)
            have XR6 := Lib.hid ((hb.block w.heap.size (row_lt XR5.out)).trans XR5.out)
            have hs6 := HB6.out.size
            clear hb ho KC
            go_wp2_with (at_builtin; refine wpList_append_owat rfl _ _ 26 rfl w.heap.size i9 8 Try.underlying26 hi9 hz9 hzs9 hzb9 _ (k + 1) W rfl OT6.out nq (nxL vw vm vi L j).length nc (nxL vw vm vi L j) rfl rfl ?c1 ?c2 ?c3 hs6 ?_)
            case c1 => exact news_of' (Cs.shows_of_owns ON.out)
            case c2 => omega
            case c3 => omega
            intro v' k' w7 hk' hown hb7 hgr hat
            have RN := Lib.hid (show RcRel vw vm vi L q cap sb w (rcm (S.set j true) (W ++ nxL vw vm vi L j)) v' w7 from ⟨_, _, k', rfl, by omega, RSN.out, hown, own_same OB6.out (fun b hb => hgr.block b (own_lt OB6.out hb).2 (fun h => by
              simp [Value.ownBlock] at hb
              subst hb
              exact owat_off (by decide) OT6.out OB6.out (by rw [← h]; simp))), HB6.out.trans hb7, (hgr.block _ (row_lt XR6.out) (fun h => by have := (owat_lt OT6.out (g := w.heap.size) (by rw [← h]; simp)); exact absurd h (by
                intro h
                obtain ⟨g9, c9, D9, F9, e9, _, _, _, h9⟩ := OT6.out
                injection e9 with e9
                injection e9 with e9
                injection e9 with e9
                simp [Value.ownBlock] at h
                obtain ⟨_, _, h8, _⟩ := own_form h9
                rw [← e9, ← h, XR6.out] at h8
                injection h8 with h8
                injection h8 with _ h8
                exact absurd h8 (by decide)))).trans XR6.out⟩)
            clear hown hb7 hgr hat
            go_wp2
            go_roundg (rcm (S.set j true) (W ++ nxL vw vm vi L j))
            case measure => exact hmk
            case rel => exact RN.out
      | nil =>
        obtain ⟨g, c, rfl, hgb, hgl⟩ := owat_some hO
        have HS2 := Lib.hid (rcs_end hS)
        have hng : ¬ ((0 : Int) < 0) := by omega
        obtain ⟨w5, hw5⟩ : ∃ W9, W9 = wr.alloc (.cells #[] 3) := ⟨_, rfl⟩
        have hb5 : Below wr.heap.size wr w5 := by rw [hw5]; exact (Below.refl _ _).alloc (Nat.le_refl _) _
        have OU := Lib.hid (show w5.ownsRow w.heap.size 3 1 (.slice (some ⟨wr.heap.size, 0, none⟩) 0 0) 0 [] by rw [hw5]; exact World.ownsRow_made wr #[] 0 (by omega) (by omega) rfl)
        have HB5 := Lib.hid (HBr.out.trans (hb5.mono HBr.out.size))
        have OB5 := Lib.hid (own_keep OB.out hb5)
        clear hb5 hO hS hm hk
        go_wp2
        rw [← hw5]
        clear hw5
        go_loopw [6, 42] (fun ov kv w9 => ∃ j : Nat, j ≤ L.length + 1 ∧ kv = .int .i64 j ∧ w9.ownsRow w.heap.size 3 1 ov (ascP (RcP S) j).length (IntL.all (ascP (RcP S) j)) ∧ w9.ownsRow w.heap.size 4 1 (.slice (some ⟨sb, 0, none⟩) (L.length + 1) (L.length + 1)) (L.length + 1) (S.map Value.bool) ∧ Below w.heap.size w w9) (fun _ kv _ => L.length + 1 - (intOf kv).toNat)
        case atStart => exact ⟨0, Nat.zero_le _, rfl, by rw [ascP_zero]; exact OU.out, OB5.out, HB5.out⟩
        case round =>
          obtain ⟨j, hj, rfl, ho, hob, hB⟩ := hrel
          rename World => w9
          obtain ⟨oq, oc, rfl⟩ := own_slc ho
          have OV := Lib.hid ho
          have OB9 := Lib.hid hob
          have HB9 := Lib.hid hB
          have hs9 := hB.size
          have hal := ascP_len (RcP S) j
          clear ho hob hB
          by_cases hjn : j < L.length + 1
          case pos =>
            have hji : (j : Int) < (L.length : Int) + 1 := by omega
            obtain ⟨bj, hbj⟩ : ∃ b, S.getD j false = b := ⟨_, rfl⟩
            have cS : w9.cell? ⟨sb, j, none⟩ = some (.bool bj) := by
              rw [OB9.out.cellAt j (by omega), List.getElem?_map, List.getElem?_eq_getElem (by omega), Option.map_some, ← hbj, List.getD_eq_getElem?_getD, List.getElem?_eq_getElem (by omega), Option.getD_some]
            cases bj
            case true =>
              have HA := Lib.hid (ascP_yes (p := RcP S) hbj)
              clear hbj
              go_wp2_with (at_builtin; refine wpList_append_own_at _ rfl _ _ 26 rfl w.heap.size 3 i9 (.int .i64 0) 1 8 Try.underlying26 hi9 hz9 hzs9 hzb9 rfl (by decide) (.slice oq (ascP (RcP S) j).length oc) (ascP (RcP S) j).length _ rfl (own_keep OV.out ((Below.refl _ _).alloc (Nat.le_refl _) _)) _ 1 1 [.int .i64 j] rfl rfl ?c1 ?c2 ?c3 ?c4 ?c5 ?_)
              case c1 => exact cell_one_new _ _ _
              case c2 => intro u hu; simp at hu; subst hu; rfl
              case c3 => omega
              case c4 => omega
              case c5 => simp; omega
              intro v' w10 hown hgrow _ _
              have hal2 : Below w9.heap.size w9 (w9.alloc (.cells #[.int .i64 j] 3)) := (Below.refl _ _).alloc (Nat.le_refl _) _
              have OV10 := Lib.hid (show w10.ownsRow w.heap.size 3 1 v' (ascP (RcP S) (j + 1)).length (IntL.all (ascP (RcP S) (j + 1))) by rw [HA.out, List.length_append, IntL.all_map, List.map_append, ← IntL.all_map]; exact hown)
              have OB10 := Lib.hid (own_same (own_keep OB9.out hal2) (fun b hb => hgrow.block b (own_lt (own_keep OB9.out hal2) hb).2 (fun h => by
                simp [Value.ownBlock] at hb
                subst hb
                exact own_off2 (by decide) OV.out OB9.out (by rw [← h]; simp))))
              have HB10 := Lib.hid ((HB9.out.alloc hs9 (.cells #[.int .i64 j] 3)).grown hgrow (by simp; omega) (fun b hb => (own_lt OV.out (g := b) (by rw [hb]; simp)).1))
              clear hown hgrow hal2 cS
              go_wp2
              go_roundw
              case rel => exact ⟨j + 1, by omega, by go_num, OV10.out, OB10.out, HB10.out⟩
              case measure => simp [intOf]; omega
            case false =>
              have HA := Lib.hid (ascP_no (p := RcP S) (n := j) (by unfold RcP; rw [hbj]; decide))
              have OV10 := Lib.hid OV.out
              rw [← HA.out] at OV10
              clear hbj
              rw [← HA.out]
              go_wp2
              go_roundw
              case rel => exact ⟨j + 1, by omega, by go_num, OV10.out, OB9.out, HB9.out⟩
              case measure => simp [intOf]; omega
          case neg =>
            have hje : j = L.length + 1 := by omega
            subst hje
            have hji : ¬ ((L.length : Int) + 1 < (L.length : Int) + 1) := by omega
            have HV2 := Lib.hid (show V = ascP (RcP S) (L.length + 1) by rw [HW.out]; exact ascP_congr (fun x => (HS2.out x).symm) _)
            go_wp2
            go_ret
            rw [HV2.out]
            exact ⟨HB9.out, oq, oc, rfl, OV.out⟩
end Go.Proofs.Ytnhagmjknfiphab
