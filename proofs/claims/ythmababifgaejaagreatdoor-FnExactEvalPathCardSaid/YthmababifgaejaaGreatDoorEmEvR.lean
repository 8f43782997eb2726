/- What the program's (Term).eval returns, all the way down. No condition. -/
import Derived.Test.YthmababifgaejaaGreatDoorEmEvI
namespace Go.Proofs.YthmababifgaejaaGreatDoor
open Go.ChangeShapes Go.WideShapes Go.ChangeAt Go.RowKit
open ValueR (all costs)
def EvC (V : List ValueR) (k : Fo) : Prop := ∀ (op wd n : Int) (nm : ByteArray) (s v : Value) (w : World), (k.cs 64).Is w 0 5 k.len s → Cs.Shows w 0 3 v V.length (all V) → fitB op wd n nm k.ws = true → k.allB = true → k.nodes ≤ 1048576 →
  Calls Tryz.prog 32 #[.agg #[.int .i64 op, .int .i64 wd, .int .i64 n, .string nm, s], v] w fun e w' => e = .returned (evV (evOne V op wd n nm k)) ∧ Below w.heap.size w w'
theorem ev_op {V : List ValueR} {op wd n : Int} {nm : ByteArray} {k : Fo} (h0 : op ≠ 0) (h22 : op ≠ 22) : evOne V op wd n nm k = (k.evs V).map (appM op wd n k.ws) := by unfold evOne; rw [if_neg h0, if_neg h22]
theorem arity_le {op wd n : Int} {nm : ByteArray} {k : Fo} (hfit : fitB op wd n nm k.ws = true) (h0 : op ≠ 0) (h22 : op ≠ 22) (hall : k.allB = true) : 0 < k.len ∧ k.len ≤ 3 := by
  have hl := k.ws_len
  obtain ⟨_, hs⟩ := fit_shape hfit h0 h22 (ws_ok k hall)
  rcases hs with ⟨_, e⟩ | ⟨_, _, e⟩ | ⟨_, _, _, _, e, _⟩ | ⟨_, e⟩ | ⟨_, _, _, e, _⟩ | ⟨_, _, e, _⟩ | ⟨_, _, e, _⟩ <;> rw [e] at hl <;> simp at hl <;> omega
set_option maxRecDepth 100000 in
set_option maxHeartbeats 2000000 in
theorem i_eval_const (V : List ValueR) (k : Fo) (wd n : Int) (nm : ByteArray) (s v : Value) (w : World) (hs : ∃ q m c, s = .slice q m c) (hv : ∃ q m c, v = .slice q m c) :
    Calls Tryz.prog 32 #[.agg #[.int .i64 0, .int .i64 wd, .int .i64 n, .string nm, s], v] w fun e w' => e = .returned (evV (evOne V 0 wd n nm k)) ∧ Below w.heap.size w w' := by
  obtain ⟨q, m, c, rfl⟩ := hs
  obtain ⟨q', m', c', rfl⟩ := hv
  go_enter Tryz.func32, Tryz.ntmps32
  go_wp2
  go_ret2
  exact ⟨rfl, (Below.refl _ _).alloc (Nat.le_refl _) _⟩
set_option maxRecDepth 100000 in
set_option maxHeartbeats 2000000 in
theorem i_eval_var (V : List ValueR) (hV : VlOk V) (k : Fo) (wd n : Int) (nm : ByteArray) (s v : Value) (w : World) (hs : ∃ q m c, s = .slice q m c) (hv : Cs.Shows w 0 3 v V.length (all V)) :
    Calls Tryz.prog 32 #[.agg #[.int .i64 22, .int .i64 wd, .int .i64 n, .string nm, s], v] w fun e w' => e = .returned (evV (evOne V 22 wd n nm k)) ∧ Below w.heap.size w w' := by
  obtain ⟨q, m, c, rfl⟩ := hs
  have hV30 := hV.1
  have KS := Lib.hid (fun W (hb : Below w.heap.size w W) => search_value V v nm W (hv.below hb) (by omega) (asc_of hV))
  have he : evOne V 22 wd n nm k = valOf V nm wd := rfl
  rw [he]
  clear he
  rcases val_cases V nm wd with ⟨hi, hval⟩ | ⟨hi, hlt, hnm, hcase⟩
  · rw [hval]
    rw [hi] at KS
    obtain ⟨_, qv, cv, rfl, _⟩ := hv
    clear hi hval
    generalize pos V nm = p at *
    go_enter Tryz.func32, Tryz.ntmps32
    go_wp2_with fail
    refine (KS.out _ ((Below.refl _ _).alloc (Nat.le_refl _) _)).mono ?_
    rintro e w1 ⟨rfl, hb1⟩
    have B1 := Lib.hid (((Below.refl w.heap.size w).alloc (Nat.le_refl _) (.cells #[.int .i64 22, .int .i64 wd, .int .i64 n, .string nm, .slice q m c] 64)).trans (hb1.mono (by simp)))
    obtain ⟨x0, x1, x2, x3, x4⟩ := (cell5_alloc w 64 _ _ _ _ _).below hb1
    clear hb1
    go_wp2
    go_quiet (fail)
    go_wp2
    go_ret2
    exact ⟨rfl, below_drewN B1.out _⟩
  · rcases Cs.shows_cases hv with ⟨h0, _⟩ | ⟨_, b, o, cv, rfl, _, _, hbl, hr⟩
    · omega
    have HC := Lib.hid (fun (wr : World) (hb : Below w.heap.size w wr) => rangeAt_below hb (flat_nth ValueR.cells 3 (fun r => rfl) V (pos V nm) hlt hr))
    rw [hi] at KS
    generalize V[pos V nm] = r at *
    clear hv hr hi hnm
    generalize pos V nm = p at *
    have hpi : (p : Int) < (V.length : Int) := by omega
    rcases hcase with ⟨hw, hval⟩ | ⟨hw, hval⟩
    · rw [hval]
      clear hval
      go_enter Tryz.func32, Tryz.ntmps32
      go_wp2_with fail
      refine (KS.out _ ((Below.refl _ _).alloc (Nat.le_refl _) _)).mono ?_
      rintro e w1 ⟨rfl, hb1⟩
      have B1 := Lib.hid (((Below.refl w.heap.size w).alloc (Nat.le_refl _) (.cells #[.int .i64 22, .int .i64 wd, .int .i64 n, .string nm, .slice q m c] 64)).trans (hb1.mono (by simp)))
      obtain ⟨x0, x1, x2, x3, x4⟩ := (cell5_alloc w 64 _ _ _ _ _).below hb1
      have hc := HC.out w1 B1.out
      have c1 : w1.cell? ⟨b, o + p * 3 + 1, none⟩ = some (.int .i64 r.f1) := hc 1 _ rfl
      have c2 : w1.cell? ⟨b, o + p * 3 + 2, none⟩ = some (.int .i64 r.f2) := hc 2 _ rfl
      clear hb1 hc
      go_wp2
      go_quiet (fail)
      go_wp2
      go_ret2
      exact ⟨rfl, below_drewN B1.out _⟩
    · rw [hval]
      have hwb : (r.f1 == wd) = false := by simpa using hw
      clear hval
      go_enter Tryz.func32, Tryz.ntmps32
      go_wp2_with fail
      refine (KS.out _ ((Below.refl _ _).alloc (Nat.le_refl _) _)).mono ?_
      rintro e w1 ⟨rfl, hb1⟩
      have B1 := Lib.hid (((Below.refl w.heap.size w).alloc (Nat.le_refl _) (.cells #[.int .i64 22, .int .i64 wd, .int .i64 n, .string nm, .slice q m c] 64)).trans (hb1.mono (by simp)))
      obtain ⟨x0, x1, x2, x3, x4⟩ := (cell5_alloc w 64 _ _ _ _ _).below hb1
      have hc := HC.out w1 B1.out
      have c1 : w1.cell? ⟨b, o + p * 3 + 1, none⟩ = some (.int .i64 r.f1) := hc 1 _ rfl
      have c2 : w1.cell? ⟨b, o + p * 3 + 2, none⟩ = some (.int .i64 r.f2) := hc 2 _ rfl
      clear hb1 hc
      go_wp2
      go_quiet (fail)
      go_wp2
      go_ret2
      exact ⟨rfl, below_drewN B1.out _⟩
set_option maxRecDepth 100000 in
set_option maxHeartbeats 4000000 in
theorem i_eval_loop (V : List ValueR) (hV : VlOk V) (F : Fo) (hF : F.AllK (EvC V)) : EvC V F := by
  intro op wd n nm s v w his hv hfit hall hn
  have sl : ∃ q m c, s = .slice q m c := by obtain ⟨_, ⟨_, q, cap, rfl, _⟩, _⟩ := his; exact ⟨_, _, _, rfl⟩
  by_cases h0 : op = 0
  · subst h0
    exact i_eval_const V F wd n nm s v w sl (by obtain ⟨_, q, cap, rfl, _⟩ := hv; exact ⟨_, _, _, rfl⟩)
  by_cases h22 : op = 22
  · subst h22
    exact i_eval_var V hV F wd n nm s v w sl hv
  obtain ⟨hp, hl3⟩ := arity_le hfit h0 h22 hall
  rw [ev_op h0 h22]
  have HIS := Lib.hid his
  have HV := Lib.hid hv
  rcases Fo.is_cases his with ⟨h, _⟩ | ⟨_, b, o, cap, ys, rfl, _, _, _, hbl, hvs, hr⟩
  · omega
  obtain ⟨_, qv, cv, rfl, _⟩ := hv
  have HI := Lib.hid (fun j (hj : j < F.len) => Fo.nth F hvs hr j hj)
  have HK := Lib.hid hF
  have HAL := Lib.hid (fun j op wd n nm k (h : F.At j op wd n nm k) => all_node F j h hall)
  have HNX := Lib.hid (fun j op wd n nm k xs (h : F.At j op wd n nm k) (hx : (F.take j).evs V = some xs) => evs_next h hx)
  have HLN := Lib.hid (fun j xs (hj : j ≤ F.len) (hx : (F.take j).evs V = some xs) => (evs_len V _ xs hx).trans (Fo.len_take F j hj))
  have HTA := Lib.hid F.take_all
  have HTZ := Lib.hid F.take_zero
  have HAP := Lib.hid (fun (W : World) (hb : Below w.heap.size w W) xs a0 a1 a2 bw (hx : F.evs V = some xs) (hbw : bw < W.heap.size) d0 d1 d2 (hp : Pre3 xs a0 a1 a2) => i_apply (HIS.out.below hb) hfit h0 h22 hall (evs_w hV F xs hall hx) hbw d0 d1 d2 hp)
  have HND := Lib.hid (fun j op wd n nm k (h : F.At j op wd n nm k) => (Fo.at_nodes F j h).2)
  have e0 : ((op : Int) == 0) = false := by simpa using h0
  have e22 : ((op : Int) == 22) = false := by simpa using h22
  clear hF his hvs hr hfit hall sl h0 h22
  go_enter Tryz.func32, Tryz.ntmps32
  go_wp2
  have hab : Below w.heap.size w ((w.alloc (.cells #[.int .i64 op, .int .i64 wd, .int .i64 n, .string nm, .slice (some ⟨b, o, none⟩) F.len cap] 64)).alloc (.cells #[.int .i64 0, .int .i64 0, .int .i64 0] 89)) := ((Below.refl _ _).alloc (Nat.le_refl _) _).alloc (by simp) _
  have HW0 := Lib.hid hab
  have HX0 := Lib.hid ((cell5_alloc w 64 (.int .i64 op) (.int .i64 wd) (.int .i64 n) (.string nm) (.slice (some ⟨b, o, none⟩) F.len cap)).below ((Below.refl _ _).alloc (Nat.le_refl _) (.cells #[.int .i64 0, .int .i64 0, .int .i64 0] 89)))
  have HR0 := Lib.hid (heap_alloc_new (w.alloc (.cells #[.int .i64 op, .int .i64 wd, .int .i64 n, .string nm, .slice (some ⟨b, o, none⟩) F.len cap] 64)) (.cells #[.int .i64 0, .int .i64 0, .int .i64 0] 89))
  have hwz : (w.alloc (.cells #[.int .i64 op, .int .i64 wd, .int .i64 n, .string nm, .slice (some ⟨b, o, none⟩) F.len cap] 64)).heap.size = w.heap.size + 1 := by simp
  rw [hwz] at HR0
  clear hab hwz
  go_loopw [48] (fun i wr => ∃ (j : Nat) (a0 a1 a2 : Int) (xs : List Int), j ≤ F.len ∧ i = .int .i64 j ∧ (F.take j).evs V = some xs ∧ Pre3 xs a0 a1 a2 ∧ wr.heap[w.heap.size + 1]? = some (.cells #[.int .i64 a0, .int .i64 a1, .int .i64 a2] 89 (0, 0)) ∧ Below w.heap.size w wr ∧ Cell5 wr w.heap.size (.int .i64 op) (.int .i64 wd) (.int .i64 n) (.string nm) (.slice (some ⟨b, o, none⟩) F.len cap)) (fun i _ => F.len - (intOf i).toNat)
  case atStart => exact ⟨0, 0, 0, 0, [], Nat.zero_le _, rfl, by rw [HTZ.out]; rfl, ⟨fun x h => by simp at h, fun x h => by simp at h, fun x h => by simp at h⟩, HR0.out, HW0.out, HX0.out⟩
  case round =>
    obtain ⟨j, a0, a1, a2, xs, hj, rfl, hxs, hpre, hrow, hb, hx⟩ := hrel
    have HXS := Lib.hid hxs
    have HPR := Lib.hid hpre
    have HROW := Lib.hid hrow
    have HB := Lib.hid hb
    have HX := Lib.hid hx
    have hxl := HLN.out j xs hj hxs
    have hbs : w.heap.size + 1 < wr.heap.size := by
      have := (Array.getElem?_eq_some_iff.1 hrow).1
      exact this
    clear hxs hpre hrow hb hx
    by_cases hjn : j < F.len
    · obtain ⟨op', wd', n', nm', k, u, hat, his, hrr⟩ := HI.out j hjn
      have hk := Fo.at_allK F j hat HK.out
      obtain ⟨hf1, hf2⟩ := HAL.out _ _ _ _ _ _ hat
      have hnd := HND.out _ _ _ _ _ _ hat
      have HE := Lib.hid (HNX.out _ _ _ _ _ _ _ hat HXS.out)
      have hrr := rangeAt_below HB.out hrr
      have HISK := Lib.hid his
      obtain ⟨_, ⟨_, q', cap', rfl, _⟩, _⟩ := his
      have c0 : wr.cell? ⟨b, o + j * 5, none⟩ = some (.int .i64 op') := hrr 0 _ rfl
      have c1 : wr.cell? ⟨b, o + j * 5 + 1, none⟩ = some (.int .i64 wd') := hrr 1 _ rfl
      have c2 : wr.cell? ⟨b, o + j * 5 + 2, none⟩ = some (.int .i64 n') := hrr 2 _ rfl
      have c3 : wr.cell? ⟨b, o + j * 5 + 3, none⟩ = some (.string nm') := hrr 3 _ rfl
      have c4 : wr.cell? ⟨b, o + j * 5 + 4, none⟩ = some (.slice q' k.len cap') := hrr 4 _ rfl
      have SO := Lib.hid (fun W (hW : Below w.heap.size w W) => hk op' wd' n' nm' _ _ W (HISK.out.below hW) (HV.out.below hW) hf1 hf2 (by omega))
      have hbw : b < wr.heap.size := Nat.lt_of_lt_of_le hbl HB.out.size
      have hsz := HB.out.size
      have hki : (j : Int) < (F.len : Int) := by omega
      have HBA := Lib.hid (HB.out.alloc hsz (.cells #[.int .i64 op', .int .i64 wd', .int .i64 n', .string nm', .slice q' k.len cap'] 64))
      clear hrr hat hk hf1 hf2
      cases hev : evOne V op' wd' n' nm' k with
      | none =>
        rw [hev] at SO
        have HN := Lib.hid (HE.out.2 hev)
        have hr0 : evV none = .tuple #[.int .i64 0, .bool false] := rfl
        rw [hr0] at SO
        clear hev hr0
        go_wp2_with fail
        refine (SO.out _ HBA.out).mono ?_
        rintro e w1 ⟨rfl, hb1⟩
        have HB1 := Lib.hid (HBA.out.trans (hb1.mono (by simp; omega)))
        clear hb1
        go_wp2
        go_ret2
        exact ⟨by rw [HN.out] <;> rfl, HB1.out⟩
      | some x =>
        rw [hev] at SO
        have HN := Lib.hid (HE.out.1 x hev)
        have HP2 := Lib.hid (pre_snoc (x := x) HPR.out (by omega))
        rw [hxl] at HP2
        have hr0 : evV (some x) = .tuple #[.int .i64 x, .bool true] := rfl
        rw [hr0] at SO
        clear hev hr0
        go_wp2_with fail
        refine (SO.out _ HBA.out).mono ?_
        rintro e w1 ⟨rfl, hb1⟩
        have HB1 := Lib.hid (HBA.out.trans (hb1.mono (by simp; omega)))
        have hb2 : Below wr.heap.size wr w1 := ((Below.refl _ _).alloc (Nat.le_refl _) (.cells #[.int .i64 op', .int .i64 wd', .int .i64 n', .string nm', .slice q' k.len cap'] 64)).trans (hb1.mono (by simp))
        have hrow : w1.heap[w.heap.size + 1]? = some (.cells #[.int .i64 a0, .int .i64 a1, .int .i64 a2] 89 (0, 0)) := by rw [hb2.block _ hbs]; exact HROW.out
        have HROW1 := Lib.hid hrow
        have HX1 := Lib.hid (HX.out.below hb2)
        have y0 : w1.cell? ⟨w.heap.size + 1, 0, none⟩ = some (.int .i64 a0) := cell_of_row w1 _ 0 _ _ _ hrow
        have y1 : w1.cell? ⟨w.heap.size + 1, 1, none⟩ = some (.int .i64 a1) := cell_of_row w1 _ 1 _ _ _ hrow
        have y2 : w1.cell? ⟨w.heap.size + 1, 2, none⟩ = some (.int .i64 a2) := cell_of_row w1 _ 2 _ _ _ hrow
        have z0 := frozen_of_row w1 (w.heap.size + 1) 0 _ _ hrow
        have z1 := frozen_of_row w1 (w.heap.size + 1) 1 _ _ hrow
        have z2 := frozen_of_row w1 (w.heap.size + 1) 2 _ _ hrow
        have HK5 := Lib.hid (fun (p : Nat) (u : Value) => show Cell5 (w1.setCell ⟨w.heap.size + 1, p, none⟩ u) w.heap.size (.int .i64 op) (.int .i64 wd) (.int .i64 n) (.string nm) (.slice (some ⟨b, o, none⟩) F.len cap) from by
          have hs : Below (w.heap.size + 1) w1 (w1.setCell ⟨w.heap.size + 1, p, none⟩ u) := (Below.refl (w.heap.size + 1) w1).setCell (p := ⟨w.heap.size + 1, p, none⟩) (Nat.le_refl _) _
          obtain ⟨h0, h1, h2, h3, h4⟩ := HX1.out
          exact ⟨(hs.cell (p := ⟨w.heap.size, 0, none⟩) (Nat.lt_succ_self _)).trans h0, (hs.cell (p := ⟨w.heap.size, 1, none⟩) (Nat.lt_succ_self _)).trans h1, (hs.cell (p := ⟨w.heap.size, 2, none⟩) (Nat.lt_succ_self _)).trans h2, (hs.cell (p := ⟨w.heap.size, 3, none⟩) (Nat.lt_succ_self _)).trans h3, (hs.cell (p := ⟨w.heap.size, 4, none⟩) (Nat.lt_succ_self _)).trans h4⟩)
        clear hb1 hb2 hrow c0 c1 c2 c3 c4
        rcases (show j = 0 ∨ j = 1 ∨ j = 2 by omega) with rfl | rfl | rfl
        · go_wp2
          go_roundw
          case rel => exact ⟨1, x, a1, a2, xs ++ [x], by omega, by go_num, HN.out, HP2.out, heap_setCell_same w1 _ 0 _ _ _ HROW1.out, HB1.out.setCell (Nat.le_succ _) _, HK5.out _ _⟩
          case measure => simp [intOf]; omega
        · go_wp2
          go_roundw
          case rel => exact ⟨2, a0, x, a2, xs ++ [x], by omega, by go_num, HN.out, HP2.out, heap_setCell_same w1 _ 1 _ _ _ HROW1.out, HB1.out.setCell (Nat.le_succ _) _, HK5.out _ _⟩
          case measure => simp [intOf]; omega
        · go_wp2
          go_roundw
          case rel => exact ⟨3, a0, a1, x, xs ++ [x], by omega, by go_num, HN.out, HP2.out, heap_setCell_same w1 _ 2 _ _ _ HROW1.out, HB1.out.setCell (Nat.le_succ _) _, HK5.out _ _⟩
          case measure => simp [intOf]; omega
    · have hnj : ¬ ((j : Int) < (F.len : Int)) := by omega
      have ej : j = F.len := by omega
      have HXA := Lib.hid (show F.evs V = some xs by have h := HXS.out; rw [ej, HTA.out] at h; exact h)
      obtain ⟨x0, x1, x2, x3, x4⟩ := HX.out
      have hrow := HROW.out
      have y0 : wr.cell? ⟨w.heap.size + 1, 0, none⟩ = some (.int .i64 a0) := cell_of_row wr _ 0 _ _ _ hrow
      have y1 : wr.cell? ⟨w.heap.size + 1, 1, none⟩ = some (.int .i64 a1) := cell_of_row wr _ 1 _ _ _ hrow
      have y2 : wr.cell? ⟨w.heap.size + 1, 2, none⟩ = some (.int .i64 a2) := cell_of_row wr _ 2 _ _ _ hrow
      have KA := Lib.hid (HAP.out wr.drew HB.out.drew xs a0 a1 a2 (w.heap.size + 1) HXA.out hbs y0 y1 y2 HPR.out)
      clear hrow y0 y1 y2 hxl
      go_wp2
      go_still_tail 2, (by kernel_rfl)
      go_wp2_with (go_at_call 52; refine (KA.out).mono ?_; rintro e w1 ⟨rfl, hb1⟩)
      go_ret2
      exact ⟨by rw [HXA.out] <;> rfl, HB.out.drew.trans (hb1.mono HB.out.drew.size)⟩
theorem i_eval_any (V : List ValueR) (hV : VlOk V) : ∀ F : Fo, EvC V F := Fo.every (i_eval_loop V hV)
end Go.Proofs.YthmababifgaejaaGreatDoor
