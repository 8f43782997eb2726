/- What the program's CoverOf returns. No condition. What the program's allInputsOk returns. No condition. -/
import Derived.Test.YthmababifgaejaaGreatCmGRcL
import Derived.Test.YthmababifgaejaaGreatCmGRnT
import Derived.Test.YthmababifgaejaaGreatCmGSoC
import Derived.Test.YthmababifgaejaaGreatCmGBit
import Derived.Test.YthmababifgaejaaGreatCmGReg
import Derived.Test.YthmababifgaejaaGreatCmGIntSSb
import Derived.Test.YthmababifgaejaaGreatCmGInI
namespace Go.Proofs.YthmababifgaejaaGreat
open Go.ChangeShapes Go.WideShapes Go.ChangeAt Go.RowKit
/-- a branch changes no register -/
theorem step_R {vw vm vi : Int} {L : List InsR} {I : List Int} {x : StR} (h : begunB L.length x = true) (h2 : (insV L x).f0 = 10) : (stepV vw vm vi L I x).R = x.R := by
  have hb : x.cd = 0 ∧ ¬ x.st = 400 ∧ ¬ x.pc = (L.length : Int) := of_decide_eq_true h
  unfold insV at h2
  unfold stepV
  rw [if_neg (by rintro (h | h); exact h hb.1; exact hb.2.1 h), if_neg hb.2.2]
  generalize L.getD x.pc.toNat ⟨0, 0, 0, 0⟩ = r at *
  obtain ⟨op, a, b, c⟩ := r
  simp only at h2
  subst h2
  rfl
/-- the edges that the function value writes, and the program that it reads -/
def CvAt (vw vm vi : Int) (L : List InsR) (I : List Int) (q : Option Addr) (cap pb g base : Nat) (W : World) (B : List Nat) (j : Nat) : Prop := ∃ B1, B = pb :: B1 ∧ TrAt (cvN vw vm vi L I) g base W B1 j ∧ W.heap[pb]? = some (.cells #[.int .i64 vw, .int .i64 vm, .int .i64 vi, .slice q L.length cap] 32 (0, 0)) ∧ base ≤ pb
set_option maxRecDepth 100000 in
set_option maxHeartbeats 8000000 in
theorem i_tell2 (vw vm vi : Int) (L : List InsR) (I : List Int) (q : Option Addr) (cap pb g base : Nat) (B : List Nat) (j : Nat) (x y : StR) (rq : Option Addr) (rc : Nat) (mq : Option Addr) (mc : Nat) (sq : Option Addr) (sc : Nat) (oq : Option Addr) (oc b9 : Nat) (wa w : World) (hba : Below wa.heap.size wa w) (hsl : Cs.Shows wa 0 4 (.slice q L.length cap) L.length (InsR.all L)) (h : CvAt vw vm vi L I q cap pb g base w B j) (hbase : base ≤ w.heap.size) (hin : inB vw vm vi L I = true) (hx : stN vw vm vi L I j = x) (hbg : begunB L.length x = true) (hy : stepV vw vm vi L I x = y) (hj : j < 400) (ho9 : StO w b9 y (.slice rq y.R.length rc) (.slice mq y.M.length mc) (.slice sq y.S.length sc) (.slice oq y.O.length oc)) (hdj : ∀ k ∈ B, k ∉ StB (.slice rq y.R.length rc) (.slice mq y.M.length mc) (.slice sq y.S.length sc) (.slice oq y.O.length oc)) :
    Calls Tryz.prog 39 #[.int .i64 x.pc, .agg #[.int .i64 y.pc, .slice rq y.R.length rc, .slice mq y.M.length mc, .slice sq y.S.length sc, .int .i64 y.inn, .slice oq y.O.length oc, .int .i64 y.cd, .int .i64 y.st], .pointer (some ⟨pb, 0, none⟩), .pointer (some ⟨g, 0, none⟩)] w fun e w' => e = .returned (.tuple #[]) ∧ Apart B w w' ∧ ∃ B', CvAt vw vm vi L I q cap pb g base w' B' (j + 1) ∧ ∀ k ∈ B', k ∈ B ∨ w.heap.size ≤ k := by
  have hml : maxLen = 9223372036854775807 := rfl
  obtain ⟨i9, hi9, hz9, hzs9, hzb9⟩ := info_parts zero_Int
  obtain ⟨B1, rfl, ⟨v, rfl, hg, hb, ho⟩, hpr, hpb⟩ := h
  obtain ⟨tq, tc, rfl⟩ := own_slc ho
  have HYE := Lib.hid hy
  have hGx := gd_N hin j
  have hGy := gd_N hin (j + 1)
  have hsN : stN vw vm vi L I (j + 1) = y := by rw [← hy, ← hx]; rfl
  rw [hx] at hGx
  rw [hsN] at hGy
  have hbb : x.cd = 0 ∧ ¬ x.st = 400 ∧ ¬ x.pc = (L.length : Int) := of_decide_eq_true hbg
  have hp0 := hGx.pc
  obtain ⟨kp, hkp⟩ : ∃ k : Nat, x.pc = k := ⟨x.pc.toNat, by omega⟩
  have hkpl : kp < L.length := by have := hbb.2.2; omega
  obtain ⟨⟨-, -, -, -, -, -, -, hl1, hl40⟩, hins⟩ := pr_in (in_of hin).1
  have hij := hins kp hkpl
  have hINV : insV L x = L[kp] := by unfold insV; rw [hkp, Int.toNat_natCast, List.getD_eq_getElem?_getD, List.getElem?_eq_getElem hkpl]; rfl
  have HCY := Lib.hid (fun h2 => cvN_yes (vw := vw) (vm := vm) (vi := vi) (I := I) hx hbg h2)
  have HCN := Lib.hid (fun h2 : ¬ (insV L x).f0 = 10 => cvN_no (vw := vw) (vm := vm) (vi := vi) (I := I) hx (fun h => h2 h.2))
  have HSR := Lib.hid (fun h2 => step_R (vw := vw) (vm := vm) (vi := vi) (I := I) hbg h2)
  have HED := Lib.hid (show edV L x = 2 * (kp : Int) + (if atI x.R (insV L x).f1 = 0 then 1 else 0) by unfold edV; rw [hkp])
  rw [hINV] at HCY HCN HSR HED
  have hcl := cvN_len (vw := vw) (vm := vm) (vi := vi) (L := L) (I := I) j
  obtain ⟨bb, ob, hq, hbbl, c0, c1, c2, c3⟩ : ∃ b o, q = some ⟨b, o, none⟩ ∧ b < wa.heap.size ∧ wa.cell? ⟨b, o + kp * 4, none⟩ = some (.int .i64 L[kp].f0) ∧ wa.cell? ⟨b, o + kp * 4 + 1, none⟩ = some (.int .i64 L[kp].f1) ∧ wa.cell? ⟨b, o + kp * 4 + 2, none⟩ = some (.int .i64 L[kp].f2) ∧ wa.cell? ⟨b, o + kp * 4 + 3, none⟩ = some (.int .i64 L[kp].f3) := by
    rcases Cs.shows_cases hsl with ⟨h0, _⟩ | ⟨_, b, o, c, hq, _, _, hbl, hr⟩
    · omega
    · injection hq with e1 e2 e3
      have hh := flat_nth InsR.cells 4 (fun _ => rfl) L kp hkpl hr
      exact ⟨b, o, e1, hbl, hh 0 _ rfl, hh 1 _ rfl, hh 2 _ rfl, hh 3 _ rfl⟩
  subst hq
  have HR4 := Lib.hid hGy.hR
  have HRY := Lib.hid ho9.1
  rw [hkp]
  generalize L[kp] = gI at *
  obtain ⟨op, a, b, c⟩ := gI
  simp only at c0 c1 c2 c3
  obtain ⟨w0, hw0⟩ : ∃ w0, w0 = w.alloc (.cells #[.int .i64 y.pc, .slice rq y.R.length rc, .slice mq y.M.length mc, .slice sq y.S.length sc, .int .i64 y.inn, .slice oq y.O.length oc, .int .i64 y.cd, .int .i64 y.st] 52) := ⟨_, rfl⟩
  have hb0 : Below w.heap.size w w0 := by rw [hw0]; exact (Below.refl _ _).alloc (Nat.le_refl _) _
  obtain ⟨bs, hbs⟩ : ∃ g, g = w.heap.size := ⟨_, rfl⟩
  have SR0 := Lib.hid (show w0.heap[bs]? = some (.cells #[.int .i64 y.pc, .slice rq y.R.length rc, .slice mq y.M.length mc, .slice sq y.S.length sc, .int .i64 y.inn, .slice oq y.O.length oc, .int .i64 y.cd, .int .i64 y.st] 52 (0, 0)) by rw [hw0, hbs]; exact heap_alloc_new _ _)
  obtain ⟨w1, hw1⟩ : ∃ W, W = w0.alloc (.cells #[.int .i64 op, .int .i64 a, .int .i64 b, .int .i64 c] 55) := ⟨_, rfl⟩
  have hb1 : Below w0.heap.size w0 w1 := by rw [hw1]; exact (Below.refl _ _).alloc (Nat.le_refl _) _
  obtain ⟨bi, hbi⟩ : ∃ g, g = w0.heap.size := ⟨_, rfl⟩
  have YI1 := Lib.hid (show w1.heap[bi]? = some (.cells #[.int .i64 op, .int .i64 a, .int .i64 b, .int .i64 c] 55 (0, 0)) by rw [hw1, hbi]; exact heap_alloc_new _ _)
  have hb01 : Below w.heap.size w w1 := hb0.trans (hb1.mono hb0.size)
  have SR1 := Lib.hid ((hb1.block bs (row_lt SR0.out)).trans SR0.out)
  have HG1 := Lib.hid ((hb01.block g (row_lt hg)).trans hg)
  have HP1 := Lib.hid ((hb01.block pb (row_lt hpr)).trans hpr)
  have HO1 := Lib.hid (own_keep ho hb01)
  have HR1 := Lib.hid (own_keep HRY.out hb01)
  have HB1 := Lib.hid hb01
  have hs1 := hb01.size
  have hP0 : w0.heap[pb]? = some (.cells #[.int .i64 vw, .int .i64 vm, .int .i64 vi, .slice (some ⟨bb, ob, none⟩) L.length cap] 32 (0, 0)) := (hb0.block pb (row_lt hpr)).trans hpr
  obtain ⟨x0, x1, x2, x3⟩ := cell4_row hP0
  have hbw := hba.trans (hb0.mono hba.size)
  replace c0 := (hbw.cell (p := ⟨bb, ob + kp * 4, none⟩) hbbl).trans c0
  replace c1 := (hbw.cell (p := ⟨bb, ob + kp * 4 + 1, none⟩) hbbl).trans c1
  replace c2 := (hbw.cell (p := ⟨bb, ob + kp * 4 + 2, none⟩) hbbl).trans c2
  replace c3 := (hbw.cell (p := ⟨bb, ob + kp * 4 + 3, none⟩) hbbl).trans c3
  have hkpi : (kp : Int) < (L.length : Int) := by omega
  have hbb0 : bb < w0.heap.size := by have := hbw.size; omega
  clear hg ho hpr hb0 hb1 hb01 hP0 hbw hsl hba hin hy hx
  rw [hw0] at x0 x1 x2 x3 c0 c1 c2 c3
  go_enter Tryz.func39, Tryz.ntmps39
  go_upto_region 1 with fail
  rw [← hw0]
  rw [← hw0] at x0 x1 x2 x3
  rw [← hw0] at c0 c1 c2 c3
  rw [← hbs]
  clear hw0 hbs
  go_upto_region 2 with fail
  rw [← hw1, ← hbi]
  clear x0 x1 x2 x3 c0 c1 c2 c3 hw1 hbi
  obtain ⟨y0, y1, y2, y3⟩ := cell4_row YI1.out
  by_cases h10 : op = 10
  case neg =>
    have e0 : (op == 10) = false := by simpa using h10
    have HZ := Lib.hid (HCN.out h10)
    clear HCY HCN
    go_wp2
    refine bodyPost_end (v := .tuple #[]) (by simp [results, Tryz.results39, go_sem]) rfl ?_
    exact ⟨rfl, Apart.of_below HB1.out, _, ⟨_, rfl, ⟨_, rfl, HG1.out, hb, by rw [HZ.out]; exact HO1.out⟩, HP1.out, hpb⟩, fun k hk => by left; simpa using hk⟩
  case pos =>
    subst h10
    have e0 : ((10 : Int) == 10) = true := rfl
    have HZ := Lib.hid (HCY.out rfl)
    have HRX := Lib.hid (HSR.out rfl)
    have hregs : opB 1 a vw L.length = true := (ins_parts hij).2.1
    obtain ⟨ka, hka⟩ : ∃ k : Nat, a = k := ⟨a.toNat, by have := reg_of hregs; omega⟩
    have hka4 : ka < y.R.length := by have := reg_of hregs; have := HR4.out; omega
    subst hka
    have HAT := Lib.hid (show atI x.R (ka : Int) = y.R[ka] by rw [← HRX.out, HYE.out]; exact atI_nat y.R ka hka4)
    obtain ⟨gr, rc', hv, hgb, hgl⟩ := own_frm HR1.out (by have := HR4.out; omega)
    injection hv with e1 _ e3
    subst e1
    subst e3
    have CR1 := Lib.hid (show w1.cell? ⟨gr, ka, none⟩ = some (.int .i64 y.R[ka]) by rw [HR1.out.cellAt ka (by omega), IntL.all_map, List.getElem?_map, List.getElem?_eq_getElem hka4]; rfl)
    generalize y.R[ka] = zr at *
    obtain ⟨bz, hbz⟩ : ∃ bz : Int, (if (zr == 0) = true then 1 else 0) = bz := ⟨_, rfl⟩
    have hbz01 : bz = 0 ∨ bz = 1 := by rw [← hbz]; split; exact .inr rfl; exact .inl rfl
    have HBZ := Lib.hid hbz
    have HE2 := Lib.hid (show edV L x = 2 * (kp : Int) + bz by rw [HED.out, HAT.out, ← hbz]; by_cases h : zr = 0 <;> simp [h])
    have hkai : (ka : Int) < (y.R.length : Int) := by omega
    have hgrl : gr < w1.heap.size := hgl
    have hbsl : bs < w1.heap.size := row_lt SR1.out
    have hbil : bi < w1.heap.size := row_lt YI1.out
    have hggl : g < w1.heap.size := row_lt HG1.out
    clear hregs hij hbz HCY HCN HSR
    go_upto_region 3 with fail
    clear y0 y1 y2 y3
    have HCW : Hid ((fun V : World => V.heap[g]? = some (.cells #[.slice tq (cvN vw vm vi L I j).length tc] 28 (0, 0)) ∧ V.heap[bs]? = some (.cells #[.int .i64 y.pc, .slice (some ⟨gr, 0, none⟩) y.R.length rc, .slice mq y.M.length mc, .slice sq y.S.length sc, .int .i64 y.inn, .slice oq y.O.length oc, .int .i64 y.cd, .int .i64 y.st] 52 (0, 0)) ∧ V.heap[bi]? = some (.cells #[.int .i64 10, .int .i64 (ka : Int), .int .i64 b, .int .i64 c] 55 (0, 0)) ∧ V.cell? ⟨gr, ka, none⟩ = some (.int .i64 zr)) w1.drew) := Lib.hid ⟨HG1.out, SR1.out, YI1.out, CR1.out⟩
    refine region_s [14] (fun V => V.heap[g]? = some (.cells #[.slice tq (cvN vw vm vi L I j).length tc] 28 (0, 0)) ∧ V.heap[bs]? = some (.cells #[.int .i64 y.pc, .slice (some ⟨gr, 0, none⟩) y.R.length rc, .slice mq y.M.length mc, .slice sq y.S.length sc, .int .i64 y.inn, .slice oq y.O.length oc, .int .i64 y.cd, .int .i64 y.st] 52 (0, 0)) ∧ V.heap[bi]? = some (.cells #[.int .i64 10, .int .i64 (ka : Int), .int .i64 b, .int .i64 c] 55 (0, 0)) ∧ V.cell? ⟨gr, ka, none⟩ = some (.int .i64 zr)) (by kernel_rfl) ?_
    refine take_s (i := 0) (v := .slice tq (cvN vw vm vi L I j).length tc) rfl (by kernel_rfl) (fun _ _ _ h => h) HCW.out rfl (fun W hW => ?_) ?_
    · have cg := cell_of_row W g 0 _ _ _ hW.1; go_simp
      all_goals (first | rfl | (rw [IntWalk.i64_in _ (by omega)]; done) | exact IntWalk.i64_in _ (by omega) | omega | (simp; omega))
    refine take_s (i := 1) (v := .int .i64 (kp : Int)) rfl (by kernel_rfl) (fun _ _ _ h => h) HCW.out rfl (fun W hW => ?_) ?_
    · go_simp
      all_goals (first | rfl | (rw [IntWalk.i64_in _ (by omega)]; done) | exact IntWalk.i64_in _ (by omega) | omega | (simp; omega))
    refine take_s (i := 2) (v := .int .i64 (2 * (kp : Int))) rfl (by kernel_rfl) (fun _ _ _ h => h) HCW.out rfl (fun W hW => ?_) ?_
    · go_simp
      all_goals (first | rfl | (rw [IntWalk.i64_in _ (by omega)]; done) | exact IntWalk.i64_in _ (by omega) | omega | (simp; omega))
    refine take_s (i := 3) (v := .pointer (some ⟨bs, 1, none⟩)) rfl (by kernel_rfl) (fun _ _ _ h => h) HCW.out rfl (fun W hW => ?_) ?_
    · go_simp
      all_goals (first | rfl | (rw [IntWalk.i64_in _ (by omega)]; done) | exact IntWalk.i64_in _ (by omega) | omega | (simp; omega))
    refine take_s (i := 4) (v := .slice (some ⟨gr, 0, none⟩) y.R.length rc) rfl (by kernel_rfl) (fun _ _ _ h => h) HCW.out rfl (fun W hW => ?_) ?_
    · obtain ⟨d0, d1, d2, d3, d4, d5, d6, d7⟩ := cell8_row hW.2.1; go_simp
      all_goals (first | rfl | (rw [IntWalk.i64_in _ (by omega)]; done) | exact IntWalk.i64_in _ (by omega) | omega | (simp; omega))
    refine take_s (i := 5) (v := .pointer (some ⟨bi, 1, none⟩)) rfl (by kernel_rfl) (fun _ _ _ h => h) HCW.out rfl (fun W hW => ?_) ?_
    · go_simp
      all_goals (first | rfl | (rw [IntWalk.i64_in _ (by omega)]; done) | exact IntWalk.i64_in _ (by omega) | omega | (simp; omega))
    refine take_s (i := 6) (v := .int .i64 (ka : Int)) rfl (by kernel_rfl) (fun _ _ _ h => h) HCW.out rfl (fun W hW => ?_) ?_
    · obtain ⟨y0, y1, y2, y3⟩ := cell4_row hW.2.2.1; go_simp
      all_goals (first | rfl | (rw [IntWalk.i64_in _ (by omega)]; done) | exact IntWalk.i64_in _ (by omega) | omega | (simp; omega))
    refine take_s (i := 7) (v := .pointer (some ⟨gr, ka, none⟩)) rfl (by kernel_rfl) (fun _ _ _ h => h) HCW.out rfl (fun W hW => ?_) ?_
    · go_simp
      all_goals (first | rfl | (rw [IntWalk.i64_in _ (by omega)]; done) | exact IntWalk.i64_in _ (by omega) | omega | (simp; omega))
    refine take_s (i := 8) (v := .int .i64 zr) rfl (by kernel_rfl) (fun _ _ _ h => h) HCW.out rfl (fun W hW => ?_) ?_
    · have cr := hW.2.2.2; go_simp
      all_goals (first | rfl | (rw [IntWalk.i64_in _ (by omega)]; done) | exact IntWalk.i64_in _ (by omega) | omega | (simp; omega))
    refine take_s (i := 9) (v := .bool (zr == 0)) rfl (by kernel_rfl) (fun _ _ _ h => h) HCW.out rfl (fun W hW => ?_) ?_
    · go_simp
      all_goals (first | rfl | (rw [IntWalk.i64_in _ (by omega)]; done) | exact IntWalk.i64_in _ (by omega) | omega | (simp; omega))
    refine take_sk (i := 10) (v := .int .i64 bz) rfl (by kernel_rfl) (fun _ _ _ h => h) HCW.out rfl (fun W hW => ⟨_, _, ?_, by rw [← HBZ.out]; exact i_bit (zr == 0) W⟩) ?_
    · go_simp
    refine take_s (i := 11) (v := .int .i64 (2 * (kp : Int) + bz)) rfl (by kernel_rfl) (fun _ _ _ h => h) HCW.out rfl (fun W hW => ?_) ?_
    · go_simp
      all_goals (first | rfl | (rw [IntWalk.i64_in _ (by omega)]; done) | exact IntWalk.i64_in _ (by omega) | omega | (simp; omega))
    refine one_s (i := 12) (by kernel_rfl) (op_list rfl ?_)
    go_wp2
    have hbd : Below w1.heap.size w1 w1.drew := (Below.refl _ _).drew
    rw [show (w1.alloc (.cells #[.int .i64 (2 * (kp : Int) + bz)] 3)).drew = w1.drew.alloc (.cells #[.int .i64 (2 * (kp : Int) + bz)] 3) from rfl]
    obtain ⟨w2, hw2⟩ : ∃ W, W = w1.drew := ⟨_, rfl⟩
    rw [← hw2] at hbd ⊢
    have HG2 := Lib.hid ((hbd.block g hggl).trans HG1.out)
    have HP2 := Lib.hid ((hbd.block pb (row_lt HP1.out)).trans HP1.out)
    have HO2 := Lib.hid (own_keep HO1.out hbd)
    have SR2 := Lib.hid ((hbd.block bs hbsl).trans SR1.out)
    have YI2 := Lib.hid ((hbd.block bi hbil).trans YI1.out)
    have CR2 := Lib.hid ((hbd.cell (p := ⟨gr, ka, none⟩) hgrl).trans CR1.out)
    have HB2 := Lib.hid (HB1.out.trans (hbd.mono hs1))
    have hs2 := HB2.out.size
    have hwl := hbd.size
    have HSE := Lib.hid (show w1.heap.size = w2.heap.size by rw [hw2]; rfl)
    clear hbd hw2
    have hal : Below w2.heap.size w2 (w2.alloc (.cells #[.int .i64 (2 * (kp : Int) + bz)] 3)) := (Below.refl _ _).alloc (Nat.le_refl _) _
    have HAL := Lib.hid hal
    clear hal
    refine ⟨fun _ => ⟨(HAL.out.block g (by omega)).trans HG2.out, (HAL.out.block bs (by omega)).trans SR2.out, (HAL.out.block bi (by omega)).trans YI2.out, (HAL.out.cell (p := ⟨gr, ka, none⟩) (by show gr < _; omega)).trans CR2.out⟩, ?_⟩
    refine one_s (i := 13) (by kernel_rfl) (op_list rfl ?_)
    refine wpList_append_own_at _ rfl _ _ 28 rfl base 3 i9 (.int .i64 0) 1 8 Tryz.underlying28 hi9 hz9 hzs9 hzb9 rfl (by decide) (.slice tq (cvN vw vm vi L I j).length tc) (cvN vw vm vi L I j).length _ rfl (own_keep HO2.out ((Below.refl _ _).alloc (Nat.le_refl _) _)) _ 1 1 [.int .i64 (2 * (kp : Int) + bz)] rfl rfl ?c1 ?c2 ?c3 ?c4 ?c5 ?_
    case c1 => rw [HSE.out]; exact cell_one_new _ _ _
    case c2 => intro u hu; simp at hu; subst hu; rfl
    case c3 => omega
    case c4 => omega
    case c5 => simp; omega
    intro v' w3 hown hgrow _ hat
    obtain ⟨nq, nc, rfl⟩ := own_slc hown
    have hgn : g ∉ (Value.slice tq (cvN vw vm vi L I j).length tc).ownBlock.toList := own_off (T := 28) (by decide) HO2.out HG2.out
    have hk : ∀ k, k < w2.heap.size → k ∉ (Value.slice tq (cvN vw vm vi L I j).length tc).ownBlock.toList → w3.heap[k]? = w2.heap[k]? := fun k h1 h2 => (hgrow.block k (by simp; omega) (fun h => h2 (by rw [← h]; simp))).trans (HAL.out.block k h1)
    have hg3 := (hk g (by omega) hgn).trans HG2.out
    have hs3 := (hk bs (by omega) (own_off (T := 52) (by decide) HO2.out SR2.out)).trans SR2.out
    have hi3 := (hk bi (by omega) (own_off (T := 55) (by decide) HO2.out YI2.out)).trans YI2.out
    have hp3 := (hk pb (by have := row_lt HP1.out; omega) (own_off (T := 32) (by decide) HO2.out HP2.out)).trans HP2.out
    have hgrn : gr ∉ (Value.slice tq (cvN vw vm vi L I j).length tc).ownBlock.toList := fun h => hdj gr (List.mem_cons_of_mem _ (List.mem_cons_of_mem _ h)) (by simp [StB, Value.ownBlock])
    have hr3 : w3.cell? ⟨gr, ka, none⟩ = some (.int .i64 zr) := by
      have h := hk gr (by omega) hgrn
      have h2 := CR2.out
      unfold World.cell? at h2 ⊢
      simpa [h] using h2
    obtain ⟨hp1, hp2, hp4⟩ := TrAt.put (V := cvN vw vm vi L I) HG2.out hb HO2.out (by rw [HZ.out, HE2.out]) hown hgrow (by rcases hat with h | h; exact .inl h; exact .inr (by rw [h]; simp))
    have P1 := Lib.hid hp1
    have P2 := Lib.hid hp2
    have P4 := Lib.hid hp4
    have c9 := cell_of_row w3 g 0 _ _ _ hg3
    have f9 := frozen_of_row w3 g 0 _ _ hg3
    have HP3 := Lib.hid hp3
    have hpg : pb ≠ g := fun e => by
      have h1 := HG2.out
      rw [← e, HP2.out] at h1
      injection h1 with h1
      injection h1 with h1 h2
      exact absurd h2 (by decide)
    have HPE := Lib.hid (show (w3.setCell ⟨g, 0, none⟩ (.slice nq ((cvN vw vm vi L I j).length + 1) nc)).heap[pb]? = some (.cells #[.int .i64 vw, .int .i64 vm, .int .i64 vi, .slice (some ⟨bb, ob, none⟩) L.length cap] 32 (0, 0)) from (heap_setCell_other w3 ⟨g, 0, none⟩ pb _ hpg).trans hp3)
    clear hp1 hp2 hp4 hown hgrow hat hk hgn hgrn hp3
    go_wp2
    refine ⟨fun _ => ⟨hg3, hs3, hi3, hr3⟩, ?_⟩
    refine one_s (i := 14) (by kernel_rfl) (op_list rfl ?_)
    go_wp2
    refine ⟨late_s (by kernel_rfl), done_s (by kernel_rfl) ?_ _⟩
    go_wp2
    refine bodyPost_end (v := .tuple #[]) (by simp [results, Tryz.results39, go_sem]) rfl ?_
    exact ⟨rfl, ((Apart.of_below HB2.out).trans P2.out).mono (fun k hk => List.mem_cons_of_mem _ hk), _, ⟨_, rfl, P1.out, HPE.out, hpb⟩, fun k hk => by
      rcases List.mem_cons.1 hk with rfl | hk
      · exact .inl List.mem_cons_self
      · rcases P4.out k hk with h | h
        · exact .inl (List.mem_cons_of_mem _ h)
        · exact .inr (by omega)⟩
theorem told2 (vw vm vi : Int) (L : List InsR) (I : List Int) (q : Option Addr) (cap pb g : Nat) (wa : World) (hs : Cs.Shows wa 0 4 (.slice q L.length cap) L.length (InsR.all L)) : Told (CvAt vw vm vi L I q cap pb g wa.heap.size) 39 #[.pointer (some ⟨pb, 0, none⟩), .pointer (some ⟨g, 0, none⟩)] vw vm vi L I wa where
  lt := fun h k hk => by
    obtain ⟨B1, rfl, h1, h2, h3⟩ := h
    rcases List.mem_cons.1 hk with rfl | hk
    · exact ⟨h3, (Array.getElem?_eq_some_iff.1 h2).1⟩
    · exact h1.lt k hk
  same := fun h hs _ => by
    obtain ⟨B1, rfl, h1, h2, h3⟩ := h
    exact ⟨B1, rfl, h1.same fun k hk => hs k (List.mem_cons_of_mem _ hk), (hs _ List.mem_cons_self).trans h2, h3⟩
  no := fun {W B j} h hb => by
    obtain ⟨B1, rfl, h1, h2, h3⟩ := h
    exact ⟨B1, rfl, h1.next (cvN_no rfl (fun g => by rw [hb] at g; cases g.1)), h2, h3⟩
  yes := fun {W B j} y base rq rc mq mc sq sc oq oc h hb hin h1 h2 h3 ho hd => i_tell2 vw vm vi L I q cap pb g wa.heap.size B j (stN vw vm vi L I j) y rq rc mq mc sq sc oq oc base wa W hb hs h hb.size hin rfl h1 h2 h3 ho hd
theorem ce_eq (vw vm vi : Int) (L : List InsR) (I : List Int) (f : Int) : ceV vw vm vi L I f = cvN vw vm vi L I (rnS vw vm vi L I f) := by
  unfold ceV rnS
  split <;> rfl
set_option maxRecDepth 100000 in
set_option maxHeartbeats 4000000 in
theorem i_coverof (vw vm vi : Int) (L : List InsR) (I : List Int) (f : Int) (sL li : Value) (w : World) (hs : Cs.Shows w 0 4 sL L.length (InsR.all L)) (hls : Cs.Shows w 0 1 li I.length (IntL.all I)) (hok : ∀ r ∈ L, r.Ok) (hL : L.length ≤ maxLen) (hl : I.length ≤ maxLen) :
    Calls Tryz.prog 25 #[.agg #[.int .i64 vw, .int .i64 vm, .int .i64 vi, sL], li, .int .i64 f] w (NxOwn (cvV vw vm vi L I f) w) := by
  have hml : maxLen = 9223372036854775807 := rfl
  obtain ⟨q, cap, hq⟩ : ∃ q cap, sL = .slice q L.length cap := by
    obtain ⟨_, q, cap, h, _⟩ := hs
    exact ⟨q, cap, h⟩
  subst hq
  have KR := Lib.hid (fun W (hb : Below w.heap.size w W) pb g (hp : W.heap[pb]? = some (.cells #[.int .i64 vw, .int .i64 vm, .int .i64 vi, .slice q L.length cap] 32 (0, 0))) (hpw : w.heap.size ≤ pb) (hg : W.heap[g]? = some (.cells #[.slice none 0 0] 28 (0, 0))) (hgw : w.heap.size ≤ g) => i_run (F := 39) (caps := #[.pointer (some ⟨pb, 0, none⟩), .pointer (some ⟨g, 0, none⟩)]) vw vm vi L I f (.slice q L.length cap) li w W (fun _ _ => rfl) (told2 vw vm vi L I q cap pb g w hs) hb [pb, g] ⟨[g], rfl, ⟨.slice none 0 0, by simp [Value.ownBlock], hg, hgw, World.ownsRow_nil _ _ _ _⟩, hp, hpw⟩ hs hls hok hL hl)
  obtain ⟨_, iq, ic, rfl, _⟩ := hls
  obtain ⟨w0, hw0⟩ : ∃ w0, w0 = (w.alloc (.cells #[.int .i64 vw, .int .i64 vm, .int .i64 vi, .slice q L.length cap] 32)).alloc (.cells #[.slice none 0 0] 28) := ⟨_, rfl⟩
  have HB0 := Lib.hid (show Below w.heap.size w w0 by rw [hw0]; exact ((Below.refl _ _).alloc (Nat.le_refl _) _).alloc (by simp) _)
  have XR0 := Lib.hid (show w0.heap[w.heap.size]? = some (.cells #[.int .i64 vw, .int .i64 vm, .int .i64 vi, .slice q L.length cap] 32 (0, 0)) by rw [hw0, heap_alloc_old _ _ (by simp)]; exact heap_alloc_new _ _)
  have TR0 := Lib.hid (show w0.heap[w.heap.size + 1]? = some (.cells #[.slice none 0 0] 28 (0, 0)) by rw [hw0, ← show (w.alloc (.cells #[.int .i64 vw, .int .i64 vm, .int .i64 vi, .slice q L.length cap] 32)).heap.size = w.heap.size + 1 by simp]; exact heap_alloc_new _ _)
  have KX := Lib.hid (KR.out w0 HB0.out w.heap.size (w.heap.size + 1) XR0.out (Nat.le_refl _) TR0.out (Nat.le_succ _))
  clear KR
  obtain ⟨x0, x1, x2, x3⟩ := cell4_row XR0.out
  rw [hw0] at x0 x1 x2 x3
  go_enter Tryz.func25, Tryz.ntmps25
  go_wp2_with fail
  rw [← hw0]
  clear hw0 x0 x1 x2 x3
  refine KX.out.mono ?_
  rintro e w5 ⟨hb, ⟨B, B1, hB, ⟨v, hB1, hg, hgw, ho⟩, hp, hpw⟩, rq, rc, mq, mc, sq, sc, oq, oc, rfl, -⟩
  have HB5 := Lib.hid hb
  obtain ⟨tq, tc, rfl⟩ := own_slc ho
  have O5 := Lib.hid ho
  have c0 := cell_of_row w5 (w.heap.size + 1) 0 _ _ _ hg
  have hs5 : w.heap.size + 1 < w5.heap.size := (Array.getElem?_eq_some_iff.1 hg).1
  have hcl := ceV_len vw vm vi L I f
  rw [ce_eq] at hcl
  have KC := Lib.hid (i_asc (cvN vw vm vi L I (rnS vw vm vi L I f)) rfl O5.out HB5.out (by omega))
  clear hb hB hB1 hg ho hp
  go_wp2_with fail
  refine KC.out.mono ?_
  rintro e w6 ⟨q6, c6, rfl, ho, hb⟩
  have O6 := Lib.hid ho
  have HB6 := Lib.hid hb
  clear ho hb
  go_wp2
  go_ret
  unfold cvV
  rw [ce_eq]
  exact ⟨HB6.out, q6, c6, rfl, O6.out⟩
end Go.Proofs.YthmababifgaejaaGreat
namespace Go.Proofs.YthmababifgaejaaGreat
open Go.ChangeShapes Go.WideShapes Go.ChangeAt Go.RowKit
set_option maxRecDepth 100000 in
set_option maxHeartbeats 4000000 in
theorem a_test (vw vm vi : Int) (L : List InsR) (I : List Int) (q : Option Addr) (cap pb : Nat) (li : Value) (w : World) (hs : Cs.Shows w 0 4 (.slice q L.length cap) L.length (InsR.all L)) (hls : Cs.Shows w 0 1 li I.length (IntL.all I)) (hok : ∀ r ∈ L, r.Ok) (hL : L.length ≤ maxLen) (hl : I.length ≤ maxLen) (hp : w.heap[pb]? = some (.cells #[.int .i64 vw, .int .i64 vm, .int .i64 vi, .slice q L.length cap] 32 (0, 0))) :
    Calls Tryz.prog 36 #[li, .pointer (some ⟨pb, 0, none⟩)] w fun e w' => e = .returned (.bool (! inB vw vm vi L I)) ∧ Below w.heap.size w w' := by
  have KI := Lib.hid (i_inputs vw vm vi L I (.slice q L.length cap) li w hs hls hok hL hl)
  have hpl : pb < w.heap.size := (Array.getElem?_eq_some_iff.1 hp).1
  obtain ⟨x0, x1, x2, x3⟩ := cell4_row hp
  obtain ⟨b, hb⟩ : ∃ b, inB vw vm vi L I = b := ⟨_, rfl⟩
  rw [hb] at KI ⊢
  obtain ⟨_, iq, ic, rfl, _⟩ := hls
  clear hs hok hp hb
  go_enter Tryz.func36, Tryz.ntmps36
  go_wp2_with fail
  clear x0 x1 x2 x3
  refine KI.out.mono ?_
  rintro e w1 ⟨rfl, hb⟩
  have HB := Lib.hid hb
  clear hb
  cases b
  all_goals
    go_wp2
    go_ret
    exact ⟨rfl, HB.out⟩
def AoIx (a : Bool) (r : Int) : Prop := (a = true ∧ 0 ≤ r) ∨ (a = false ∧ r = -1)
set_option maxRecDepth 100000 in
set_option maxHeartbeats 4000000 in
theorem a_index (p : List Int → Bool) (T : List (List Int)) (tv : Value) (pb : Nat) (w : World) (ht : (Cs.rows IntSS.c T).Is w 0 1 T.length tv)
    (hp : ∀ j (hj : j < T.length) li W, Below w.heap.size w W → Cs.Shows W 0 1 li T[j].length (IntL.all T[j]) → Calls Tryz.prog 36 #[li, .pointer (some ⟨pb, 0, none⟩)] W fun e w' => e = .returned (.bool (! p T[j])) ∧ Below W.heap.size W w') :
    Calls Tryz.prog 49 #[tv, .func (.func 36) #[] #[.pointer (some ⟨pb, 0, none⟩)]] w fun e w' => ∃ r : Int, e = .returned (.int .i64 r) ∧ AoIx (! T.all p) r ∧ Below w.heap.size w w' := by
  have hml : maxLen = 9223372036854775807 := rfl
  have HNO := Lib.hid (fun j (hj : j < T.length) (h : p T[j] = false) => show T.all p = false by
    rw [Bool.eq_false_iff]
    intro h2
    rw [List.all_eq_true.1 h2 _ (List.getElem_mem hj)] at h
    cases h)
  have HYES := Lib.hid (fun (h : ∀ j (hj : j < T.length), p T[j] = true) => show T.all p = true from List.all_eq_true.2 fun I hI => by
    obtain ⟨j, hj, rfl⟩ := List.getElem_of_mem hI
    exact h j hj)
  obtain ⟨B, hB⟩ : ∃ B, T.all p = B := ⟨_, rfl⟩
  rw [hB] at HYES ⊢
  simp only [hB] at HNO
  clear hB
  have KP := Lib.hid hp
  clear hp
  rcases IntSS.cases ht with ⟨hM, tq, tc, rfl⟩ | ⟨hpos, tb, tof, tc, rfl, hc1, hc2, hbl, HI⟩
  · subst hM
    have hv : true = B := (HYES.out (fun j hj => absurd hj (Nat.not_lt_zero _))).symm
    subst hv
    clear ht
    go_enter Tryz.func49, Tryz.ntmps49
    go_wp2
    go_loopw [8] (fun kv wr => kv = .int .i64 0 ∧ wr = w) (fun _ _ => 0)
    case atStart => exact ⟨rfl, rfl⟩
    case round =>
      obtain ⟨rfl, rfl⟩ := hrel
      go_wp2
      go_ret
      exact ⟨_, rfl, .inr ⟨rfl, rfl⟩, Below.refl _ _⟩
  · have HII := Lib.hid HI
    clear ht HI
    go_enter Tryz.func49, Tryz.ntmps49
    go_wp2
    go_loopw [8] (fun kv wr => ∃ k : Nat, k ≤ T.length ∧ kv = .int .i64 k ∧ (∀ (j : Nat) (hj : j < T.length), j < k → p T[j] = true) ∧ Below w.heap.size w wr) (fun kv _ => T.length - (intOf kv).toNat)
    case atStart => exact ⟨0, Nat.zero_le _, rfl, fun j hj h => absurd h (Nat.not_lt_zero _), Below.refl _ _⟩
    case round =>
      obtain ⟨k, hk, rfl, hall, hB⟩ := hrel
      have HA := Lib.hid hall
      have HBr := Lib.hid hB
      have hsr := hB.size
      clear hall hB
      by_cases hkn : k < T.length
      · obtain ⟨iq, m, ic, hm, cT, hsh⟩ := HII.out wr HBr.out k hkn
        have KX := Lib.hid (KP.out k hkn _ wr HBr.out hsh)
        have HN := Lib.hid (HNO.out k hkn)
        have HS2 := Lib.hid (show p T[k] = true → ∀ (j : Nat) (hj : j < T.length), j < k + 1 → p T[j] = true from fun h j hj hlt => by
          by_cases e : j = k
          · subst e; exact h
          · exact HA.out j hj (by omega))
        clear hsh
        generalize T[k] = I at *
        obtain ⟨b1, hb1⟩ : ∃ b, p I = b := ⟨_, rfl⟩
        rw [hb1] at KX HN HS2
        clear hb1
        have hki : (k : Int) < (T.length : Int) := by omega
        have hkd : decide ((k : Int) < (T.length : Int)) = true := decide_eq_true hki
        have hbw : tb < wr.heap.size := by omega
        go_wp2_with fail
        clear cT
        refine KX.out.mono ?_
        rintro e w2 ⟨rfl, hb⟩
        have HB2 := Lib.hid (HBr.out.trans (hb.mono hsr))
        clear hb
        cases b1
        case false =>
          have hv := HN.out rfl
          subst hv
          go_wp2
          go_ret
          exact ⟨_, rfl, .inl ⟨rfl, by omega⟩, HB2.out⟩
        case true =>
          go_wp2
          go_roundw
          case rel => exact ⟨k + 1, by omega, by go_num, HS2.out trivial, HB2.out⟩
          case measure => simp [intOf]; omega
      · have hke : k = T.length := by omega
        subst hke
        have hv : true = B := (HYES.out (fun j hj => HA.out j hj hj)).symm
        have hki : ¬ ((T.length : Int) < (T.length : Int)) := by omega
        have hkd : decide ((T.length : Int) < (T.length : Int)) = false := decide_eq_false hki
        subst hv
        go_wp2
        go_ret
        exact ⟨_, rfl, .inr ⟨rfl, rfl⟩, HBr.out⟩
set_option maxRecDepth 100000 in
set_option maxHeartbeats 4000000 in
theorem a_contains (p : List Int → Bool) (T : List (List Int)) (tv : Value) (pb : Nat) (w : World) (ht : (Cs.rows IntSS.c T).Is w 0 1 T.length tv)
    (hp : ∀ j (hj : j < T.length) li W, Below w.heap.size w W → Cs.Shows W 0 1 li T[j].length (IntL.all T[j]) → Calls Tryz.prog 36 #[li, .pointer (some ⟨pb, 0, none⟩)] W fun e w' => e = .returned (.bool (! p T[j])) ∧ Below W.heap.size W w') :
    Calls Tryz.prog 35 #[tv, .func (.func 36) #[] #[.pointer (some ⟨pb, 0, none⟩)]] w fun e w' => e = .returned (.bool (! T.all p)) ∧ Below w.heap.size w w' := by
  have KI := Lib.hid (a_index p T tv pb w ht hp)
  obtain ⟨_, ⟨_, q, cap, rfl, _⟩, _⟩ := ht
  clear hp
  go_enter Tryz.func35, Tryz.ntmps35
  go_wp2_with fail
  refine KI.out.mono ?_
  rintro e w1 ⟨r, rfl, hr, hb1⟩
  have HB1 := Lib.hid hb1
  clear hb1
  rcases hr with ⟨h1, h2⟩ | ⟨h1, rfl⟩
  all_goals
    have HF := Lib.hid h1
    clear h1
    go_wp2
    go_ret
    exact ⟨by rw [HF.out] <;> rfl, HB1.out⟩
set_option maxRecDepth 100000 in
set_option maxHeartbeats 4000000 in
theorem i_tests (vw vm vi : Int) (L : List InsR) (T : List (List Int)) (sL tv : Value) (w : World) (hs : Cs.Shows w 0 4 sL L.length (InsR.all L)) (ht : (Cs.rows IntSS.c T).Is w 0 1 T.length tv) (hok : ∀ r ∈ L, r.Ok) (hL : L.length ≤ maxLen) (hT : IntSS.Ok T) :
    Calls Tryz.prog 24 #[.agg #[.int .i64 vw, .int .i64 vm, .int .i64 vi, sL], tv] w fun e w' => e = .returned (.bool (aoB vw vm vi L T)) ∧ Below w.heap.size w w' := by
  obtain ⟨q, cap, hq⟩ : ∃ q cap, sL = .slice q L.length cap := by
    obtain ⟨_, q, cap, h, _⟩ := hs
    exact ⟨q, cap, h⟩
  subst hq
  have KC := Lib.hid (fun W (hb : Below w.heap.size w W) pb (hpb : W.heap[pb]? = some (.cells #[.int .i64 vw, .int .i64 vm, .int .i64 vi, .slice q L.length cap] 32 (0, 0))) => a_contains (fun I => inB vw vm vi L I) T tv pb W (ht.below hb) (fun j hj li W2 hb2 hsh => a_test vw vm vi L T[j] q cap pb li W2 ((hs.below hb).below hb2) hsh hok hL (hT _ (List.getElem_mem hj)).2 ((hb2.block pb (Array.getElem?_eq_some_iff.1 hpb).1).trans hpb)))
  obtain ⟨tq, tc, rfl⟩ : ∃ tq tc, tv = .slice tq T.length tc := by
    obtain ⟨_, ⟨_, q, cap, h, _⟩, _⟩ := ht
    exact ⟨q, cap, h⟩
  obtain ⟨w0, hw0⟩ : ∃ w0, w0 = w.alloc (.cells #[.int .i64 vw, .int .i64 vm, .int .i64 vi, .slice q L.length cap] 32) := ⟨_, rfl⟩
  have HB0 := Lib.hid (show Below w.heap.size w w0 by rw [hw0]; exact (Below.refl _ _).alloc (Nat.le_refl _) _)
  have XR0 := Lib.hid (show w0.heap[w.heap.size]? = some (.cells #[.int .i64 vw, .int .i64 vm, .int .i64 vi, .slice q L.length cap] 32 (0, 0)) by rw [hw0]; exact heap_alloc_new _ _)
  have KX := Lib.hid (KC.out w0 HB0.out w.heap.size XR0.out)
  obtain ⟨B, hB⟩ : ∃ B, aoB vw vm vi L T = B := ⟨_, rfl⟩
  have hB2 : (T.all fun I => inB vw vm vi L I) = B := hB
  rw [hB2] at KX
  rw [hB]
  clear KC hs ht hok hT hB hB2
  go_enter Tryz.func24, Tryz.ntmps24
  go_wp2_with fail
  rw [← hw0]
  clear hw0
  refine KX.out.mono ?_
  rintro e w1 ⟨rfl, hb⟩
  have HB1 := Lib.hid (HB0.out.trans (hb.mono HB0.out.size))
  clear hb
  cases B
  all_goals
    go_wp2
    go_ret
    exact ⟨rfl, HB1.out⟩
end Go.Proofs.YthmababifgaejaaGreat
