/- impl.bitOf and spec.l01Truth. No condition. What the specification's l09Cover and CoverOf return. No condition. -/
import Derived.Test.YthmababifgaejaaGreatCmGFlInt
import Derived.WalkKit
import Derived.ProofKit
import Derived.Test.YthmababifgaejaaGreatCmGOwAt
import Derived.Test.YthmababifgaejaaGreatCmGStS
import Derived.Test.YthmababifgaejaaGreatCmGStM
import Derived.Test.YthmababifgaejaaGreatCmGNsS
import Derived.Test.YthmababifgaejaaGreatCmGInS
import Derived.Test.YthmababifgaejaaGreatCmGNxO
import Derived.Test.YthmababifgaejaaGreatCmGReg
namespace Go.Proofs.YthmababifgaejaaGreat
open Go.ChangeShapes Go.WideShapes Go.ChangeAt Go.RowKit
set_option maxRecDepth 100000 in
theorem i_bit (b : Bool) (w : World) : Calls Tryz.prog 40 #[.bool b] w fun e w' => e = .returned (.int .i64 (if b = true then 1 else 0)) ∧ w = w' := by
  cases b
  all_goals
    go_enter Tryz.func40, Tryz.ntmps40
    go_wp2
    go_ret
    exact ⟨rfl, rfl⟩
set_option maxRecDepth 100000 in
theorem s_truth (b : Bool) (w : World) : Calls Tryz.prog 32 #[.bool b] w fun e w' => e = .returned (.int .i64 (if b = true then 1 else 0)) ∧ w = w' := by
  cases b
  · go_enter Tryz.func32, Tryz.ntmps32
    go_wp2
    go_ret
    exact ⟨rfl, rfl⟩
  · go_enter Tryz.func32, Tryz.ntmps32
    go_wp2
    go_ret
    exact ⟨rfl, rfl⟩
end Go.Proofs.YthmababifgaejaaGreat
namespace Go.Proofs.YthmababifgaejaaGreat
open Go.ChangeShapes Go.WideShapes Go.ChangeAt Go.RowKit
/-- what stands at the head of a round -/
def CvRel (vw vm vi : Int) (L : List InsR) (I : List Int) (l0 : List Int) (q : Option Addr) (cap bs base : Nat) (v0 : Value) (w : World) (j : Nat) (tv : Value) (wr : World) : Prop :=
  ∃ r m s o, wr.heap[bs]? = some (.cells #[.int .i64 (stN vw vm vi L I j).pc, r, m, s, .int .i64 (stN vw vm vi L I j).inn, o, .int .i64 (stN vw vm vi L I j).cd, .int .i64 (stN vw vm vi L I j).st] 52 (0, 0)) ∧ StO wr w.heap.size (stN vw vm vi L I j) r m s o ∧ Below w.heap.size w wr ∧ wr.heap[w.heap.size]? = some (.cells #[.int .i64 vw, .int .i64 vm, .int .i64 vi, .slice q L.length cap] 32 (0, 0)) ∧ wr.ownsRow base 3 1 tv (insL l0 (cvN vw vm vi L I j)).length (IntL.all (insL l0 (cvN vw vm vi L I j))) ∧ (∀ g ∈ tv.ownBlock.toList, g ∉ StB r m s o ∧ g ≠ bs) ∧ (∀ g ∈ tv.ownBlock.toList, g ∈ v0.ownBlock.toList ∨ w.heap.size ≤ g)
/-- what l09Cover leaves -/
def CvEnd (l : List Int) (base : Nat) (v0 : Value) (w : World) (e : Ending) (w' : World) : Prop := Below w.heap.size w w' ∧ ∃ q c, e = .returned (.slice q l.length c) ∧ w'.ownsRow base 3 1 (.slice q l.length c) l.length (IntL.all l) ∧ ∀ g ∈ (Value.slice q l.length c).ownBlock.toList, g ∈ v0.ownBlock.toList ∨ w.heap.size ≤ g
set_option maxRecDepth 100000 in
set_option maxHeartbeats 8000000 in
theorem s_cover (vw vm vi : Int) (L : List InsR) (I : List Int) (fn : Nat) (hfn : fn ≤ 400) (l0 : List Int) (lq : Option Addr) (lc base : Nat) (sL li : Value) (w : World) (hs : Cs.Shows w 0 4 sL L.length (InsR.all L)) (hls : Cs.Shows w 0 1 li I.length (IntL.all I)) (hok : ∀ r ∈ L, r.Ok) (hL : L.length ≤ maxLen) (_hl : I.length ≤ maxLen) (hin : inB vw vm vi L I = true) (ho0 : w.ownsRow base 3 1 (.slice lq l0.length lc) l0.length (IntL.all l0)) (hbw : base ≤ w.heap.size) (hl0 : l0.length ≤ 50000) :
    Calls Tryz.prog 21 #[.agg #[.int .i64 vw, .int .i64 vm, .int .i64 vi, sL], li, .int .i64 fn, .slice lq l0.length lc] w (CvEnd (insL l0 (cvN vw vm vi L I fn)) base (.slice lq l0.length lc) w) := by
  have hml : maxLen = 9223372036854775807 := rfl
  have KN := Lib.hid (fun W (hb : Below w.heap.size w W) => s_new0 vw vm vi L sL W (hs.below hb) hok hL)
  have KT := Lib.hid (fun x r m s o base W (hb : Below w.heap.size w W) hp hG hI ho hbase => s_step vw vm vi L x I sL r m s o li base W hp hG hI (hs.below hb) (hls.below hb) ho hbase)
  have HS := Lib.hid hs
  obtain ⟨_, q, cap, rfl, _⟩ := hs
  obtain ⟨_, iq, ic, rfl, _⟩ := hls
  have HR : Hid (∀ j, (h : j < L.length) → ∃ b o, q = some ⟨b, o, none⟩ ∧ b < w.heap.size ∧ ∀ W, Below w.heap.size w W → W.cell? ⟨b, o + j * 4, none⟩ = some (.int .i64 L[j].f0) ∧ W.cell? ⟨b, o + j * 4 + 1, none⟩ = some (.int .i64 L[j].f1) ∧ W.cell? ⟨b, o + j * 4 + 2, none⟩ = some (.int .i64 L[j].f2) ∧ W.cell? ⟨b, o + j * 4 + 3, none⟩ = some (.int .i64 L[j].f3)) := Lib.hid (fun j h => by
    rcases Cs.shows_cases HS.out with ⟨h0, _⟩ | ⟨_, b, o, c, hq, _, _, hbl, hr⟩
    · omega
    · injection hq with e1 e2 e3
      refine ⟨b, o, e1, hbl, fun W hW => ?_⟩
      have hh := flat_nth InsR.cells 4 (fun _ => rfl) L j h (rangeAt_below hW hr)
      exact ⟨hh 0 _ rfl, hh 1 _ rfl, hh 2 _ rfl, hh 3 _ rfl⟩)
  clear HS hok
  have HIN := Lib.hid (in_of hin)
  have HG := Lib.hid (gd_N hin)
  have hpr := (in_of hin).1
  obtain ⟨⟨-, -, -, hm6, -, -, -, hl1, hl40⟩, hins⟩ := pr_in hpr
  have HINS := Lib.hid hins
  have hns : nsV vw vm vi L = newSt vm := by unfold nsV; rw [if_pos hpr]
  rw [hns] at KN
  have HO0 := Lib.hid ho0
  clear hns hin hpr hins ho0
  obtain ⟨w0, hw0⟩ : ∃ w0, w0 = w.alloc (.cells #[.int .i64 vw, .int .i64 vm, .int .i64 vi, .slice q L.length cap] 32) := ⟨_, rfl⟩
  have HB0 := Lib.hid (show Below w.heap.size w w0 by rw [hw0]; exact (Below.refl _ _).alloc (Nat.le_refl _) _)
  have hs0 : w0.heap.size = w.heap.size + 1 := by rw [hw0]; simp
  have XR0 := Lib.hid (show w0.heap[w.heap.size]? = some (.cells #[.int .i64 vw, .int .i64 vm, .int .i64 vi, .slice q L.length cap] 32 (0, 0)) by rw [hw0]; exact heap_alloc_new _ _)
  obtain ⟨x0, x1, x2, x3⟩ := cell4_row XR0.out
  rw [hw0] at x0 x1 x2 x3
  go_enter Tryz.func21, Tryz.ntmps21
  go_wp2_with fail
  rw [← hw0]
  clear hw0 x0 x1 x2 x3
  refine (KN.out _ HB0.out).mono ?_
  rintro e w3 ⟨hb, rq, rc, mq, mc, sq, sc, oq, oc, rfl, ho⟩
  have HB3 := Lib.hid (HB0.out.trans (hb.mono HB0.out.size))
  have XR3 := Lib.hid ((hb.block w.heap.size (by omega)).trans XR0.out)
  have hs3 := hb.size
  have O3 : Hid (StO w3 w.heap.size (stN vw vm vi L I 0) (.slice rq (newSt vm).R.length rc) (.slice mq (newSt vm).M.length mc) (.slice sq (newSt vm).S.length sc) (.slice oq (newSt vm).O.length oc)) := Lib.hid (ho.base (by omega))
  have OT3 := Lib.hid (own_keep HO0.out HB3.out)
  clear hb ho
  obtain ⟨y, hy⟩ : ∃ y, y = newSt vm := ⟨_, rfl⟩
  have HY := Lib.hid hy
  rw [← hy]
  rw [← hy] at O3
  clear hy
  obtain ⟨wl, hwl⟩ : ∃ W9, W9 = w3.alloc (.cells #[.int .i64 y.pc, .slice rq y.R.length rc, .slice mq y.M.length mc, .slice sq y.S.length sc, .int .i64 y.inn, .slice oq y.O.length oc, .int .i64 y.cd, .int .i64 y.st] 52) := ⟨_, rfl⟩
  obtain ⟨bs, hbs⟩ : ∃ g, g = w3.heap.size := ⟨_, rfl⟩
  have hbl : Below w3.heap.size w3 wl := by rw [hwl]; exact (Below.refl _ _).alloc (Nat.le_refl _) _
  have RL : Hid (CvRel vw vm vi L I l0 q cap bs base (.slice lq l0.length lc) w 0 (.slice lq l0.length lc) wl) := Lib.hid ⟨_, _, _, _, by rw [hbs, hwl, show stN vw vm vi L I 0 = y from HY.out.symm]; exact heap_alloc_new _ _, by rw [show stN vw vm vi L I 0 = y from HY.out.symm] at *; exact O3.out.keep hbl, HB3.out.trans (hbl.mono (by omega)), (hbl.block w.heap.size (by omega)).trans XR3.out, own_keep OT3.out hbl, fun g hg => ⟨fun h => by have := (O3.out.lt h).1; have := (own_lt HO0.out hg).2; omega, by have := (own_lt HO0.out hg).2; omega⟩, fun g hg => .inl hg⟩
  have hbs2 : w.heap.size + 1 ≤ bs := by omega
  clear hbl
  go_wp2
  rw [← hwl, ← hbs]
  clear hwl hbs
  go_loopw [3, 10] (fun tv kv wr => ∃ j : Nat, j ≤ fn ∧ kv = .int .i64 j ∧ CvRel vw vm vi L I l0 q cap bs base (.slice lq l0.length lc) w j tv wr) (fun _ kv _ => fn - (intOf kv).toNat)
  case atStart => exact ⟨0, Nat.zero_le _, rfl, RL.out⟩
  case round =>
    obtain ⟨j, hj, rfl, r, m, s, o, hrow, hO, hB, hX, hT, hD, hE⟩ := hrel
    obtain ⟨rq, rc, rfl⟩ := own_slice hO.1
    obtain ⟨mq, mc, rfl⟩ := own_slice hO.2.1
    obtain ⟨sq, sc, rfl⟩ := own_slice hO.2.2.1
    obtain ⟨oq, oc, rfl⟩ := own_slice hO.2.2.2.1
    obtain ⟨x, hx⟩ : ∃ x, stN vw vm vi L I j = x := ⟨_, rfl⟩
    have HXJ := Lib.hid hx
    have hGx := HG.out j
    rw [hx] at hrow hO hGx hD
    clear hx
    have SR := Lib.hid hrow
    have OR := Lib.hid hO
    have HBr := Lib.hid hB
    have XRr := Lib.hid hX
    obtain ⟨tq, tc, rfl⟩ := own_slice hT
    have OT := Lib.hid hT
    have HD := Lib.hid hD
    have HE := Lib.hid hE
    have HGX := Lib.hid hGx
    have hsr := hB.size
    have hwx := row_len hX
    have hcl : (insL l0 (cvN vw vm vi L I j)).length ≤ 60000 := by
      have h1 := insL_len (cvN vw vm vi L I j) l0
      have h2 := cvN_len (vw := vw) (vm := vm) (vi := vi) (L := L) (I := I) j
      omega
    clear hrow hO hB hX hGx hT hD hE
    obtain ⟨x0, x1, x2, x3⟩ := cell4_row XRr.out
    obtain ⟨d0, d1, d2, d3, d4, d5, d6, d7⟩ := cell8_row SR.out
    obtain ⟨f0, f1, f2, f3, f4, f5, f6, f7⟩ := froz8_row SR.out
    by_cases hend : j < fn ∧ x.cd = 0 ∧ x.pc < L.length
    case neg =>
      have HZ := Lib.hid (show cvN vw vm vi L I fn = cvN vw vm vi L I j by
        by_cases hjn : j < fn
        · obtain ⟨k, rfl⟩ : ∃ k, fn = j + k := ⟨fn - j, by omega⟩
          have hp := HGX.out.pc
          exact (cvN_stop (n := j) (by rw [HXJ.out]; by_cases hc : x.cd = 0; exact .inr (by omega); exact .inl hc) k).1
        · rw [show j = fn by omega])
      by_cases hjn : j < fn
      · have hki : decide ((j : Int) < (fn : Int)) = true := decide_eq_true (by omega)
        by_cases hcd : x.cd = 0
        · have hq : (x.cd == 0) = true := by simpa using hcd
          have hpn : decide (x.pc < (L.length : Int)) = false := decide_eq_false (fun h => hend ⟨hjn, hcd, h⟩)
          have hpn2 : ¬ x.pc < (L.length : Int) := fun h => hend ⟨hjn, hcd, h⟩
          clear hend hcd
          go_wp2
          go_ret
          rw [HZ.out]
          exact ⟨HBr.out, tq, tc, rfl, OT.out, HE.out⟩
        · have hq : (x.cd == 0) = false := by simpa using hcd
          clear hend hcd
          go_wp2
          go_ret
          rw [HZ.out]
          exact ⟨HBr.out, tq, tc, rfl, OT.out, HE.out⟩
      · have hki : decide ((j : Int) < (fn : Int)) = false := decide_eq_false (by omega)
        have hki2 : ¬ (j : Int) < (fn : Int) := by omega
        clear hend
        go_wp2
        go_ret
        rw [HZ.out]
        exact ⟨HBr.out, tq, tc, rfl, OT.out, HE.out⟩
    case pos =>
      obtain ⟨hjn, hcd, hpn⟩ := hend
      have hki : decide ((j : Int) < (fn : Int)) = true := decide_eq_true (by omega)
      have hq : (x.cd == 0) = true := by simpa using hcd
      have hpd : decide (x.pc < (L.length : Int)) = true := decide_eq_true hpn
      have hp0 := HGX.out.pc.1
      obtain ⟨kp, hkp⟩ : ∃ k : Nat, x.pc = k := ⟨x.pc.toNat, by omega⟩
      have hkpl : kp < L.length := by omega
      have hst := HGX.out.st
      have HINV := Lib.hid (show insV L x = L[kp] by unfold insV; rw [hkp, Int.toNat_natCast, List.getD_eq_getElem?_getD, List.getElem?_eq_getElem hkpl]; rfl)
      obtain ⟨bb, ob, rfl, hbbl, hcells⟩ := HR.out kp hkpl
      obtain ⟨c0, c1, c2, c3⟩ := hcells wr HBr.out
      have hij := HINS.out kp hkpl
      clear hcells
      generalize L[kp] = g at *
      obtain ⟨op, a, b, c⟩ := g
      simp only at c0 c1 c2 c3
      have hbbw : bb < wr.heap.size := by omega
      obtain ⟨w2, hw2⟩ : ∃ W9, W9 = wr.alloc (.cells #[.int .i64 op, .int .i64 a, .int .i64 b, .int .i64 c] 55) := ⟨_, rfl⟩
      obtain ⟨bi, hbi⟩ : ∃ g, g = wr.heap.size := ⟨_, rfl⟩
      have hb2 : Below wr.heap.size wr w2 := by rw [hw2]; exact (Below.refl _ _).alloc (Nat.le_refl _) _
      have YI2 := Lib.hid (show w2.heap[bi]? = some (.cells #[.int .i64 op, .int .i64 a, .int .i64 b, .int .i64 c] 55 (0, 0)) by rw [hw2, hbi]; exact heap_alloc_new _ _)
      have SR2 := Lib.hid ((hb2.block bs (row_len SR.out)).trans SR.out)
      have XR2 := Lib.hid ((hb2.block w.heap.size hwx).trans XRr.out)
      have OR2 := Lib.hid (OR.out.keep hb2)
      have OT2 := Lib.hid (own_keep OT.out hb2)
      have HB2 := Lib.hid (HBr.out.trans (hb2.mono hsr))
      have hs2 := hb2.size
      clear hb2
      go_upto_region 6 with fail
      rw [← hw2, ← hbi]
      have hbiw : bi = wr.heap.size := hbi
      have HBI := Lib.hid hbiw
      clear hbiw hbi hw2 x0 x1 x2 x3 d0 d1 d2 d3 d4 d5 d6 d7 f0 f1 f2 f3 f4 f5 f6 f7 c0 c1 c2 c3
      obtain ⟨d0, d1, d2, d3, d4, d5, d6, d7⟩ := cell8_row SR2.out
      obtain ⟨y0, y1, y2, y3⟩ := cell4_row YI2.out
      by_cases hbr : op = 10 ∧ x.st < 400
      case neg =>
        have HZ := Lib.hid (show cvN vw vm vi L I (j + 1) = cvN vw vm vi L I j from cvN_no HXJ.out (fun g => hbr ⟨by have := g.2; rw [HINV.out] at this; exact this, by
          have hb : x.cd = 0 ∧ ¬ x.st = 400 ∧ ¬ x.pc = (L.length : Int) := of_decide_eq_true g.1
          omega⟩))
        by_cases h10 : op = 10
        · have e0 : (op == 10) = true := by simpa using h10
          have e1 : decide (x.st < 400) = false := decide_eq_false (fun h => hbr ⟨h10, h⟩)
          have e2 : ¬ x.st < 400 := fun h => hbr ⟨h10, h⟩
          clear hbr h10 HINV hij
          go_upto_region 8 with fail
          clear d0 d1 d2 d3 d4 d5 d6 d7 y0 y1 y2 y3
          obtain ⟨x0, x1, x2, x3⟩ := cell4_row XR2.out
          obtain ⟨d0, d1, d2, d3, d4, d5, d6, d7⟩ := cell8_row SR2.out
          obtain ⟨f0, f1, f2, f3, f4, f5, f6, f7⟩ := froz8_row SR2.out
          go_wp2_with fail
          clear x0 x1 x2 x3 d0 d1 d2 d3 d4 d5 d6 d7 f0 f1 f2 f3 f4 f5 f6 f7
          have hszc : w.heap.size ≤ w2.heap.size := HB2.out.size
          have KX := Lib.hid (KT.out x _ _ _ _ w.heap.size w2 HB2.out HIN.out.1 HGX.out HIN.out.2 OR2.out hszc)
          rw [hkp, hcd] at KX
          refine KX.out.mono ?_
          clear KX
          rintro e w5 ⟨r5, m5, s5, o5, rfl, hO5, hA5, hs5⟩
          obtain ⟨rq5, rc5, rfl⟩ := own_slice hO5.1
          obtain ⟨mq5, mc5, rfl⟩ := own_slice hO5.2.1
          obtain ⟨sq5, sc5, rfl⟩ := own_slice hO5.2.2.1
          obtain ⟨oq5, oc5, rfl⟩ := own_slice hO5.2.2.2.1
          have HST := Lib.hid (show stN vw vm vi L I (j + 1) = stepV vw vm vi L I x by show stepV vw vm vi L I (stN vw vm vi L I j) = _; rw [HXJ.out])
          obtain ⟨y5, hy5⟩ : ∃ y, stepV vw vm vi L I x = y := ⟨_, rfl⟩
          rw [hy5] at HST hO5 hs5 ⊢
          clear hy5
          have SR5 := Lib.hid ((hA5.block bs (row_len SR2.out) (OR2.out.off (T := 52) (by decide) SR2.out)).trans SR2.out)
          have XR5 := Lib.hid ((hA5.block w.heap.size (row_len XR2.out) (OR2.out.off (T := 32) (by decide) XR2.out)).trans XR2.out)
          have OT5 := Lib.hid (own_same OT2.out (fun g hg => hA5.block g (own_lt OT2.out hg).2 (HD.out g hg).1))
          have HD5 := Lib.hid (show ∀ g ∈ (.slice tq (insL l0 (cvN vw vm vi L I j)).length tc : Value).ownBlock.toList, g ∉ StB (.slice rq5 y5.R.length rc5) (.slice mq5 y5.M.length mc5) (.slice sq5 y5.S.length sc5) (.slice oq5 y5.O.length oc5) ∧ g ≠ bs from fun g hg => ⟨fun h => (hs5 g h).elim (HD.out g hg).1 (fun h => by have := (own_lt OT2.out hg).2; omega), (HD.out g hg).2⟩)
          have HB5 := Lib.hid (HB2.out.trans (hA5.below hszc (fun g hg => (OR2.out.lt hg).1)))
          have O5 := Lib.hid hO5
          have hs5' := hA5.size
          clear hO5 hA5 hs5
          obtain ⟨d0, d1, d2, d3, d4, d5, d6, d7⟩ := cell8_row SR5.out
          obtain ⟨f0, f1, f2, f3, f4, f5, f6, f7⟩ := froz8_row SR5.out
          go_upto_region 4 with fail
          obtain ⟨w6, hw6⟩ : ∃ W9, W9 = ((((((((w5.setCell ⟨bs, 0, none⟩ (.int .i64 y5.pc)).setCell ⟨bs, 1, none⟩ (.slice rq5 y5.R.length rc5)).setCell ⟨bs, 2, none⟩ (.slice mq5 y5.M.length mc5)).setCell ⟨bs, 3, none⟩ (.slice sq5 y5.S.length sc5)).setCell ⟨bs, 4, none⟩ (.int .i64 y5.inn)).setCell ⟨bs, 5, none⟩ (.slice oq5 y5.O.length oc5)).setCell ⟨bs, 6, none⟩ (.int .i64 y5.cd)).setCell ⟨bs, 7, none⟩ (.int .i64 y5.st)) := ⟨_, rfl⟩
          have SR6 := Lib.hid (show w6.heap[bs]? = some (.cells #[.int .i64 y5.pc, .slice rq5 y5.R.length rc5, .slice mq5 y5.M.length mc5, .slice sq5 y5.S.length sc5, .int .i64 y5.inn, .slice oq5 y5.O.length oc5, .int .i64 y5.cd, .int .i64 y5.st] 52 (0, 0)) by rw [hw6]; exact set8_row SR5.out _ _ _ _ _ _ _ _)
          have O6 := Lib.hid (show StO w6 w.heap.size y5 (.slice rq5 y5.R.length rc5) (.slice mq5 y5.M.length mc5) (.slice sq5 y5.S.length sc5) (.slice oq5 y5.O.length oc5) by rw [hw6]; exact O5.out.set8 (O5.out.off (T := 52) (by decide) SR5.out) _ _ _ _ _ _ _ _)
          have HB6 := Lib.hid (show Below w.heap.size w w6 by rw [hw6]; exact set8_below HB5.out (by omega) _ _ _ _ _ _ _ _)
          have XR6 := Lib.hid (show w6.heap[w.heap.size]? = some (.cells #[.int .i64 vw, .int .i64 vm, .int .i64 vi, .slice (some ⟨bb, ob, none⟩) L.length cap] 32 (0, 0)) by rw [hw6]; exact (set8_heap _ _ _ (by omega) _ _ _ _ _ _ _ _).trans XR5.out)
          have OT6 := Lib.hid (show w6.ownsRow base 3 1 (.slice tq (insL l0 (cvN vw vm vi L I j)).length tc : Value) (insL l0 (cvN vw vm vi L I (j + 1))).length (IntL.all (insL l0 (cvN vw vm vi L I (j + 1)))) by rw [HZ.out, hw6]; exact own_same OT5.out (fun g hg => set8_heap _ _ _ (HD5.out g hg).2 _ _ _ _ _ _ _ _))
          have RL := Lib.hid (show CvRel vw vm vi L I l0 _ cap bs base (.slice lq l0.length lc) w (j + 1) (.slice tq (insL l0 (cvN vw vm vi L I j)).length tc : Value) w6 by unfold CvRel; rw [HST.out]; exact ⟨_, _, _, _, SR6.out, O6.out, HB6.out, XR6.out, OT6.out, HD5.out, HE.out⟩)
          rw [← hw6]
          clear hw6 d0 d1 d2 d3 d4 d5 d6 d7 f0 f1 f2 f3 f4 f5 f6 f7
          go_wp2
          go_roundw
          case rel => exact ⟨j + 1, by omega, by go_num, RL.out⟩
          case measure => simp [intOf]; omega
        · have e0 : (op == 10) = false := by simpa using h10
          clear hbr h10 HINV hij
          go_upto_region 8 with fail
          clear d0 d1 d2 d3 d4 d5 d6 d7 y0 y1 y2 y3
          obtain ⟨x0, x1, x2, x3⟩ := cell4_row XR2.out
          obtain ⟨d0, d1, d2, d3, d4, d5, d6, d7⟩ := cell8_row SR2.out
          obtain ⟨f0, f1, f2, f3, f4, f5, f6, f7⟩ := froz8_row SR2.out
          go_wp2_with fail
          clear x0 x1 x2 x3 d0 d1 d2 d3 d4 d5 d6 d7 f0 f1 f2 f3 f4 f5 f6 f7
          have hszc : w.heap.size ≤ w2.heap.size := HB2.out.size
          have KX := Lib.hid (KT.out x _ _ _ _ w.heap.size w2 HB2.out HIN.out.1 HGX.out HIN.out.2 OR2.out hszc)
          rw [hkp, hcd] at KX
          refine KX.out.mono ?_
          clear KX
          rintro e w5 ⟨r5, m5, s5, o5, rfl, hO5, hA5, hs5⟩
          obtain ⟨rq5, rc5, rfl⟩ := own_slice hO5.1
          obtain ⟨mq5, mc5, rfl⟩ := own_slice hO5.2.1
          obtain ⟨sq5, sc5, rfl⟩ := own_slice hO5.2.2.1
          obtain ⟨oq5, oc5, rfl⟩ := own_slice hO5.2.2.2.1
          have HST := Lib.hid (show stN vw vm vi L I (j + 1) = stepV vw vm vi L I x by show stepV vw vm vi L I (stN vw vm vi L I j) = _; rw [HXJ.out])
          obtain ⟨y5, hy5⟩ : ∃ y, stepV vw vm vi L I x = y := ⟨_, rfl⟩
          rw [hy5] at HST hO5 hs5 ⊢
          clear hy5
          have SR5 := Lib.hid ((hA5.block bs (row_len SR2.out) (OR2.out.off (T := 52) (by decide) SR2.out)).trans SR2.out)
          have XR5 := Lib.hid ((hA5.block w.heap.size (row_len XR2.out) (OR2.out.off (T := 32) (by decide) XR2.out)).trans XR2.out)
          have OT5 := Lib.hid (own_same OT2.out (fun g hg => hA5.block g (own_lt OT2.out hg).2 (HD.out g hg).1))
          have HD5 := Lib.hid (show ∀ g ∈ (.slice tq (insL l0 (cvN vw vm vi L I j)).length tc : Value).ownBlock.toList, g ∉ StB (.slice rq5 y5.R.length rc5) (.slice mq5 y5.M.length mc5) (.slice sq5 y5.S.length sc5) (.slice oq5 y5.O.length oc5) ∧ g ≠ bs from fun g hg => ⟨fun h => (hs5 g h).elim (HD.out g hg).1 (fun h => by have := (own_lt OT2.out hg).2; omega), (HD.out g hg).2⟩)
          have HB5 := Lib.hid (HB2.out.trans (hA5.below hszc (fun g hg => (OR2.out.lt hg).1)))
          have O5 := Lib.hid hO5
          have hs5' := hA5.size
          clear hO5 hA5 hs5
          obtain ⟨d0, d1, d2, d3, d4, d5, d6, d7⟩ := cell8_row SR5.out
          obtain ⟨f0, f1, f2, f3, f4, f5, f6, f7⟩ := froz8_row SR5.out
          go_upto_region 4 with fail
          obtain ⟨w6, hw6⟩ : ∃ W9, W9 = ((((((((w5.setCell ⟨bs, 0, none⟩ (.int .i64 y5.pc)).setCell ⟨bs, 1, none⟩ (.slice rq5 y5.R.length rc5)).setCell ⟨bs, 2, none⟩ (.slice mq5 y5.M.length mc5)).setCell ⟨bs, 3, none⟩ (.slice sq5 y5.S.length sc5)).setCell ⟨bs, 4, none⟩ (.int .i64 y5.inn)).setCell ⟨bs, 5, none⟩ (.slice oq5 y5.O.length oc5)).setCell ⟨bs, 6, none⟩ (.int .i64 y5.cd)).setCell ⟨bs, 7, none⟩ (.int .i64 y5.st)) := ⟨_, rfl⟩
          have SR6 := Lib.hid (show w6.heap[bs]? = some (.cells #[.int .i64 y5.pc, .slice rq5 y5.R.length rc5, .slice mq5 y5.M.length mc5, .slice sq5 y5.S.length sc5, .int .i64 y5.inn, .slice oq5 y5.O.length oc5, .int .i64 y5.cd, .int .i64 y5.st] 52 (0, 0)) by rw [hw6]; exact set8_row SR5.out _ _ _ _ _ _ _ _)
          have O6 := Lib.hid (show StO w6 w.heap.size y5 (.slice rq5 y5.R.length rc5) (.slice mq5 y5.M.length mc5) (.slice sq5 y5.S.length sc5) (.slice oq5 y5.O.length oc5) by rw [hw6]; exact O5.out.set8 (O5.out.off (T := 52) (by decide) SR5.out) _ _ _ _ _ _ _ _)
          have HB6 := Lib.hid (show Below w.heap.size w w6 by rw [hw6]; exact set8_below HB5.out (by omega) _ _ _ _ _ _ _ _)
          have XR6 := Lib.hid (show w6.heap[w.heap.size]? = some (.cells #[.int .i64 vw, .int .i64 vm, .int .i64 vi, .slice (some ⟨bb, ob, none⟩) L.length cap] 32 (0, 0)) by rw [hw6]; exact (set8_heap _ _ _ (by omega) _ _ _ _ _ _ _ _).trans XR5.out)
          have OT6 := Lib.hid (show w6.ownsRow base 3 1 (.slice tq (insL l0 (cvN vw vm vi L I j)).length tc : Value) (insL l0 (cvN vw vm vi L I (j + 1))).length (IntL.all (insL l0 (cvN vw vm vi L I (j + 1)))) by rw [HZ.out, hw6]; exact own_same OT5.out (fun g hg => set8_heap _ _ _ (HD5.out g hg).2 _ _ _ _ _ _ _ _))
          have RL := Lib.hid (show CvRel vw vm vi L I l0 _ cap bs base (.slice lq l0.length lc) w (j + 1) (.slice tq (insL l0 (cvN vw vm vi L I j)).length tc : Value) w6 by unfold CvRel; rw [HST.out]; exact ⟨_, _, _, _, SR6.out, O6.out, HB6.out, XR6.out, OT6.out, HD5.out, HE.out⟩)
          rw [← hw6]
          clear hw6 d0 d1 d2 d3 d4 d5 d6 d7 f0 f1 f2 f3 f4 f5 f6 f7
          go_wp2
          go_roundw
          case rel => exact ⟨j + 1, by omega, by go_num, RL.out⟩
          case measure => simp [intOf]; omega
      case pos =>
        obtain ⟨h10, hst4⟩ := hbr
        subst h10
        have e0 : ((10 : Int) == 10) = true := rfl
        have e1 : decide (x.st < 400) = true := decide_eq_true hst4
        have hregs : opB 1 a vw L.length = true := (ins_parts hij).2.1
        obtain ⟨ka, hka⟩ : ∃ k : Nat, a = k := ⟨a.toNat, by have := reg_of hregs; omega⟩
        have HR4 := Lib.hid HGX.out.hR
        have hka4 : ka < x.R.length := by have := reg_of hregs; have := HR4.out; omega
        subst hka
        have HAT := Lib.hid (atI_nat x.R ka hka4)
        obtain ⟨gr, rc', hv, hgb, hgl⟩ := own_frm OR2.out.1 (by have := HR4.out; omega)
        injection hv with g1 _ g3
        subst g1
        subst g3
        have CR2 := Lib.hid (show w2.cell? ⟨gr, ka, none⟩ = some (.int .i64 x.R[ka]) by rw [OR2.out.1.cellAt ka (by omega), IntL.all_map, List.getElem?_map, List.getElem?_eq_getElem hka4]; rfl)
        have HED := Lib.hid (show edV L x = 2 * (kp : Int) + (if atI x.R (insV L x).f1 = 0 then 1 else 0) by unfold edV; rw [hkp])
        rw [HINV.out] at HED
        have HBEG : Hid (begunB L.length x = true) := Lib.hid (decide_eq_true ⟨hcd, by omega, by omega⟩)
        have HCY := Lib.hid (cvN_yes (vw := vw) (vm := vm) (vi := vi) (I := I) HXJ.out HBEG.out (by rw [HINV.out]))
        generalize x.R[ka] = zr at *
        obtain ⟨bz, hbz⟩ : ∃ bz : Int, (if (zr == 0) = true then 1 else 0) = bz := ⟨_, rfl⟩
        have hbz0 : 0 ≤ bz := by rw [← hbz]; split <;> omega
        have hbz1 : bz ≤ 1 := by rw [← hbz]; split <;> omega
        have HBZ := Lib.hid hbz
        have HE2 := Lib.hid (show edV L x = 2 * (kp : Int) + bz by rw [HED.out, HAT.out, ← hbz]; by_cases h : zr = 0 <;> simp [h])
        have hkai : (ka : Int) < (x.R.length : Int) := by omega
        have hgrl : gr < w2.heap.size := hgl
        have hbsl : bs < w2.heap.size := row_len SR2.out
        have hbil : bi < w2.heap.size := row_len YI2.out
        clear hregs hij hbz HINV
        go_upto_region 7 with fail
        clear d0 d1 d2 d3 d4 d5 d6 d7 y0 y1 y2 y3
        have HCW := Lib.hid ((Below.refl w2.heap.size w2).drew)
        refine region_c (fun W => Below w2.heap.size w2 W) (by kernel_rfl) ?_
        refine take_c (i := 0) (v := .slice tq (insL l0 (cvN vw vm vi L I j)).length tc) rfl (by kernel_rfl) (by kernel_rfl) (by kernel_rfl) (fun _ _ _ h => h) HCW.out rfl (fun W hW => ?_) ?_
        · go_simp
          all_goals (first | rfl | exact IntWalk.i64_in _ (by omega) | omega | (simp; omega))
        refine take_c (i := 1) (v := .pointer (some ⟨bs, 0, none⟩)) rfl (by kernel_rfl) (by kernel_rfl) (by kernel_rfl) (fun _ _ _ h => h) HCW.out rfl (fun W hW => ?_) ?_
        · go_simp
          all_goals (first | rfl | exact IntWalk.i64_in _ (by omega) | omega | (simp; omega))
        refine take_c (i := 2) (v := .int .i64 (kp : Int)) rfl (by kernel_rfl) (by kernel_rfl) (by kernel_rfl) (fun _ _ _ h => h) HCW.out rfl (fun W hW => ?_) ?_
        · obtain ⟨d0, d1, d2, d3, d4, d5, d6, d7⟩ := cell8_row ((hW.block bs hbsl).trans SR2.out); go_simp
          all_goals (first | rfl | exact IntWalk.i64_in _ (by omega) | omega | (simp; omega))
        refine take_c (i := 3) (v := .int .i64 (2 * (kp : Int))) rfl (by kernel_rfl) (by kernel_rfl) (by kernel_rfl) (fun _ _ _ h => h) HCW.out rfl (fun W hW => ?_) ?_
        · go_simp
          all_goals (first | rfl | exact IntWalk.i64_in _ (by omega) | omega | (simp; omega))
        refine take_c (i := 4) (v := .pointer (some ⟨bs, 1, none⟩)) rfl (by kernel_rfl) (by kernel_rfl) (by kernel_rfl) (fun _ _ _ h => h) HCW.out rfl (fun W hW => ?_) ?_
        · go_simp
          all_goals (first | rfl | exact IntWalk.i64_in _ (by omega) | omega | (simp; omega))
        refine take_c (i := 5) (v := .slice (some ⟨gr, 0, none⟩) x.R.length rc) rfl (by kernel_rfl) (by kernel_rfl) (by kernel_rfl) (fun _ _ _ h => h) HCW.out rfl (fun W hW => ?_) ?_
        · obtain ⟨d0, d1, d2, d3, d4, d5, d6, d7⟩ := cell8_row ((hW.block bs hbsl).trans SR2.out); go_simp
          all_goals (first | rfl | exact IntWalk.i64_in _ (by omega) | omega | (simp; omega))
        refine take_c (i := 6) (v := .pointer (some ⟨bi, 1, none⟩)) rfl (by kernel_rfl) (by kernel_rfl) (by kernel_rfl) (fun _ _ _ h => h) HCW.out rfl (fun W hW => ?_) ?_
        · go_simp
          all_goals (first | rfl | exact IntWalk.i64_in _ (by omega) | omega | (simp; omega))
        refine take_c (i := 7) (v := .int .i64 (ka : Int)) rfl (by kernel_rfl) (by kernel_rfl) (by kernel_rfl) (fun _ _ _ h => h) HCW.out rfl (fun W hW => ?_) ?_
        · obtain ⟨y0, y1, y2, y3⟩ := cell4_row ((hW.block bi hbil).trans YI2.out); go_simp
          all_goals (first | rfl | exact IntWalk.i64_in _ (by omega) | omega | (simp; omega))
        refine take_c (i := 8) (v := .pointer (some ⟨gr, ka, none⟩)) rfl (by kernel_rfl) (by kernel_rfl) (by kernel_rfl) (fun _ _ _ h => h) HCW.out rfl (fun W hW => ?_) ?_
        · go_simp
          all_goals (first | rfl | exact IntWalk.i64_in _ (by omega) | omega | (simp; omega))
        refine take_c (i := 9) (v := .int .i64 zr) rfl (by kernel_rfl) (by kernel_rfl) (by kernel_rfl) (fun _ _ _ h => h) HCW.out rfl (fun W hW => ?_) ?_
        · have cr := (hW.cell (p := ⟨gr, ka, none⟩) hgrl).trans CR2.out; go_simp
          all_goals (first | rfl | exact IntWalk.i64_in _ (by omega) | omega | (simp; omega))
        refine take_c (i := 10) (v := .bool (zr == 0)) rfl (by kernel_rfl) (by kernel_rfl) (by kernel_rfl) (fun _ _ _ h => h) HCW.out rfl (fun W hW => ?_) ?_
        · go_simp
          all_goals (first | rfl | exact IntWalk.i64_in _ (by omega) | omega | (simp; omega))
        refine take_k (i := 11) (v := .int .i64 bz) rfl (by kernel_rfl) (by kernel_rfl) (by kernel_rfl) (fun _ _ _ h => h) HCW.out rfl (fun W hW => ⟨_, _, ?_, by rw [← HBZ.out]; exact s_truth (zr == 0) W⟩) ?_
        · go_simp
        refine take_c (i := 12) (v := .int .i64 (2 * (kp : Int) + bz)) rfl (by kernel_rfl) (by kernel_rfl) (by kernel_rfl) (fun _ _ _ h => h) HCW.out rfl (fun W hW => ?_) ?_
        · go_simp
          all_goals (first | rfl | exact IntWalk.i64_in _ (by omega) | omega | (simp; omega))
        refine one_c (i := 13) (by kernel_rfl) (op_list rfl ?_)
        go_wp2_with fail
        refine (s_insert base (insL l0 (cvN vw vm vi L I j)) (2 * (kp : Int) + bz) tq tc _ (own_keep OT2.out HCW.out) (by have := HCW.out.size; omega) (by omega)).mono ?_
        rintro e w3 ⟨hb, q3, c3, rfl, ho3, hap⟩
        go_wp2
        have HC3 := Lib.hid (HCW.out.trans (hb.mono HCW.out.size))
        refine ⟨HC3.out, ?_⟩
        have O3 := Lib.hid ho3
        have AP3 := Lib.hid hap
        clear hb ho3 hap
        refine one_c (i := 14) (by kernel_rfl) (op_list rfl ?_)
        go_wp2
        refine ⟨HC3.out, done_c (by kernel_rfl) ?_ _⟩
        have SR3 := Lib.hid ((HC3.out.block bs hbsl).trans SR2.out)
        have XR3 := Lib.hid ((HC3.out.block w.heap.size (row_len XR2.out)).trans XR2.out)
        have OR3 := Lib.hid (OR2.out.keep HC3.out)
        have HB3 := Lib.hid (HB2.out.trans (HC3.out.mono HB2.out.size))
        have HD3 := Lib.hid (show ∀ g ∈ (.slice q3 (insI (insL l0 (cvN vw vm vi L I j)) (2 * (kp : Int) + bz)).length c3 : Value).ownBlock.toList, g ∉ StB (.slice (some ⟨gr, 0, none⟩) x.R.length rc) (.slice mq x.M.length mc) (.slice sq x.S.length sc) (.slice oq x.O.length oc) ∧ g ≠ bs from fun g hg => (AP3.out g hg).elim (HD.out g) (fun h => ⟨fun h2 => by have := (OR2.out.lt h2).2; have := HCW.out.size; omega, by have := HCW.out.size; omega⟩))
        have HE3 := Lib.hid (show ∀ g ∈ (.slice q3 (insI (insL l0 (cvN vw vm vi L I j)) (2 * (kp : Int) + bz)).length c3 : Value).ownBlock.toList, g ∈ (.slice lq l0.length lc : Value).ownBlock.toList ∨ w.heap.size ≤ g from fun g hg => (AP3.out g hg).elim (HE.out g) (fun h => .inr (by have := HCW.out.size; have := HB2.out.size; omega)))
        have HZ := Lib.hid (show insL l0 (cvN vw vm vi L I (j + 1)) = insI (insL l0 (cvN vw vm vi L I j)) (2 * (kp : Int) + bz) by rw [HCY.out, insL_put, HE2.out])
        obtain ⟨x0, x1, x2, x3⟩ := cell4_row XR3.out
        obtain ⟨d0, d1, d2, d3, d4, d5, d6, d7⟩ := cell8_row SR3.out
        obtain ⟨f0, f1, f2, f3, f4, f5, f6, f7⟩ := froz8_row SR3.out
        go_wp2_with fail
        clear x0 x1 x2 x3 d0 d1 d2 d3 d4 d5 d6 d7 f0 f1 f2 f3 f4 f5 f6 f7
        have hszc : w.heap.size ≤ w3.heap.size := HB3.out.size
        have KX := Lib.hid (KT.out x _ _ _ _ w.heap.size w3 HB3.out HIN.out.1 HGX.out HIN.out.2 OR3.out hszc)
        rw [hkp, hcd] at KX
        refine KX.out.mono ?_
        clear KX
        rintro e w5 ⟨r5, m5, s5, o5, rfl, hO5, hA5, hs5⟩
        obtain ⟨rq5, rc5, rfl⟩ := own_slice hO5.1
        obtain ⟨mq5, mc5, rfl⟩ := own_slice hO5.2.1
        obtain ⟨sq5, sc5, rfl⟩ := own_slice hO5.2.2.1
        obtain ⟨oq5, oc5, rfl⟩ := own_slice hO5.2.2.2.1
        have HST := Lib.hid (show stN vw vm vi L I (j + 1) = stepV vw vm vi L I x by show stepV vw vm vi L I (stN vw vm vi L I j) = _; rw [HXJ.out])
        obtain ⟨y5, hy5⟩ : ∃ y, stepV vw vm vi L I x = y := ⟨_, rfl⟩
        rw [hy5] at HST hO5 hs5 ⊢
        clear hy5
        have SR5 := Lib.hid ((hA5.block bs (row_len SR3.out) (OR3.out.off (T := 52) (by decide) SR3.out)).trans SR3.out)
        have XR5 := Lib.hid ((hA5.block w.heap.size (row_len XR3.out) (OR3.out.off (T := 32) (by decide) XR3.out)).trans XR3.out)
        have OT5 := Lib.hid (own_same O3.out (fun g hg => hA5.block g (own_lt O3.out hg).2 (HD3.out g hg).1))
        have HD5 := Lib.hid (show ∀ g ∈ (.slice q3 (insI (insL l0 (cvN vw vm vi L I j)) (2 * (kp : Int) + bz)).length c3 : Value).ownBlock.toList, g ∉ StB (.slice rq5 y5.R.length rc5) (.slice mq5 y5.M.length mc5) (.slice sq5 y5.S.length sc5) (.slice oq5 y5.O.length oc5) ∧ g ≠ bs from fun g hg => ⟨fun h => (hs5 g h).elim (HD3.out g hg).1 (fun h => by have := (own_lt O3.out hg).2; omega), (HD3.out g hg).2⟩)
        have HB5 := Lib.hid (HB3.out.trans (hA5.below hszc (fun g hg => (OR3.out.lt hg).1)))
        have O5 := Lib.hid hO5
        have hs5' := hA5.size
        clear hO5 hA5 hs5
        obtain ⟨d0, d1, d2, d3, d4, d5, d6, d7⟩ := cell8_row SR5.out
        obtain ⟨f0, f1, f2, f3, f4, f5, f6, f7⟩ := froz8_row SR5.out
        go_upto_region 4 with fail
        obtain ⟨w6, hw6⟩ : ∃ W9, W9 = ((((((((w5.setCell ⟨bs, 0, none⟩ (.int .i64 y5.pc)).setCell ⟨bs, 1, none⟩ (.slice rq5 y5.R.length rc5)).setCell ⟨bs, 2, none⟩ (.slice mq5 y5.M.length mc5)).setCell ⟨bs, 3, none⟩ (.slice sq5 y5.S.length sc5)).setCell ⟨bs, 4, none⟩ (.int .i64 y5.inn)).setCell ⟨bs, 5, none⟩ (.slice oq5 y5.O.length oc5)).setCell ⟨bs, 6, none⟩ (.int .i64 y5.cd)).setCell ⟨bs, 7, none⟩ (.int .i64 y5.st)) := ⟨_, rfl⟩
        have SR6 := Lib.hid (show w6.heap[bs]? = some (.cells #[.int .i64 y5.pc, .slice rq5 y5.R.length rc5, .slice mq5 y5.M.length mc5, .slice sq5 y5.S.length sc5, .int .i64 y5.inn, .slice oq5 y5.O.length oc5, .int .i64 y5.cd, .int .i64 y5.st] 52 (0, 0)) by rw [hw6]; exact set8_row SR5.out _ _ _ _ _ _ _ _)
        have O6 := Lib.hid (show StO w6 w.heap.size y5 (.slice rq5 y5.R.length rc5) (.slice mq5 y5.M.length mc5) (.slice sq5 y5.S.length sc5) (.slice oq5 y5.O.length oc5) by rw [hw6]; exact O5.out.set8 (O5.out.off (T := 52) (by decide) SR5.out) _ _ _ _ _ _ _ _)
        have HB6 := Lib.hid (show Below w.heap.size w w6 by rw [hw6]; exact set8_below HB5.out (by omega) _ _ _ _ _ _ _ _)
        have XR6 := Lib.hid (show w6.heap[w.heap.size]? = some (.cells #[.int .i64 vw, .int .i64 vm, .int .i64 vi, .slice (some ⟨bb, ob, none⟩) L.length cap] 32 (0, 0)) by rw [hw6]; exact (set8_heap _ _ _ (by omega) _ _ _ _ _ _ _ _).trans XR5.out)
        have OT6 := Lib.hid (show w6.ownsRow base 3 1 (.slice q3 (insI (insL l0 (cvN vw vm vi L I j)) (2 * (kp : Int) + bz)).length c3 : Value) (insL l0 (cvN vw vm vi L I (j + 1))).length (IntL.all (insL l0 (cvN vw vm vi L I (j + 1)))) by rw [HZ.out, hw6]; exact own_same OT5.out (fun g hg => set8_heap _ _ _ (HD5.out g hg).2 _ _ _ _ _ _ _ _))
        have RL := Lib.hid (show CvRel vw vm vi L I l0 _ cap bs base (.slice lq l0.length lc) w (j + 1) (.slice q3 (insI (insL l0 (cvN vw vm vi L I j)) (2 * (kp : Int) + bz)).length c3 : Value) w6 by unfold CvRel; rw [HST.out]; exact ⟨_, _, _, _, SR6.out, O6.out, HB6.out, XR6.out, OT6.out, HD5.out, HE3.out⟩)
        rw [← hw6]
        clear hw6 d0 d1 d2 d3 d4 d5 d6 d7 f0 f1 f2 f3 f4 f5 f6 f7
        go_wp2
        go_roundw
        case rel => exact ⟨j + 1, by omega, by go_num, RL.out⟩
        case measure => simp [intOf]; omega
end Go.Proofs.YthmababifgaejaaGreat
