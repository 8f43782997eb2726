/- What the specification's RunProgram and TraceOf return. No condition. impl.bitOf and spec.l01Truth. No condition. -/
import Derived.Test.YtnhagmjknfiphaaCmGStS
import Derived.Test.YtnhagmjknfiphaaCmGRnM
import Derived.Test.YtnhagmjknfiphaaCmNsS
import Derived.Test.YtnhagmjknfiphaaCmGInW
import Derived.Test.YtnhagmjknfiphaaCmGIntP
import Derived.WalkKit
import Derived.ProofKit
namespace Go.Proofs.Ytnhagmjknfiphaa
open Go.ChangeShapes Go.WideShapes Go.ChangeAt Go.RowKit
theorem row_len {w : World} {b : Nat} {u : Obj} (h : w.heap[b]? = some u) : b < w.heap.size := (Array.getElem?_eq_some_iff.1 h).1
set_option maxRecDepth 100000 in
set_option maxHeartbeats 8000000 in
theorem s_runp (vw vm vi : Int) (L : List InsR) (I : List Int) (f : Int) (sL li : Value) (w : World) (hs : Cs.Shows w 0 4 sL L.length (InsR.all L)) (hls : Cs.Shows w 0 1 li I.length (IntL.all I)) (hok : ∀ r ∈ L, r.Ok) (hL : L.length ≤ maxLen) (hl : I.length ≤ maxLen) :
    Calls Try.prog 26 #[.agg #[.int .i64 vw, .int .i64 vm, .int .i64 vi, sL], li, .int .i64 f] w (StEnd (rnV vw vm vi L I f) w) := by
  have hml : maxLen = 9223372036854775807 := rfl
  have HS := Lib.hid hs
  have HLI := Lib.hid hls
  have KI := Lib.hid (fun W (hb : Below w.heap.size w W) => s_inputs vw vm vi L I sL li W (hs.below hb) (hls.below hb) hok hL hl)
  have KN := Lib.hid (fun W (hb : Below w.heap.size w W) => s_new0 vw vm vi L sL W (hs.below hb) hok hL)
  have KT := Lib.hid (fun x r m s o base W (hb : Below w.heap.size w W) hp hG hI ho hbase => s_step vw vm vi L x I sL r m s o li base W hp hG hI (hs.below hb) (hls.below hb) ho hbase)
  obtain ⟨_, q, cap, rfl, _⟩ := hs
  obtain ⟨_, iq, ic, rfl, _⟩ := hls
  obtain ⟨B1, hB1⟩ : ∃ B, inB vw vm vi L I = B := ⟨_, rfl⟩
  obtain ⟨B2, hB2⟩ : ∃ B, (decide (0 ≤ f) && decide (f ≤ 400)) = B := ⟨_, rfl⟩
  have KR := Lib.hid (fun W => s_rng f 0 400 B2 hB2 W)
  rw [hB1] at KI
  obtain ⟨V, hV⟩ : ∃ V, rnV vw vm vi L I f = V := ⟨_, rfl⟩
  rw [hV]
  have HVd := Lib.hid (show V = if (B1 && B2) = true then stN vw vm vi L I f.toNat else zeroSt from by rw [← hV, ← hB1, ← hB2]; rfl)
  clear hV hok
  obtain ⟨w0, hw0⟩ : ∃ w0, w0 = (w.alloc (.cells #[.int .i64 vw, .int .i64 vm, .int .i64 vi, .slice q L.length cap] 30)).alloc (.cells #[.int .i64 0, .slice none 0 0, .slice none 0 0, .slice none 0 0, .int .i64 0, .slice none 0 0, .int .i64 0, .int .i64 0] 47) := ⟨_, rfl⟩
  have HB0 := Lib.hid (show Below w.heap.size w w0 by rw [hw0]; exact ((Below.refl _ _).alloc (Nat.le_refl _) _).alloc (by simp) _)
  have hs0 : w0.heap.size = w.heap.size + 2 := by rw [hw0]; simp
  have XR0 := Lib.hid (show w0.heap[w.heap.size]? = some (.cells #[.int .i64 vw, .int .i64 vm, .int .i64 vi, .slice q L.length cap] 30 (0, 0)) by rw [hw0, heap_alloc_old _ _ (by simp)]; exact heap_alloc_new _ _)
  have ZR0 := Lib.hid (show w0.heap[w.heap.size + 1]? = some (.cells #[.int .i64 0, .slice none 0 0, .slice none 0 0, .slice none 0 0, .int .i64 0, .slice none 0 0, .int .i64 0, .int .i64 0] 47 (0, 0)) by rw [hw0, ← show (w.alloc (.cells #[.int .i64 vw, .int .i64 vm, .int .i64 vi, .slice q L.length cap] 30)).heap.size = w.heap.size + 1 by simp]; exact heap_alloc_new _ _)
  obtain ⟨x0, x1, x2, x3⟩ := cell4_row XR0.out
  rw [hw0] at x0 x1 x2 x3
  go_enter Try.func26, Try.ntmps26
  go_wp2_with fail
  rw [← hw0]
  clear hw0 x0 x1 x2 x3
  refine (KI.out _ HB0.out).mono ?_
  rintro e w1 ⟨rfl, hb⟩
  have HBI := Lib.hid (HB0.out.trans (hb.mono HB0.out.size))
  have XR1 := Lib.hid ((hb.block w.heap.size (by omega)).trans XR0.out)
  have ZR1 := Lib.hid ((hb.block (w.heap.size + 1) (by omega)).trans ZR0.out)
  have hs1 := hb.size
  have hs1' : w.heap.size + 2 ≤ w1.heap.size := by omega
  clear hb hs1
  cases B1
  case false =>
    have hv : V = zeroSt := HVd.out
    clear HVd
    subst hv
    obtain ⟨d0, d1, d2, d3, d4, d5, d6, d7⟩ := cell8_row ZR1.out
    obtain ⟨f0, f1, f2, f3, f4, f5, f6, f7⟩ := froz8_row ZR1.out
    go_wp2
    refine bodyPost_ret (v := .agg #[.int .i64 0, .slice none 0 0, .slice none 0 0, .slice none 0 0, .int .i64 0, .slice none 0 0, .int .i64 0, .int .i64 0]) (by simp [results, Try.results26, go_sem, d0, d1, d2, d3, d4, d5, d6, d7]) rfl ?_
    refine st_zero ?_
    repeat (first | refine Below.setCell ?_ (by first | (simp; done) | (simp; omega)) _ | exact HBI.out)
  case true =>
    go_wp2_with fail
    refine (KR.out _).mono ?_
    rintro e w2 ⟨rfl, rfl⟩
    cases B2
    case false =>
      have hv : V = zeroSt := HVd.out
      clear HVd
      subst hv
      obtain ⟨d0, d1, d2, d3, d4, d5, d6, d7⟩ := cell8_row ZR1.out
      obtain ⟨f0, f1, f2, f3, f4, f5, f6, f7⟩ := froz8_row ZR1.out
      go_wp2
      refine bodyPost_ret (v := .agg #[.int .i64 0, .slice none 0 0, .slice none 0 0, .slice none 0 0, .int .i64 0, .slice none 0 0, .int .i64 0, .int .i64 0]) (by simp [results, Try.results26, go_sem, d0, d1, d2, d3, d4, d5, d6, d7]) rfl ?_
      refine st_zero ?_
      repeat (first | refine Below.setCell ?_ (by first | (simp; done) | (simp; omega)) _ | exact HBI.out)
    case true =>
      have hv : V = stN vw vm vi L I f.toNat := HVd.out
      rw [Bool.and_eq_true, decide_eq_true_eq, decide_eq_true_eq] at hB2
      obtain ⟨fn, rfl⟩ : ∃ n : Nat, f = n := ⟨f.toNat, by omega⟩
      rw [Int.toNat_natCast] at hv
      subst hv
      have hfn : fn ≤ 400 := by omega
      have HIN := Lib.hid (in_of hB1)
      have HG := Lib.hid (gd_N hB1)
      have hpr := (in_of hB1).1
      obtain ⟨⟨-, -, -, hm6, -⟩, -⟩ := pr_in hpr
      have hns : nsV vw vm vi L = newSt vm := by unfold nsV; rw [if_pos hpr]
      rw [hns] at KN
      clear hns HVd hB1 hB2
      obtain ⟨x0, x1, x2, x3⟩ := cell4_row XR1.out
      go_wp2_with fail
      clear x0 x1 x2 x3
      refine (KN.out _ HBI.out).mono ?_
      rintro e w3 ⟨hb, rq, rc, mq, mc, sq, sc, oq, oc, rfl, ho⟩
      have HB3 := Lib.hid (HBI.out.trans (hb.mono HBI.out.size))
      have XR3 := Lib.hid ((hb.block w.heap.size (by omega)).trans XR1.out)
      have ZR3 := Lib.hid ((hb.block (w.heap.size + 1) (by omega)).trans ZR1.out)
      have hs3 := hb.size
      have O3 : Hid (StO w3 w.heap.size (stN vw vm vi L I 0) (.slice rq (newSt vm).R.length rc) (.slice mq (newSt vm).M.length mc) (.slice sq (newSt vm).S.length sc) (.slice oq (newSt vm).O.length oc)) := Lib.hid (ho.base (by omega))
      clear hb ho
      obtain ⟨y, hy⟩ : ∃ y, y = newSt vm := ⟨_, rfl⟩
      have HY := Lib.hid hy
      rw [← hy]
      rw [← hy] at O3
      clear hy
      skip
      obtain ⟨wl, hwl⟩ : ∃ W9, W9 = w3.alloc (.cells #[.int .i64 y.pc, .slice rq y.R.length rc, .slice mq y.M.length mc, .slice sq y.S.length sc, .int .i64 y.inn, .slice oq y.O.length oc, .int .i64 y.cd, .int .i64 y.st] 47) := ⟨_, rfl⟩
      obtain ⟨bs, hbs⟩ : ∃ g, g = w3.heap.size := ⟨_, rfl⟩
      have hbl : Below w3.heap.size w3 wl := by rw [hwl]; exact (Below.refl _ _).alloc (Nat.le_refl _) _
      have RL : Hid (∃ r m s o, wl.heap[bs]? = some (.cells #[.int .i64 (stN vw vm vi L I 0).pc, r, m, s, .int .i64 (stN vw vm vi L I 0).inn, o, .int .i64 (stN vw vm vi L I 0).cd, .int .i64 (stN vw vm vi L I 0).st] 47 (0, 0)) ∧ StO wl w.heap.size (stN vw vm vi L I 0) r m s o ∧ Below w.heap.size w wl ∧ wl.heap[w.heap.size]? = some (.cells #[.int .i64 vw, .int .i64 vm, .int .i64 vi, .slice q L.length cap] 30 (0, 0)) ∧ wl.heap[w.heap.size + 1]? = some (.cells #[.int .i64 0, .slice none 0 0, .slice none 0 0, .slice none 0 0, .int .i64 0, .slice none 0 0, .int .i64 0, .int .i64 0] 47 (0, 0))) := Lib.hid ⟨_, _, _, _, by rw [hbs, hwl, show stN vw vm vi L I 0 = y from HY.out.symm]; exact heap_alloc_new _ _, by rw [show stN vw vm vi L I 0 = y from HY.out.symm] at *; exact O3.out.keep hbl, HB3.out.trans (hbl.mono HB3.out.size), (hbl.block w.heap.size (by omega)).trans XR3.out, (hbl.block (w.heap.size + 1) (by omega)).trans ZR3.out⟩
      have hbs2 : w.heap.size + 2 ≤ bs := by omega
      clear hbl
      go_wp2
      rw [← hwl, ← hbs]
      clear hwl hbs
      go_loopw [8] (fun kv wr => ∃ j : Nat, j ≤ fn ∧ kv = .int .i64 j ∧ ∃ r m s o, wr.heap[bs]? = some (.cells #[.int .i64 (stN vw vm vi L I j).pc, r, m, s, .int .i64 (stN vw vm vi L I j).inn, o, .int .i64 (stN vw vm vi L I j).cd, .int .i64 (stN vw vm vi L I j).st] 47 (0, 0)) ∧ StO wr w.heap.size (stN vw vm vi L I j) r m s o ∧ Below w.heap.size w wr ∧ wr.heap[w.heap.size]? = some (.cells #[.int .i64 vw, .int .i64 vm, .int .i64 vi, .slice q L.length cap] 30 (0, 0)) ∧ wr.heap[w.heap.size + 1]? = some (.cells #[.int .i64 0, .slice none 0 0, .slice none 0 0, .slice none 0 0, .int .i64 0, .slice none 0 0, .int .i64 0, .int .i64 0] 47 (0, 0))) (fun kv _ => fn - (intOf kv).toNat)
      case atStart => exact ⟨0, Nat.zero_le _, rfl, RL.out⟩
      case round =>
        obtain ⟨j, hj, rfl, r, m, s, o, hrow, hO, hB, hX, hZ⟩ := hrel
        obtain ⟨rq, rc, rfl⟩ := own_slice hO.1
        obtain ⟨mq, mc, rfl⟩ := own_slice hO.2.1
        obtain ⟨sq, sc, rfl⟩ := own_slice hO.2.2.1
        obtain ⟨oq, oc, rfl⟩ := own_slice hO.2.2.2.1
        obtain ⟨x, hx⟩ : ∃ x, stN vw vm vi L I j = x := ⟨_, rfl⟩
        have HXJ := Lib.hid hx
        have hGx := HG.out j
        rw [hx] at hrow hO hGx
        clear hx
        have SR := Lib.hid hrow
        have OR := Lib.hid hO
        have HBr := Lib.hid hB
        have XRr := Lib.hid hX
        have ZRr := Lib.hid hZ
        have HGX := Lib.hid hGx
        have hsr := hB.size
        have hwx := row_len hX
        clear hrow hO hB hX hGx hZ
        obtain ⟨x0, x1, x2, x3⟩ := cell4_row XRr.out
        obtain ⟨d0, d1, d2, d3, d4, d5, d6, d7⟩ := cell8_row SR.out
        obtain ⟨f0, f1, f2, f3, f4, f5, f6, f7⟩ := froz8_row SR.out
        by_cases hjn : j < fn
        · have hki : decide ((j : Int) < (fn : Int)) = true := decide_eq_true (by omega)
          by_cases hcd : x.cd = 0
          · have hq : (x.cd == 0) = true := by simpa using hcd
            clear hcd
            go_wp2_with fail
            clear x0 x1 x2 x3 d0 d1 d2 d3 d4 d5 d6 d7 f0 f1 f2 f3 f4 f5 f6 f7
            refine (KT.out x _ _ _ _ w.heap.size wr HBr.out HIN.out.1 HGX.out HIN.out.2 OR.out (by omega)).mono ?_
            rintro e w5 ⟨r5, m5, s5, o5, rfl, hO5, hA5, hs5⟩
            obtain ⟨rq5, rc5, rfl⟩ := own_slice hO5.1
            obtain ⟨mq5, mc5, rfl⟩ := own_slice hO5.2.1
            obtain ⟨sq5, sc5, rfl⟩ := own_slice hO5.2.2.1
            obtain ⟨oq5, oc5, rfl⟩ := own_slice hO5.2.2.2.1
            have HST := Lib.hid (show stN vw vm vi L I (j + 1) = stepV vw vm vi L I x by show stepV vw vm vi L I (stN vw vm vi L I j) = _; rw [HXJ.out])
            have HBS := Lib.hid (begun_st (vw := vw) (vm := vm) (vi := vi) (L := L) (I := I) (x := x))
            obtain ⟨y5, hy5⟩ : ∃ y, stepV vw vm vi L I x = y := ⟨_, rfl⟩
            rw [hy5] at HST hO5 HBS hs5 ⊢
            clear hy5
            have SR5 := Lib.hid ((hA5.block bs (row_len SR.out) (OR.out.off (T := 47) (by decide) SR.out)).trans SR.out)
            have XR5 := Lib.hid ((hA5.block w.heap.size (by omega) (OR.out.off (T := 30) (by decide) XRr.out)).trans XRr.out)
            have ZR5 := Lib.hid ((hA5.block (w.heap.size + 1) (row_len ZRr.out) (OR.out.off (T := 47) (by decide) ZRr.out)).trans ZRr.out)
            have HB5 := Lib.hid (HBr.out.trans (hA5.below (by omega) (fun g hg => (OR.out.lt hg).1)))
            have O5 := Lib.hid hO5
            have hs5' := hA5.size
            clear hO5 hA5 hs5
            obtain ⟨d0, d1, d2, d3, d4, d5, d6, d7⟩ := cell8_row SR5.out
            obtain ⟨f0, f1, f2, f3, f4, f5, f6, f7⟩ := froz8_row SR5.out
            go_wp2
            obtain ⟨w6, hw6⟩ : ∃ W9, W9 = ((((((((w5.setCell ⟨bs, 0, none⟩ (.int .i64 y5.pc)).setCell ⟨bs, 1, none⟩ (.slice rq5 y5.R.length rc5)).setCell ⟨bs, 2, none⟩ (.slice mq5 y5.M.length mc5)).setCell ⟨bs, 3, none⟩ (.slice sq5 y5.S.length sc5)).setCell ⟨bs, 4, none⟩ (.int .i64 y5.inn)).setCell ⟨bs, 5, none⟩ (.slice oq5 y5.O.length oc5)).setCell ⟨bs, 6, none⟩ (.int .i64 y5.cd)).setCell ⟨bs, 7, none⟩ (.int .i64 y5.st)) := ⟨_, rfl⟩
            have RL6 := Lib.hid (show ∃ r m s o, w6.heap[bs]? = some (.cells #[.int .i64 (stN vw vm vi L I (j + 1)).pc, r, m, s, .int .i64 (stN vw vm vi L I (j + 1)).inn, o, .int .i64 (stN vw vm vi L I (j + 1)).cd, .int .i64 (stN vw vm vi L I (j + 1)).st] 47 (0, 0)) ∧ StO w6 w.heap.size (stN vw vm vi L I (j + 1)) r m s o ∧ Below w.heap.size w w6 ∧ w6.heap[w.heap.size]? = some (.cells #[.int .i64 vw, .int .i64 vm, .int .i64 vi, .slice q L.length cap] 30 (0, 0)) ∧ w6.heap[w.heap.size + 1]? = some (.cells #[.int .i64 0, .slice none 0 0, .slice none 0 0, .slice none 0 0, .int .i64 0, .slice none 0 0, .int .i64 0, .int .i64 0] 47 (0, 0)) by
              rw [HST.out, hw6]
              exact ⟨_, _, _, _, set8_row SR5.out _ _ _ _ _ _ _ _, O5.out.set8 (O5.out.off (T := 47) (by decide) SR5.out) _ _ _ _ _ _ _ _, set8_below HB5.out (by omega) _ _ _ _ _ _ _ _, (set8_heap _ _ _ (by omega) _ _ _ _ _ _ _ _).trans XR5.out, (set8_heap _ _ _ (by omega) _ _ _ _ _ _ _ _).trans ZR5.out⟩)
            rw [← hw6]
            clear hw6 d0 d1 d2 d3 d4 d5 d6 d7 f0 f1 f2 f3 f4 f5 f6 f7
            go_roundw
            case rel => exact ⟨j + 1, by omega, by go_num, RL6.out⟩
            case measure => simp [intOf]; omega
          · have hq : (x.cd == 0) = false := by simpa using hcd
            have HE := Lib.hid (show stN vw vm vi L I fn = x by
              obtain ⟨k, rfl⟩ : ∃ k, fn = j + k := ⟨fn - j, by omega⟩
              have h := stN_stop (vw := vw) (vm := vm) (vi := vi) (L := L) (I := I) (n := j) (by rw [HXJ.out]; exact hcd) k
              rw [h.1]; exact HXJ.out)
            clear hcd
            clear x0 x1 x2 x3 f0 f1 f2 f3 f4 f5 f6 f7
            obtain ⟨z0, z1, z2, z3, z4, z5, z6, z7⟩ := cell8_row ZRr.out
            obtain ⟨f0, f1, f2, f3, f4, f5, f6, f7⟩ := froz8_row ZRr.out
            go_wp2
            obtain ⟨we, hwe⟩ : ∃ W9, W9 = ((((((((wr.setCell ⟨w.heap.size + 1, 0, none⟩ (.int .i64 x.pc)).setCell ⟨w.heap.size + 1, 1, none⟩ (.slice rq x.R.length rc)).setCell ⟨w.heap.size + 1, 2, none⟩ (.slice mq x.M.length mc)).setCell ⟨w.heap.size + 1, 3, none⟩ (.slice sq x.S.length sc)).setCell ⟨w.heap.size + 1, 4, none⟩ (.int .i64 x.inn)).setCell ⟨w.heap.size + 1, 5, none⟩ (.slice oq x.O.length oc)).setCell ⟨w.heap.size + 1, 6, none⟩ (.int .i64 x.cd)).setCell ⟨w.heap.size + 1, 7, none⟩ (.int .i64 x.st)) := ⟨_, rfl⟩
            have D2 := Lib.hid (show we.heap[w.heap.size + 1]? = some (.cells #[.int .i64 x.pc, .slice rq x.R.length rc, .slice mq x.M.length mc, .slice sq x.S.length sc, .int .i64 x.inn, .slice oq x.O.length oc, .int .i64 x.cd, .int .i64 x.st] 47 (0, 0)) by rw [hwe]; exact set8_row ZRr.out _ _ _ _ _ _ _ _)
            have BE := Lib.hid (show Below w.heap.size w we by rw [hwe]; exact set8_below HBr.out (by omega) _ _ _ _ _ _ _ _)
            have OE := Lib.hid (show StO we w.heap.size x _ _ _ _ by rw [hwe]; exact OR.out.set8 (OR.out.off (T := 47) (by decide) ZRr.out) _ _ _ _ _ _ _ _)
            rw [← hwe]
            clear hwe d0 d1 d2 d3 d4 d5 d6 d7 z0 z1 z2 z3 z4 z5 z6 z7
            obtain ⟨d0, d1, d2, d3, d4, d5, d6, d7⟩ := cell8_row D2.out
            refine bodyPost_ret (v := .agg #[.int .i64 x.pc, .slice rq x.R.length rc, .slice mq x.M.length mc, .slice sq x.S.length sc, .int .i64 x.inn, .slice oq x.O.length oc, .int .i64 x.cd, .int .i64 x.st]) (by simp [results, Try.results26, go_sem, d0, d1, d2, d3, d4, d5, d6, d7]) rfl ?_
            rw [HE.out]
            exact ⟨BE.out, rq, rc, mq, mc, sq, sc, oq, oc, rfl, OE.out⟩
        · have hje : j = fn := by omega
          subst hje
          have hki : decide ((j : Int) < (j : Int)) = false := by simp
          have HE := Lib.hid (show stN vw vm vi L I j = x from HXJ.out)
          clear x0 x1 x2 x3 f0 f1 f2 f3 f4 f5 f6 f7
          obtain ⟨z0, z1, z2, z3, z4, z5, z6, z7⟩ := cell8_row ZRr.out
          obtain ⟨f0, f1, f2, f3, f4, f5, f6, f7⟩ := froz8_row ZRr.out
          go_wp2
          obtain ⟨we, hwe⟩ : ∃ W9, W9 = ((((((((wr.setCell ⟨w.heap.size + 1, 0, none⟩ (.int .i64 x.pc)).setCell ⟨w.heap.size + 1, 1, none⟩ (.slice rq x.R.length rc)).setCell ⟨w.heap.size + 1, 2, none⟩ (.slice mq x.M.length mc)).setCell ⟨w.heap.size + 1, 3, none⟩ (.slice sq x.S.length sc)).setCell ⟨w.heap.size + 1, 4, none⟩ (.int .i64 x.inn)).setCell ⟨w.heap.size + 1, 5, none⟩ (.slice oq x.O.length oc)).setCell ⟨w.heap.size + 1, 6, none⟩ (.int .i64 x.cd)).setCell ⟨w.heap.size + 1, 7, none⟩ (.int .i64 x.st)) := ⟨_, rfl⟩
          have D2 := Lib.hid (show we.heap[w.heap.size + 1]? = some (.cells #[.int .i64 x.pc, .slice rq x.R.length rc, .slice mq x.M.length mc, .slice sq x.S.length sc, .int .i64 x.inn, .slice oq x.O.length oc, .int .i64 x.cd, .int .i64 x.st] 47 (0, 0)) by rw [hwe]; exact set8_row ZRr.out _ _ _ _ _ _ _ _)
          have BE := Lib.hid (show Below w.heap.size w we by rw [hwe]; exact set8_below HBr.out (by omega) _ _ _ _ _ _ _ _)
          have OE := Lib.hid (show StO we w.heap.size x _ _ _ _ by rw [hwe]; exact OR.out.set8 (OR.out.off (T := 47) (by decide) ZRr.out) _ _ _ _ _ _ _ _)
          rw [← hwe]
          clear hwe d0 d1 d2 d3 d4 d5 d6 d7 z0 z1 z2 z3 z4 z5 z6 z7
          obtain ⟨d0, d1, d2, d3, d4, d5, d6, d7⟩ := cell8_row D2.out
          refine bodyPost_ret (v := .agg #[.int .i64 x.pc, .slice rq x.R.length rc, .slice mq x.M.length mc, .slice sq x.S.length sc, .int .i64 x.inn, .slice oq x.O.length oc, .int .i64 x.cd, .int .i64 x.st]) (by simp [results, Try.results26, go_sem, d0, d1, d2, d3, d4, d5, d6, d7]) rfl ?_
          rw [HE.out]
          exact ⟨BE.out, rq, rc, mq, mc, sq, sc, oq, oc, rfl, OE.out⟩
set_option maxRecDepth 100000 in
set_option maxHeartbeats 8000000 in
theorem s_tracep (vw vm vi : Int) (L : List InsR) (I : List Int) (f : Int) (sL li : Value) (w : World) (hs : Cs.Shows w 0 4 sL L.length (InsR.all L)) (hls : Cs.Shows w 0 1 li I.length (IntL.all I)) (hok : ∀ r ∈ L, r.Ok) (hL : L.length ≤ maxLen) (hl : I.length ≤ maxLen) :
    Calls Try.prog 31 #[.agg #[.int .i64 vw, .int .i64 vm, .int .i64 vi, sL], li, .int .i64 f] w (NxOwn (rtV vw vm vi L I f) w) := by
  have hml : maxLen = 9223372036854775807 := rfl
  have HS := Lib.hid hs
  have HLI := Lib.hid hls
  have KI := Lib.hid (fun W (hb : Below w.heap.size w W) => s_inputs vw vm vi L I sL li W (hs.below hb) (hls.below hb) hok hL hl)
  have KN := Lib.hid (fun W (hb : Below w.heap.size w W) => s_new0 vw vm vi L sL W (hs.below hb) hok hL)
  have KT := Lib.hid (fun x r m s o base W (hb : Below w.heap.size w W) hp hG hI ho hbase => s_step vw vm vi L x I sL r m s o li base W hp hG hI (hs.below hb) (hls.below hb) ho hbase)
  obtain ⟨_, q, cap, rfl, _⟩ := hs
  obtain ⟨_, iq, ic, rfl, _⟩ := hls
  obtain ⟨B1, hB1⟩ : ∃ B, inB vw vm vi L I = B := ⟨_, rfl⟩
  obtain ⟨B2, hB2⟩ : ∃ B, (decide (0 ≤ f) && decide (f ≤ 400)) = B := ⟨_, rfl⟩
  have KR := Lib.hid (fun W => s_rng f 0 400 B2 hB2 W)
  rw [hB1] at KI
  obtain ⟨V, hV⟩ : ∃ V, rtV vw vm vi L I f = V := ⟨_, rfl⟩
  rw [hV]
  have HVd := Lib.hid (show V = if (B1 && B2) = true then trN vw vm vi L I f.toNat else [] from by rw [← hV, ← hB1, ← hB2]; rfl)
  clear hV hok
  obtain ⟨w0, hw0⟩ : ∃ w0, w0 = w.alloc (.cells #[.int .i64 vw, .int .i64 vm, .int .i64 vi, .slice q L.length cap] 30) := ⟨_, rfl⟩
  have HB0 := Lib.hid (show Below w.heap.size w w0 by rw [hw0]; exact (Below.refl _ _).alloc (Nat.le_refl _) _)
  have hs0 : w0.heap.size = w.heap.size + 1 := by rw [hw0]; simp
  have XR0 := Lib.hid (show w0.heap[w.heap.size]? = some (.cells #[.int .i64 vw, .int .i64 vm, .int .i64 vi, .slice q L.length cap] 30 (0, 0)) by rw [hw0]; exact heap_alloc_new _ _)
  obtain ⟨x0, x1, x2, x3⟩ := cell4_row XR0.out
  rw [hw0] at x0 x1 x2 x3
  go_enter Try.func31, Try.ntmps31
  go_wp2_with fail
  rw [← hw0]
  clear hw0 x0 x1 x2 x3
  refine (KI.out _ HB0.out).mono ?_
  rintro e w1 ⟨rfl, hb⟩
  have HBI := Lib.hid (HB0.out.trans (hb.mono HB0.out.size))
  have XR1 := Lib.hid ((hb.block w.heap.size (by omega)).trans XR0.out)
  have hs1 := hb.size
  have hs1' : w.heap.size + 1 ≤ w1.heap.size := by omega
  clear hb hs1
  cases B1
  case false =>
    have hv : V = [] := HVd.out
    clear HVd
    go_wp2
    go_ret
    exact nx_none hv HBI.out
  case true =>
    go_wp2_with fail
    refine (KR.out _).mono ?_
    rintro e w2 ⟨rfl, rfl⟩
    cases B2
    case false =>
      have hv : V = [] := HVd.out
      clear HVd
      go_wp2
      go_ret
      exact nx_none hv HBI.out
    case true =>
      have hv : V = trN vw vm vi L I f.toNat := HVd.out
      rw [Bool.and_eq_true, decide_eq_true_eq, decide_eq_true_eq] at hB2
      obtain ⟨fn, rfl⟩ : ∃ n : Nat, f = n := ⟨f.toNat, by omega⟩
      rw [Int.toNat_natCast] at hv
      subst hv
      have hfn : fn ≤ 400 := by omega
      have HIN := Lib.hid (in_of hB1)
      have HG := Lib.hid (gd_N hB1)
      have hpr := (in_of hB1).1
      obtain ⟨⟨-, -, -, hm6, -⟩, -⟩ := pr_in hpr
      have hns : nsV vw vm vi L = newSt vm := by unfold nsV; rw [if_pos hpr]
      rw [hns] at KN
      clear hns HVd hB1 hB2
      obtain ⟨x0, x1, x2, x3⟩ := cell4_row XR1.out
      obtain ⟨i9, hi9, hz9, hzs9, hzb9⟩ := info_parts zero_Int
      clear x0 x1 x2 x3
      obtain ⟨wz, hwz⟩ : ∃ W9, W9 = w1.alloc (.cells #[] 3) := ⟨_, rfl⟩
      have OTz := Lib.hid (show wz.ownsRow w.heap.size 3 1 (.slice (some ⟨w1.heap.size, 0, none⟩) 0 0) 0 [] by rw [hwz]; exact World.ownsRow_made w1 #[] 0 (by omega) (by omega) rfl)
      have HBz := Lib.hid (show Below w.heap.size w wz by rw [hwz]; exact HBI.out.alloc (by omega) _)
      have hbz : Below w1.heap.size w1 wz := by rw [hwz]; exact (Below.refl _ _).alloc (Nat.le_refl _) _
      have hsz : wz.heap.size = w1.heap.size + 1 := by rw [hwz]; simp
      have XRz := Lib.hid ((hbz.block w.heap.size (by omega)).trans XR1.out)
      obtain ⟨x0, x1, x2, x3⟩ := cell4_row XRz.out
      rw [hwz] at x0 x1 x2 x3
      go_wp2_with fail
      rw [← hwz]
      clear hwz hbz x0 x1 x2 x3
      refine (KN.out _ HBz.out).mono ?_
      rintro e w3 ⟨hb, rq, rc, mq, mc, sq, sc, oq, oc, rfl, ho⟩
      have HB3 := Lib.hid (HBz.out.trans (hb.mono HBz.out.size))
      have XR3 := Lib.hid ((hb.block w.heap.size (by omega)).trans XRz.out)
      have hs3 := hb.size
      have O3 : Hid (StO w3 w.heap.size (stN vw vm vi L I 0) (.slice rq (newSt vm).R.length rc) (.slice mq (newSt vm).M.length mc) (.slice sq (newSt vm).S.length sc) (.slice oq (newSt vm).O.length oc)) := Lib.hid (ho.base (by omega))
      have OT3 := Lib.hid (own_keep OTz.out hb)
      have hdj : Hid (∀ g ∈ StB (.slice rq (newSt vm).R.length rc) (.slice mq (newSt vm).M.length mc) (.slice sq (newSt vm).S.length sc) (.slice oq (newSt vm).O.length oc), g ≠ w1.heap.size) := Lib.hid (fun g hg e => by have := (ho.lt hg).1; omega)
      clear hb ho
      obtain ⟨y, hy⟩ : ∃ y, y = newSt vm := ⟨_, rfl⟩
      have HY := Lib.hid hy
      rw [← hy]
      rw [← hy] at O3 hdj
      clear hy
      skip
      obtain ⟨wl, hwl⟩ : ∃ W9, W9 = w3.alloc (.cells #[.int .i64 y.pc, .slice rq y.R.length rc, .slice mq y.M.length mc, .slice sq y.S.length sc, .int .i64 y.inn, .slice oq y.O.length oc, .int .i64 y.cd, .int .i64 y.st] 47) := ⟨_, rfl⟩
      obtain ⟨bs, hbs⟩ : ∃ g, g = w3.heap.size := ⟨_, rfl⟩
      have hbl : Below w3.heap.size w3 wl := by rw [hwl]; exact (Below.refl _ _).alloc (Nat.le_refl _) _
      have RL : Hid (∃ r m s o, wl.heap[bs]? = some (.cells #[.int .i64 (stN vw vm vi L I 0).pc, r, m, s, .int .i64 (stN vw vm vi L I 0).inn, o, .int .i64 (stN vw vm vi L I 0).cd, .int .i64 (stN vw vm vi L I 0).st] 47 (0, 0)) ∧ StO wl w.heap.size (stN vw vm vi L I 0) r m s o ∧ Below w.heap.size w wl ∧ wl.heap[w.heap.size]? = some (.cells #[.int .i64 vw, .int .i64 vm, .int .i64 vi, .slice q L.length cap] 30 (0, 0)) ∧ wl.ownsRow w.heap.size 3 1 (.slice (some ⟨w1.heap.size, 0, none⟩) 0 0) (trN vw vm vi L I 0).length (IntL.all (trN vw vm vi L I 0)) ∧ (∀ g ∈ (.slice (some ⟨w1.heap.size, 0, none⟩) 0 0 : Value).ownBlock.toList, g ∉ StB r m s o ∧ g ≠ bs)) := Lib.hid ⟨_, _, _, _, by rw [hbs, hwl, show stN vw vm vi L I 0 = y from HY.out.symm]; exact heap_alloc_new _ _, by rw [show stN vw vm vi L I 0 = y from HY.out.symm] at *; exact O3.out.keep hbl, HB3.out.trans (hbl.mono HB3.out.size), (hbl.block w.heap.size (by omega)).trans XR3.out, own_keep OT3.out hbl, fun g hg => by simp [Value.ownBlock] at hg; subst hg; exact ⟨fun h => hdj.out _ h rfl, by omega⟩⟩
      have hbs2 : w.heap.size + 1 ≤ bs := by omega
      clear hbl
      go_wp2
      rw [← hwl, ← hbs]
      clear hwl hbs
      go_loopw [7, 9] (fun tv kv wr => ∃ j : Nat, j ≤ fn ∧ kv = .int .i64 j ∧ ∃ r m s o, wr.heap[bs]? = some (.cells #[.int .i64 (stN vw vm vi L I j).pc, r, m, s, .int .i64 (stN vw vm vi L I j).inn, o, .int .i64 (stN vw vm vi L I j).cd, .int .i64 (stN vw vm vi L I j).st] 47 (0, 0)) ∧ StO wr w.heap.size (stN vw vm vi L I j) r m s o ∧ Below w.heap.size w wr ∧ wr.heap[w.heap.size]? = some (.cells #[.int .i64 vw, .int .i64 vm, .int .i64 vi, .slice q L.length cap] 30 (0, 0)) ∧ wr.ownsRow w.heap.size 3 1 tv (trN vw vm vi L I j).length (IntL.all (trN vw vm vi L I j)) ∧ (∀ g ∈ tv.ownBlock.toList, g ∉ StB r m s o ∧ g ≠ bs)) (fun _ kv _ => fn - (intOf kv).toNat)
      case atStart => exact ⟨0, Nat.zero_le _, rfl, RL.out⟩
      case round =>
        obtain ⟨j, hj, rfl, r, m, s, o, hrow, hO, hB, hX, hT, hD⟩ := hrel
        obtain ⟨rq, rc, rfl⟩ := own_slice hO.1
        obtain ⟨mq, mc, rfl⟩ := own_slice hO.2.1
        obtain ⟨sq, sc, rfl⟩ := own_slice hO.2.2.1
        obtain ⟨oq, oc, rfl⟩ := own_slice hO.2.2.2.1
        obtain ⟨x, hx⟩ : ∃ x, stN vw vm vi L I j = x := ⟨_, rfl⟩
        have HXJ := Lib.hid hx
        have hGx := HG.out j
        rw [hx] at hrow hO hGx hD
        clear hx
        have SR := Lib.hid hrow
        have OR := Lib.hid hO
        have HBr := Lib.hid hB
        have XRr := Lib.hid hX
        obtain ⟨tq, tc, rfl⟩ := own_slice hT
        have OT := Lib.hid hT
        have HD := Lib.hid hD
        have HGX := Lib.hid hGx
        have hsr := hB.size
        have hwx := row_len hX
        clear hrow hO hB hX hGx hT hD
        obtain ⟨x0, x1, x2, x3⟩ := cell4_row XRr.out
        obtain ⟨d0, d1, d2, d3, d4, d5, d6, d7⟩ := cell8_row SR.out
        obtain ⟨f0, f1, f2, f3, f4, f5, f6, f7⟩ := froz8_row SR.out
        by_cases hjn : j < fn
        · have hki : decide ((j : Int) < (fn : Int)) = true := decide_eq_true (by omega)
          by_cases hcd : x.cd = 0
          · have hq : (x.cd == 0) = true := by simpa using hcd
            clear hcd
            go_wp2_with fail
            clear x0 x1 x2 x3 d0 d1 d2 d3 d4 d5 d6 d7 f0 f1 f2 f3 f4 f5 f6 f7
            refine (KT.out x _ _ _ _ w.heap.size wr HBr.out HIN.out.1 HGX.out HIN.out.2 OR.out (by omega)).mono ?_
            rintro e w5 ⟨r5, m5, s5, o5, rfl, hO5, hA5, hs5⟩
            obtain ⟨rq5, rc5, rfl⟩ := own_slice hO5.1
            obtain ⟨mq5, mc5, rfl⟩ := own_slice hO5.2.1
            obtain ⟨sq5, sc5, rfl⟩ := own_slice hO5.2.2.1
            obtain ⟨oq5, oc5, rfl⟩ := own_slice hO5.2.2.2.1
            have HST := Lib.hid (show stN vw vm vi L I (j + 1) = stepV vw vm vi L I x by show stepV vw vm vi L I (stN vw vm vi L I j) = _; rw [HXJ.out])
            have HBS := Lib.hid (begun_st (vw := vw) (vm := vm) (vi := vi) (L := L) (I := I) (x := x))
            obtain ⟨y5, hy5⟩ : ∃ y, stepV vw vm vi L I x = y := ⟨_, rfl⟩
            rw [hy5] at HST hO5 HBS hs5 ⊢
            clear hy5
            have SR5 := Lib.hid ((hA5.block bs (row_len SR.out) (OR.out.off (T := 47) (by decide) SR.out)).trans SR.out)
            have XR5 := Lib.hid ((hA5.block w.heap.size (by omega) (OR.out.off (T := 30) (by decide) XRr.out)).trans XRr.out)
            have OT5 := Lib.hid (own_same OT.out (fun g hg => hA5.block g (own_lt OT.out hg).2 (HD.out g hg).1))
            have HD5 := Lib.hid (show ∀ g ∈ (.slice tq (trN vw vm vi L I j).length tc : Value).ownBlock.toList, g ∉ StB _ _ _ _ ∧ g ≠ bs from fun g hg => ⟨fun h => (hs5 g h).elim (HD.out g hg).1 (fun h => by have := (own_lt OT.out hg).2; omega), (HD.out g hg).2⟩)
            have HB5 := Lib.hid (HBr.out.trans (hA5.below (by omega) (fun g hg => (OR.out.lt hg).1)))
            have O5 := Lib.hid hO5
            have hs5' := hA5.size
            clear hO5 hA5 hs5
            obtain ⟨d0, d1, d2, d3, d4, d5, d6, d7⟩ := cell8_row SR5.out
            obtain ⟨f0, f1, f2, f3, f4, f5, f6, f7⟩ := froz8_row SR5.out
            go_upto_region 11 with fail
            obtain ⟨w6, hw6⟩ : ∃ W9, W9 = ((((((((w5.setCell ⟨bs, 0, none⟩ (.int .i64 y5.pc)).setCell ⟨bs, 1, none⟩ (.slice rq5 y5.R.length rc5)).setCell ⟨bs, 2, none⟩ (.slice mq5 y5.M.length mc5)).setCell ⟨bs, 3, none⟩ (.slice sq5 y5.S.length sc5)).setCell ⟨bs, 4, none⟩ (.int .i64 y5.inn)).setCell ⟨bs, 5, none⟩ (.slice oq5 y5.O.length oc5)).setCell ⟨bs, 6, none⟩ (.int .i64 y5.cd)).setCell ⟨bs, 7, none⟩ (.int .i64 y5.st)) := ⟨_, rfl⟩
            have SR6 := Lib.hid (show w6.heap[bs]? = some (.cells #[.int .i64 y5.pc, .slice rq5 y5.R.length rc5, .slice mq5 y5.M.length mc5, .slice sq5 y5.S.length sc5, .int .i64 y5.inn, .slice oq5 y5.O.length oc5, .int .i64 y5.cd, .int .i64 y5.st] 47 (0, 0)) by rw [hw6]; exact set8_row SR5.out _ _ _ _ _ _ _ _)
            have O6 := Lib.hid (show StO w6 w.heap.size y5 (.slice rq5 y5.R.length rc5) (.slice mq5 y5.M.length mc5) (.slice sq5 y5.S.length sc5) (.slice oq5 y5.O.length oc5) by rw [hw6]; exact O5.out.set8 (O5.out.off (T := 47) (by decide) SR5.out) _ _ _ _ _ _ _ _)
            have HB6 := Lib.hid (show Below w.heap.size w w6 by rw [hw6]; exact set8_below HB5.out (by omega) _ _ _ _ _ _ _ _)
            have XR6 := Lib.hid (show w6.heap[w.heap.size]? = some (.cells #[.int .i64 vw, .int .i64 vm, .int .i64 vi, .slice q L.length cap] 30 (0, 0)) by rw [hw6]; exact (set8_heap _ _ _ (by omega) _ _ _ _ _ _ _ _).trans XR5.out)
            have OT6 := Lib.hid (show w6.ownsRow w.heap.size 3 1 (.slice tq (trN vw vm vi L I j).length tc) (trN vw vm vi L I j).length (IntL.all (trN vw vm vi L I j)) by rw [hw6]; exact own_same OT5.out (fun g hg => set8_heap _ _ _ (HD5.out g hg).2 _ _ _ _ _ _ _ _))
            have hs6 : w.heap.size ≤ w6.heap.size := HB6.out.size
            rw [← hw6]
            clear hw6 d0 d1 d2 d3 d4 d5 d6 d7 f0 f1 f2 f3 f4 f5 f6 f7
            obtain ⟨d0, d1, d2, d3, d4, d5, d6, d7⟩ := cell8_row SR6.out
            by_cases hbg : begunB L.length x = true
            · have HTJ := Lib.hid (show trN vw vm vi L I (j + 1) = trN vw vm vi L I j ++ [x.pc] by show (if begunB L.length (stN vw vm vi L I j) = true then trN vw vm vi L I j ++ [(stN vw vm vi L I j).pc] else trN vw vm vi L I j) = _; rw [HXJ.out, if_pos hbg])
              have hgt : decide (x.st < y5.st) = true := by rw [← HBS.out]; exact hbg
              have hTL := trN_len (vw := vw) (vm := vm) (vi := vi) (L := L) (I := I) j
              clear hbg
              go_wp2_with (at_builtin; refine wpList_append_own_at _ rfl _ _ 26 rfl w.heap.size 3 i9 (.int .i64 0) 1 8 Try.underlying26 hi9 hz9 hzs9 hzb9 rfl (by decide) (.slice tq (trN vw vm vi L I j).length tc) (trN vw vm vi L I j).length _ rfl (own_keep OT6.out ((Below.refl _ _).alloc (Nat.le_refl _) _)) _ 1 1 [.int .i64 x.pc] rfl rfl ?c1 ?c2 ?c3 ?c4 ?c5 ?_)
              case c1 => exact cell_one_new _ _ _
              case c2 => intro u hu; simp at hu; subst hu; rfl
              case c3 => unfold maxLen; omega
              case c4 => omega
              case c5 => simp; omega
              intro v' w7 hown hgrow _ hat
              obtain ⟨q', c', rfl⟩ := own_slice hown
              have hal : Below w6.heap.size w6 (w6.alloc (.cells #[.int .i64 x.pc] 3)) := (Below.refl _ _).alloc (Nat.le_refl _) _
              have hk : ∀ g, g < w6.heap.size → g ∉ (.slice tq (trN vw vm vi L I j).length tc : Value).ownBlock.toList → w7.heap[g]? = w6.heap[g]? := fun g hg hn => (hgrow.block g (by simp; omega) (fun h => hn (by rw [← h]; simp))).trans (hal.block g hg)
              have RL7 := Lib.hid (show w7.heap[bs]? = some (.cells #[.int .i64 (stN vw vm vi L I (j + 1)).pc, .slice rq5 y5.R.length rc5, .slice mq5 y5.M.length mc5, .slice sq5 y5.S.length sc5, .int .i64 (stN vw vm vi L I (j + 1)).inn, .slice oq5 y5.O.length oc5, .int .i64 (stN vw vm vi L I (j + 1)).cd, .int .i64 (stN vw vm vi L I (j + 1)).st] 47 (0, 0)) ∧ StO w7 w.heap.size (stN vw vm vi L I (j + 1)) (.slice rq5 y5.R.length rc5) (.slice mq5 y5.M.length mc5) (.slice sq5 y5.S.length sc5) (.slice oq5 y5.O.length oc5) ∧ Below w.heap.size w w7 ∧ w7.heap[w.heap.size]? = some (.cells #[.int .i64 vw, .int .i64 vm, .int .i64 vi, .slice q L.length cap] 30 (0, 0)) ∧ w7.ownsRow w.heap.size 3 1 ((.slice q' ((trN vw vm vi L I j).length + 1) c')) (trN vw vm vi L I (j + 1)).length (IntL.all (trN vw vm vi L I (j + 1))) ∧ (∀ g ∈ ((.slice q' ((trN vw vm vi L I j).length + 1) c') : Value).ownBlock.toList, g ∉ StB (.slice rq5 y5.R.length rc5) (.slice mq5 y5.M.length mc5) (.slice sq5 y5.S.length sc5) (.slice oq5 y5.O.length oc5) ∧ g ≠ bs) by
                rw [HST.out, HTJ.out]
                refine ⟨(hk bs (row_len SR6.out) (fun h => (HD5.out bs h).2 rfl)).trans SR6.out, O6.out.same (fun g hg => hk g (O6.out.lt hg).2 (fun h => (HD5.out g h).1 hg)), (HB6.out.alloc hs6 _).grown hgrow (by simp; omega) (fun g hg => (own_lt OT6.out (g := g) (by rw [hg]; simp)).1), (hk w.heap.size (by have := row_len XR6.out; omega) (fun h => own_off (T := 30) (by decide) OT6.out XR6.out h)).trans XR6.out, ?_, fun g hg => ?_⟩
                · rw [List.length_append, IntL.all_map, List.map_append, ← IntL.all_map]; exact hown
                · rcases hat with h | h
                  · rw [h] at hg; exact HD5.out g hg
                  · rw [h] at hg
                    simp at hg
                    subst hg
                    exact ⟨fun h => by have := (O6.out.lt h).2; omega, by have := row_len SR6.out; omega⟩)
              have hlen := Lib.hid (show (trN vw vm vi L I (j + 1)).length = (trN vw vm vi L I j).length + 1 by rw [HTJ.out]; simp)
              clear hk hgrow hown hat hal d0 d1 d2 d3 d4 d5 d6 d7
              go_wp2
              go_roundw
              case rel => exact ⟨j + 1, by omega, by go_num, _, _, _, _, RL7.out⟩
              case measure => simp [intOf]; omega
            · have HTJ := Lib.hid (show trN vw vm vi L I (j + 1) = trN vw vm vi L I j by show (if begunB L.length (stN vw vm vi L I j) = true then trN vw vm vi L I j ++ [(stN vw vm vi L I j).pc] else trN vw vm vi L I j) = _; rw [HXJ.out, if_neg hbg])
              have hgt : decide (x.st < y5.st) = false := by rw [← HBS.out]; simpa using hbg
              clear hbg
              have RL7 := Lib.hid (show w6.heap[bs]? = some (.cells #[.int .i64 (stN vw vm vi L I (j + 1)).pc, .slice rq5 y5.R.length rc5, .slice mq5 y5.M.length mc5, .slice sq5 y5.S.length sc5, .int .i64 (stN vw vm vi L I (j + 1)).inn, .slice oq5 y5.O.length oc5, .int .i64 (stN vw vm vi L I (j + 1)).cd, .int .i64 (stN vw vm vi L I (j + 1)).st] 47 (0, 0)) ∧ StO w6 w.heap.size (stN vw vm vi L I (j + 1)) (.slice rq5 y5.R.length rc5) (.slice mq5 y5.M.length mc5) (.slice sq5 y5.S.length sc5) (.slice oq5 y5.O.length oc5) ∧ Below w.heap.size w w6 ∧ w6.heap[w.heap.size]? = some (.cells #[.int .i64 vw, .int .i64 vm, .int .i64 vi, .slice q L.length cap] 30 (0, 0)) ∧ w6.ownsRow w.heap.size 3 1 (.slice tq (trN vw vm vi L I j).length tc) (trN vw vm vi L I (j + 1)).length (IntL.all (trN vw vm vi L I (j + 1))) ∧ (∀ g ∈ (.slice tq (trN vw vm vi L I j).length tc : Value).ownBlock.toList, g ∉ StB (.slice rq5 y5.R.length rc5) (.slice mq5 y5.M.length mc5) (.slice sq5 y5.S.length sc5) (.slice oq5 y5.O.length oc5) ∧ g ≠ bs) by
                rw [HST.out, HTJ.out]
                exact ⟨SR6.out, O6.out, HB6.out, XR6.out, OT6.out, HD5.out⟩)
              go_wp2
              go_roundw
              case rel => exact ⟨j + 1, by omega, by go_num, _, _, _, _, RL7.out⟩
              case measure => simp [intOf]; omega
          · have hq : (x.cd == 0) = false := by simpa using hcd
            have HE := Lib.hid (show trN vw vm vi L I fn = trN vw vm vi L I j by
              obtain ⟨k, rfl⟩ : ∃ k, fn = j + k := ⟨fn - j, by omega⟩
              have h := stN_stop (vw := vw) (vm := vm) (vi := vi) (L := L) (I := I) (n := j) (by rw [HXJ.out]; exact hcd) k
              exact h.2)
            clear hcd
            go_wp2
            go_ret
            try rw [HE.out]
            exact ⟨HBr.out, tq, tc, rfl, OT.out⟩
        · have hje : j = fn := by omega
          subst hje
          have hki : decide ((j : Int) < (j : Int)) = false := by simp
          have HE := Lib.hid (show trN vw vm vi L I j = trN vw vm vi L I j from rfl)
          go_wp2
          go_ret
          try rw [HE.out]
          exact ⟨HBr.out, tq, tc, rfl, OT.out⟩
end Go.Proofs.Ytnhagmjknfiphaa
namespace Go.Proofs.Ytnhagmjknfiphaa
open Go.ChangeShapes Go.WideShapes Go.ChangeAt Go.RowKit
set_option maxRecDepth 100000 in
theorem i_bit (b : Bool) (w : World) : Calls Try.prog 44 #[.bool b] w fun e w' => e = .returned (.int .i64 (if b = true then 1 else 0)) ∧ w = w' := by
  cases b
  all_goals
    go_enter Try.func44, Try.ntmps44
    go_wp2
    go_ret
    exact ⟨rfl, rfl⟩
set_option maxRecDepth 100000 in
theorem s_truth (b : Bool) (w : World) : Calls Try.prog 65 #[.bool b] w fun e w' => e = .returned (.int .i64 (if b = true then 1 else 0)) ∧ w = w' := by
  cases b
  · go_enter Try.func65, Try.ntmps65
    go_wp2
    go_ret
    exact ⟨rfl, rfl⟩
  · go_enter Try.func65, Try.ntmps65
    go_wp2
    go_ret
    exact ⟨rfl, rfl⟩
end Go.Proofs.Ytnhagmjknfiphaa
