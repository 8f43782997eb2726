/- What the specification's SameRun returns. No condition. What the specification's KillsOf returns. No condition. -/
import Derived.Test.YtnhagmjknfiphaaKmGSrM
import Derived.Test.YtnhagmjknfiphaaKmGAoS
import Derived.Test.YtnhagmjknfiphaaCmGRnS
import Derived.Test.YtnhagmjknfiphaaCmGOwAt
import Derived.Test.YtnhagmjknfiphaaCmGReg
import Derived.Deep.Cut
namespace Go.Proofs.Ytnhagmjknfiphaa
open Go.ChangeShapes Go.WideShapes Go.ChangeAt Go.RowKit
set_option maxRecDepth 100000 in
set_option maxHeartbeats 4000000 in
theorem s_same (x y : StR) (r m s o r' m' s' o' : Value) (w : World) (h : StS w 0 x r m s o) (h' : StS w 0 y r' m' s' o') (hl : x.Long) (hl' : y.Long) :
    Calls Try.prog 48 #[.agg #[.int .i64 x.pc, r, m, s, .int .i64 x.inn, o, .int .i64 x.cd, .int .i64 x.st], .agg #[.int .i64 y.pc, r', m', s', .int .i64 y.inn, o', .int .i64 y.cd, .int .i64 y.st]] w fun e w' => e = .returned (.bool (srB x y)) ∧ Below w.heap.size w w' := by
  obtain ⟨hr, hm, hs, ho⟩ := h
  obtain ⟨hr', hm', hs', ho'⟩ := h'
  have KE := Lib.hid (fun W (hb : Below w.heap.size w W) => s_eqv x.O y.O o o' W (ho.below hb) (ho'.below hb) hl.2.2.2 hl'.2.2.2)
  obtain ⟨_, q1x, c1x, rfl, _⟩ := hr
  obtain ⟨_, q2x, c2x, rfl, _⟩ := hm
  obtain ⟨_, q3x, c3x, rfl, _⟩ := hs
  obtain ⟨_, q4x, c4x, rfl, _⟩ := ho
  obtain ⟨_, q1y, c1y, rfl, _⟩ := hr'
  obtain ⟨_, q2y, c2y, rfl, _⟩ := hm'
  obtain ⟨_, q3y, c3y, rfl, _⟩ := hs'
  obtain ⟨_, q4y, c4y, rfl, _⟩ := ho'
  obtain ⟨b, hbv⟩ : ∃ b, decide (x.O = y.O) = b := ⟨_, rfl⟩
  rw [hbv] at KE
  obtain ⟨V, hV⟩ : ∃ V, srB x y = V := ⟨_, rfl⟩
  rw [hV]
  unfold srB at hV
  rw [hbv] at hV
  clear hbv
  have HB0 := Lib.hid (((Below.refl w.heap.size w).alloc (Nat.le_refl _) (.cells #[.int .i64 x.pc, .slice q1x x.R.length c1x, .slice q2x x.M.length c2x, .slice q3x x.S.length c3x, .int .i64 x.inn, .slice q4x x.O.length c4x, .int .i64 x.cd, .int .i64 x.st] 47)).alloc (by simp) (.cells #[.int .i64 y.pc, .slice q1y y.R.length c1y, .slice q2y y.M.length c2y, .slice q3y y.S.length c3y, .int .i64 y.inn, .slice q4y y.O.length c4y, .int .i64 y.cd, .int .i64 y.st] 47))
  have X0 := Lib.hid ((cell8_alloc w 47 (.int .i64 x.pc) (.slice q1x x.R.length c1x) (.slice q2x x.M.length c2x) (.slice q3x x.S.length c3x) (.int .i64 x.inn) (.slice q4x x.O.length c4x) (.int .i64 x.cd) (.int .i64 x.st)).below ((Below.refl _ _).alloc (Nat.le_refl _) (.cells #[.int .i64 y.pc, .slice q1y y.R.length c1y, .slice q2y y.M.length c2y, .slice q3y y.S.length c3y, .int .i64 y.inn, .slice q4y y.O.length c4y, .int .i64 y.cd, .int .i64 y.st] 47)))
  have Y0 := Lib.hid (cell8_alloc (w.alloc (.cells #[.int .i64 x.pc, .slice q1x x.R.length c1x, .slice q2x x.M.length c2x, .slice q3x x.S.length c3x, .int .i64 x.inn, .slice q4x x.O.length c4x, .int .i64 x.cd, .int .i64 x.st] 47)) 47 (.int .i64 y.pc) (.slice q1y y.R.length c1y) (.slice q2y y.M.length c2y) (.slice q3y y.S.length c3y) (.int .i64 y.inn) (.slice q4y y.O.length c4y) (.int .i64 y.cd) (.int .i64 y.st))
  rw [show (w.alloc (.cells #[.int .i64 x.pc, .slice q1x x.R.length c1x, .slice q2x x.M.length c2x, .slice q3x x.S.length c3x, .int .i64 x.inn, .slice q4x x.O.length c4x, .int .i64 x.cd, .int .i64 x.st] 47)).heap.size = w.heap.size + 1 by simp] at Y0
  obtain ⟨w0, hw0⟩ : ∃ w0, w0 = (w.alloc (.cells #[.int .i64 x.pc, .slice q1x x.R.length c1x, .slice q2x x.M.length c2x, .slice q3x x.S.length c3x, .int .i64 x.inn, .slice q4x x.O.length c4x, .int .i64 x.cd, .int .i64 x.st] 47)).alloc (.cells #[.int .i64 y.pc, .slice q1y y.R.length c1y, .slice q2y y.M.length c2y, .slice q3y y.S.length c3y, .int .i64 y.inn, .slice q4y y.O.length c4y, .int .i64 y.cd, .int .i64 y.st] 47) := ⟨_, rfl⟩
  rw [← hw0] at HB0 X0 Y0
  obtain ⟨x0, x1, x2, x3, x4, x5, x6, x7⟩ := X0.out
  obtain ⟨y0, y1, y2, y3, y4, y5, y6, y7⟩ := Y0.out
  rw [hw0] at x0 x1 x2 x3 x4 x5 x6 x7 y0 y1 y2 y3 y4 y5 y6 y7
  by_cases hcd : x.cd = y.cd
  · have hv : V = b := by rw [← hV, decide_eq_true hcd, Bool.true_and]
    subst hv
    clear hV
    have hcd2 : (x.cd == y.cd) = true := by simpa using hcd
    clear hcd
    go_enter Try.func48, Try.ntmps48
    go_wp2_with fail
    rw [← hw0] at x0 x1 x2 x3 x4 x5 x6 x7 y0 y1 y2 y3 y4 y5 y6 y7 ⊢
    clear hw0
    refine (KE.out _ HB0.out).mono ?_
    rintro e w1 ⟨rfl, hb⟩
    have HB1 := Lib.hid (HB0.out.trans (hb.mono HB0.out.size))
    clear hb
    go_wp2
    go_ret
    exact ⟨rfl, HB1.out⟩
  · have hv : V = false := by rw [← hV, decide_eq_false hcd, Bool.false_and]
    subst hv
    have hcd2 : (x.cd == y.cd) = false := by simpa using hcd
    clear hV
    go_enter Try.func48, Try.ntmps48
    go_wp2
    go_ret
    exact ⟨rfl, by rw [← hw0]; exact HB0.out⟩
end Go.Proofs.Ytnhagmjknfiphaa
namespace Go.Proofs.Ytnhagmjknfiphaa
open Go.ChangeShapes Go.WideShapes Go.ChangeAt Go.RowKit
set_option maxRecDepth 100000 in
set_option maxHeartbeats 8000000 in
theorem s_kills (vw vm vi : Int) (L : List InsR) (ww wm wi : Int) (M : List InsR) (T : List (List Int)) (f : Int) (sL sM tv : Value) (w : World) (hs : Cs.Shows w 0 4 sL L.length (InsR.all L)) (hs2 : Cs.Shows w 0 4 sM M.length (InsR.all M)) (ht : (Cs.rows IntSS.c T).Is w 0 1 T.length tv) (hok : ∀ r ∈ L, r.Ok) (hL : L.length ≤ maxLen) (hok2 : ∀ r ∈ M, r.Ok) (hM : M.length ≤ maxLen) (hT : IntSS.Ok T) (hl : T.length ≤ 1048577) :
    Calls Try.prog 21 #[.agg #[.int .i64 vw, .int .i64 vm, .int .i64 vi, sL], .agg #[.int .i64 ww, .int .i64 wm, .int .i64 wi, sM], tv, .int .i64 f] w (NxOwn (klV vw vm vi L ww wm wi M f T) w) := by
  have hml : maxLen = 9223372036854775807 := rfl
  have KP := Lib.hid (fun W (hb : Below w.heap.size w W) => s_prog vw vm vi L sL W (hs.below hb) hok hL)
  have KQ := Lib.hid (fun W (hb : Below w.heap.size w W) => s_prog ww wm wi M sM W (hs2.below hb) hok2 hM)
  have KT := Lib.hid (fun W (hb : Below w.heap.size w W) => s_tests vw vm vi L T sL tv W (hs.below hb) (ht.below hb) hok hL hT (by omega))
  have KU := Lib.hid (fun W (hb : Below w.heap.size w W) => s_tests ww wm wi M T sM tv W (hs2.below hb) (ht.below hb) hok2 hM hT (by omega))
  obtain ⟨B5, hB5⟩ : ∃ B, (decide (0 ≤ f) && decide (f ≤ 400)) = B := ⟨_, rfl⟩
  have KF := Lib.hid (fun W => s_rng f 0 400 B5 hB5 W)
  have HF := Lib.hid (show B5 = false → klV vw vm vi L ww wm wi M f T = [] from fun h => klV_fuel (by rw [h] at hB5; simpa using hB5))
  clear hB5
  have K1 := Lib.hid (fun j (hj : j < T.length) li W (hb : Below w.heap.size w W) (h : Cs.Shows W 0 1 li T[j].length (IntL.all T[j])) => s_runp vw vm vi L T[j] f sL li W (hs.below hb) h hok hL (hT _ (List.getElem_mem hj)).2)
  have K2 := Lib.hid (fun j (hj : j < T.length) li W (hb : Below w.heap.size w W) (h : Cs.Shows W 0 1 li T[j].length (IntL.all T[j])) => s_runp ww wm wi M T[j] f sM li W (hs2.below hb) h hok2 hM (hT _ (List.getElem_mem hj)).2)
  have HPUT := Lib.hid (fun k (h : k < T.length) => klL_put (vw := vw) (vm := vm) (vi := vi) (L := L) (vw' := ww) (vm' := wm) (vi' := wi) (L' := M) (f := f) h)
  have HSKP := Lib.hid (fun k (h : k < T.length) => klL_skip (vw := vw) (vm := vm) (vi := vi) (L := L) (vw' := ww) (vm' := wm) (vi' := wi) (L' := M) (f := f) h)
  have HNONE := Lib.hid (fun h => klV_none (vw := vw) (vm := vm) (vi := vi) (L := L) (vw' := ww) (vm' := wm) (vi' := wi) (L' := M) (f := f) (T := T) h)
  have HYES := Lib.hid (fun h h' => klV_yes (vw := vw) (vm := vm) (vi := vi) (L := L) (vw' := ww) (vm' := wm) (vi' := wi) (L' := M) (f := f) (T := T) h h')
  have HTS := Lib.hid ht
  obtain ⟨_, q, cap, rfl, _⟩ := hs
  obtain ⟨_, q2, cap2, rfl, _⟩ := hs2
  obtain ⟨tq, tc, rfl⟩ : ∃ tq tc, tv = .slice tq T.length tc := by
    obtain ⟨_, ⟨_, q, cap, h, _⟩, _⟩ := ht
    exact ⟨q, cap, h⟩
  have HII : Hid (∀ j (hj : j < T.length), ∃ b o, tq = some ⟨b, o, none⟩ ∧ b < w.heap.size ∧ ∀ wr, Below w.heap.size w wr → ∃ q m cp, T[j].length = m ∧ wr.cell? ⟨b, o + j, none⟩ = some (.slice q m cp) ∧ Cs.Shows wr 0 1 (.slice q m cp) T[j].length (IntL.all T[j])) := Lib.hid (fun j hj => by
    rcases IntSS.cases HTS.out with ⟨h0, _⟩ | ⟨_, b, o, c, hq, _, _, hbl, HI⟩
    · rw [h0] at hj; exact absurd hj (Nat.not_lt_zero _)
    · injection hq with e1 e2 e3
      exact ⟨b, o, e1, hbl, fun wr hb => HI wr hb j hj⟩)
  clear ht HTS hok hok2 hT
  obtain ⟨b3, hb3⟩ : ∃ B, aoB vw vm vi L T = B := ⟨_, rfl⟩
  obtain ⟨b4, hb4⟩ : ∃ B, aoB ww wm wi M T = B := ⟨_, rfl⟩
  rw [hb3] at KT HNONE HYES
  rw [hb4] at KU HNONE HYES
  obtain ⟨b1, hb1⟩ : ∃ B, prB vw vm vi L = B := ⟨_, rfl⟩
  obtain ⟨b2, hb2⟩ : ∃ B, prB ww wm wi M = B := ⟨_, rfl⟩
  rw [hb1] at KP HNONE
  rw [hb2] at KQ HNONE
  clear hb1 hb2
  clear hb3 hb4
  obtain ⟨V, hV⟩ : ∃ V, klV vw vm vi L ww wm wi M f T = V := ⟨_, rfl⟩
  rw [hV] at HNONE HYES HF ⊢
  clear hV
  obtain ⟨i9, hi9, hz9, hzs9, hzb9⟩ := info_parts zero_Int
  obtain ⟨w0, hw0⟩ : ∃ w0, w0 = (w.alloc (.cells #[.int .i64 vw, .int .i64 vm, .int .i64 vi, .slice q L.length cap] 30)).alloc (.cells #[.int .i64 ww, .int .i64 wm, .int .i64 wi, .slice q2 M.length cap2] 30) := ⟨_, rfl⟩
  have HB0 := Lib.hid (show Below w.heap.size w w0 by rw [hw0]; exact ((Below.refl _ _).alloc (Nat.le_refl _) _).alloc (by simp) _)
  have hs0 : w0.heap.size = w.heap.size + 2 := by rw [hw0]; simp
  have XR0 := Lib.hid (show w0.heap[w.heap.size]? = some (.cells #[.int .i64 vw, .int .i64 vm, .int .i64 vi, .slice q L.length cap] 30 (0, 0)) by rw [hw0, heap_alloc_old _ _ (by simp)]; exact heap_alloc_new _ _)
  have YR0 := Lib.hid (show w0.heap[w.heap.size + 1]? = some (.cells #[.int .i64 ww, .int .i64 wm, .int .i64 wi, .slice q2 M.length cap2] 30 (0, 0)) by rw [hw0, ← show (w.alloc (.cells #[.int .i64 vw, .int .i64 vm, .int .i64 vi, .slice q L.length cap] 30)).heap.size = w.heap.size + 1 by simp]; exact heap_alloc_new _ _)
  obtain ⟨x0, x1, x2, x3⟩ := cell4_row XR0.out
  rw [hw0] at x0 x1 x2 x3
  go_enter Try.func21, Try.ntmps21
  go_wp2_with fail
  rw [← hw0]
  clear hw0 x0 x1 x2 x3
  refine (KP.out _ HB0.out).mono ?_
  rintro e w1 ⟨rfl, hb⟩
  have HB1 := Lib.hid (HB0.out.trans (hb.mono HB0.out.size))
  have XR1 := Lib.hid ((hb.block w.heap.size (Array.getElem?_eq_some_iff.1 XR0.out).1).trans XR0.out)
  have YR1 := Lib.hid ((hb.block (w.heap.size + 1) (Array.getElem?_eq_some_iff.1 YR0.out).1).trans YR0.out)
  clear hb
  cases b1
  case false =>
    have hv := HNONE.out (.inl rfl)
    go_wp2
    go_ret
    exact nx_none hv HB1.out
  case true =>
    obtain ⟨x0, x1, x2, x3⟩ := cell4_row YR1.out
    go_wp2_with fail
    clear x0 x1 x2 x3
    refine (KQ.out _ HB1.out).mono ?_
    rintro e w2 ⟨rfl, hb⟩
    have HB2 := Lib.hid (HB1.out.trans (hb.mono HB1.out.size))
    have XR2 := Lib.hid ((hb.block w.heap.size (Array.getElem?_eq_some_iff.1 XR1.out).1).trans XR1.out)
    have YR2 := Lib.hid ((hb.block (w.heap.size + 1) (Array.getElem?_eq_some_iff.1 YR1.out).1).trans YR1.out)
    clear hb
    cases b2
    case false =>
      have hv := HNONE.out (.inr (.inl rfl))
      go_wp2
      go_ret
      exact nx_none hv HB2.out
    case true =>
      obtain ⟨x0, x1, x2, x3⟩ := cell4_row XR2.out
      go_wp2_with fail
      clear x0 x1 x2 x3
      refine (KT.out _ HB2.out).mono ?_
      rintro e w3 ⟨rfl, hb⟩
      have HB3 := Lib.hid (HB2.out.trans (hb.mono HB2.out.size))
      have XR3 := Lib.hid ((hb.block w.heap.size (Array.getElem?_eq_some_iff.1 XR2.out).1).trans XR2.out)
      have YR3 := Lib.hid ((hb.block (w.heap.size + 1) (Array.getElem?_eq_some_iff.1 YR2.out).1).trans YR2.out)
      clear hb
      cases b3
      case false =>
        have hv := HNONE.out (.inr (.inr (.inl rfl)))
        go_wp2
        go_ret
        exact nx_none hv HB3.out
      case true =>
        obtain ⟨x0, x1, x2, x3⟩ := cell4_row YR3.out
        go_wp2_with fail
        clear x0 x1 x2 x3
        refine (KU.out _ HB3.out).mono ?_
        rintro e w4 ⟨rfl, hb⟩
        have HB4 := Lib.hid (HB3.out.trans (hb.mono HB3.out.size))
        have XR4 := Lib.hid ((hb.block w.heap.size (Array.getElem?_eq_some_iff.1 XR3.out).1).trans XR3.out)
        have YR4 := Lib.hid ((hb.block (w.heap.size + 1) (Array.getElem?_eq_some_iff.1 YR3.out).1).trans YR3.out)
        clear hb
        cases b4
        case false =>
          have hv := HNONE.out (.inr (.inr (.inr rfl)))
          go_wp2
          go_ret
          exact nx_none hv HB4.out
        case true =>
          go_wp2_with fail
          refine (KF.out _).mono ?_
          rintro e w9 ⟨rfl, rfl⟩
          cases B5
          case false =>
            have hv := HF.out rfl
            go_wp2
            go_ret
            exact nx_none hv HB4.out
          case true =>
            have HV := Lib.hid (HYES.out (by trivial) (by trivial))
            obtain ⟨wz, hwz⟩ : ∃ W9, W9 = w4.alloc (.cells #[] 3) := ⟨_, rfl⟩
            have hsn : w.heap.size + 1 < w4.heap.size := (Array.getElem?_eq_some_iff.1 YR4.out).1
            have RL := Lib.hid (show wz.ownsRow w.heap.size 3 1 (.slice (some ⟨w4.heap.size, 0, none⟩) 0 0) 0 [] by rw [hwz]; exact World.ownsRow_made w4 #[] 0 (by omega) (by omega) rfl)
            have HBz := Lib.hid (show Below w.heap.size w wz by rw [hwz]; exact HB4.out.alloc (by omega) _)
            have XRz := Lib.hid (show wz.heap[w.heap.size]? = some (.cells #[.int .i64 vw, .int .i64 vm, .int .i64 vi, .slice q L.length cap] 30 (0, 0)) by rw [hwz, heap_alloc_old _ _ (by omega)]; exact XR4.out)
            have YRz := Lib.hid (show wz.heap[w.heap.size + 1]? = some (.cells #[.int .i64 ww, .int .i64 wm, .int .i64 wi, .slice q2 M.length cap2] 30 (0, 0)) by rw [hwz, heap_alloc_old _ _ (by omega)]; exact YR4.out)
            go_wp2
            rw [← hwz]
            clear hwz
            go_loopw [9, 40] (fun lv kv wr => ∃ k : Nat, k ≤ T.length ∧ kv = .int .i64 k ∧ wr.ownsRow w.heap.size 3 1 lv (klL vw vm vi L ww wm wi M f T k).length (IntL.all (klL vw vm vi L ww wm wi M f T k)) ∧ Below w.heap.size w wr ∧ wr.heap[w.heap.size]? = some (.cells #[.int .i64 vw, .int .i64 vm, .int .i64 vi, .slice q L.length cap] 30 (0, 0)) ∧ wr.heap[w.heap.size + 1]? = some (.cells #[.int .i64 ww, .int .i64 wm, .int .i64 wi, .slice q2 M.length cap2] 30 (0, 0))) (fun _ kv _ => T.length - (intOf kv).toNat)
            case atStart => exact ⟨0, Nat.zero_le _, rfl, RL.out, HBz.out, XRz.out, YRz.out⟩
            case round =>
              obtain ⟨k, hk, rfl, ho, hB, hX, hY⟩ := hrel
              obtain ⟨oq, oc, rfl⟩ := own_slc ho
              have OV := Lib.hid ho
              have HBr := Lib.hid hB
              have XRr := Lib.hid hX
              have YRr := Lib.hid hY
              have hsr := hB.size
              clear ho hB hX hY
              by_cases hkn : k < T.length
              case pos =>
                obtain ⟨tb, tof, rfl, htb, hcells⟩ := HII.out k hkn
                obtain ⟨iq, m, ic, hm, cT, hsh⟩ := hcells wr HBr.out
                have hkl := klL_len (vw := vw) (vm := vm) (vi := vi) (L := L) (vw' := ww) (vm' := wm) (vi' := wi) (L' := M) (f := f) (T := T) k
                have HY := Lib.hid (HPUT.out k hkn)
                have HN := Lib.hid (HSKP.out k hkn)
                have KA := Lib.hid (K1.out k hkn)
                have KB := Lib.hid (K2.out k hkn)
                have HSH := Lib.hid hsh
                clear hcells hsh
                generalize T[k] = I at *
                have hki : (k : Int) < (T.length : Int) := by omega
                have hkd : decide ((k : Int) < (T.length : Int)) = true := decide_eq_true hki
                have htw : tb < wr.heap.size := by omega
                obtain ⟨x, hx⟩ : ∃ x, rnV vw vm vi L I f = x := ⟨_, rfl⟩
                obtain ⟨y, hy⟩ : ∃ y, rnV ww wm wi M I f = y := ⟨_, rfl⟩
                have HXL := Lib.hid (show x.Long by rw [← hx]; exact rn_long _ _ _ _ _ _)
                have HYL := Lib.hid (show y.Long by rw [← hy]; exact rn_long _ _ _ _ _ _)
                obtain ⟨bs, hbs⟩ : ∃ b, srB x y = b := ⟨_, rfl⟩
                have hks : ksB vw vm vi L ww wm wi M f I = bs := by unfold ksB; rw [hx, hy, hbs]
                rw [hks] at HY HN
                rw [hx] at KA
                rw [hy] at KB
                unfold StEnd at KA KB
                have HSB := Lib.hid hbs
                clear hks hx hy hbs
                go_upto_region 7 with fail
                clear cT
                obtain ⟨vd, hv⟩ : ∃ W, W = wr.drew := ⟨_, rfl⟩
                refine region_c (fun V => Below vd.heap.size vd V) (by kernel_rfl) ?_
                rw [← hv]
                have hb : Below wr.heap.size wr vd := by rw [hv]; exact (Below.refl _ _).drew
                clear hv
                have OV1 := Lib.hid (own_keep OV.out hb)
                have HB1d := Lib.hid (HBr.out.trans (hb.mono hsr))
                have XRd := Lib.hid ((hb.block w.heap.size (Array.getElem?_eq_some_iff.1 XRr.out).1).trans XRr.out)
                have YRd := Lib.hid ((hb.block (w.heap.size + 1) (Array.getElem?_eq_some_iff.1 YRr.out).1).trans YRr.out)
                have HSHd := Lib.hid (HSH.out.below hb)
                clear hb
                have CR := Lib.hid (Below.refl vd.heap.size vd)
                have hsd : w.heap.size ≤ vd.heap.size := HB1d.out.size
                refine take_c (i := 0) (v := .agg #[.int .i64 vw, .int .i64 vm, .int .i64 vi, .slice q L.length cap]) rfl (by kernel_rfl) (by kernel_rfl) (by kernel_rfl) (fun _ _ _ h => h) CR.out rfl (fun V hV => ?_) ?_
                · obtain ⟨z0, z1, z2, z3⟩ := cell4_row ((hV.block _ (Array.getElem?_eq_some_iff.1 XRd.out).1).trans XRd.out)
                  go_simp
                refine take_c (i := 1) (v := .slice iq m ic) rfl (by kernel_rfl) (by kernel_rfl) (by kernel_rfl) (fun _ _ _ h => h) CR.out rfl (fun V hV => ?_) ?_
                · go_simp
                refine take_c (i := 2) (v := .int .i64 f) rfl (by kernel_rfl) (by kernel_rfl) (by kernel_rfl) (fun _ _ _ h => h) CR.out rfl (fun V hV => ?_) ?_
                · go_simp
                refine take_c (i := 4) (v := .agg #[.int .i64 ww, .int .i64 wm, .int .i64 wi, .slice q2 M.length cap2]) rfl (by kernel_rfl) (by kernel_rfl) (by kernel_rfl) (fun _ _ _ h => h) CR.out rfl (fun V hV => ?_) ?_
                · obtain ⟨z0, z1, z2, z3⟩ := cell4_row ((hV.block _ (Array.getElem?_eq_some_iff.1 YRd.out).1).trans YRd.out)
                  go_simp
                refine take_c (i := 5) (v := .slice iq m ic) rfl (by kernel_rfl) (by kernel_rfl) (by kernel_rfl) (fun _ _ _ h => h) CR.out rfl (fun V hV => ?_) ?_
                · go_simp
                refine take_c (i := 6) (v := .int .i64 f) rfl (by kernel_rfl) (by kernel_rfl) (by kernel_rfl) (fun _ _ _ h => h) CR.out rfl (fun V hV => ?_) ?_
                · go_simp
                refine one_c (i := 3) (by kernel_rfl) (op_list rfl ?_)
                go_wp2_with fail
                refine (KA.out _ vd HB1d.out HSHd.out).mono ?_
                rintro e v1 ⟨hb, ra1, ra2, ra3, ra4, ra5, ra6, ra7, ra8, rfl, hO⟩
                have OX := Lib.hid hO
                replace CR := Lib.hid (CR.out.trans (hb.mono CR.out.size))
                clear hb hO
                go_wp2
                refine ⟨CR.out, ?_⟩
                refine one_c (i := 7) (by kernel_rfl) (op_list rfl ?_)
                go_wp2_with fail
                refine (KB.out _ v1 (HB1d.out.trans (CR.out.mono HB1d.out.size)) (HSHd.out.below CR.out)).mono ?_
                rintro e v2 ⟨hb, rb1, rb2, rb3, rb4, rb5, rb6, rb7, rb8, rfl, hO⟩
                have OY := Lib.hid hO
                replace OX := Lib.hid (OX.out.keep hb)
                replace CR := Lib.hid (CR.out.trans (hb.mono CR.out.size))
                clear hb hO
                go_wp2
                refine ⟨CR.out, ?_⟩
                refine one_c (i := 8) (by kernel_rfl) (op_list rfl ?_)
                go_wp2_with fail
                refine (s_same x y _ _ _ _ _ _ _ _ v2 OX.out.shows OY.out.shows HXL.out HYL.out).mono ?_
                rintro e v3 ⟨rfl, hb⟩
                rw [HSB.out]
                replace CR := Lib.hid (CR.out.trans (hb.mono CR.out.size))
                clear hb
                go_wp2
                refine ⟨CR.out, ?_⟩
                refine one_c (i := 9) (by kernel_rfl) (op_list rfl ?_)
                go_wp2
                refine ⟨CR.out, done_c (by kernel_rfl) ?_ _⟩
                have OV3 := Lib.hid (own_keep OV1.out CR.out)
                have HB3d := Lib.hid (HB1d.out.trans (CR.out.mono hsd))
                have XR3d := Lib.hid ((CR.out.block w.heap.size (Array.getElem?_eq_some_iff.1 XRd.out).1).trans XRd.out)
                have YR3d := Lib.hid ((CR.out.block (w.heap.size + 1) (Array.getElem?_eq_some_iff.1 YRd.out).1).trans YRd.out)
                have hs3 : w.heap.size ≤ v3.heap.size := HB3d.out.size
                cases bs
                case false =>
                  have HZ := Lib.hid (HY.out rfl)
                  clear HY HN
                  go_wp2_with (at_builtin; refine wpList_append_own_at _ rfl _ _ 26 rfl w.heap.size 3 i9 (.int .i64 0) 1 8 Try.underlying26 hi9 hz9 hzs9 hzb9 rfl (by decide) (.slice oq (klL vw vm vi L ww wm wi M f T k).length oc) (klL vw vm vi L ww wm wi M f T k).length _ rfl (own_keep OV3.out ((Below.refl _ _).alloc (Nat.le_refl _) _)) _ 1 1 [.int .i64 (k : Int)] rfl rfl ?c1 ?c2 ?c3 ?c4 ?c5 ?_)
                  case c1 => exact cell_one_new _ _ _
                  case c2 => intro u hu; simp at hu; subst hu; rfl
                  case c3 => omega
                  case c4 => omega
                  case c5 => simp; omega
                  intro v' w7 hown hgrow _ hat
                  have hal : Below v3.heap.size v3 (v3.alloc (.cells #[.int .i64 (k : Int)] 3)) := (Below.refl _ _).alloc (Nat.le_refl _) _
                  have O7 := Lib.hid (show w7.ownsRow w.heap.size 3 1 v' (klL vw vm vi L ww wm wi M f T (k + 1)).length (IntL.all (klL vw vm vi L ww wm wi M f T (k + 1))) by rw [HZ.out, List.length_append, IntL.all_map, List.map_append, ← IntL.all_map]; exact hown)
                  have HB7 := Lib.hid ((HB3d.out.alloc hs3 (.cells #[.int .i64 (k : Int)] 3)).grown hgrow (by simp; omega) (fun g hg => (own_lt OV3.out (g := g) (by rw [hg]; simp)).1))
                  have hk7 : ∀ g, g < v3.heap.size → g ∉ (.slice oq (klL vw vm vi L ww wm wi M f T k).length oc : Value).ownBlock.toList → w7.heap[g]? = v3.heap[g]? := fun g h1 h2 => (hgrow.block g (by simp; omega) (fun h => h2 (by rw [← h]; simp))).trans (hal.block g h1)
                  have XR7 := Lib.hid ((hk7 _ (Array.getElem?_eq_some_iff.1 XR3d.out).1 (own_off (T := 30) (by decide) OV3.out XR3d.out)).trans XR3d.out)
                  have YR7 := Lib.hid ((hk7 _ (Array.getElem?_eq_some_iff.1 YR3d.out).1 (own_off (T := 30) (by decide) OV3.out YR3d.out)).trans YR3d.out)
                  clear hown hgrow hat hal hk7
                  go_wp2
                  go_roundw
                  case rel => exact ⟨k + 1, by omega, by go_num, O7.out, HB7.out, XR7.out, YR7.out⟩
                  case measure => simp [intOf]; omega
                case true =>
                  have HZ := Lib.hid (HN.out rfl)
                  clear HY HN
                  go_wp2
                  go_roundw
                  case rel => exact ⟨k + 1, by omega, by go_num, by rw [HZ.out]; exact OV3.out, HB3d.out, XR3d.out, YR3d.out⟩
                  case measure => simp [intOf]; omega
              case neg =>
                have hke : k = T.length := by omega
                subst hke
                have hki : ¬ ((T.length : Int) < (T.length : Int)) := by omega
                have hkd : decide ((T.length : Int) < (T.length : Int)) = false := decide_eq_false hki
                have hv := HV.out
                subst hv
                go_wp2
                go_ret
                exact ⟨HBr.out, oq, oc, rfl, OV.out⟩
end Go.Proofs.Ytnhagmjknfiphaa
