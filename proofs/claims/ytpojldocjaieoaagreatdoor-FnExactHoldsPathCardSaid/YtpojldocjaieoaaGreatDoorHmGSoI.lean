/- What the program's StateOk returns. No condition. slices.ContainsFunc with the program's test of turns; turnsOk. No condition. What the program's allTerms returns. No condition. -/
import Derived.Test.YtpojldocjaieoaaGreatDoorHmGSof
import Derived.Test.YtpojldocjaieoaaGreatDoorHmGInA
import Derived.Test.YtpojldocjaieoaaGreatDoorHmGPrM
import Derived.Test.YtpojldocjaieoaaGreatDoorHmGTermOk
namespace Go.Proofs.YtpojldocjaieoaaGreatDoor
open Go.ChangeShapes Go.WideShapes Go.ChangeAt Go.RowKit
set_option maxRecDepth 100000 in
set_option maxHeartbeats 4000000 in
theorem i_state (vw vm vi : Int) (L : List InsR) (x : StR) (s r m st o : Value) (w : World) (hs : Cs.Shows w 0 4 s L.length (InsR.all L)) (hx : StS w 0 x r m st o) (hok : ∀ r ∈ L, r.Ok) (hL : L.length ≤ maxLen) (hl : x.Long) :
    Calls Tryz.prog 54 #[.agg #[.int .i64 vw, .int .i64 vm, .int .i64 vi, s], .agg #[.int .i64 x.pc, r, m, st, .int .i64 x.inn, o, .int .i64 x.cd, .int .i64 x.st]] w fun e w' => e = .returned (.bool (soB vw vm vi L x)) ∧ Below w.heap.size w w' := by
  have hml : maxLen = 9223372036854775807 := rfl
  obtain ⟨gr, gm, gs, go⟩ := hl
  obtain ⟨hr, hm, hst, ho⟩ := hx
  have HST := Lib.hid hst
  have K1 := Lib.hid (fun W (hb : Below w.heap.size w W) => i_prog vw vm vi L s W (hs.below hb) hok hL)
  have K2 := Lib.hid (fun W => i_acc 3 x.pc vw L.length (by omega) W)
  have KR := Lib.hid (fun q c W (hb : Below w.heap.size w W) => i_all vw vm vi q L.length c x.R 2 (by omega) r W (hr.below hb) gr hL)
  have KM := Lib.hid (fun q c W (hb : Below w.heap.size w W) => i_all vw vm vi q L.length c x.M 2 (by omega) m W (hm.below hb) gm hL)
  have KS := Lib.hid (fun q c W (hb : Below w.heap.size w W) => i_all vw vm vi q L.length c x.S 3 (by omega) st W (hst.below hb) gs hL)
  have KO := Lib.hid (fun q c W (hb : Below w.heap.size w W) => i_all vw vm vi q L.length c x.O 2 (by omega) o W (ho.below hb) go hL)
  obtain ⟨_, q, cap, rfl, _⟩ := hs
  obtain ⟨_, qr, cr, rfl, _⟩ := hr
  obtain ⟨_, qm, cm, rfl, _⟩ := hm
  obtain ⟨_, qs, cs, rfl, _⟩ := hst
  obtain ⟨_, qo, co, rfl, _⟩ := ho
  obtain ⟨b1, hb1⟩ : ∃ c, prB vw vm vi L = c := ⟨_, rfl⟩
  obtain ⟨b2, hb2⟩ : ∃ c, opB 3 x.pc vw L.length = c := ⟨_, rfl⟩
  obtain ⟨d1, hd1⟩ : ∃ c, decide ((x.R.length : Int) = 4) = c := ⟨_, rfl⟩
  obtain ⟨d2, hd2⟩ : ∃ c, decide ((x.M.length : Int) = vm) = c := ⟨_, rfl⟩
  obtain ⟨d3, hd3⟩ : ∃ c, decide ((x.S.length : Int) ≤ 3) = c := ⟨_, rfl⟩
  obtain ⟨d4, hd4⟩ : ∃ c, decide ((x.O.length : Int) ≤ 6) = c := ⟨_, rfl⟩
  obtain ⟨d5, hd5⟩ : ∃ c, decide (0 ≤ x.inn) = c := ⟨_, rfl⟩
  obtain ⟨d6, hd6⟩ : ∃ c, decide (x.inn ≤ vi) = c := ⟨_, rfl⟩
  obtain ⟨d7, hd7⟩ : ∃ c, decide (0 ≤ x.cd) = c := ⟨_, rfl⟩
  obtain ⟨d8, hd8⟩ : ∃ c, decide (x.cd ≤ 8) = c := ⟨_, rfl⟩
  obtain ⟨d9, hd9⟩ : ∃ c, decide (0 ≤ x.st) = c := ⟨_, rfl⟩
  obtain ⟨d10, hd10⟩ : ∃ c, decide (x.st ≤ 400) = c := ⟨_, rfl⟩
  obtain ⟨b3, hb3⟩ : ∃ c, oprB 2 vw L.length x.R = c := ⟨_, rfl⟩
  obtain ⟨b4, hb4⟩ : ∃ c, oprB 2 vw L.length x.M = c := ⟨_, rfl⟩
  obtain ⟨b5, hb5⟩ : ∃ c, oprB 3 vw L.length x.S = c := ⟨_, rfl⟩
  obtain ⟨b6, hb6⟩ : ∃ c, oprB 2 vw L.length x.O = c := ⟨_, rfl⟩
  obtain ⟨V, hV⟩ : ∃ V, soB vw vm vi L x = V := ⟨_, rfl⟩
  rw [hV]
  have HV : Hid ((b1 && (b2 && (d1 && (d2 && (d3 && (d4 && (d5 && (d6 && (d7 && (d8 && (d9 && (d10 && (b3 && (b4 && (b5 && b6))))))))))))))) = V) := Lib.hid (by rw [← hV, ← hb1, ← hb2, ← hd1, ← hd2, ← hd3, ← hd4, ← hd5, ← hd6, ← hd7, ← hd8, ← hd9, ← hd10, ← hb3, ← hb4, ← hb5, ← hb6]; rfl)
  rw [hb1] at K1
  rw [hb2] at K2
  rw [hb3] at KR
  rw [hb4] at KM
  rw [hb5] at KS
  rw [hb6] at KO
  clear hb1 hb2 hb3 hb4 hb5 hb6 hV HST hok
  have HB0 := Lib.hid (((Below.refl w.heap.size w).alloc (Nat.le_refl _) (.cells #[.int .i64 vw, .int .i64 vm, .int .i64 vi, .slice q L.length cap] 34)).alloc (by simp) (.cells #[.int .i64 x.pc, .slice qr x.R.length cr, .slice qm x.M.length cm, .slice qs x.S.length cs, .int .i64 x.inn, .slice qo x.O.length co, .int .i64 x.cd, .int .i64 x.st] 46))
  have X0 := Lib.hid ((cell4_alloc w 34 (.int .i64 vw) (.int .i64 vm) (.int .i64 vi) (.slice q L.length cap)).below ((Below.refl _ _).alloc (Nat.le_refl _) (.cells #[.int .i64 x.pc, .slice qr x.R.length cr, .slice qm x.M.length cm, .slice qs x.S.length cs, .int .i64 x.inn, .slice qo x.O.length co, .int .i64 x.cd, .int .i64 x.st] 46)))
  have Y0 := Lib.hid (cell8_alloc (w.alloc (.cells #[.int .i64 vw, .int .i64 vm, .int .i64 vi, .slice q L.length cap] 34)) 46 (.int .i64 x.pc) (.slice qr x.R.length cr) (.slice qm x.M.length cm) (.slice qs x.S.length cs) (.int .i64 x.inn) (.slice qo x.O.length co) (.int .i64 x.cd) (.int .i64 x.st))
  rw [show (w.alloc (.cells #[.int .i64 vw, .int .i64 vm, .int .i64 vi, .slice q L.length cap] 34)).heap.size = w.heap.size + 1 by simp] at Y0
  obtain ⟨w0, hw0⟩ : ∃ w0, w0 = (w.alloc (.cells #[.int .i64 vw, .int .i64 vm, .int .i64 vi, .slice q L.length cap] 34)).alloc (.cells #[.int .i64 x.pc, .slice qr x.R.length cr, .slice qm x.M.length cm, .slice qs x.S.length cs, .int .i64 x.inn, .slice qo x.O.length co, .int .i64 x.cd, .int .i64 x.st] 46) := ⟨_, rfl⟩
  have hs0 : w0.heap.size = w.heap.size + 2 := by rw [hw0]; simp
  rw [← hw0] at HB0 X0 Y0
  obtain ⟨x0, x1, x2, x3⟩ := X0.out
  obtain ⟨y0, y1, y2, y3, y4, y5, y6, y7⟩ := Y0.out
  rw [hw0] at x0 x1 x2 x3 y0 y1 y2 y3 y4 y5 y6 y7
  go_enter Tryz.func54, Tryz.ntmps54
  go_wp2_with fail
  rw [← hw0] at x0 x1 x2 x3 y0 y1 y2 y3 y4 y5 y6 y7 ⊢
  clear hw0
  refine (K1.out _ HB0.out).mono ?_
  rintro e w1 ⟨rfl, hb⟩
  have HB1 := Lib.hid (HB0.out.trans (hb.mono HB0.out.size))
  clear x0 x1 x2 x3 y0 y1 y2 y3 y4 y5 y6 y7
  have X1 := Lib.hid (X0.out.below hb)
  obtain ⟨x0, x1, x2, x3⟩ := X1.out
  have Y1 := Lib.hid (Y0.out.below hb)
  obtain ⟨y0, y1, y2, y3, y4, y5, y6, y7⟩ := Y1.out
  clear hb
  cases b1
  case false =>
    have hv : V = false := HV.out.symm
    subst hv
    go_wp2
    go_ret
    exact ⟨rfl, HB1.out⟩
  case true =>
    go_wp2_with fail
    refine (K2.out _).mono ?_
    rintro e wx ⟨rfl, rfl⟩
    cases b2
    case false =>
      have hv : V = false := HV.out.symm
      subst hv
      go_wp2
      go_ret
      exact ⟨rfl, HB1.out⟩
    case true =>
      cases d1
      case false =>
        have nd := of_decide_eq_false hd1
        have nd0 : ((x.R.length : Int) == 4) = false := by simp; omega
        have hv : V = false := HV.out.symm
        subst hv
        go_wp2
        go_ret
        exact ⟨rfl, HB1.out⟩
      case true =>
        have td1 := of_decide_eq_true hd1
        have td10 : (x.R.length : Int) = 4 := by omega
        cases d2
        case false =>
          have nd := of_decide_eq_false hd2
          have nd0 : ((x.M.length : Int) == vm) = false := by simp; omega
          have hv : V = false := HV.out.symm
          subst hv
          go_wp2
          go_ret
          exact ⟨rfl, HB1.out⟩
        case true =>
          have td2 := of_decide_eq_true hd2
          cases d3
          case false =>
            have nd := of_decide_eq_false hd3
            have nd0 : (3 : Int) < (x.S.length : Int) := by omega
            have hv : V = false := HV.out.symm
            subst hv
            go_wp2
            go_ret
            exact ⟨rfl, HB1.out⟩
          case true =>
            have td3 := of_decide_eq_true hd3
            have td30 : ¬ (3 : Int) < (x.S.length : Int) := by omega
            cases d4
            case false =>
              have nd := of_decide_eq_false hd4
              have nd0 : (6 : Int) < (x.O.length : Int) := by omega
              have hv : V = false := HV.out.symm
              subst hv
              go_wp2
              go_ret
              exact ⟨rfl, HB1.out⟩
            case true =>
              have td4 := of_decide_eq_true hd4
              have td40 : ¬ (6 : Int) < (x.O.length : Int) := by omega
              cases d5
              case false =>
                have nd := of_decide_eq_false hd5
                have nd0 : x.inn < 0 := by omega
                have hv : V = false := HV.out.symm
                subst hv
                go_wp2
                go_ret
                exact ⟨rfl, HB1.out⟩
              case true =>
                have td5 := of_decide_eq_true hd5
                have td50 : 0 ≤ x.inn := by omega
                cases d6
                case false =>
                  have nd := of_decide_eq_false hd6
                  have nd0 : vi < x.inn := by omega
                  have hv : V = false := HV.out.symm
                  subst hv
                  go_wp2
                  go_ret
                  exact ⟨rfl, HB1.out⟩
                case true =>
                  have td6 := of_decide_eq_true hd6
                  have td60 : x.inn ≤ vi := by omega
                  cases d7
                  case false =>
                    have nd := of_decide_eq_false hd7
                    have nd0 : x.cd < 0 := by omega
                    have hv : V = false := HV.out.symm
                    subst hv
                    go_wp2
                    go_ret
                    exact ⟨rfl, HB1.out⟩
                  case true =>
                    have td7 := of_decide_eq_true hd7
                    have td70 : 0 ≤ x.cd := by omega
                    cases d8
                    case false =>
                      have nd := of_decide_eq_false hd8
                      have nd0 : 8 < x.cd := by omega
                      have hv : V = false := HV.out.symm
                      subst hv
                      go_wp2
                      go_ret
                      exact ⟨rfl, HB1.out⟩
                    case true =>
                      have td8 := of_decide_eq_true hd8
                      have td80 : x.cd ≤ 8 := by omega
                      cases d9
                      case false =>
                        have nd := of_decide_eq_false hd9
                        have nd0 : x.st < 0 := by omega
                        have hv : V = false := HV.out.symm
                        subst hv
                        go_wp2
                        go_ret
                        exact ⟨rfl, HB1.out⟩
                      case true =>
                        have td9 := of_decide_eq_true hd9
                        have td90 : 0 ≤ x.st := by omega
                        cases d10
                        case false =>
                          have nd := of_decide_eq_false hd10
                          have nd0 : 400 < x.st := by omega
                          have hv : V = false := HV.out.symm
                          subst hv
                          go_wp2
                          go_ret
                          exact ⟨rfl, HB1.out⟩
                        case true =>
                          have td10 := of_decide_eq_true hd10
                          have td100 : x.st ≤ 400 := by omega
                          go_wp2_with fail
                          refine (KR.out _ _ _ HB1.out).mono ?_
                          rintro e w2 ⟨rfl, hb⟩
                          have HB2 := Lib.hid (HB1.out.trans (hb.mono HB1.out.size))
                          clear x0 x1 x2 x3 y0 y1 y2 y3 y4 y5 y6 y7
                          have X2 := Lib.hid (X1.out.below hb)
                          obtain ⟨x0, x1, x2, x3⟩ := X2.out
                          have Y2 := Lib.hid (Y1.out.below hb)
                          obtain ⟨y0, y1, y2, y3, y4, y5, y6, y7⟩ := Y2.out
                          clear hb
                          cases b3
                          case false =>
                            have hv : V = false := HV.out.symm
                            subst hv
                            go_wp2
                            go_ret
                            exact ⟨rfl, HB2.out⟩
                          case true =>
                            go_wp2_with fail
                            refine (KM.out _ _ _ HB2.out).mono ?_
                            rintro e w3 ⟨rfl, hb⟩
                            have HB3 := Lib.hid (HB2.out.trans (hb.mono HB2.out.size))
                            clear x0 x1 x2 x3 y0 y1 y2 y3 y4 y5 y6 y7
                            have X3 := Lib.hid (X2.out.below hb)
                            obtain ⟨x0, x1, x2, x3⟩ := X3.out
                            have Y3 := Lib.hid (Y2.out.below hb)
                            obtain ⟨y0, y1, y2, y3, y4, y5, y6, y7⟩ := Y3.out
                            clear hb
                            cases b4
                            case false =>
                              have hv : V = false := HV.out.symm
                              subst hv
                              go_wp2
                              go_ret
                              exact ⟨rfl, HB3.out⟩
                            case true =>
                              go_wp2_with fail
                              refine (KS.out _ _ _ HB3.out).mono ?_
                              rintro e w4 ⟨rfl, hb⟩
                              have HB4 := Lib.hid (HB3.out.trans (hb.mono HB3.out.size))
                              clear x0 x1 x2 x3 y0 y1 y2 y3 y4 y5 y6 y7
                              have X4 := Lib.hid (X3.out.below hb)
                              obtain ⟨x0, x1, x2, x3⟩ := X4.out
                              have Y4 := Lib.hid (Y3.out.below hb)
                              obtain ⟨y0, y1, y2, y3, y4, y5, y6, y7⟩ := Y4.out
                              clear hb
                              cases b5
                              case false =>
                                have hv : V = false := HV.out.symm
                                subst hv
                                go_wp2
                                go_ret
                                exact ⟨rfl, HB4.out⟩
                              case true =>
                                go_wp2_with fail
                                refine (KO.out _ _ _ HB4.out).mono ?_
                                rintro e w5 ⟨rfl, hb⟩
                                have HB5 := Lib.hid (HB4.out.trans (hb.mono HB4.out.size))
                                clear x0 x1 x2 x3 y0 y1 y2 y3 y4 y5 y6 y7
                                have X5 := Lib.hid (X4.out.below hb)
                                obtain ⟨x0, x1, x2, x3⟩ := X5.out
                                have Y5 := Lib.hid (Y4.out.below hb)
                                obtain ⟨y0, y1, y2, y3, y4, y5, y6, y7⟩ := Y5.out
                                clear hb
                                have hv : V = b6 := HV.out.symm
                                subst hv
                                go_wp2
                                go_ret
                                exact ⟨rfl, HB5.out⟩
end Go.Proofs.YtpojldocjaieoaaGreatDoor
namespace Go.Proofs.YtpojldocjaieoaaGreatDoor
open Go.ChangeShapes Go.WideShapes Go.ChangeAt Go.RowKit
theorem any_atT (p : Int → Bool) (L : List Int) (j : Nat) (h : j < L.length) : (L.drop j).any p = (p L[j] || (L.drop (j + 1)).any p) := by
  rw [List.drop_eq_getElem_cons h, List.any_cons]
def IxResT (a : Bool) (r : Int) : Prop := (a = true ∧ 0 ≤ r) ∨ (a = false ∧ r = -1)
set_option maxHeartbeats 1000000 in
theorem t_index (p : Int → Bool) (l : List Int) (v : Value) (w : World) (hl : l.length ≤ 1048577) (hv : Cs.Shows w 0 1 v l.length (IntL.all l))
    (hp : ∀ x ∈ l, ∀ W, Below w.heap.size w W → Calls Tryz.prog 75 #[.int .i64 x] W fun e w' => e = .returned (.bool (p x)) ∧ Below W.heap.size W w') :
    Calls Tryz.prog 100 #[v, .func (.func 75) #[] #[]] w fun e w' => ∃ r : Int, e = .returned (.int .i64 r) ∧ IxResT (l.any p) r ∧ Below w.heap.size w w' := by
  rcases Cs.shows_cases hv with ⟨h0, q, cap, rfl⟩ | ⟨hpos, b, o, cap, rfl, _, _, hbl, hr⟩
  · have hL : l = [] := List.length_eq_zero_iff.1 h0
    subst hL
    clear hv hl h0 hp
    go_enter Tryz.func100, Tryz.ntmps100
    go_wp2
    refine wp_loop_rounds 1 ?_
    rw [rounds_succ]
    go_wp2
    go_ret
    exact ⟨_, rfl, .inr ⟨rfl, rfl⟩, Below.refl _ _⟩
  · have HR := Lib.hid (fun (wr : World) (hb : Below w.heap.size w wr) j (h : j < l.length) => IntL.nth l j h (rangeAt_below hb hr))
    have HX := Lib.hid (fun j (h : j < l.length) => any_atT p l j h)
    have HP := Lib.hid (fun j (h : j < l.length) => hp l[j] (List.getElem_mem h))
    clear hv hr hp
    go_enter Tryz.func100, Tryz.ntmps100
    go_wp2
    go_loopw [8] (fun i wr => ∃ (j : Nat), j ≤ l.length ∧ i = .int .i64 j ∧ (l.drop j).any p = l.any p ∧ Below w.heap.size w wr) (fun i _ => l.length - (intOf i).toNat)
    case atStart => exact ⟨0, Nat.zero_le _, rfl, rfl, Below.refl _ _⟩
    case round =>
      obtain ⟨j, hj, rfl, hrest, hb⟩ := hrel
      by_cases hjn : j < l.length
      · have c0 := HR.out wr hb j hjn
        have hx := HX.out j hjn
        have hp1 := HP.out j hjn
        generalize l[j] = x at *
        rw [hrest] at hx
        have KP := Lib.hid (hp1 wr hb)
        have HB := Lib.hid hb
        have HQ := Lib.hid hx
        have hki : (j : Int) < (l.length : Int) := by omega
        clear hb hrest hx hp1
        by_cases g : p x = true
        · have HF := Lib.hid (show l.any p = true by rw [HQ.out, g]; rfl)
          rw [g] at KP
          clear g
          go_wp2_with fail
          refine KP.out.mono ?_
          rintro e w1 ⟨rfl, hb1⟩
          have HB1 := Lib.hid (HB.out.trans (hb1.mono HB.out.size))
          clear hb1
          go_wp2
          go_ret
          exact ⟨_, rfl, .inl ⟨HF.out, by omega⟩, HB1.out⟩
        · have g : p x = false := by simpa using g
          have HT := Lib.hid (show (l.drop (j + 1)).any p = l.any p by rw [HQ.out, g]; rfl)
          rw [g] at KP
          clear g
          go_wp2_with fail
          refine KP.out.mono ?_
          rintro e w1 ⟨rfl, hb1⟩
          have HB1 := Lib.hid (HB.out.trans (hb1.mono HB.out.size))
          clear hb1
          go_wp2
          go_roundw
          case rel => exact ⟨j + 1, by omega, by go_num, HT.out, HB1.out⟩
          case measure => simp [intOf]; omega
      · have HB := Lib.hid hb
        have hnj : ¬ ((j : Int) < (l.length : Int)) := by omega
        have HF := Lib.hid (show l.any p = false by rw [← hrest, List.drop_of_length_le (by omega)]; rfl)
        clear hb hrest
        go_wp2
        go_ret
        exact ⟨_, rfl, .inr ⟨HF.out, rfl⟩, HB.out⟩
set_option maxRecDepth 100000 in
theorem t_contains (p : Int → Bool) (l : List Int) (v : Value) (w : World) (hl : l.length ≤ 1048577) (hv : Cs.Shows w 0 1 v l.length (IntL.all l))
    (hp : ∀ x ∈ l, ∀ W, Below w.heap.size w W → Calls Tryz.prog 75 #[.int .i64 x] W fun e w' => e = .returned (.bool (p x)) ∧ Below W.heap.size W w') :
    Calls Tryz.prog 74 #[v, .func (.func 75) #[] #[]] w fun e w' => e = .returned (.bool (l.any p)) ∧ Below w.heap.size w w' := by
  have KI := Lib.hid (t_index p l v w hl hv hp)
  obtain ⟨_, q, cap, rfl, _⟩ := hv
  clear hp
  go_enter Tryz.func74, Tryz.ntmps74
  go_wp2_with fail
  refine KI.out.mono ?_
  rintro e w1 ⟨r, rfl, hr, hb1⟩
  have HB1 := Lib.hid hb1
  clear hb1
  rcases hr with ⟨h1, h2⟩ | ⟨h1, rfl⟩
  all_goals
    have HF := Lib.hid h1
    clear h1
    go_wp2
    go_ret
    exact ⟨by rw [HF.out] <;> rfl, HB1.out⟩
set_option maxRecDepth 100000 in
theorem t_turn (x : Int) (w : World) : Calls Tryz.prog 75 #[.int .i64 x] w fun e w' => e = .returned (.bool (! (decide (0 ≤ x) && decide (x ≤ 1)))) ∧ Below w.heap.size w w' := by
  by_cases h0 : x = 0
  · subst h0
    rw [show (! (decide ((0 : Int) ≤ 0) && decide ((0 : Int) ≤ 1))) = false by decide]
    go_enter Tryz.func75, Tryz.ntmps75
    go_wp2
    go_ret
    exact ⟨rfl, Below.refl _ _⟩
  · have n0 : (x == 0) = false := by simpa using h0
    by_cases h1 : x = 1
    · subst h1
      rw [show (! (decide ((0 : Int) ≤ 1) && decide ((1 : Int) ≤ 1))) = false by decide]
      go_enter Tryz.func75, Tryz.ntmps75
      go_wp2
      go_ret
      exact ⟨rfl, Below.refl _ _⟩
    · have n1 : (x == 1) = false := by simpa using h1
      have hb : (decide (0 ≤ x) && decide (x ≤ 1)) = false := by
        rw [Bool.and_eq_false_iff, decide_eq_false_iff_not, decide_eq_false_iff_not]
        omega
      rw [hb]
      clear hb
      go_enter Tryz.func75, Tryz.ntmps75
      go_wp2
      go_ret
      have e : (x != 0 && x != 1) = true := by simp [h0, h1]
      refine ⟨?_, Below.refl _ _⟩
      show Ending.returned (Value.bool (x != 0 && x != 1)) = _
      rw [e]
      rfl
theorem rg_any (l : List Int) : (! l.any fun x => ! (decide (0 ≤ x) && decide (x ≤ 1))) = rgB 0 1 l := by
  unfold rgB
  rw [List.not_any_eq_all_not]
  simp
set_option maxRecDepth 100000 in
theorem i_turns (l : List Int) (v : Value) (w : World) (hl : l.length ≤ 1048577) (hv : Cs.Shows w 0 1 v l.length (IntL.all l)) :
    Calls Tryz.prog 56 #[v] w fun e w' => e = .returned (.bool (rgB 0 1 l)) ∧ Below w.heap.size w w' := by
  have K := Lib.hid (t_contains (fun x => ! (decide (0 ≤ x) && decide (x ≤ 1))) l v w hl hv (fun x _ W _ => t_turn x W))
  have HR := Lib.hid (rg_any l)
  obtain ⟨r, hr⟩ : ∃ r, (l.any fun x => ! (decide (0 ≤ x) && decide (x ≤ 1))) = r := ⟨_, rfl⟩
  rw [hr] at K HR
  clear hr
  obtain ⟨_, q, cap, rfl, _⟩ := hv
  go_enter Tryz.func56, Tryz.ntmps56
  go_wp2_with fail
  refine K.out.mono ?_
  rintro e w1 ⟨rfl, hb⟩
  have HB := Lib.hid hb
  clear hb
  go_wp2
  go_ret
  rw [HR.out]
  exact ⟨rfl, HB.out⟩
end Go.Proofs.YtpojldocjaieoaaGreatDoor
namespace Go.Proofs.YtpojldocjaieoaaGreatDoor
open Go.ChangeShapes Go.WideShapes Go.ChangeAt Go.RowKit
/-- lists of terms in a row: the value of each, read in all later worlds -/
def RowsT (w : World) (g : Nat) (Fs : List Fo) : Prop := ∀ j (h : j < Fs.length), ∃ q c, ∀ W, Below w.heap.size w W → W.cell? ⟨g, j, none⟩ = some (.slice q (Fs[j]).len c) ∧ ((Fs[j]).cs 69).Is W 0 5 (Fs[j]).len (.slice q (Fs[j]).len c)
noncomputable def atB (Fs : List Fo) (vw : Int) : Bool := Fs.all fun F => tmB F vw
theorem at_take {Fs : List Fo} {vw : Int} {j : Nat} (h : j < Fs.length) : atB (Fs.take (j + 1)) vw = (atB (Fs.take j) vw && tmB Fs[j] vw) := by
  unfold atB
  rw [List.take_succ_eq_append_getElem h, List.all_append]
  simp
theorem at_bad {Fs : List Fo} {vw : Int} {j : Nat} (h : j < Fs.length) (hb : tmB Fs[j] vw = false) : atB Fs vw = false := by
  unfold atB
  refine Bool.eq_false_iff.2 fun hh => ?_
  have := List.all_eq_true.1 hh _ (List.getElem_mem h)
  rw [hb] at this
  cases this
set_option maxRecDepth 100000 in
set_option maxHeartbeats 4000000 in
theorem i_allterms (Fs : List Fo) (vw : Int) (g c : Nat) (w : World) (hv : RowsT w g Fs) (hg : g < w.heap.size) (hl : Fs.length ≤ 1000) (hc : ∀ F ∈ Fs, F.cost ≤ 1048576) :
    Calls Tryz.prog 55 #[.int .i64 vw, .slice (some ⟨g, 0, none⟩) Fs.length c] w fun e w' => e = .returned (.bool (atB Fs vw)) ∧ Below w.heap.size w w' := by
  have hml : maxLen = 9223372036854775807 := rfl
  have HV := Lib.hid hv
  have HC := Lib.hid hc
  clear hv hc
  go_enter Tryz.func55, Tryz.ntmps55
  go_wp2
  go_loopw [11] (fun i wr => ∃ j : Nat, j ≤ Fs.length ∧ i = .int .i64 j ∧ atB (Fs.take j) vw = true ∧ Below w.heap.size w wr) (fun i _ => Fs.length - (intOf i).toNat)
  case atStart => exact ⟨0, Nat.zero_le _, rfl, rfl, Below.refl _ _⟩
  case round =>
    obtain ⟨j, hj, rfl, ht, hb⟩ := hrel
    have HT := Lib.hid ht
    have HB := Lib.hid hb
    have hsr := hb.size
    have hgw : g < wr.heap.size := by omega
    clear ht
    by_cases hjn : j < Fs.length
    · obtain ⟨q, cc, hcell⟩ := HV.out j hjn
      have cF := (hcell wr hb).1
      have his := (hcell wr hb).2
      have hcost := HC.out _ (List.getElem_mem hjn)
      have HTT := Lib.hid (at_take (vw := vw) hjn)
      have HTB := Lib.hid (at_bad (vw := vw) hjn)
      obtain ⟨F, hF⟩ : ∃ F, Fs[j] = F := ⟨_, rfl⟩
      rw [hF] at cF his hcost HTT HTB
      clear hcell hF hb
      have hji : (j : Int) < (Fs.length : Int) := by omega
      have hFl := F.len_le
      have hFn := F.nodes_le
      rcases Fo.is_cases his with ⟨h0, q2, cap, he⟩ | ⟨hpos, b, o, cap, ys, he, hc1, hc2, _, hbl, hvs, hr⟩
      · injection he with e1 e2 e3
        subst e1
        subst e3
        have hFn0 : F = .nil := by cases F with | nil => rfl | cons => simp [Fo.len] at h0
        have HN := Lib.hid (show atB (Fs.take (j + 1)) vw = true by rw [HTT.out, HT.out, hFn0]; rfl)
        have hl0 : F.len = 0 := h0
        rw [hl0] at cF
        clear his
        go_wp2
        go_loopw [17] (fun i w9 => i = .int .i64 0 ∧ w9 = wr) (fun i _ => 0)
        case atStart => exact ⟨rfl, rfl⟩
        case round =>
          obtain ⟨rfl, hw9⟩ := hrel
          subst hw9
          go_wp2
          go_roundw
          case rel => exact ⟨j + 1, by omega, by go_num, HN.out, HB.out⟩
          case measure => simp [intOf]; omega
      · injection he with e1 e2 e3
        subst e1
        subst e3
        have HI := Lib.hid (fun i (hi : i < F.len) => Fo.nth F hvs hr i hi)
        clear his hvs hr
        go_wp2
        go_loopw [17] (fun i w9 => ∃ m : Nat, m ≤ F.len ∧ i = .int .i64 m ∧ tmB (F.take m) vw = true ∧ Below wr.heap.size wr w9) (fun i _ => F.len - (intOf i).toNat)
        case atStart => exact ⟨0, Nat.zero_le _, rfl, tm_zero F vw, Below.refl _ _⟩
        case round =>
          obtain ⟨m, hm, rfl, hmt, hb9⟩ := hrel
          rename World => w9
          have HMT := Lib.hid hmt
          have BK := Lib.hid hb9
          have HB9 := Lib.hid (HB.out.trans (hb9.mono hsr))
          have hs9 := hb9.size
          by_cases hmn : m < F.len
          · obtain ⟨op, wd, n, nm, k, sv, hat, his, hrr⟩ := HI.out m hmn
            have hcst := at_cost F m hat
            have HQT := Lib.hid (tm_take F m (w := vw) hat)
            have HQB := Lib.hid (tm_bad F m (w := vw) hat)
            have hrr := rangeAt_below hb9 hrr
            have c0 : w9.cell? ⟨b, o + m * 5, none⟩ = some (.int .i64 op) := hrr 0 _ rfl
            have c1 : w9.cell? ⟨b, o + m * 5 + 1, none⟩ = some (.int .i64 wd) := hrr 1 _ rfl
            have c2 : w9.cell? ⟨b, o + m * 5 + 2, none⟩ = some (.int .i64 n) := hrr 2 _ rfl
            have c3 : w9.cell? ⟨b, o + m * 5 + 3, none⟩ = some (.string nm) := hrr 3 _ rfl
            have c4 : w9.cell? ⟨b, o + m * 5 + 4, none⟩ = some sv := hrr 4 _ rfl
            have hmi : (m : Int) < (F.len : Int) := by omega
            have HIS := Lib.hid his
            have hbw : b < w9.heap.size := by omega
            clear his hat hrr hmt hb9
            obtain ⟨_, ⟨_, sq, sc, rfl, _⟩, _⟩ := HIS.out
            obtain ⟨w1, hw1⟩ : ∃ W, W = w9.alloc (.cells #[.int .i64 op, .int .i64 wd, .int .i64 n, .string nm, .slice sq k.len sc] 69) := ⟨_, rfl⟩
            have hb1 : Below w9.heap.size w9 w1 := by rw [hw1]; exact (Below.refl _ _).alloc (Nat.le_refl _) _
            have BK1 := Lib.hid (BK.out.trans (hb1.mono hs9))
            have HB1 := Lib.hid (HB9.out.trans (hb1.mono HB9.out.size))
            have XB1 := Lib.hid (show w1.heap[w9.heap.size]? = some (.cells #[.int .i64 op, .int .i64 wd, .int .i64 n, .string nm, .slice sq k.len sc] 69 (0, 0)) by rw [hw1]; exact heap_alloc_new _ _)
            have KT := Lib.hid (i_termok k op wd n nm (.slice sq k.len sc) w1 (HIS.out.below BK1.out) (by omega) (by omega))
            have y0 : w1.cell? ⟨w9.heap.size, 0, none⟩ = some (.int .i64 op) := cell_of_row w1 w9.heap.size 0 _ _ _ XB1.out
            have y1 : w1.cell? ⟨w9.heap.size, 1, none⟩ = some (.int .i64 wd) := cell_of_row w1 w9.heap.size 1 _ _ _ XB1.out
            clear hb1
            by_cases hwd : wd = vw
            case neg =>
              have HVV := Lib.hid (HTB.out (HQB.out (by rw [decide_eq_false hwd]; rfl)))
              have hne : (wd == vw) = false := by simpa using hwd
              go_wp2
              go_ret
              rw [HVV.out]
              refine ⟨rfl, ?_⟩
              first
                | exact HB1.out
                | (rw [← hw1]; exact HB1.out)
            case pos =>
              subst hwd
              unfold tkB at HQT HQB
              obtain ⟨d1, hd1⟩ : ∃ d, (accOne op wd n nm k 0 []).isSome = d := ⟨_, rfl⟩
              rw [hd1] at HQT HQB KT
              clear hd1 y0 y1
              go_wp2_with fail
              rw [← hw1]
              clear hw1 c0 c1 c2 c3 c4
              refine KT.out.mono ?_
              rintro e w2 ⟨rfl, hb2⟩
              have HB2 := Lib.hid (HB1.out.trans (hb2.mono HB1.out.size))
              have BK2 := Lib.hid (BK1.out.trans (hb2.mono BK1.out.size))
              clear hb2
              cases d1
              case false =>
                have HVV := Lib.hid (HTB.out (HQB.out (by simp)))
                go_wp2
                go_ret
                rw [HVV.out]
                exact ⟨rfl, HB2.out⟩
              case true =>
                have HN := Lib.hid (show tmB (F.take (m + 1)) wd = true by rw [HQT.out, HMT.out]; simp)
                go_wp2
                go_roundw
                case rel => exact ⟨m + 1, by omega, by go_num, HN.out, BK2.out⟩
                case measure => simp [intOf]; omega
          · have em : m = F.len := by omega
            have hmi : ¬ ((m : Int) < (F.len : Int)) := by omega
            have HN := Lib.hid (show atB (Fs.take (j + 1)) vw = true by
              rw [HTT.out, HT.out, Bool.true_and, ← F.take_all, ← em]
              exact HMT.out)
            go_wp2
            go_roundw
            case rel => exact ⟨j + 1, by omega, by go_num, HN.out, HB9.out⟩
            case measure => simp [intOf]; omega
    · have ej : j = Fs.length := by omega
      have hji : ¬ ((j : Int) < (Fs.length : Int)) := by omega
      have HVV := Lib.hid (show atB Fs vw = true by rw [← Fs.take_length, ← ej]; exact HT.out)
      go_wp2
      go_ret
      rw [HVV.out]
      exact ⟨rfl, HB.out⟩
end Go.Proofs.YtpojldocjaieoaaGreatDoor
