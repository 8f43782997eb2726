/- What the specification's PathOk returns. No condition. -/
import Derived.Test.YthmababifgaejaaGreatDoorEmGPaM
import Derived.Test.YthmababifgaejaaGreatDoorEmGTmM
import Derived.Test.YthmababifgaejaaGreatDoorEmGInW
namespace Go.Proofs.YthmababifgaejaaGreatDoor
open Go.ChangeShapes Go.WideShapes Go.ChangeAt Go.RowKit
set_option maxRecDepth 100000 in
set_option maxHeartbeats 8000000 in
theorem s_path (vw vm vi : Int) (L : List InsR) (x : PaR) (s r m sk o c u : Value) (w : World) (hs : Cs.Shows w 0 4 s L.length (InsR.all L)) (hx : PaI w 0 x r m sk o c u) (hok : ∀ r ∈ L, r.Ok) (hL : L.length ≤ maxLen) (hl : x.Long) (hc : x.cost ≤ 1048576) :
    Calls Tryz.prog 39 #[.agg #[.int .i64 vw, .int .i64 vm, .int .i64 vi, s], .agg #[.int .i64 x.pc, r, m, sk, .int .i64 x.inn, o, .int .i64 x.cd, .int .i64 x.st, c, u]] w fun e w' => e = .returned (.bool (paB vw vm vi L x)) ∧ Below w.heap.size w w' := by
  have hml : maxLen = 9223372036854775807 := rfl
  obtain ⟨gr, gm, gsk, go, gc, gu⟩ := hl
  obtain ⟨hr, hm, hsk, ho, hc, hu⟩ := hx
  have hcx : x.cost = x.R.cost + x.M.cost + x.S.length + x.O.cost + x.C.cost + x.U.length := rfl
  have HSS := Lib.hid hsk
  have HSU := Lib.hid hu
  have K1 := Lib.hid (fun W (hb : Below w.heap.size w W) => s_prog vw vm vi L s W (hs.below hb) hok hL)
  have KT1 := Lib.hid (fun W (hb : Below w.heap.size w W) => s_terms x.R vw r W (hr.below hb) (by omega))
  have KT2 := Lib.hid (fun W (hb : Below w.heap.size w W) => s_terms x.M vw m W (hm.below hb) (by omega))
  have KT3 := Lib.hid (fun W (hb : Below w.heap.size w W) => s_terms x.O vw o W (ho.below hb) (by omega))
  have KT4 := Lib.hid (fun W (hb : Below w.heap.size w W) => s_terms x.C 1 c W (hc.below hb) (by omega))
  obtain ⟨_, q, cap, rfl, _⟩ := hs
  obtain ⟨_, ⟨_, qr, cr, rfl, _⟩, _⟩ := hr
  obtain ⟨_, ⟨_, qm, cm, rfl, _⟩, _⟩ := hm
  obtain ⟨_, qsk, csk, rfl, _⟩ := hsk
  obtain ⟨_, ⟨_, qo, co, rfl, _⟩, _⟩ := ho
  obtain ⟨_, ⟨_, qc, cc, rfl, _⟩, _⟩ := hc
  obtain ⟨_, qu, cu, rfl, _⟩ := hu
  obtain ⟨b1, hb1⟩ : ∃ c, prB vw vm vi L = c := ⟨_, rfl⟩
  obtain ⟨b2, hb2⟩ : ∃ c, (decide (0 ≤ x.pc) && decide (x.pc ≤ L.length)) = c := ⟨_, rfl⟩
  obtain ⟨d1, hd1⟩ : ∃ c, decide ((x.R.len : Int) = 4) = c := ⟨_, rfl⟩
  obtain ⟨d2, hd2⟩ : ∃ c, decide ((x.M.len : Int) = vm) = c := ⟨_, rfl⟩
  obtain ⟨d3, hd3⟩ : ∃ c, decide ((x.S.length : Int) ≤ 3) = c := ⟨_, rfl⟩
  obtain ⟨b3, hb3⟩ : ∃ c, (decide (0 ≤ x.inn) && decide (x.inn ≤ vi)) = c := ⟨_, rfl⟩
  obtain ⟨d4, hd4⟩ : ∃ c, decide ((x.O.len : Int) ≤ 6) = c := ⟨_, rfl⟩
  obtain ⟨b4, hb4⟩ : ∃ c, (decide (0 ≤ x.cd) && decide (x.cd ≤ 9)) = c := ⟨_, rfl⟩
  obtain ⟨b5, hb5⟩ : ∃ c, (decide (0 ≤ x.st) && decide (x.st ≤ 400)) = c := ⟨_, rfl⟩
  obtain ⟨d5, hd5⟩ : ∃ c, decide ((x.C.len : Int) ≤ 60) = c := ⟨_, rfl⟩
  obtain ⟨d6, hd6⟩ : ∃ c, decide ((x.U.length : Int) ≤ 60) = c := ⟨_, rfl⟩
  obtain ⟨r1, hr1⟩ : ∃ c, rgB 0 L.length x.S = c := ⟨_, rfl⟩
  obtain ⟨r2, hr2⟩ : ∃ c, rgB 0 1 x.U = c := ⟨_, rfl⟩
  obtain ⟨t1, ht1⟩ : ∃ c, tmB x.R vw = c := ⟨_, rfl⟩
  obtain ⟨t2, ht2⟩ : ∃ c, tmB x.M vw = c := ⟨_, rfl⟩
  obtain ⟨t3, ht3⟩ : ∃ c, tmB x.O vw = c := ⟨_, rfl⟩
  obtain ⟨t4, ht4⟩ : ∃ c, tmB x.C 1 = c := ⟨_, rfl⟩
  obtain ⟨V, hV⟩ : ∃ V, paB vw vm vi L x = V := ⟨_, rfl⟩
  rw [hV]
  have HV : Hid ((b1 && (b2 && (d1 && (d2 && (d3 && (b3 && (d4 && (b4 && (b5 && (d5 && (d6 && (r1 && (r2 && (t1 && (t2 && (t3 && (t4))))))))))))))))) = V) := Lib.hid (by rw [← hV, ← hb1, ← hb2, ← hd1, ← hd2, ← hd3, ← hb3, ← hd4, ← hb4, ← hb5, ← hd5, ← hd6, ← hr1, ← hr2, ← ht1, ← ht2, ← ht3, ← ht4]; rfl)
  rw [hb1] at K1
  rw [ht1] at KT1
  rw [ht2] at KT2
  rw [ht3] at KT3
  rw [ht4] at KT4
  have K2 := Lib.hid (fun W => s_rng x.pc 0 L.length b2 hb2 W)
  have K3 := Lib.hid (fun W => s_rng x.inn 0 vi b3 hb3 W)
  have K4 := Lib.hid (fun W => s_rng x.cd 0 9 b4 hb4 W)
  have K5 := Lib.hid (fun W => s_rng x.st 0 400 b5 hb5 W)
  have HATr1 := Lib.hid (fun j (h : j < x.S.length) (hi : (decide (0 ≤ x.S[j]) && decide (x.S[j] ≤ L.length)) = false) => show r1 = false by rw [← hr1]; exact rg_bad h hi)
  have HENDr1 := Lib.hid (fun (h : ∀ j (hj : j < x.S.length), (decide (0 ≤ x.S[j]) && decide (x.S[j] ≤ L.length)) = true) => show r1 = true by rw [← hr1]; exact rg_ok h)
  have HRr1 : Hid (∀ j, (h : j < x.S.length) → ∃ b o, qsk = some ⟨b, o, none⟩ ∧ b < w.heap.size ∧ ∀ W, Below w.heap.size w W → W.cell? ⟨b, o + j, none⟩ = some (.int .i64 x.S[j])) := Lib.hid (fun j h => by
    rcases Cs.shows_cases HSS.out with ⟨h0, _⟩ | ⟨_, b, o, c, hq, _, _, hbl, hr⟩
    · omega
    · injection hq with e1 e2 e3
      exact ⟨b, o, e1, hbl, fun W hW => IntL.nth x.S j h (rangeAt_below hW hr)⟩)
  have HATr2 := Lib.hid (fun j (h : j < x.U.length) (hi : (decide (0 ≤ x.U[j]) && decide (x.U[j] ≤ 1)) = false) => show r2 = false by rw [← hr2]; exact rg_bad h hi)
  have HENDr2 := Lib.hid (fun (h : ∀ j (hj : j < x.U.length), (decide (0 ≤ x.U[j]) && decide (x.U[j] ≤ 1)) = true) => show r2 = true by rw [← hr2]; exact rg_ok h)
  have HRr2 : Hid (∀ j, (h : j < x.U.length) → ∃ b o, qu = some ⟨b, o, none⟩ ∧ b < w.heap.size ∧ ∀ W, Below w.heap.size w W → W.cell? ⟨b, o + j, none⟩ = some (.int .i64 x.U[j])) := Lib.hid (fun j h => by
    rcases Cs.shows_cases HSU.out with ⟨h0, _⟩ | ⟨_, b, o, c, hq, _, _, hbl, hr⟩
    · omega
    · injection hq with e1 e2 e3
      exact ⟨b, o, e1, hbl, fun W hW => IntL.nth x.U j h (rangeAt_below hW hr)⟩)
  clear hb1 hb2 hb3 hb4 hb5 hr1 hr2 ht1 ht2 ht3 ht4 hV HSS HSU hok
  have HB0 := Lib.hid (((Below.refl w.heap.size w).alloc (Nat.le_refl _) (.cells #[.int .i64 vw, .int .i64 vm, .int .i64 vi, .slice q L.length cap] 37)).alloc (by simp) (.cells #[.int .i64 x.pc, .slice qr x.R.len cr, .slice qm x.M.len cm, .slice qsk x.S.length csk, .int .i64 x.inn, .slice qo x.O.len co, .int .i64 x.cd, .int .i64 x.st, .slice qc x.C.len cc, .slice qu x.U.length cu] 41))
  have X0 := Lib.hid ((cell4_alloc w 37 (.int .i64 vw) (.int .i64 vm) (.int .i64 vi) (.slice q L.length cap)).below ((Below.refl _ _).alloc (Nat.le_refl _) (.cells #[.int .i64 x.pc, .slice qr x.R.len cr, .slice qm x.M.len cm, .slice qsk x.S.length csk, .int .i64 x.inn, .slice qo x.O.len co, .int .i64 x.cd, .int .i64 x.st, .slice qc x.C.len cc, .slice qu x.U.length cu] 41)))
  have Y0 := Lib.hid (cell10_alloc (w.alloc (.cells #[.int .i64 vw, .int .i64 vm, .int .i64 vi, .slice q L.length cap] 37)) 41 (.int .i64 x.pc) (.slice qr x.R.len cr) (.slice qm x.M.len cm) (.slice qsk x.S.length csk) (.int .i64 x.inn) (.slice qo x.O.len co) (.int .i64 x.cd) (.int .i64 x.st) (.slice qc x.C.len cc) (.slice qu x.U.length cu))
  rw [show (w.alloc (.cells #[.int .i64 vw, .int .i64 vm, .int .i64 vi, .slice q L.length cap] 37)).heap.size = w.heap.size + 1 by simp] at Y0
  obtain ⟨w0, hw0⟩ : ∃ w0, w0 = (w.alloc (.cells #[.int .i64 vw, .int .i64 vm, .int .i64 vi, .slice q L.length cap] 37)).alloc (.cells #[.int .i64 x.pc, .slice qr x.R.len cr, .slice qm x.M.len cm, .slice qsk x.S.length csk, .int .i64 x.inn, .slice qo x.O.len co, .int .i64 x.cd, .int .i64 x.st, .slice qc x.C.len cc, .slice qu x.U.length cu] 41) := ⟨_, rfl⟩
  have hs0 : w0.heap.size = w.heap.size + 2 := by rw [hw0]; simp
  rw [← hw0] at HB0 X0 Y0
  obtain ⟨x0, x1, x2, x3⟩ := X0.out
  obtain ⟨y0, y1, y2, y3, y4, y5, y6, y7, y8, y9⟩ := Y0.out
  rw [hw0] at x0 x1 x2 x3 y0 y1 y2 y3 y4 y5 y6 y7 y8 y9
  go_enter Tryz.func39, Tryz.ntmps39
  go_wp2_with fail
  rw [← hw0] at x0 x1 x2 x3 y0 y1 y2 y3 y4 y5 y6 y7 y8 y9 ⊢
  clear hw0
  refine (K1.out _ HB0.out).mono ?_
  rintro e w1 ⟨rfl, hb⟩
  have HB1 := Lib.hid (HB0.out.trans (hb.mono HB0.out.size))
  clear x0 x1 x2 x3 y0 y1 y2 y3 y4 y5 y6 y7 y8 y9
  have X1 := Lib.hid (X0.out.below hb)
  obtain ⟨x0, x1, x2, x3⟩ := X1.out
  have Y1 := Lib.hid (Y0.out.below hb)
  obtain ⟨y0, y1, y2, y3, y4, y5, y6, y7, y8, y9⟩ := Y1.out
  clear hb
  cases b1
  case false =>
    have hv : V = false := HV.out.symm
    subst hv
    go_wp2
    go_ret
    exact ⟨rfl, HB1.out⟩
  case true =>
    go_wp2_with fail
    refine (K2.out _).mono ?_
    rintro e wx ⟨rfl, rfl⟩
    cases b2
    case false =>
      have hv : V = false := HV.out.symm
      subst hv
      go_wp2
      go_ret
      exact ⟨rfl, HB1.out⟩
    case true =>
      cases d1
      case false =>
        have nd := of_decide_eq_false hd1
        have nd0 : ((x.R.len : Int) == 4) = false := by simp; omega
        have hv : V = false := HV.out.symm
        subst hv
        go_wp2
        go_ret
        exact ⟨rfl, HB1.out⟩
      case true =>
        have td1 := of_decide_eq_true hd1
        have td10 : (x.R.len : Int) = 4 := by omega
        cases d2
        case false =>
          have nd := of_decide_eq_false hd2
          have nd0 : ((x.M.len : Int) == vm) = false := by simp; omega
          have hv : V = false := HV.out.symm
          subst hv
          go_wp2
          go_ret
          exact ⟨rfl, HB1.out⟩
        case true =>
          have td2 := of_decide_eq_true hd2
          cases d3
          case false =>
            have nd := of_decide_eq_false hd3
            have nd0 : (3 : Int) < (x.S.length : Int) := by omega
            have hv : V = false := HV.out.symm
            subst hv
            go_wp2
            go_ret
            exact ⟨rfl, HB1.out⟩
          case true =>
            have td3 := of_decide_eq_true hd3
            have td30 : ¬ (3 : Int) < (x.S.length : Int) := by omega
            go_wp2_with fail
            refine (K3.out _).mono ?_
            rintro e wx ⟨rfl, rfl⟩
            cases b3
            case false =>
              have hv : V = false := HV.out.symm
              subst hv
              go_wp2
              go_ret
              exact ⟨rfl, HB1.out⟩
            case true =>
              cases d4
              case false =>
                have nd := of_decide_eq_false hd4
                have nd0 : (6 : Int) < (x.O.len : Int) := by omega
                have hv : V = false := HV.out.symm
                subst hv
                go_wp2
                go_ret
                exact ⟨rfl, HB1.out⟩
              case true =>
                have td4 := of_decide_eq_true hd4
                have td40 : ¬ (6 : Int) < (x.O.len : Int) := by omega
                go_wp2_with fail
                refine (K4.out _).mono ?_
                rintro e wx ⟨rfl, rfl⟩
                cases b4
                case false =>
                  have hv : V = false := HV.out.symm
                  subst hv
                  go_wp2
                  go_ret
                  exact ⟨rfl, HB1.out⟩
                case true =>
                  go_wp2_with fail
                  refine (K5.out _).mono ?_
                  rintro e wx ⟨rfl, rfl⟩
                  cases b5
                  case false =>
                    have hv : V = false := HV.out.symm
                    subst hv
                    go_wp2
                    go_ret
                    exact ⟨rfl, HB1.out⟩
                  case true =>
                    cases d5
                    case false =>
                      have nd := of_decide_eq_false hd5
                      have nd0 : (60 : Int) < (x.C.len : Int) := by omega
                      have hv : V = false := HV.out.symm
                      subst hv
                      go_wp2
                      go_ret
                      exact ⟨rfl, HB1.out⟩
                    case true =>
                      have td5 := of_decide_eq_true hd5
                      have td50 : ¬ (60 : Int) < (x.C.len : Int) := by omega
                      cases d6
                      case false =>
                        have nd := of_decide_eq_false hd6
                        have nd0 : (60 : Int) < (x.U.length : Int) := by omega
                        have hv : V = false := HV.out.symm
                        subst hv
                        go_wp2
                        go_ret
                        exact ⟨rfl, HB1.out⟩
                      case true =>
                        have td6 := of_decide_eq_true hd6
                        have td60 : ¬ (60 : Int) < (x.U.length : Int) := by omega
                        go_wp2
                        clear x0 x1 x2 x3 y0 y1 y2 y3 y4 y5 y6 y7 y8 y9
                        have hzk := HB1.out.size
                        go_loopw [82] (fun i wr => ∃ j : Nat, j ≤ x.S.length ∧ i = .int .i64 j ∧ (∀ t (ht : t < x.S.length), t < j → (decide (0 ≤ x.S[t]) && decide (x.S[t] ≤ L.length)) = true) ∧ wr = w1) (fun i _ => x.S.length - (intOf i).toNat)
                        case atStart => exact ⟨0, Nat.zero_le _, rfl, fun t _ h => absurd h (Nat.not_lt_zero _), rfl⟩
                        obtain ⟨j, hj, rfl, hv, hwr⟩ := hrel
                        have hwr2 := hwr.symm
                        subst hwr2
                        clear hwr
                        obtain ⟨x0, x1, x2, x3⟩ := X1.out
                        obtain ⟨y0, y1, y2, y3, y4, y5, y6, y7, y8, y9⟩ := Y1.out
                        by_cases hjn : j < x.S.length
                        · obtain ⟨b, p, rfl, hbl, hcells⟩ := HRr1.out j hjn
                          have c0 := hcells w1 HB1.out
                          clear hcells
                          have hat := HATr1.out j hjn
                          have HN := Lib.hid (show ∀ (he : (decide (0 ≤ x.S[j]) && decide (x.S[j] ≤ L.length)) = true) t (ht : t < x.S.length), t < j + 1 → (decide (0 ≤ x.S[t]) && decide (x.S[t] ≤ L.length)) = true from fun he t ht h => by
                            by_cases e : t = j
                            · subst e; exact he
                            · exact hv t ht (by omega))
                          generalize x.S[j] = n at *
                          obtain ⟨B, hB⟩ : ∃ B, (decide (0 ≤ n) && decide (n ≤ L.length)) = B := ⟨_, rfl⟩
                          have KX := Lib.hid (fun W => s_rng n 0 L.length B hB W)
                          have HAT2 := Lib.hid (fun e => hat (hB.trans e))
                          have HN2 := Lib.hid (fun e => HN.out (hB.trans e))
                          clear hat hB HN hv
                          have hki : decide ((j : Int) < (x.S.length : Int)) = true := by simp; omega
                          have hki2 : (j : Int) < (x.S.length : Int) := by omega
                          have hbw : b < w1.heap.size := by omega
                          go_wp2_with fail
                          refine (KX.out _).mono ?_
                          rintro e w2 ⟨rfl, rfl⟩
                          cases B
                          case false =>
                            have h5 := HAT2.out rfl
                            subst h5
                            have hv : V = false := HV.out.symm
                            subst hv
                            go_wp2
                            go_ret
                            exact ⟨rfl, HB1.out⟩
                          case true =>
                            go_wp2
                            first
                              | (refine ⟨⟨j + 1, by omega, by go_num, HN2.out (by trivial), (by first | trivial | rfl)⟩, ?_⟩; simp [intOf]; omega)
                              | (go_roundw
                                 case rel => exact ⟨j + 1, by omega, by go_num, HN2.out (by trivial), (by first | trivial | rfl)⟩
                                 case measure => simp [intOf]; omega)
                        have hje : j = x.S.length := by omega
                        subst hje
                        have h5r1 := HENDr1.out (fun t ht => hv t ht ht)
                        subst h5r1
                        clear hv
                        have hkir1 : decide ((x.S.length : Int) < (x.S.length : Int)) = false := by simp
                        go_wp2
                        clear x0 x1 x2 x3 y0 y1 y2 y3 y4 y5 y6 y7 y8 y9
                        have hzk := HB1.out.size
                        go_loopw [96] (fun i wr => ∃ j : Nat, j ≤ x.U.length ∧ i = .int .i64 j ∧ (∀ t (ht : t < x.U.length), t < j → (decide (0 ≤ x.U[t]) && decide (x.U[t] ≤ 1)) = true) ∧ wr = w1) (fun i _ => x.U.length - (intOf i).toNat)
                        case atStart => exact ⟨0, Nat.zero_le _, rfl, fun t _ h => absurd h (Nat.not_lt_zero _), rfl⟩
                        obtain ⟨j, hj, rfl, hv, hwr⟩ := hrel
                        have hwr2 := hwr.symm
                        subst hwr2
                        clear hwr
                        obtain ⟨x0, x1, x2, x3⟩ := X1.out
                        obtain ⟨y0, y1, y2, y3, y4, y5, y6, y7, y8, y9⟩ := Y1.out
                        by_cases hjn : j < x.U.length
                        · obtain ⟨b, p, rfl, hbl, hcells⟩ := HRr2.out j hjn
                          have c0 := hcells w1 HB1.out
                          clear hcells
                          have hat := HATr2.out j hjn
                          have HN := Lib.hid (show ∀ (he : (decide (0 ≤ x.U[j]) && decide (x.U[j] ≤ 1)) = true) t (ht : t < x.U.length), t < j + 1 → (decide (0 ≤ x.U[t]) && decide (x.U[t] ≤ 1)) = true from fun he t ht h => by
                            by_cases e : t = j
                            · subst e; exact he
                            · exact hv t ht (by omega))
                          generalize x.U[j] = n at *
                          obtain ⟨B, hB⟩ : ∃ B, (decide (0 ≤ n) && decide (n ≤ 1)) = B := ⟨_, rfl⟩
                          have KX := Lib.hid (fun W => s_rng n 0 1 B hB W)
                          have HAT2 := Lib.hid (fun e => hat (hB.trans e))
                          have HN2 := Lib.hid (fun e => HN.out (hB.trans e))
                          clear hat hB HN hv
                          have hki : decide ((j : Int) < (x.U.length : Int)) = true := by simp; omega
                          have hki2 : (j : Int) < (x.U.length : Int) := by omega
                          have hbw : b < w1.heap.size := by omega
                          go_wp2_with fail
                          refine (KX.out _).mono ?_
                          rintro e w2 ⟨rfl, rfl⟩
                          cases B
                          case false =>
                            have h5 := HAT2.out rfl
                            subst h5
                            have hv : V = false := HV.out.symm
                            subst hv
                            go_wp2
                            go_ret
                            exact ⟨rfl, HB1.out⟩
                          case true =>
                            go_wp2
                            first
                              | (refine ⟨⟨j + 1, by omega, by go_num, HN2.out (by trivial), (by first | trivial | rfl)⟩, ?_⟩; simp [intOf]; omega)
                              | (go_roundw
                                 case rel => exact ⟨j + 1, by omega, by go_num, HN2.out (by trivial), (by first | trivial | rfl)⟩
                                 case measure => simp [intOf]; omega)
                        have hje : j = x.U.length := by omega
                        subst hje
                        have h5r2 := HENDr2.out (fun t ht => hv t ht ht)
                        subst h5r2
                        clear hv
                        have hkir2 : decide ((x.U.length : Int) < (x.U.length : Int)) = false := by simp
                        go_wp2_with fail
                        refine (KT1.out _ HB1.out).mono ?_
                        rintro e w2 ⟨rfl, hb⟩
                        have HB2 := Lib.hid (HB1.out.trans (hb.mono HB1.out.size))
                        clear x0 x1 x2 x3 y0 y1 y2 y3 y4 y5 y6 y7 y8 y9
                        have X2 := Lib.hid (X1.out.below hb)
                        obtain ⟨x0, x1, x2, x3⟩ := X2.out
                        have Y2 := Lib.hid (Y1.out.below hb)
                        obtain ⟨y0, y1, y2, y3, y4, y5, y6, y7, y8, y9⟩ := Y2.out
                        clear hb
                        cases t1
                        case false =>
                          have hv : V = false := HV.out.symm
                          subst hv
                          go_wp2
                          go_ret
                          exact ⟨rfl, HB2.out⟩
                        case true =>
                          go_wp2_with fail
                          refine (KT2.out _ HB2.out).mono ?_
                          rintro e w3 ⟨rfl, hb⟩
                          have HB3 := Lib.hid (HB2.out.trans (hb.mono HB2.out.size))
                          clear x0 x1 x2 x3 y0 y1 y2 y3 y4 y5 y6 y7 y8 y9
                          have X3 := Lib.hid (X2.out.below hb)
                          obtain ⟨x0, x1, x2, x3⟩ := X3.out
                          have Y3 := Lib.hid (Y2.out.below hb)
                          obtain ⟨y0, y1, y2, y3, y4, y5, y6, y7, y8, y9⟩ := Y3.out
                          clear hb
                          cases t2
                          case false =>
                            have hv : V = false := HV.out.symm
                            subst hv
                            go_wp2
                            go_ret
                            exact ⟨rfl, HB3.out⟩
                          case true =>
                            go_wp2_with fail
                            refine (KT3.out _ HB3.out).mono ?_
                            rintro e w4 ⟨rfl, hb⟩
                            have HB4 := Lib.hid (HB3.out.trans (hb.mono HB3.out.size))
                            clear x0 x1 x2 x3 y0 y1 y2 y3 y4 y5 y6 y7 y8 y9
                            have X4 := Lib.hid (X3.out.below hb)
                            obtain ⟨x0, x1, x2, x3⟩ := X4.out
                            have Y4 := Lib.hid (Y3.out.below hb)
                            obtain ⟨y0, y1, y2, y3, y4, y5, y6, y7, y8, y9⟩ := Y4.out
                            clear hb
                            cases t3
                            case false =>
                              have hv : V = false := HV.out.symm
                              subst hv
                              go_wp2
                              go_ret
                              exact ⟨rfl, HB4.out⟩
                            case true =>
                              go_wp2_with fail
                              refine (KT4.out _ HB4.out).mono ?_
                              rintro e w5 ⟨rfl, hb⟩
                              have HB5 := Lib.hid (HB4.out.trans (hb.mono HB4.out.size))
                              clear x0 x1 x2 x3 y0 y1 y2 y3 y4 y5 y6 y7 y8 y9
                              have X5 := Lib.hid (X4.out.below hb)
                              obtain ⟨x0, x1, x2, x3⟩ := X5.out
                              have Y5 := Lib.hid (Y4.out.below hb)
                              obtain ⟨y0, y1, y2, y3, y4, y5, y6, y7, y8, y9⟩ := Y5.out
                              clear hb
                              have hv : V = t4 := HV.out.symm
                              subst hv
                              go_wp2
                              go_ret
                              exact ⟨rfl, HB5.out⟩
end Go.Proofs.YthmababifgaejaaGreatDoor
