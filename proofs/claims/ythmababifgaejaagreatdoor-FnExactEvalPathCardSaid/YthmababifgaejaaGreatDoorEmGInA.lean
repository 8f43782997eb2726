/- What the program's allAccepted returns. No condition. What the program's InputsOk returns. No condition. What the program's StateOk returns. No condition. -/
import Derived.Test.YthmababifgaejaaGreatDoorEmGPaM
import Derived.Test.YthmababifgaejaaGreatDoorEmPrI
import Derived.Test.YthmababifgaejaaGreatDoorEmGSoM
namespace Go.Proofs.YthmababifgaejaaGreatDoor
open Go.ChangeShapes Go.WideShapes Go.ChangeAt Go.RowKit
set_option maxRecDepth 100000 in
set_option maxHeartbeats 2000000 in
theorem i_all (vw vm vi : Int) (qL : Option Addr) (nL cL : Nat) (l : List Int) (o : Int) (ho : o = 0 ∨ o = 1 ∨ o = 2 ∨ o = 3 ∨ o = 4) (ls : Value) (w : World) (hs : Cs.Shows w 0 1 ls l.length (IntL.all l)) (hl : l.length ≤ maxLen) (_hnL : nL ≤ maxLen) :
    Calls Tryz.prog 67 #[.agg #[.int .i64 vw, .int .i64 vm, .int .i64 vi, .slice qL nL cL], ls, .int .i64 o] w fun e w' => e = .returned (.bool (oprB o vw nL l)) ∧ Below w.heap.size w w' := by
  have hml : maxLen = 9223372036854775807 := rfl
  have HS := Lib.hid hs
  obtain ⟨_, lq, lcap, rfl, _⟩ := hs
  obtain ⟨V, hV⟩ : ∃ V, oprB o vw nL l = V := ⟨_, rfl⟩
  rw [hV]
  obtain ⟨size, hsz⟩ : ∃ size : Int, size = nL := ⟨_, rfl⟩
  obtain ⟨wd, hwd⟩ : ∃ wd : Int, wd = vw := ⟨_, rfl⟩
  rw [← hsz, ← hwd] at hV
  have HAT := Lib.hid (fun j (h : j < l.length) (hi : opB o l[j] wd size = false) => show V = false by rw [← hV, oprB_bad h hi])
  have HEND := Lib.hid (fun (h : ∀ j (hj : j < l.length), opB o l[j] wd size = true) => show V = true by rw [← hV, oprB_ok h])
  have KW := Lib.hid (fun n W => show Calls Tryz.prog 85 #[.int .i64 o, .int .i64 n, .int .i64 vw, .int .i64 nL] W fun e w' => e = .returned (.bool (opB o n wd size)) ∧ W = w' by rw [hsz, hwd]; exact i_acc o n vw nL ho W)
  clear hV hsz hwd ho
  have HR : Hid (∀ j, (h : j < l.length) → ∃ b o, lq = some ⟨b, o, none⟩ ∧ b < w.heap.size ∧ ∀ W, Below w.heap.size w W → W.cell? ⟨b, o + j, none⟩ = some (.int .i64 l[j])) := Lib.hid (fun j h => by
    rcases Cs.shows_cases HS.out with ⟨h0, _⟩ | ⟨_, b, o, c, hq, _, _, hbl, hr⟩
    · omega
    · injection hq with e1 e2 e3
      exact ⟨b, o, e1, hbl, fun W hW => IntL.nth l j h (rangeAt_below hW hr)⟩)
  clear HS
  have HB0 := Lib.hid ((Below.refl w.heap.size w).alloc (Nat.le_refl _) (.cells #[.int .i64 vw, .int .i64 vm, .int .i64 vi, .slice qL nL cL] 37))
  have X0 := Lib.hid (cell4_alloc w 37 (.int .i64 vw) (.int .i64 vm) (.int .i64 vi) (.slice qL nL cL))
  obtain ⟨w0, hw0⟩ : ∃ w0, w0 = w.alloc (.cells #[.int .i64 vw, .int .i64 vm, .int .i64 vi, .slice qL nL cL] 37) := ⟨_, rfl⟩
  rw [← hw0] at HB0 X0
  obtain ⟨x0, x1, x2, x3⟩ := X0.out
  rw [hw0] at x0 x1 x2 x3
  go_enter Tryz.func67, Tryz.ntmps67
  go_wp2
  rw [← hw0] at x0 x1 x2 x3 ⊢
  clear hw0
  go_loopw [11] (fun i wr => ∃ j : Nat, j ≤ l.length ∧ i = .int .i64 j ∧ (∀ t (ht : t < l.length), t < j → opB o l[t] wd size = true) ∧ wr = w0) (fun i _ => l.length - (intOf i).toNat)
  case atStart => exact ⟨0, Nat.zero_le _, rfl, fun t _ h => absurd h (Nat.not_lt_zero _), rfl⟩
  case round =>
    obtain ⟨j, hj, rfl, hv, hwr⟩ := hrel
    subst hwr
    have HV := Lib.hid hv
    clear hv
    by_cases hjn : j < l.length
    · obtain ⟨b, p, rfl, hbl, hcells⟩ := HR.out j hjn
      have c0 := hcells wr HB0.out
      clear hcells
      have hat := HAT.out j hjn
      have HN := Lib.hid (show ∀ (hv : opB o l[j] wd size = true) t (ht : t < l.length), t < j + 1 → opB o l[t] wd size = true from fun hv t ht h => by
        by_cases e : t = j
        · subst e; exact hv
        · exact HV.out t ht (by omega))
      generalize l[j] = n at *
      have KX := Lib.hid (fun W => KW.out n W)
      obtain ⟨B, hB⟩ : ∃ B, opB o n wd size = B := ⟨_, rfl⟩
      rw [hB] at KX hat
      have HAT2 := Lib.hid hat
      have HN2 := Lib.hid (fun e => HN.out (hB.trans e))
      clear hat hB HN
      have hki : decide ((j : Int) < (l.length : Int)) = true := by simp; omega
      have hki2 : (j : Int) < (l.length : Int) := by omega
      go_wp2_with fail
      refine (KX.out _).mono ?_
      rintro e w2 ⟨rfl, rfl⟩
      cases B
      case false =>
        have hv := HAT2.out rfl
        subst hv
        go_wp2
        go_ret
        exact ⟨rfl, HB0.out⟩
      case true =>
        go_wp2
        first
          | (refine ⟨⟨j + 1, by omega, by go_num, HN2.out (by trivial), (by first | trivial | rfl)⟩, ?_⟩; simp [intOf]; omega)
          | (go_roundw
             case rel => exact ⟨j + 1, by omega, by go_num, HN2.out (by trivial), (by first | trivial | rfl)⟩
             case measure => simp [intOf]; omega)
    · have hje : j = l.length := by omega
      subst hje
      have hv := HEND.out (fun t ht => HV.out t ht ht)
      have hki : decide ((l.length : Int) < (l.length : Int)) = false := by simp
      subst hv
      go_wp2
      go_ret
      exact ⟨rfl, HB0.out⟩
end Go.Proofs.YthmababifgaejaaGreatDoor
namespace Go.Proofs.YthmababifgaejaaGreatDoor
open Go.ChangeShapes Go.WideShapes Go.ChangeAt Go.RowKit
set_option maxRecDepth 100000 in
set_option maxHeartbeats 2000000 in
theorem i_inputs (vw vm vi : Int) (L : List InsR) (l : List Int) (s ls : Value) (w : World) (hs : Cs.Shows w 0 4 s L.length (InsR.all L)) (hls : Cs.Shows w 0 1 ls l.length (IntL.all l)) (hok : ∀ r ∈ L, r.Ok) (hL : L.length ≤ maxLen) (hl : l.length ≤ maxLen) :
    Calls Tryz.prog 46 #[.agg #[.int .i64 vw, .int .i64 vm, .int .i64 vi, s], ls] w fun e w' => e = .returned (.bool (inB vw vm vi L l)) ∧ Below w.heap.size w w' := by
  have hml : maxLen = 9223372036854775807 := rfl
  have KP := Lib.hid (fun W (hb : Below w.heap.size w W) => i_prog vw vm vi L s W (hs.below hb) hok hL)
  have KL := Lib.hid (fun q c W (hb : Below w.heap.size w W) => i_all vw vm vi q L.length c l 2 (by omega) ls W (hls.below hb) hl hL)
  obtain ⟨_, q, cap, rfl, _⟩ := hs
  obtain ⟨_, lq, lcap, rfl, _⟩ := hls
  unfold inB
  generalize prB vw vm vi L = b1 at *
  have HB0 := Lib.hid ((Below.refl w.heap.size w).alloc (Nat.le_refl _) (.cells #[.int .i64 vw, .int .i64 vm, .int .i64 vi, .slice q L.length cap] 37))
  have X0 := Lib.hid (cell4_alloc w 37 (.int .i64 vw) (.int .i64 vm) (.int .i64 vi) (.slice q L.length cap))
  obtain ⟨w0, hw0⟩ : ∃ w0, w0 = w.alloc (.cells #[.int .i64 vw, .int .i64 vm, .int .i64 vi, .slice q L.length cap] 37) := ⟨_, rfl⟩
  rw [← hw0] at HB0 X0
  go_enter Tryz.func46, Tryz.ntmps46
  go_wp2_with fail
  rw [← hw0]
  clear hw0
  refine (KP.out _ HB0.out).mono ?_
  rintro e w1 ⟨rfl, hb⟩
  have HB1 := Lib.hid (HB0.out.trans (hb.mono HB0.out.size))
  have X1 := Lib.hid (X0.out.below hb)
  clear hb
  obtain ⟨x0, x1, x2, x3⟩ := X1.out
  cases b1
  case false =>
    go_wp2
    go_ret
    exact ⟨rfl, HB1.out⟩
  case true =>
    obtain ⟨b2, h2⟩ : ∃ b, oprB 2 vw L.length l = b := ⟨_, rfl⟩
    rw [h2] at KL
    by_cases hn : (l.length : Int) = vi
    · subst hn
      go_wp2_with fail
      refine (KL.out _ _ _ HB1.out).mono ?_
      rintro e w2 ⟨rfl, hb⟩
      have HB2 := Lib.hid (HB1.out.trans (hb.mono HB1.out.size))
      clear hb
      go_wp2
      go_ret
      exact ⟨by first | rfl | (rw [← h2] <;> rfl) | (simp [← h2] <;> rfl), HB2.out⟩
    · have hn2 : ((l.length : Int) == vi) = false := by simpa using hn
      go_wp2
      go_ret
      exact ⟨by first | rfl | (rw [decide_eq_false hn] <;> rfl), HB1.out⟩
end Go.Proofs.YthmababifgaejaaGreatDoor
namespace Go.Proofs.YthmababifgaejaaGreatDoor
open Go.ChangeShapes Go.WideShapes Go.ChangeAt Go.RowKit
set_option maxRecDepth 100000 in
set_option maxHeartbeats 4000000 in
theorem i_state (vw vm vi : Int) (L : List InsR) (x : StR) (s r m st o : Value) (w : World) (hs : Cs.Shows w 0 4 s L.length (InsR.all L)) (hx : StS w 0 x r m st o) (hok : ∀ r ∈ L, r.Ok) (hL : L.length ≤ maxLen) (hl : x.Long) :
    Calls Tryz.prog 63 #[.agg #[.int .i64 vw, .int .i64 vm, .int .i64 vi, s], .agg #[.int .i64 x.pc, r, m, st, .int .i64 x.inn, o, .int .i64 x.cd, .int .i64 x.st]] w fun e w' => e = .returned (.bool (soB vw vm vi L x)) ∧ Below w.heap.size w w' := by
  have hml : maxLen = 9223372036854775807 := rfl
  obtain ⟨gr, gm, gs, go⟩ := hl
  obtain ⟨hr, hm, hst, ho⟩ := hx
  have HST := Lib.hid hst
  have K1 := Lib.hid (fun W (hb : Below w.heap.size w W) => i_prog vw vm vi L s W (hs.below hb) hok hL)
  have K2 := Lib.hid (fun W => i_acc 3 x.pc vw L.length (by omega) W)
  have KR := Lib.hid (fun q c W (hb : Below w.heap.size w W) => i_all vw vm vi q L.length c x.R 2 (by omega) r W (hr.below hb) gr hL)
  have KM := Lib.hid (fun q c W (hb : Below w.heap.size w W) => i_all vw vm vi q L.length c x.M 2 (by omega) m W (hm.below hb) gm hL)
  have KS := Lib.hid (fun q c W (hb : Below w.heap.size w W) => i_all vw vm vi q L.length c x.S 3 (by omega) st W (hst.below hb) gs hL)
  have KO := Lib.hid (fun q c W (hb : Below w.heap.size w W) => i_all vw vm vi q L.length c x.O 2 (by omega) o W (ho.below hb) go hL)
  obtain ⟨_, q, cap, rfl, _⟩ := hs
  obtain ⟨_, qr, cr, rfl, _⟩ := hr
  obtain ⟨_, qm, cm, rfl, _⟩ := hm
  obtain ⟨_, qs, cs, rfl, _⟩ := hst
  obtain ⟨_, qo, co, rfl, _⟩ := ho
  obtain ⟨b1, hb1⟩ : ∃ c, prB vw vm vi L = c := ⟨_, rfl⟩
  obtain ⟨b2, hb2⟩ : ∃ c, opB 3 x.pc vw L.length = c := ⟨_, rfl⟩
  obtain ⟨d1, hd1⟩ : ∃ c, decide ((x.R.length : Int) = 4) = c := ⟨_, rfl⟩
  obtain ⟨d2, hd2⟩ : ∃ c, decide ((x.M.length : Int) = vm) = c := ⟨_, rfl⟩
  obtain ⟨d3, hd3⟩ : ∃ c, decide ((x.S.length : Int) ≤ 3) = c := ⟨_, rfl⟩
  obtain ⟨d4, hd4⟩ : ∃ c, decide ((x.O.length : Int) ≤ 6) = c := ⟨_, rfl⟩
  obtain ⟨d5, hd5⟩ : ∃ c, decide (0 ≤ x.inn) = c := ⟨_, rfl⟩
  obtain ⟨d6, hd6⟩ : ∃ c, decide (x.inn ≤ vi) = c := ⟨_, rfl⟩
  obtain ⟨d7, hd7⟩ : ∃ c, decide (0 ≤ x.cd) = c := ⟨_, rfl⟩
  obtain ⟨d8, hd8⟩ : ∃ c, decide (x.cd ≤ 8) = c := ⟨_, rfl⟩
  obtain ⟨d9, hd9⟩ : ∃ c, decide (0 ≤ x.st) = c := ⟨_, rfl⟩
  obtain ⟨d10, hd10⟩ : ∃ c, decide (x.st ≤ 400) = c := ⟨_, rfl⟩
  obtain ⟨b3, hb3⟩ : ∃ c, oprB 2 vw L.length x.R = c := ⟨_, rfl⟩
  obtain ⟨b4, hb4⟩ : ∃ c, oprB 2 vw L.length x.M = c := ⟨_, rfl⟩
  obtain ⟨b5, hb5⟩ : ∃ c, oprB 3 vw L.length x.S = c := ⟨_, rfl⟩
  obtain ⟨b6, hb6⟩ : ∃ c, oprB 2 vw L.length x.O = c := ⟨_, rfl⟩
  obtain ⟨V, hV⟩ : ∃ V, soB vw vm vi L x = V := ⟨_, rfl⟩
  rw [hV]
  have HV : Hid ((b1 && (b2 && (d1 && (d2 && (d3 && (d4 && (d5 && (d6 && (d7 && (d8 && (d9 && (d10 && (b3 && (b4 && (b5 && b6))))))))))))))) = V) := Lib.hid (by rw [← hV, ← hb1, ← hb2, ← hd1, ← hd2, ← hd3, ← hd4, ← hd5, ← hd6, ← hd7, ← hd8, ← hd9, ← hd10, ← hb3, ← hb4, ← hb5, ← hb6]; rfl)
  rw [hb1] at K1
  rw [hb2] at K2
  rw [hb3] at KR
  rw [hb4] at KM
  rw [hb5] at KS
  rw [hb6] at KO
  clear hb1 hb2 hb3 hb4 hb5 hb6 hV HST hok
  have HB0 := Lib.hid (((Below.refl w.heap.size w).alloc (Nat.le_refl _) (.cells #[.int .i64 vw, .int .i64 vm, .int .i64 vi, .slice q L.length cap] 37)).alloc (by simp) (.cells #[.int .i64 x.pc, .slice qr x.R.length cr, .slice qm x.M.length cm, .slice qs x.S.length cs, .int .i64 x.inn, .slice qo x.O.length co, .int .i64 x.cd, .int .i64 x.st] 32))
  have X0 := Lib.hid ((cell4_alloc w 37 (.int .i64 vw) (.int .i64 vm) (.int .i64 vi) (.slice q L.length cap)).below ((Below.refl _ _).alloc (Nat.le_refl _) (.cells #[.int .i64 x.pc, .slice qr x.R.length cr, .slice qm x.M.length cm, .slice qs x.S.length cs, .int .i64 x.inn, .slice qo x.O.length co, .int .i64 x.cd, .int .i64 x.st] 32)))
  have Y0 := Lib.hid (cell8_alloc (w.alloc (.cells #[.int .i64 vw, .int .i64 vm, .int .i64 vi, .slice q L.length cap] 37)) 32 (.int .i64 x.pc) (.slice qr x.R.length cr) (.slice qm x.M.length cm) (.slice qs x.S.length cs) (.int .i64 x.inn) (.slice qo x.O.length co) (.int .i64 x.cd) (.int .i64 x.st))
  rw [show (w.alloc (.cells #[.int .i64 vw, .int .i64 vm, .int .i64 vi, .slice q L.length cap] 37)).heap.size = w.heap.size + 1 by simp] at Y0
  obtain ⟨w0, hw0⟩ : ∃ w0, w0 = (w.alloc (.cells #[.int .i64 vw, .int .i64 vm, .int .i64 vi, .slice q L.length cap] 37)).alloc (.cells #[.int .i64 x.pc, .slice qr x.R.length cr, .slice qm x.M.length cm, .slice qs x.S.length cs, .int .i64 x.inn, .slice qo x.O.length co, .int .i64 x.cd, .int .i64 x.st] 32) := ⟨_, rfl⟩
  have hs0 : w0.heap.size = w.heap.size + 2 := by rw [hw0]; simp
  rw [← hw0] at HB0 X0 Y0
  obtain ⟨x0, x1, x2, x3⟩ := X0.out
  obtain ⟨y0, y1, y2, y3, y4, y5, y6, y7⟩ := Y0.out
  rw [hw0] at x0 x1 x2 x3 y0 y1 y2 y3 y4 y5 y6 y7
  go_enter Tryz.func63, Tryz.ntmps63
  go_wp2_with fail
  rw [← hw0] at x0 x1 x2 x3 y0 y1 y2 y3 y4 y5 y6 y7 ⊢
  clear hw0
  refine (K1.out _ HB0.out).mono ?_
  rintro e w1 ⟨rfl, hb⟩
  have HB1 := Lib.hid (HB0.out.trans (hb.mono HB0.out.size))
  clear x0 x1 x2 x3 y0 y1 y2 y3 y4 y5 y6 y7
  have X1 := Lib.hid (X0.out.below hb)
  obtain ⟨x0, x1, x2, x3⟩ := X1.out
  have Y1 := Lib.hid (Y0.out.below hb)
  obtain ⟨y0, y1, y2, y3, y4, y5, y6, y7⟩ := Y1.out
  clear hb
  cases b1
  case false =>
    have hv : V = false := HV.out.symm
    subst hv
    go_wp2
    go_ret
    exact ⟨rfl, HB1.out⟩
  case true =>
    go_wp2_with fail
    refine (K2.out _).mono ?_
    rintro e wx ⟨rfl, rfl⟩
    cases b2
    case false =>
      have hv : V = false := HV.out.symm
      subst hv
      go_wp2
      go_ret
      exact ⟨rfl, HB1.out⟩
    case true =>
      cases d1
      case false =>
        have nd := of_decide_eq_false hd1
        have nd0 : ((x.R.length : Int) == 4) = false := by simp; omega
        have hv : V = false := HV.out.symm
        subst hv
        go_wp2
        go_ret
        exact ⟨rfl, HB1.out⟩
      case true =>
        have td1 := of_decide_eq_true hd1
        have td10 : (x.R.length : Int) = 4 := by omega
        cases d2
        case false =>
          have nd := of_decide_eq_false hd2
          have nd0 : ((x.M.length : Int) == vm) = false := by simp; omega
          have hv : V = false := HV.out.symm
          subst hv
          go_wp2
          go_ret
          exact ⟨rfl, HB1.out⟩
        case true =>
          have td2 := of_decide_eq_true hd2
          cases d3
          case false =>
            have nd := of_decide_eq_false hd3
            have nd0 : (3 : Int) < (x.S.length : Int) := by omega
            have hv : V = false := HV.out.symm
            subst hv
            go_wp2
            go_ret
            exact ⟨rfl, HB1.out⟩
          case true =>
            have td3 := of_decide_eq_true hd3
            have td30 : ¬ (3 : Int) < (x.S.length : Int) := by omega
            cases d4
            case false =>
              have nd := of_decide_eq_false hd4
              have nd0 : (6 : Int) < (x.O.length : Int) := by omega
              have hv : V = false := HV.out.symm
              subst hv
              go_wp2
              go_ret
              exact ⟨rfl, HB1.out⟩
            case true =>
              have td4 := of_decide_eq_true hd4
              have td40 : ¬ (6 : Int) < (x.O.length : Int) := by omega
              cases d5
              case false =>
                have nd := of_decide_eq_false hd5
                have nd0 : x.inn < 0 := by omega
                have hv : V = false := HV.out.symm
                subst hv
                go_wp2
                go_ret
                exact ⟨rfl, HB1.out⟩
              case true =>
                have td5 := of_decide_eq_true hd5
                have td50 : 0 ≤ x.inn := by omega
                cases d6
                case false =>
                  have nd := of_decide_eq_false hd6
                  have nd0 : vi < x.inn := by omega
                  have hv : V = false := HV.out.symm
                  subst hv
                  go_wp2
                  go_ret
                  exact ⟨rfl, HB1.out⟩
                case true =>
                  have td6 := of_decide_eq_true hd6
                  have td60 : x.inn ≤ vi := by omega
                  cases d7
                  case false =>
                    have nd := of_decide_eq_false hd7
                    have nd0 : x.cd < 0 := by omega
                    have hv : V = false := HV.out.symm
                    subst hv
                    go_wp2
                    go_ret
                    exact ⟨rfl, HB1.out⟩
                  case true =>
                    have td7 := of_decide_eq_true hd7
                    have td70 : 0 ≤ x.cd := by omega
                    cases d8
                    case false =>
                      have nd := of_decide_eq_false hd8
                      have nd0 : 8 < x.cd := by omega
                      have hv : V = false := HV.out.symm
                      subst hv
                      go_wp2
                      go_ret
                      exact ⟨rfl, HB1.out⟩
                    case true =>
                      have td8 := of_decide_eq_true hd8
                      have td80 : x.cd ≤ 8 := by omega
                      cases d9
                      case false =>
                        have nd := of_decide_eq_false hd9
                        have nd0 : x.st < 0 := by omega
                        have hv : V = false := HV.out.symm
                        subst hv
                        go_wp2
                        go_ret
                        exact ⟨rfl, HB1.out⟩
                      case true =>
                        have td9 := of_decide_eq_true hd9
                        have td90 : 0 ≤ x.st := by omega
                        cases d10
                        case false =>
                          have nd := of_decide_eq_false hd10
                          have nd0 : 400 < x.st := by omega
                          have hv : V = false := HV.out.symm
                          subst hv
                          go_wp2
                          go_ret
                          exact ⟨rfl, HB1.out⟩
                        case true =>
                          have td10 := of_decide_eq_true hd10
                          have td100 : x.st ≤ 400 := by omega
                          go_wp2_with fail
                          refine (KR.out _ _ _ HB1.out).mono ?_
                          rintro e w2 ⟨rfl, hb⟩
                          have HB2 := Lib.hid (HB1.out.trans (hb.mono HB1.out.size))
                          clear x0 x1 x2 x3 y0 y1 y2 y3 y4 y5 y6 y7
                          have X2 := Lib.hid (X1.out.below hb)
                          obtain ⟨x0, x1, x2, x3⟩ := X2.out
                          have Y2 := Lib.hid (Y1.out.below hb)
                          obtain ⟨y0, y1, y2, y3, y4, y5, y6, y7⟩ := Y2.out
                          clear hb
                          cases b3
                          case false =>
                            have hv : V = false := HV.out.symm
                            subst hv
                            go_wp2
                            go_ret
                            exact ⟨rfl, HB2.out⟩
                          case true =>
                            go_wp2_with fail
                            refine (KM.out _ _ _ HB2.out).mono ?_
                            rintro e w3 ⟨rfl, hb⟩
                            have HB3 := Lib.hid (HB2.out.trans (hb.mono HB2.out.size))
                            clear x0 x1 x2 x3 y0 y1 y2 y3 y4 y5 y6 y7
                            have X3 := Lib.hid (X2.out.below hb)
                            obtain ⟨x0, x1, x2, x3⟩ := X3.out
                            have Y3 := Lib.hid (Y2.out.below hb)
                            obtain ⟨y0, y1, y2, y3, y4, y5, y6, y7⟩ := Y3.out
                            clear hb
                            cases b4
                            case false =>
                              have hv : V = false := HV.out.symm
                              subst hv
                              go_wp2
                              go_ret
                              exact ⟨rfl, HB3.out⟩
                            case true =>
                              go_wp2_with fail
                              refine (KS.out _ _ _ HB3.out).mono ?_
                              rintro e w4 ⟨rfl, hb⟩
                              have HB4 := Lib.hid (HB3.out.trans (hb.mono HB3.out.size))
                              clear x0 x1 x2 x3 y0 y1 y2 y3 y4 y5 y6 y7
                              have X4 := Lib.hid (X3.out.below hb)
                              obtain ⟨x0, x1, x2, x3⟩ := X4.out
                              have Y4 := Lib.hid (Y3.out.below hb)
                              obtain ⟨y0, y1, y2, y3, y4, y5, y6, y7⟩ := Y4.out
                              clear hb
                              cases b5
                              case false =>
                                have hv : V = false := HV.out.symm
                                subst hv
                                go_wp2
                                go_ret
                                exact ⟨rfl, HB4.out⟩
                              case true =>
                                go_wp2_with fail
                                refine (KO.out _ _ _ HB4.out).mono ?_
                                rintro e w5 ⟨rfl, hb⟩
                                have HB5 := Lib.hid (HB4.out.trans (hb.mono HB4.out.size))
                                clear x0 x1 x2 x3 y0 y1 y2 y3 y4 y5 y6 y7
                                have X5 := Lib.hid (X4.out.below hb)
                                obtain ⟨x0, x1, x2, x3⟩ := X5.out
                                have Y5 := Lib.hid (Y4.out.below hb)
                                obtain ⟨y0, y1, y2, y3, y4, y5, y6, y7⟩ := Y5.out
                                clear hb
                                have hv : V = b6 := HV.out.symm
                                subst hv
                                go_wp2
                                go_ret
                                exact ⟨rfl, HB5.out⟩
end Go.Proofs.YthmababifgaejaaGreatDoor
