/- What the specification's StateOk returns. No condition. -/
import Derived.Test.YtbdkningngpgcaaSoM
import Derived.Test.YtbdkningngpgcaaInS
namespace Go.Proofs.Ytbdkningngpgcaa
open Go.ChangeShapes Go.WideShapes Go.ChangeAt Go.RowKit
set_option maxRecDepth 100000 in
set_option maxHeartbeats 4000000 in
theorem s_state (vw vm vi : Int) (L : List InsR) (x : StR) (s r m st o : Value) (w : World) (hs : Cs.Shows w 0 4 s L.length (InsR.all L)) (hx : StS w 0 x r m st o) (hok : ∀ r ∈ L, r.Ok) (hL : L.length ≤ maxLen) (hl : x.Long) :
    Calls Try.prog 52 #[.agg #[.int .i64 vw, .int .i64 vm, .int .i64 vi, s], .agg #[.int .i64 x.pc, r, m, st, .int .i64 x.inn, o, .int .i64 x.cd, .int .i64 x.st]] w fun e w' => e = .returned (.bool (soB vw vm vi L x)) ∧ Below w.heap.size w w' := by
  have hml : maxLen = 9223372036854775807 := rfl
  obtain ⟨gr, gm, gs, go⟩ := hl
  obtain ⟨hr, hm, hst, ho⟩ := hx
  have HST := Lib.hid hst
  have K1 := Lib.hid (fun W (hb : Below w.heap.size w W) => s_prog vw vm vi L s W (hs.below hb) hok hL)
  have KR := Lib.hid (fun W (hb : Below w.heap.size w W) => s_words x.R 4 vw L.length r W (hr.below hb) gr)
  have KM := Lib.hid (fun W (hb : Below w.heap.size w W) => s_words x.M vm vw L.length m W (hm.below hb) gm)
  have KO := Lib.hid (fun W (hb : Below w.heap.size w W) => s_words x.O x.O.length vw L.length o W (ho.below hb) go)
  obtain ⟨_, q, cap, rfl, _⟩ := hs
  obtain ⟨_, qr, cr, rfl, _⟩ := hr
  obtain ⟨_, qm, cm, rfl, _⟩ := hm
  obtain ⟨_, qs, cs, rfl, _⟩ := hst
  obtain ⟨_, qo, co, rfl, _⟩ := ho
  obtain ⟨b1, hb1⟩ : ∃ c, prB vw vm vi L = c := ⟨_, rfl⟩
  obtain ⟨d3, hd3⟩ : ∃ c, decide ((x.S.length : Int) ≤ 3) = c := ⟨_, rfl⟩
  obtain ⟨d4, hd4⟩ : ∃ c, decide ((x.O.length : Int) ≤ 6) = c := ⟨_, rfl⟩
  obtain ⟨b5, hb5⟩ : ∃ c, oprB 3 vw L.length x.S = c := ⟨_, rfl⟩
  obtain ⟨b2, hb2⟩ : ∃ c, (decide (0 ≤ x.pc) && decide (x.pc ≤ L.length)) = c := ⟨_, rfl⟩
  obtain ⟨b3, hb3⟩ : ∃ c, (decide ((x.R.length : Int) = 4) && oprB 2 vw L.length x.R) = c := ⟨_, rfl⟩
  obtain ⟨b4, hb4⟩ : ∃ c, (decide ((x.M.length : Int) = vm) && oprB 2 vw L.length x.M) = c := ⟨_, rfl⟩
  obtain ⟨b7, hb7⟩ : ∃ c, (decide (0 ≤ x.inn) && decide (x.inn ≤ vi)) = c := ⟨_, rfl⟩
  obtain ⟨b6, hb6⟩ : ∃ c, (decide ((x.O.length : Int) = x.O.length) && oprB 2 vw L.length x.O) = c := ⟨_, rfl⟩
  obtain ⟨b8, hb8⟩ : ∃ c, (decide (0 ≤ x.cd) && decide (x.cd ≤ 8)) = c := ⟨_, rfl⟩
  obtain ⟨b9, hb9⟩ : ∃ c, (decide (0 ≤ x.st) && decide (x.st ≤ 400)) = c := ⟨_, rfl⟩
  obtain ⟨V, hV⟩ : ∃ V, soB vw vm vi L x = V := ⟨_, rfl⟩
  rw [hV]
  have HV : Hid ((b1 && (d3 && (d4 && (b5 && (b2 && (b3 && (b4 && (b7 && (b6 && (b8 && b9)))))))))) = V) := Lib.hid (by rw [← hV, ← hb1, ← hd3, ← hd4, ← hb5, ← hb2, ← hb3, ← hb4, ← hb7, ← hb6, ← hb8, ← hb9]; exact so_spec vw vm vi L x)
  rw [hb1] at K1
  rw [hb3] at KR
  rw [hb4] at KM
  rw [hb6] at KO
  have K2 := Lib.hid (fun W => s_rng x.pc 0 L.length b2 hb2 W)
  have K7 := Lib.hid (fun W => s_rng x.inn 0 vi b7 hb7 W)
  have K8 := Lib.hid (fun W => s_rng x.cd 0 8 b8 hb8 W)
  have K9 := Lib.hid (fun W => s_rng x.st 0 400 b9 hb9 W)
  have HAT := Lib.hid (fun j (h : j < x.S.length) (hi : (decide (0 ≤ x.S[j]) && decide (x.S[j] ≤ L.length)) = false) => show b5 = false by rw [← hb5]; exact oprB_bad h (by rw [opB_place]; exact hi))
  have HEND := Lib.hid (fun (h : ∀ j (hj : j < x.S.length), (decide (0 ≤ x.S[j]) && decide (x.S[j] ≤ L.length)) = true) => show b5 = true by rw [← hb5]; exact oprB_ok fun j hj => by rw [opB_place]; exact h j hj)
  have HR : Hid (∀ j, (h : j < x.S.length) → ∃ b o, qs = some ⟨b, o, none⟩ ∧ b < w.heap.size ∧ ∀ W, Below w.heap.size w W → W.cell? ⟨b, o + j, none⟩ = some (.int .i64 x.S[j])) := Lib.hid (fun j h => by
    rcases Cs.shows_cases HST.out with ⟨h0, _⟩ | ⟨_, b, o, c, hq, _, _, hbl, hr⟩
    · omega
    · injection hq with e1 e2 e3
      exact ⟨b, o, e1, hbl, fun W hW => IntL.nth x.S j h (rangeAt_below hW hr)⟩)
  clear hb1 hb2 hb3 hb4 hb5 hb6 hb7 hb8 hb9 hV HST hok
  have HB0 := Lib.hid (((Below.refl w.heap.size w).alloc (Nat.le_refl _) (.cells #[.int .i64 vw, .int .i64 vm, .int .i64 vi, .slice q L.length cap] 30)).alloc (by simp) (.cells #[.int .i64 x.pc, .slice qr x.R.length cr, .slice qm x.M.length cm, .slice qs x.S.length cs, .int .i64 x.inn, .slice qo x.O.length co, .int .i64 x.cd, .int .i64 x.st] 41))
  have X0 := Lib.hid ((cell4_alloc w 30 (.int .i64 vw) (.int .i64 vm) (.int .i64 vi) (.slice q L.length cap)).below ((Below.refl _ _).alloc (Nat.le_refl _) (.cells #[.int .i64 x.pc, .slice qr x.R.length cr, .slice qm x.M.length cm, .slice qs x.S.length cs, .int .i64 x.inn, .slice qo x.O.length co, .int .i64 x.cd, .int .i64 x.st] 41)))
  have Y0 := Lib.hid (cell8_alloc (w.alloc (.cells #[.int .i64 vw, .int .i64 vm, .int .i64 vi, .slice q L.length cap] 30)) 41 (.int .i64 x.pc) (.slice qr x.R.length cr) (.slice qm x.M.length cm) (.slice qs x.S.length cs) (.int .i64 x.inn) (.slice qo x.O.length co) (.int .i64 x.cd) (.int .i64 x.st))
  rw [show (w.alloc (.cells #[.int .i64 vw, .int .i64 vm, .int .i64 vi, .slice q L.length cap] 30)).heap.size = w.heap.size + 1 by simp] at Y0
  obtain ⟨w0, hw0⟩ : ∃ w0, w0 = (w.alloc (.cells #[.int .i64 vw, .int .i64 vm, .int .i64 vi, .slice q L.length cap] 30)).alloc (.cells #[.int .i64 x.pc, .slice qr x.R.length cr, .slice qm x.M.length cm, .slice qs x.S.length cs, .int .i64 x.inn, .slice qo x.O.length co, .int .i64 x.cd, .int .i64 x.st] 41) := ⟨_, rfl⟩
  have hs0 : w0.heap.size = w.heap.size + 2 := by rw [hw0]; simp
  rw [← hw0] at HB0 X0 Y0
  obtain ⟨x0, x1, x2, x3⟩ := X0.out
  obtain ⟨y0, y1, y2, y3, y4, y5, y6, y7⟩ := Y0.out
  rw [hw0] at x0 x1 x2 x3 y0 y1 y2 y3 y4 y5 y6 y7
  go_enter Try.func52, Try.ntmps52
  go_wp2_with fail
  rw [← hw0] at x0 x1 x2 x3 y0 y1 y2 y3 y4 y5 y6 y7 ⊢
  clear hw0
  refine (K1.out _ HB0.out).mono ?_
  rintro e w1 ⟨rfl, hb⟩
  have HB1 := Lib.hid (HB0.out.trans (hb.mono HB0.out.size))
  clear x0 x1 x2 x3 y0 y1 y2 y3 y4 y5 y6 y7
  have X1 := Lib.hid (X0.out.below hb)
  obtain ⟨x0, x1, x2, x3⟩ := X1.out
  have Y1 := Lib.hid (Y0.out.below hb)
  obtain ⟨y0, y1, y2, y3, y4, y5, y6, y7⟩ := Y1.out
  clear hb
  cases b1
  case false =>
    have hv : V = false := HV.out.symm
    subst hv
    go_wp2
    go_ret
    exact ⟨rfl, HB1.out⟩
  case true =>
    cases d3
    case false =>
      have nd := of_decide_eq_false hd3
      have nd0 : (3 : Int) < (x.S.length : Int) := by omega
      have hv : V = false := HV.out.symm
      subst hv
      go_wp2
      go_ret
      exact ⟨rfl, HB1.out⟩
    case true =>
      have td3 := of_decide_eq_true hd3
      have td30 : ¬ (3 : Int) < (x.S.length : Int) := by omega
      cases d4
      case false =>
        have nd := of_decide_eq_false hd4
        have nd0 : (6 : Int) < (x.O.length : Int) := by omega
        have hv : V = false := HV.out.symm
        subst hv
        go_wp2
        go_ret
        exact ⟨rfl, HB1.out⟩
      case true =>
        have td4 := of_decide_eq_true hd4
        have td40 : ¬ (6 : Int) < (x.O.length : Int) := by omega
        go_wp2
        clear x0 x1 x2 x3 y0 y1 y2 y3 y4 y5 y6 y7
        have hzk := HB1.out.size
        go_loopw [25] (fun i wr => ∃ j : Nat, j ≤ x.S.length ∧ i = .int .i64 j ∧ (∀ t (ht : t < x.S.length), t < j → (decide (0 ≤ x.S[t]) && decide (x.S[t] ≤ L.length)) = true) ∧ wr = w1) (fun i _ => x.S.length - (intOf i).toNat)
        case atStart => exact ⟨0, Nat.zero_le _, rfl, fun t _ h => absurd h (Nat.not_lt_zero _), rfl⟩
        obtain ⟨j, hj, rfl, hv, hwr⟩ := hrel
        subst hwr
        obtain ⟨x0, x1, x2, x3⟩ := X1.out
        obtain ⟨y0, y1, y2, y3, y4, y5, y6, y7⟩ := Y1.out
        by_cases hjn : j < x.S.length
        · obtain ⟨b, p, rfl, hbl, hcells⟩ := HR.out j hjn
          have c0 := hcells wr HB1.out
          clear hcells
          have hat := HAT.out j hjn
          have HN := Lib.hid (show ∀ (he : (decide (0 ≤ x.S[j]) && decide (x.S[j] ≤ L.length)) = true) t (ht : t < x.S.length), t < j + 1 → (decide (0 ≤ x.S[t]) && decide (x.S[t] ≤ L.length)) = true from fun he t ht h => by
            by_cases e : t = j
            · subst e; exact he
            · exact hv t ht (by omega))
          generalize x.S[j] = n at *
          obtain ⟨B, hB⟩ : ∃ B, (decide (0 ≤ n) && decide (n ≤ L.length)) = B := ⟨_, rfl⟩
          have KX := Lib.hid (fun W => s_rng n 0 L.length B hB W)
          have HAT2 := Lib.hid (fun e => hat (hB.trans e))
          have HN2 := Lib.hid (fun e => HN.out (hB.trans e))
          clear hat hB HN hv
          have hki : decide ((j : Int) < (x.S.length : Int)) = true := by simp; omega
          have hki2 : (j : Int) < (x.S.length : Int) := by omega
          go_wp2_with fail
          refine (KX.out _).mono ?_
          rintro e w2 ⟨rfl, rfl⟩
          cases B
          case false =>
            have h5 := HAT2.out rfl
            subst h5
            have hv : V = false := HV.out.symm
            subst hv
            go_wp2
            go_ret
            exact ⟨rfl, HB1.out⟩
          case true =>
            go_wp2
            first
              | (refine ⟨⟨j + 1, by omega, by go_num, HN2.out (by trivial), (by first | trivial | rfl)⟩, ?_⟩; simp [intOf]; omega)
              | (go_roundw
                 case rel => exact ⟨j + 1, by omega, by go_num, HN2.out (by trivial), (by first | trivial | rfl)⟩
                 case measure => simp [intOf]; omega)
        have hje : j = x.S.length := by omega
        subst hje
        have h5 := HEND.out (fun t ht => hv t ht ht)
        subst h5
        clear hv
        have hki : decide ((x.S.length : Int) < (x.S.length : Int)) = false := by simp
        go_wp2_with fail
        refine (K2.out _).mono ?_
        rintro e wx ⟨rfl, rfl⟩
        cases b2
        case false =>
          have hv : V = false := HV.out.symm
          subst hv
          go_wp2
          go_ret
          exact ⟨rfl, HB1.out⟩
        case true =>
          go_wp2_with fail
          refine (KR.out _ HB1.out).mono ?_
          rintro e wx ⟨rfl, rfl⟩
          cases b3
          case false =>
            have hv : V = false := HV.out.symm
            subst hv
            go_wp2
            go_ret
            exact ⟨rfl, HB1.out⟩
          case true =>
            go_wp2_with fail
            refine (KM.out _ HB1.out).mono ?_
            rintro e wx ⟨rfl, rfl⟩
            cases b4
            case false =>
              have hv : V = false := HV.out.symm
              subst hv
              go_wp2
              go_ret
              exact ⟨rfl, HB1.out⟩
            case true =>
              go_wp2_with fail
              refine (K7.out _).mono ?_
              rintro e wx ⟨rfl, rfl⟩
              cases b7
              case false =>
                have hv : V = false := HV.out.symm
                subst hv
                go_wp2
                go_ret
                exact ⟨rfl, HB1.out⟩
              case true =>
                go_wp2_with fail
                refine (KO.out _ HB1.out).mono ?_
                rintro e wx ⟨rfl, rfl⟩
                cases b6
                case false =>
                  have hv : V = false := HV.out.symm
                  subst hv
                  go_wp2
                  go_ret
                  exact ⟨rfl, HB1.out⟩
                case true =>
                  go_wp2_with fail
                  refine (K8.out _).mono ?_
                  rintro e wx ⟨rfl, rfl⟩
                  cases b8
                  case false =>
                    have hv : V = false := HV.out.symm
                    subst hv
                    go_wp2
                    go_ret
                    exact ⟨rfl, HB1.out⟩
                  case true =>
                    go_wp2_with fail
                    refine (K9.out _).mono ?_
                    rintro e wx ⟨rfl, rfl⟩
                    have hv : V = b9 := HV.out.symm
                    subst hv
                    go_wp2
                    go_ret
                    exact ⟨rfl, HB1.out⟩
end Go.Proofs.Ytbdkningngpgcaa
