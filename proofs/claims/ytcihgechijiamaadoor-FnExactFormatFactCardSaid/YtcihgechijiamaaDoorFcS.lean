/- What the specification's FactOk returns. No condition. -/
import Derived.Test.YtcihgechijiamaaDoorFcM
import Derived.Test.YtcihgechijiamaaDoorPrS
import Derived.Deep.QuietTactic
import Derived.BigQuiet
namespace Go.Proofs.YtcihgechijiamaaDoor
open Go.ChangeShapes Go.WideShapes Go.ChangeAt Go.RowKit
theorem q_left {P : Program} {f : FuncId} {args : Array Value} {w : World} {n : Nat} {v : Value} (h : Calls P f args (w.drewN n) fun e w' => e = .returned v ∧ w.drewN n = w') : Calls P f args (w.drewN n) fun e w'' => e = .returned v ∧ ∃ m, w'' = w.drewN m :=
  h.mono fun _ _ ⟨he, hm⟩ => ⟨he, n, hm.symm⟩
theorem below_drewN {B : Nat} {a w : World} (h : Below B a w) (q : Nat) : Below B a (w.drewN q) := ⟨h.os, h.tape, h.output, h.size, h.block⟩
set_option maxRecDepth 100000 in
set_option maxHeartbeats 8000000 in
theorem s_fact (vw vm vi : Int) (L : List InsR) (k a b n : Int) (s : Value) (w : World) (hs : Cs.Shows w 0 4 s L.length (InsR.all L)) (hok : ∀ r ∈ L, r.Ok) (hL : L.length ≤ maxLen) :
    Calls Tryd.prog 8 #[.agg #[.int .i64 vw, .int .i64 vm, .int .i64 vi, s], .agg #[.int .i64 k, .int .i64 a, .int .i64 b, .int .i64 n]] w fun e w' => e = .returned (.bool (fcB vw vm vi L k a b n)) ∧ Below w.heap.size w w' := by
  have K1 := Lib.hid (fun W (hb : Below w.heap.size w W) => s_prog vw vm vi L s W (hs.below hb) hok hL)
  obtain ⟨_, q, cap, rfl, _⟩ := hs
  have HW : Hid (prB vw vm vi L = true → 2 ≤ vw ∧ vw ≤ 8) := Lib.hid (fun h => ⟨(pr_in h).1.1, (pr_in h).1.2.1⟩)
  obtain ⟨V, hV⟩ : ∃ V, fcB vw vm vi L k a b n = V := ⟨_, rfl⟩
  rw [hV]
  have HBAD := Lib.hid (fun h => (hV ▸ fc_bad (k := k) (a := a) (b := b) (n := n) h : V = false))
  have HOUT := Lib.hid (fun h => (hV ▸ fc_out (vw := vw) (vm := vm) (vi := vi) (L := L) (a := a) (b := b) (n := n) h : V = false))
  have HREG := Lib.hid (fun h => (hV ▸ fc_reg (vw := vw) (vm := vm) (vi := vi) (L := L) (k := k) (b := b) (n := n) h : V = false))
  obtain ⟨QA, hQA⟩ : ∃ P, (decide (0 ≤ a) && decide (a ≤ 3)) = P := ⟨_, rfl⟩
  obtain ⟨QB, hQB⟩ : ∃ P, (decide (0 ≤ b) && decide (b ≤ 3)) = P := ⟨_, rfl⟩
  obtain ⟨QC, hQC⟩ : ∃ P, (decide (0 ≤ b) && decide (b ≤ vw - 1)) = P := ⟨_, rfl⟩
  obtain ⟨QD, hQD⟩ : ∃ P, (decide (0 ≤ n) && decide (n ≤ 1)) = P := ⟨_, rfl⟩
  obtain ⟨QW, hQW⟩ : ∃ P, wkB vw n = P := ⟨_, rfl⟩
  have KA := Lib.hid (fun W => s_reg a W)
  have KB := Lib.hid (fun W => s_reg b W)
  have KC := Lib.hid (fun W => s_rng b 0 (vw - 1) QC hQC W)
  have KD := Lib.hid (fun W => s_rng n 0 1 QD hQD W)
  have KW := Lib.hid (fun W => s_wk vw n W)
  rw [hQA] at KA HREG
  rw [hQB] at KB
  rw [hQW] at KW
  have H1 := Lib.hid (fun hp ha => show (decide (b = 0) && QW) = fcB vw vm vi L 1 a b n by rw [← hQW]; exact fc_1 hp (hQA.trans ha))
  have H2 := Lib.hid (fun hp ha => show (QB && (decide (a < b) && decide (n = 0))) = fcB vw vm vi L 2 a b n by rw [← hQB]; exact fc_2 hp (hQA.trans ha))
  have H3 := Lib.hid (fun hp ha => show (decide (b = 0) && (QW && decide (n < 2 ^ vw.toNat - 1))) = fcB vw vm vi L 3 a b n by rw [← hQW]; exact fc_3 hp (hQA.trans ha))
  have H4 := Lib.hid (fun hp ha => show (QC && QD) = fcB vw vm vi L 4 a b n by rw [← hQC, ← hQD]; exact fc_4 hp (hQA.trans ha))
  have H5 := Lib.hid (fun hp ha => show (QB && (decide (a < b) && QW)) = fcB vw vm vi L 5 a b n by rw [← hQB, ← hQW]; exact fc_5 hp (hQA.trans ha))
  have H6 := Lib.hid (fun hp ha => show (QB && (decide (a ≠ b) && decide (n = 0))) = fcB vw vm vi L 6 a b n by rw [← hQB]; exact fc_6 hp (hQA.trans ha))
  generalize prB vw vm vi L = b1 at *
  have HV := Lib.hid hV
  clear hV hQA hQB hQC hQD hQW
  have HB0 := Lib.hid (((Below.refl w.heap.size w).alloc (Nat.le_refl _) (.cells #[.int .i64 vw, .int .i64 vm, .int .i64 vi, .slice q L.length cap] 31)).alloc (by simp) (.cells #[.int .i64 k, .int .i64 a, .int .i64 b, .int .i64 n] 33))
  have X0 := Lib.hid ((cell4_alloc w 31 (.int .i64 vw) (.int .i64 vm) (.int .i64 vi) (.slice q L.length cap)).below ((Below.refl _ _).alloc (Nat.le_refl _) (.cells #[.int .i64 k, .int .i64 a, .int .i64 b, .int .i64 n] 33)))
  have Y0 := Lib.hid (cell4_alloc (w.alloc (.cells #[.int .i64 vw, .int .i64 vm, .int .i64 vi, .slice q L.length cap] 31)) 33 (.int .i64 k) (.int .i64 a) (.int .i64 b) (.int .i64 n))
  rw [show (w.alloc (.cells #[.int .i64 vw, .int .i64 vm, .int .i64 vi, .slice q L.length cap] 31)).heap.size = w.heap.size + 1 by simp] at Y0
  obtain ⟨w0, hw0⟩ : ∃ w0, w0 = (w.alloc (.cells #[.int .i64 vw, .int .i64 vm, .int .i64 vi, .slice q L.length cap] 31)).alloc (.cells #[.int .i64 k, .int .i64 a, .int .i64 b, .int .i64 n] 33) := ⟨_, rfl⟩
  have hs0 : w0.heap.size = w.heap.size + 2 := by rw [hw0]; simp
  rw [← hw0] at HB0 X0 Y0
  obtain ⟨x0, x1, x2, x3⟩ := X0.out
  obtain ⟨y0, y1, y2, y3⟩ := Y0.out
  rw [hw0] at x0 x1 x2 x3 y0 y1 y2 y3
  go_enter Tryd.func8, Tryd.ntmps8
  go_wp2_with fail
  rw [← hw0] at x0 x1 x2 x3 y0 y1 y2 y3 ⊢
  clear hw0
  refine (K1.out _ HB0.out).mono ?_
  rintro e w1 ⟨rfl, hb⟩
  have HB1 := Lib.hid (HB0.out.trans (hb.mono HB0.out.size))
  have X1 := Lib.hid (X0.out.below hb)
  have Y1 := Lib.hid (Y0.out.below hb)
  clear hb x0 x1 x2 x3 y0 y1 y2 y3
  obtain ⟨x0, x1, x2, x3⟩ := X1.out
  obtain ⟨y0, y1, y2, y3⟩ := Y1.out
  cases b1
  case false =>
    have hv : V = false := by exact HBAD.out rfl
    subst hv
    go_wp2
    go_ret
    exact ⟨rfl, HB1.out⟩
  case true =>
    obtain ⟨hw2, hw8⟩ := HW.out rfl
    obtain ⟨hp1, hp2⟩ := pw vw (by omega) (by omega)
    go_wp2_with fail
    refine (KA.out _).mono ?_
    rintro e w2 ⟨rfl, rfl⟩
    cases QA
    case false =>
      have hv : V = false := by exact HREG.out rfl
      subst hv
      go_wp2
      go_ret
      exact ⟨rfl, HB1.out⟩
    case true =>
      rcases fk_cases k with rfl | rfl | rfl | rfl | rfl | rfl | hk
      · have HH := Lib.hid ((H1.out (by trivial) (by trivial)).trans HV.out)
        clear H1 H2 H3 H4 H5 H6 HREG HBAD HOUT
        by_cases hc1 : b = 0
        · subst hc1
          have hz1 : True := trivial
          go_wp2_with fail
          refine (KW.out _).mono ?_
          rintro e w2 ⟨rfl, rfl⟩
          cases QW
          case false =>
            have hv : V = false := by exact HH.out.symm.trans (by first | rfl | (simp [*]; done) | simp_all)
            subst hv
            go_wp2
            go_ret
            exact ⟨rfl, HB1.out⟩
          case true =>
            have hv : V = true := by exact HH.out.symm.trans (by first | rfl | (simp [*]; done) | simp_all)
            subst hv
            go_wp2
            go_ret
            exact ⟨rfl, HB1.out⟩
        · have gc1 : (b == 0) = false := by simpa using hc1
          have hv : V = false := by exact HH.out.symm.trans (by first | rfl | (simp [*]; done) | simp_all)
          subst hv
          go_wp2
          go_ret
          exact ⟨rfl, HB1.out⟩
      · have HH := Lib.hid ((H2.out (by trivial) (by trivial)).trans HV.out)
        clear H1 H2 H3 H4 H5 H6 HREG HBAD HOUT
        go_wp2_with fail
        refine (KB.out _).mono ?_
        rintro e w2 ⟨rfl, rfl⟩
        cases QB
        case false =>
          have hv : V = false := by exact HH.out.symm.trans (by first | rfl | (simp [*]; done) | simp_all)
          subst hv
          go_wp2
          go_ret
          exact ⟨rfl, HB1.out⟩
        case true =>
          by_cases hc1 : a < b
          · have gd1 : decide (a < b) = true := decide_eq_true hc1
            by_cases hc0 : n = 0
            · subst hc0
              have hz0 : True := trivial
              have hv : V = true := by exact HH.out.symm.trans (by first | rfl | (simp [*]; done) | simp_all)
              subst hv
              go_wp2
              go_ret
              exact ⟨rfl, HB1.out⟩
            · have gc0 : (n == 0) = false := by simpa using hc0
              have hv : V = false := by exact HH.out.symm.trans (by first | rfl | (simp [*]; done) | simp_all)
              subst hv
              go_wp2
              go_ret
              exact ⟨rfl, HB1.out⟩
          · have gd1 : decide (a < b) = false := decide_eq_false hc1
            have hv : V = false := by exact HH.out.symm.trans (by first | rfl | (simp [*]; done) | simp_all)
            subst hv
            go_wp2
            go_ret
            exact ⟨rfl, HB1.out⟩
      · have HH := Lib.hid ((H3.out (by trivial) (by trivial)).trans HV.out)
        clear H1 H2 H3 H4 H5 H6 HREG HBAD HOUT
        by_cases hc2 : b = 0
        · subst hc2
          cases QW
          case false =>
            have hv : V = false := by exact HH.out.symm.trans (by first | rfl | (simp [*]; done) | simp_all)
            subst hv
            go_wp2
            go_quiet ((go_at_call 32; exact q_left (KW.out _)))
            go_wp2
            go_ret
            exact ⟨rfl, below_drewN HB1.out _⟩
          case true =>
            by_cases hc0 : n < 2 ^ vw.toNat - 1
            · have gd0 : decide (n < 2 ^ vw.toNat - 1) = true := decide_eq_true hc0
              have hv : V = true := by exact HH.out.symm.trans (by first | rfl | (simp [*]; done) | simp_all)
              subst hv
              go_wp2
              go_quiet ((go_at_call 32; exact q_left (KW.out _)))
              go_wp2
              go_ret
              exact ⟨rfl, below_drewN HB1.out _⟩
            · have gd0 : decide (n < 2 ^ vw.toNat - 1) = false := decide_eq_false hc0
              have hv : V = false := by exact HH.out.symm.trans (by first | rfl | (simp [*]; done) | simp_all)
              subst hv
              go_wp2
              go_quiet ((go_at_call 32; exact q_left (KW.out _)))
              go_wp2
              go_ret
              exact ⟨rfl, below_drewN HB1.out _⟩
        · have gc2 : (b == 0) = false := by simpa using hc2
          have hv : V = false := by exact HH.out.symm.trans (by first | rfl | (simp [*]; done) | simp_all)
          subst hv
          go_wp2
          go_quiet (fail)
          go_wp2
          go_ret
          exact ⟨rfl, below_drewN HB1.out _⟩
      · have HH := Lib.hid ((H4.out (by trivial) (by trivial)).trans HV.out)
        clear H1 H2 H3 H4 H5 H6 HREG HBAD HOUT
        go_wp2_with fail
        refine (KC.out _).mono ?_
        rintro e w2 ⟨rfl, rfl⟩
        cases QC
        case false =>
          have hv : V = false := by exact HH.out.symm.trans (by first | rfl | (simp [*]; done) | simp_all)
          subst hv
          go_wp2
          go_ret
          exact ⟨rfl, HB1.out⟩
        case true =>
          go_wp2_with fail
          refine (KD.out _).mono ?_
          rintro e w2 ⟨rfl, rfl⟩
          cases QD
          case false =>
            have hv : V = false := by exact HH.out.symm.trans (by first | rfl | (simp [*]; done) | simp_all)
            subst hv
            go_wp2
            go_ret
            exact ⟨rfl, HB1.out⟩
          case true =>
            have hv : V = true := by exact HH.out.symm.trans (by first | rfl | (simp [*]; done) | simp_all)
            subst hv
            go_wp2
            go_ret
            exact ⟨rfl, HB1.out⟩
      · have HH := Lib.hid ((H5.out (by trivial) (by trivial)).trans HV.out)
        clear H1 H2 H3 H4 H5 H6 HREG HBAD HOUT
        go_wp2_with fail
        refine (KB.out _).mono ?_
        rintro e w2 ⟨rfl, rfl⟩
        cases QB
        case false =>
          have hv : V = false := by exact HH.out.symm.trans (by first | rfl | (simp [*]; done) | simp_all)
          subst hv
          go_wp2
          go_ret
          exact ⟨rfl, HB1.out⟩
        case true =>
          by_cases hc1 : a < b
          · have gd1 : decide (a < b) = true := decide_eq_true hc1
            go_wp2_with fail
            refine (KW.out _).mono ?_
            rintro e w2 ⟨rfl, rfl⟩
            cases QW
            case false =>
              have hv : V = false := by exact HH.out.symm.trans (by first | rfl | (simp [*]; done) | simp_all)
              subst hv
              go_wp2
              go_ret
              exact ⟨rfl, HB1.out⟩
            case true =>
              have hv : V = true := by exact HH.out.symm.trans (by first | rfl | (simp [*]; done) | simp_all)
              subst hv
              go_wp2
              go_ret
              exact ⟨rfl, HB1.out⟩
          · have gd1 : decide (a < b) = false := decide_eq_false hc1
            have hv : V = false := by exact HH.out.symm.trans (by first | rfl | (simp [*]; done) | simp_all)
            subst hv
            go_wp2
            go_ret
            exact ⟨rfl, HB1.out⟩
      · have HH := Lib.hid ((H6.out (by trivial) (by trivial)).trans HV.out)
        clear H1 H2 H3 H4 H5 H6 HREG HBAD HOUT
        go_wp2_with fail
        refine (KB.out _).mono ?_
        rintro e w2 ⟨rfl, rfl⟩
        cases QB
        case false =>
          have hv : V = false := by exact HH.out.symm.trans (by first | rfl | (simp [*]; done) | simp_all)
          subst hv
          go_wp2
          go_ret
          exact ⟨rfl, HB1.out⟩
        case true =>
          by_cases hc1 : a ≠ b
          · have gc1 : (a != b) = true := by simpa using hc1
            by_cases hc0 : n = 0
            · subst hc0
              have hz0 : True := trivial
              have hv : V = true := by exact HH.out.symm.trans (by first | rfl | (simp [*]; done) | simp_all)
              subst hv
              go_wp2
              go_ret
              exact ⟨rfl, HB1.out⟩
            · have gc0 : (n == 0) = false := by simpa using hc0
              have hv : V = false := by exact HH.out.symm.trans (by first | rfl | (simp [*]; done) | simp_all)
              subst hv
              go_wp2
              go_ret
              exact ⟨rfl, HB1.out⟩
          · have gc1 : (a != b) = false := by simpa using hc1
            have hv : V = false := by exact HH.out.symm.trans (by first | rfl | (simp [*]; done) | simp_all)
            subst hv
            go_wp2
            go_ret
            exact ⟨rfl, HB1.out⟩
      · have n1 : (k == 1) = false := by simp; omega
        have n2 : (k == 2) = false := by simp; omega
        have n3 : (k == 3) = false := by simp; omega
        have n4 : (k == 4) = false := by simp; omega
        have n5 : (k == 5) = false := by simp; omega
        have n6 : (k == 6) = false := by simp; omega
        have hv : V = false := by exact HOUT.out hk
        subst hv
        go_wp2
        go_ret
        exact ⟨rfl, HB1.out⟩
end Go.Proofs.YtcihgechijiamaaDoor
