/- What the specification's l05Ins and ProgramOk return. No condition. -/
import Derived.Test.YthmababifgaejaaGreatDoorEmGTmM
import Derived.Test.YthmababifgaejaaGreatDoorEmGInb
import Derived.Test.YthmababifgaejaaGreatDoorEmGSzI
namespace Go.Proofs.YthmababifgaejaaGreatDoor
open Go.ChangeShapes Go.WideShapes Go.ChangeAt Go.RowKit
set_option maxRecDepth 100000 in
theorem s_reg (n : Int) (w : World) : Calls Tryz.prog 103 #[.int .i64 n] w fun e w' => e = .returned (.bool (decide (0 ≤ n) && decide (n ≤ 3))) ∧ w = w' := by
  have K := Lib.hid (fun W => s_rng n 0 3 _ rfl W)
  generalize (decide (0 ≤ n) && decide (n ≤ 3)) = c at *
  go_enter Tryz.func103, Tryz.ntmps103
  go_wp2_with (go_at_call 57; refine (K.out _).mono ?_; rintro e w2 ⟨rfl, rfl⟩)
  go_ret
  exact ⟨rfl, rfl⟩
set_option maxRecDepth 100000 in
set_option maxHeartbeats 8000000 in
theorem s_ins (op a b c wd size : Int) (w : World) : Calls Tryz.prog 78 #[.agg #[.int .i64 op, .int .i64 a, .int .i64 b, .int .i64 c], .int .i64 wd, .int .i64 size] w fun e w' => e = .returned (.bool (insB ⟨op, a, b, c⟩ wd size)) ∧ Below w.heap.size w w' := by
  have HB0 := Lib.hid ((Below.refl w.heap.size w).alloc (Nat.le_refl _) (.cells #[.int .i64 op, .int .i64 a, .int .i64 b, .int .i64 c] 82))
  have X0 := Lib.hid (cell4_alloc w 82 (.int .i64 op) (.int .i64 a) (.int .i64 b) (.int .i64 c))
  obtain ⟨w0, hw0⟩ : ∃ w0, w0 = w.alloc (.cells #[.int .i64 op, .int .i64 a, .int .i64 b, .int .i64 c] 82) := ⟨_, rfl⟩
  rw [← hw0] at HB0 X0
  obtain ⟨P, hP⟩ : ∃ P, (decide (0 ≤ b) && decide (b ≤ size)) = P := ⟨_, rfl⟩
  obtain ⟨QA, hQA⟩ : ∃ P, (decide (0 ≤ a) && decide (a ≤ 3)) = P := ⟨_, rfl⟩
  obtain ⟨QB, hQB⟩ : ∃ P, (decide (0 ≤ b) && decide (b ≤ 3)) = P := ⟨_, rfl⟩
  obtain ⟨QC, hQC⟩ : ∃ P, (decide (3 ≤ c) && decide (c ≤ 16)) = P := ⟨_, rfl⟩
  obtain ⟨QW, hQW⟩ : ∃ P, wkB wd b = P := ⟨_, rfl⟩
  have KP := Lib.hid (fun W => s_rng b 0 size P hP W)
  have KC := Lib.hid (fun W => s_rng c 3 16 QC hQC W)
  have KA := Lib.hid (fun W => s_reg a W)
  have KB := Lib.hid (fun W => s_reg b W)
  have KW := Lib.hid (fun W => s_wk wd b W)
  rw [hQA] at KA
  rw [hQB] at KB
  rw [hQW] at KW
  obtain ⟨V, hV⟩ : ∃ V, insB ⟨op, a, b, c⟩ wd size = V := ⟨_, rfl⟩
  rw [hV]
  have HV := Lib.hid hV
  clear hV
  have HM := Lib.hid (And.intro hP (And.intro hQA (And.intro hQB (And.intro hQC hQW))))
  clear hP hQA hQB hQC hQW
  go_enter Tryz.func78, Tryz.ntmps78
  go_wp2_with fail
  rw [← hw0]
  clear hw0
  refine (KP.out _).mono ?_
  rintro e w1 ⟨rfl, rfl⟩
  obtain ⟨x0, x1, x2, x3⟩ := X0.out
  rcases op_cases op with rfl | rfl | rfl | rfl | rfl | rfl | rfl | rfl | rfl | rfl | rfl | rfl | rfl | rfl | hop
  · have HV := Lib.hid (show (QA && (QW && (decide (c = 0)))) = V by rw [← HV.out, ins_in (r := ⟨1, a, b, c⟩) (show (1 : Int) ≤ 1 by omega) (show (1 : Int) ≤ 14 by omega)]; show _ = (opB 1 a wd size && (opB 2 b wd size && opB 0 c wd size)); obtain ⟨hP, hQA, hQB, hQC, hQW⟩ := HM.out; simp only [opB_reg, opB_word, opB_none, hQA, hQW])
    clear HM
    go_wp2_with fail
    refine (KA.out _).mono ?_
    rintro e w2 ⟨rfl, rfl⟩
    cases QA
    case false =>
      have hv : V = false := by rw [← HV.out]; simp_all
      subst hv
      go_wp2
      go_ret
      exact ⟨rfl, HB0.out⟩
    case true =>
      go_wp2_with fail
      refine (KW.out _).mono ?_
      rintro e w2 ⟨rfl, rfl⟩
      cases QW
      case false =>
        have hv : V = false := by rw [← HV.out]; simp_all
        subst hv
        go_wp2
        go_ret
        exact ⟨rfl, HB0.out⟩
      case true =>
        by_cases hc : c = 0
        · subst hc
          have hv : V = true := by rw [← HV.out]; simp_all
          subst hv
          go_wp2
          go_ret
          exact ⟨rfl, HB0.out⟩
        · have gc : (c == 0) = false := by simpa using hc
          have hv : V = false := by rw [← HV.out]; simp_all
          subst hv
          go_wp2
          go_ret
          exact ⟨rfl, HB0.out⟩
  · have HV := Lib.hid (show (QA && (QB && (decide (c = 0)))) = V by rw [← HV.out, ins_in (r := ⟨2, a, b, c⟩) (show (1 : Int) ≤ 2 by omega) (show (2 : Int) ≤ 14 by omega)]; show _ = (opB 1 a wd size && (opB 1 b wd size && opB 0 c wd size)); obtain ⟨hP, hQA, hQB, hQC, hQW⟩ := HM.out; simp only [opB_reg, opB_none, hQA, hQB])
    clear HM
    go_wp2_with fail
    refine (KA.out _).mono ?_
    rintro e w2 ⟨rfl, rfl⟩
    cases QA
    case false =>
      have hv : V = false := by rw [← HV.out]; simp_all
      subst hv
      go_wp2
      go_ret
      exact ⟨rfl, HB0.out⟩
    case true =>
      go_wp2_with fail
      refine (KB.out _).mono ?_
      rintro e w2 ⟨rfl, rfl⟩
      cases QB
      case false =>
        have hv : V = false := by rw [← HV.out]; simp_all
        subst hv
        go_wp2
        go_ret
        exact ⟨rfl, HB0.out⟩
      case true =>
        by_cases hc : c = 0
        · subst hc
          have hv : V = true := by rw [← HV.out]; simp_all
          subst hv
          go_wp2
          go_ret
          exact ⟨rfl, HB0.out⟩
        · have gc : (c == 0) = false := by simpa using hc
          have hv : V = false := by rw [← HV.out]; simp_all
          subst hv
          go_wp2
          go_ret
          exact ⟨rfl, HB0.out⟩
  · have HV := Lib.hid (show (QA && (QB && (QC))) = V by rw [← HV.out, ins_in (r := ⟨3, a, b, c⟩) (show (1 : Int) ≤ 3 by omega) (show (3 : Int) ≤ 14 by omega)]; show _ = (opB 1 a wd size && (opB 1 b wd size && opB 4 c wd size)); obtain ⟨hP, hQA, hQB, hQC, hQW⟩ := HM.out; simp only [opB_reg, opB_oper, hQA, hQB, hQC])
    clear HM
    go_wp2_with fail
    refine (KA.out _).mono ?_
    rintro e w2 ⟨rfl, rfl⟩
    cases QA
    case false =>
      have hv : V = false := by rw [← HV.out]; simp_all
      subst hv
      go_wp2
      go_ret
      exact ⟨rfl, HB0.out⟩
    case true =>
      go_wp2_with fail
      refine (KB.out _).mono ?_
      rintro e w2 ⟨rfl, rfl⟩
      cases QB
      case false =>
        have hv : V = false := by rw [← HV.out]; simp_all
        subst hv
        go_wp2
        go_ret
        exact ⟨rfl, HB0.out⟩
      case true =>
        go_wp2_with fail
        refine (KC.out _).mono ?_
        rintro e w2 ⟨rfl, rfl⟩
        cases QC
        case false =>
          have hv : V = false := by rw [← HV.out]; simp_all
          subst hv
          go_wp2
          go_ret
          exact ⟨rfl, HB0.out⟩
        case true =>
          have hv : V = true := by rw [← HV.out]; simp_all
          subst hv
          go_wp2
          go_ret
          exact ⟨rfl, HB0.out⟩
  · have HV := Lib.hid (show (QA && (decide (b = 0) && (decide (c = 0)))) = V by rw [← HV.out, ins_in (r := ⟨4, a, b, c⟩) (show (1 : Int) ≤ 4 by omega) (show (4 : Int) ≤ 14 by omega)]; show _ = (opB 1 a wd size && (opB 0 b wd size && opB 0 c wd size)); obtain ⟨hP, hQA, hQB, hQC, hQW⟩ := HM.out; simp only [opB_reg, opB_none, hQA])
    clear HM
    go_wp2_with fail
    refine (KA.out _).mono ?_
    rintro e w2 ⟨rfl, rfl⟩
    cases QA
    case false =>
      have hv : V = false := by rw [← HV.out]; simp_all
      subst hv
      go_wp2
      go_ret
      exact ⟨rfl, HB0.out⟩
    case true =>
      by_cases hb : b = 0
      · subst hb
        by_cases hc : c = 0
        · subst hc
          have hv : V = true := by rw [← HV.out]; simp_all
          subst hv
          go_wp2
          go_ret
          exact ⟨rfl, HB0.out⟩
        · have gc : (c == 0) = false := by simpa using hc
          have hv : V = false := by rw [← HV.out]; simp_all
          subst hv
          go_wp2
          go_ret
          exact ⟨rfl, HB0.out⟩
      · have gb : (b == 0) = false := by simpa using hb
        have hv : V = false := by rw [← HV.out]; simp_all
        subst hv
        go_wp2
        go_ret
        exact ⟨rfl, HB0.out⟩
  · have HV := Lib.hid (show (QA && (decide (b = 0) && (decide (c = 0)))) = V by rw [← HV.out, ins_in (r := ⟨5, a, b, c⟩) (show (1 : Int) ≤ 5 by omega) (show (5 : Int) ≤ 14 by omega)]; show _ = (opB 1 a wd size && (opB 0 b wd size && opB 0 c wd size)); obtain ⟨hP, hQA, hQB, hQC, hQW⟩ := HM.out; simp only [opB_reg, opB_none, hQA])
    clear HM
    go_wp2_with fail
    refine (KA.out _).mono ?_
    rintro e w2 ⟨rfl, rfl⟩
    cases QA
    case false =>
      have hv : V = false := by rw [← HV.out]; simp_all
      subst hv
      go_wp2
      go_ret
      exact ⟨rfl, HB0.out⟩
    case true =>
      by_cases hb : b = 0
      · subst hb
        by_cases hc : c = 0
        · subst hc
          have hv : V = true := by rw [← HV.out]; simp_all
          subst hv
          go_wp2
          go_ret
          exact ⟨rfl, HB0.out⟩
        · have gc : (c == 0) = false := by simpa using hc
          have hv : V = false := by rw [← HV.out]; simp_all
          subst hv
          go_wp2
          go_ret
          exact ⟨rfl, HB0.out⟩
      · have gb : (b == 0) = false := by simpa using hb
        have hv : V = false := by rw [← HV.out]; simp_all
        subst hv
        go_wp2
        go_ret
        exact ⟨rfl, HB0.out⟩
  · have HV := Lib.hid (show (QA && (decide (b = 0) && (decide (c = 0)))) = V by rw [← HV.out, ins_in (r := ⟨6, a, b, c⟩) (show (1 : Int) ≤ 6 by omega) (show (6 : Int) ≤ 14 by omega)]; show _ = (opB 1 a wd size && (opB 0 b wd size && opB 0 c wd size)); obtain ⟨hP, hQA, hQB, hQC, hQW⟩ := HM.out; simp only [opB_reg, opB_none, hQA])
    clear HM
    go_wp2_with fail
    refine (KA.out _).mono ?_
    rintro e w2 ⟨rfl, rfl⟩
    cases QA
    case false =>
      have hv : V = false := by rw [← HV.out]; simp_all
      subst hv
      go_wp2
      go_ret
      exact ⟨rfl, HB0.out⟩
    case true =>
      by_cases hb : b = 0
      · subst hb
        by_cases hc : c = 0
        · subst hc
          have hv : V = true := by rw [← HV.out]; simp_all
          subst hv
          go_wp2
          go_ret
          exact ⟨rfl, HB0.out⟩
        · have gc : (c == 0) = false := by simpa using hc
          have hv : V = false := by rw [← HV.out]; simp_all
          subst hv
          go_wp2
          go_ret
          exact ⟨rfl, HB0.out⟩
      · have gb : (b == 0) = false := by simpa using hb
        have hv : V = false := by rw [← HV.out]; simp_all
        subst hv
        go_wp2
        go_ret
        exact ⟨rfl, HB0.out⟩
  · have HV := Lib.hid (show (QA && (QB && (decide (c = 0)))) = V by rw [← HV.out, ins_in (r := ⟨7, a, b, c⟩) (show (1 : Int) ≤ 7 by omega) (show (7 : Int) ≤ 14 by omega)]; show _ = (opB 1 a wd size && (opB 1 b wd size && opB 0 c wd size)); obtain ⟨hP, hQA, hQB, hQC, hQW⟩ := HM.out; simp only [opB_reg, opB_none, hQA, hQB])
    clear HM
    go_wp2_with fail
    refine (KA.out _).mono ?_
    rintro e w2 ⟨rfl, rfl⟩
    cases QA
    case false =>
      have hv : V = false := by rw [← HV.out]; simp_all
      subst hv
      go_wp2
      go_ret
      exact ⟨rfl, HB0.out⟩
    case true =>
      go_wp2_with fail
      refine (KB.out _).mono ?_
      rintro e w2 ⟨rfl, rfl⟩
      cases QB
      case false =>
        have hv : V = false := by rw [← HV.out]; simp_all
        subst hv
        go_wp2
        go_ret
        exact ⟨rfl, HB0.out⟩
      case true =>
        by_cases hc : c = 0
        · subst hc
          have hv : V = true := by rw [← HV.out]; simp_all
          subst hv
          go_wp2
          go_ret
          exact ⟨rfl, HB0.out⟩
        · have gc : (c == 0) = false := by simpa using hc
          have hv : V = false := by rw [← HV.out]; simp_all
          subst hv
          go_wp2
          go_ret
          exact ⟨rfl, HB0.out⟩
  · have HV := Lib.hid (show (QA && (QB && (decide (c = 0)))) = V by rw [← HV.out, ins_in (r := ⟨8, a, b, c⟩) (show (1 : Int) ≤ 8 by omega) (show (8 : Int) ≤ 14 by omega)]; show _ = (opB 1 a wd size && (opB 1 b wd size && opB 0 c wd size)); obtain ⟨hP, hQA, hQB, hQC, hQW⟩ := HM.out; simp only [opB_reg, opB_none, hQA, hQB])
    clear HM
    go_wp2_with fail
    refine (KA.out _).mono ?_
    rintro e w2 ⟨rfl, rfl⟩
    cases QA
    case false =>
      have hv : V = false := by rw [← HV.out]; simp_all
      subst hv
      go_wp2
      go_ret
      exact ⟨rfl, HB0.out⟩
    case true =>
      go_wp2_with fail
      refine (KB.out _).mono ?_
      rintro e w2 ⟨rfl, rfl⟩
      cases QB
      case false =>
        have hv : V = false := by rw [← HV.out]; simp_all
        subst hv
        go_wp2
        go_ret
        exact ⟨rfl, HB0.out⟩
      case true =>
        by_cases hc : c = 0
        · subst hc
          have hv : V = true := by rw [← HV.out]; simp_all
          subst hv
          go_wp2
          go_ret
          exact ⟨rfl, HB0.out⟩
        · have gc : (c == 0) = false := by simpa using hc
          have hv : V = false := by rw [← HV.out]; simp_all
          subst hv
          go_wp2
          go_ret
          exact ⟨rfl, HB0.out⟩
  · have HV := Lib.hid (show (decide (a = 0) && (P && (decide (c = 0)))) = V by rw [← HV.out, ins_in (r := ⟨9, a, b, c⟩) (show (1 : Int) ≤ 9 by omega) (show (9 : Int) ≤ 14 by omega)]; show _ = (opB 0 a wd size && (opB 3 b wd size && opB 0 c wd size)); obtain ⟨hP, hQA, hQB, hQC, hQW⟩ := HM.out; simp only [opB_place, opB_none, hP])
    clear HM
    by_cases ha : a = 0
    · subst ha
      cases P
      case false =>
        have hv : V = false := by rw [← HV.out]; simp_all
        subst hv
        go_wp2
        go_ret
        exact ⟨rfl, HB0.out⟩
      case true =>
        by_cases hc : c = 0
        · subst hc
          have hv : V = true := by rw [← HV.out]; simp_all
          subst hv
          go_wp2
          go_ret
          exact ⟨rfl, HB0.out⟩
        · have gc : (c == 0) = false := by simpa using hc
          have hv : V = false := by rw [← HV.out]; simp_all
          subst hv
          go_wp2
          go_ret
          exact ⟨rfl, HB0.out⟩
    · have ga : (a == 0) = false := by simpa using ha
      have hv : V = false := by rw [← HV.out]; simp_all
      subst hv
      go_wp2
      go_ret
      exact ⟨rfl, HB0.out⟩
  · have HV := Lib.hid (show (QA && (P && (decide (c = 0)))) = V by rw [← HV.out, ins_in (r := ⟨10, a, b, c⟩) (show (1 : Int) ≤ 10 by omega) (show (10 : Int) ≤ 14 by omega)]; show _ = (opB 1 a wd size && (opB 3 b wd size && opB 0 c wd size)); obtain ⟨hP, hQA, hQB, hQC, hQW⟩ := HM.out; simp only [opB_reg, opB_place, opB_none, hP, hQA])
    clear HM
    go_wp2_with fail
    refine (KA.out _).mono ?_
    rintro e w2 ⟨rfl, rfl⟩
    cases QA
    case false =>
      have hv : V = false := by rw [← HV.out]; simp_all
      subst hv
      go_wp2
      go_ret
      exact ⟨rfl, HB0.out⟩
    case true =>
      cases P
      case false =>
        have hv : V = false := by rw [← HV.out]; simp_all
        subst hv
        go_wp2
        go_ret
        exact ⟨rfl, HB0.out⟩
      case true =>
        by_cases hc : c = 0
        · subst hc
          have hv : V = true := by rw [← HV.out]; simp_all
          subst hv
          go_wp2
          go_ret
          exact ⟨rfl, HB0.out⟩
        · have gc : (c == 0) = false := by simpa using hc
          have hv : V = false := by rw [← HV.out]; simp_all
          subst hv
          go_wp2
          go_ret
          exact ⟨rfl, HB0.out⟩
  · have HV := Lib.hid (show (decide (a = 0) && (P && (decide (c = 0)))) = V by rw [← HV.out, ins_in (r := ⟨11, a, b, c⟩) (show (1 : Int) ≤ 11 by omega) (show (11 : Int) ≤ 14 by omega)]; show _ = (opB 0 a wd size && (opB 3 b wd size && opB 0 c wd size)); obtain ⟨hP, hQA, hQB, hQC, hQW⟩ := HM.out; simp only [opB_place, opB_none, hP])
    clear HM
    by_cases ha : a = 0
    · subst ha
      cases P
      case false =>
        have hv : V = false := by rw [← HV.out]; simp_all
        subst hv
        go_wp2
        go_ret
        exact ⟨rfl, HB0.out⟩
      case true =>
        by_cases hc : c = 0
        · subst hc
          have hv : V = true := by rw [← HV.out]; simp_all
          subst hv
          go_wp2
          go_ret
          exact ⟨rfl, HB0.out⟩
        · have gc : (c == 0) = false := by simpa using hc
          have hv : V = false := by rw [← HV.out]; simp_all
          subst hv
          go_wp2
          go_ret
          exact ⟨rfl, HB0.out⟩
    · have ga : (a == 0) = false := by simpa using ha
      have hv : V = false := by rw [← HV.out]; simp_all
      subst hv
      go_wp2
      go_ret
      exact ⟨rfl, HB0.out⟩
  · have HV := Lib.hid (show (decide (a = 0) && (decide (b = 0) && (decide (c = 0)))) = V by rw [← HV.out, ins_in (r := ⟨12, a, b, c⟩) (show (1 : Int) ≤ 12 by omega) (show (12 : Int) ≤ 14 by omega)]; show _ = (opB 0 a wd size && (opB 0 b wd size && opB 0 c wd size)); obtain ⟨hP, hQA, hQB, hQC, hQW⟩ := HM.out; simp only [opB_none])
    clear HM
    by_cases ha : a = 0
    · subst ha
      by_cases hb : b = 0
      · subst hb
        by_cases hc : c = 0
        · subst hc
          have hv : V = true := by rw [← HV.out]; simp_all
          subst hv
          go_wp2
          go_ret
          exact ⟨rfl, HB0.out⟩
        · have gc : (c == 0) = false := by simpa using hc
          have hv : V = false := by rw [← HV.out]; simp_all
          subst hv
          go_wp2
          go_ret
          exact ⟨rfl, HB0.out⟩
      · have gb : (b == 0) = false := by simpa using hb
        have hv : V = false := by rw [← HV.out]; simp_all
        subst hv
        go_wp2
        go_ret
        exact ⟨rfl, HB0.out⟩
    · have ga : (a == 0) = false := by simpa using ha
      have hv : V = false := by rw [← HV.out]; simp_all
      subst hv
      go_wp2
      go_ret
      exact ⟨rfl, HB0.out⟩
  · have HV := Lib.hid (show (QA && (decide (b = 0) && (decide (c = 0)))) = V by rw [← HV.out, ins_in (r := ⟨13, a, b, c⟩) (show (1 : Int) ≤ 13 by omega) (show (13 : Int) ≤ 14 by omega)]; show _ = (opB 1 a wd size && (opB 0 b wd size && opB 0 c wd size)); obtain ⟨hP, hQA, hQB, hQC, hQW⟩ := HM.out; simp only [opB_reg, opB_none, hQA])
    clear HM
    go_wp2_with fail
    refine (KA.out _).mono ?_
    rintro e w2 ⟨rfl, rfl⟩
    cases QA
    case false =>
      have hv : V = false := by rw [← HV.out]; simp_all
      subst hv
      go_wp2
      go_ret
      exact ⟨rfl, HB0.out⟩
    case true =>
      by_cases hb : b = 0
      · subst hb
        by_cases hc : c = 0
        · subst hc
          have hv : V = true := by rw [← HV.out]; simp_all
          subst hv
          go_wp2
          go_ret
          exact ⟨rfl, HB0.out⟩
        · have gc : (c == 0) = false := by simpa using hc
          have hv : V = false := by rw [← HV.out]; simp_all
          subst hv
          go_wp2
          go_ret
          exact ⟨rfl, HB0.out⟩
      · have gb : (b == 0) = false := by simpa using hb
        have hv : V = false := by rw [← HV.out]; simp_all
        subst hv
        go_wp2
        go_ret
        exact ⟨rfl, HB0.out⟩
  · have HV := Lib.hid (show (decide (a = 0) && (decide (b = 0) && (decide (c = 0)))) = V by rw [← HV.out, ins_in (r := ⟨14, a, b, c⟩) (show (1 : Int) ≤ 14 by omega) (show (14 : Int) ≤ 14 by omega)]; show _ = (opB 0 a wd size && (opB 0 b wd size && opB 0 c wd size)); obtain ⟨hP, hQA, hQB, hQC, hQW⟩ := HM.out; simp only [opB_none])
    clear HM
    by_cases ha : a = 0
    · subst ha
      by_cases hb : b = 0
      · subst hb
        by_cases hc : c = 0
        · subst hc
          have hv : V = true := by rw [← HV.out]; simp_all
          subst hv
          go_wp2
          go_ret
          exact ⟨rfl, HB0.out⟩
        · have gc : (c == 0) = false := by simpa using hc
          have hv : V = false := by rw [← HV.out]; simp_all
          subst hv
          go_wp2
          go_ret
          exact ⟨rfl, HB0.out⟩
      · have gb : (b == 0) = false := by simpa using hb
        have hv : V = false := by rw [← HV.out]; simp_all
        subst hv
        go_wp2
        go_ret
        exact ⟨rfl, HB0.out⟩
    · have ga : (a == 0) = false := by simpa using ha
      have hv : V = false := by rw [← HV.out]; simp_all
      subst hv
      go_wp2
      go_ret
      exact ⟨rfl, HB0.out⟩
  · have hv : V = false := by rw [← HV.out]; exact ins_out hop
    subst hv
    have n1 : (op == 1) = false := by simp; omega
    have n2 : (op == 2) = false := by simp; omega
    have n3 : (op == 3) = false := by simp; omega
    have n4 : (op == 4) = false := by simp; omega
    have n5 : (op == 5) = false := by simp; omega
    have n6 : (op == 6) = false := by simp; omega
    have n7 : (op == 7) = false := by simp; omega
    have n8 : (op == 8) = false := by simp; omega
    have n9 : (op == 9) = false := by simp; omega
    have n10 : (op == 10) = false := by simp; omega
    have n11 : (op == 11) = false := by simp; omega
    have n12 : (op == 12) = false := by simp; omega
    have n13 : (op == 13) = false := by simp; omega
    have n14 : (op == 14) = false := by simp; omega
    go_wp2
    go_ret
    exact ⟨rfl, HB0.out⟩
set_option maxRecDepth 100000 in
set_option maxHeartbeats 4000000 in
theorem s_prog (vw vm vi : Int) (L : List InsR) (s : Value) (w : World) (hs : Cs.Shows w 0 4 s L.length (InsR.all L)) (_hok : ∀ r ∈ L, r.Ok) (hl : L.length ≤ maxLen) :
    Calls Tryz.prog 56 #[.agg #[.int .i64 vw, .int .i64 vm, .int .i64 vi, s]] w fun e w' => e = .returned (.bool (prB vw vm vi L)) ∧ Below w.heap.size w w' := by
  have hml : maxLen = 9223372036854775807 := rfl
  have HS := Lib.hid hs
  obtain ⟨_, q, cap, rfl, hcap, _⟩ := hs
  have HB0 := Lib.hid ((Below.refl w.heap.size w).alloc (Nat.le_refl _) (.cells #[.int .i64 vw, .int .i64 vm, .int .i64 vi, .slice q L.length cap] 37))
  have X0 := Lib.hid (cell4_alloc w 37 (.int .i64 vw) (.int .i64 vm) (.int .i64 vi) (.slice q L.length cap))
  obtain ⟨w0, hw0⟩ : ∃ w0, w0 = w.alloc (.cells #[.int .i64 vw, .int .i64 vm, .int .i64 vi, .slice q L.length cap] 37) := ⟨_, rfl⟩
  have hs0 : w0.heap.size = w.heap.size + 1 := by rw [hw0]; simp
  rw [← hw0] at HB0 X0
  obtain ⟨b1, h1⟩ : ∃ c, (decide (2 ≤ vw) && decide (vw ≤ 8)) = c := ⟨_, rfl⟩
  obtain ⟨b2, h2⟩ : ∃ c, (decide (1 ≤ vm) && decide (vm ≤ 6)) = c := ⟨_, rfl⟩
  obtain ⟨b3, h3⟩ : ∃ c, wkB vw vm = c := ⟨_, rfl⟩
  obtain ⟨b4, h4⟩ : ∃ c, (decide (0 ≤ vi) && decide (vi ≤ 3)) = c := ⟨_, rfl⟩
  obtain ⟨b5, h5⟩ : ∃ c, (decide (1 ≤ (L.length : Int)) && decide ((L.length : Int) ≤ 40)) = c := ⟨_, rfl⟩
  have K1 := Lib.hid (fun W => s_rng vw 2 8 b1 h1 W)
  have K2 := Lib.hid (fun W => s_rng vm 1 6 b2 h2 W)
  have K3 := Lib.hid (fun W => s_wk vw vm W)
  rw [h3] at K3
  have K4 := Lib.hid (fun W => s_rng vi 0 3 b4 h4 W)
  have K5 := Lib.hid (fun W => s_rng L.length 1 40 b5 h5 W)
  obtain ⟨V, hV⟩ : ∃ V, prB vw vm vi L = V := ⟨_, rfl⟩
  rw [hV]
  by_cases hall : b1 = true ∧ b2 = true ∧ b3 = true ∧ b4 = true ∧ b5 = true
  · obtain ⟨rfl, rfl, rfl, rfl, rfl⟩ := hall
    simp only [Bool.and_eq_true, decide_eq_true_eq] at h1 h2 h4 h5
    have HAT := Lib.hid (fun j (h : j < L.length) (hi : insB L[j] vw L.length = false) => show V = false by rw [← hV]; exact pr_bad h hi)
    have HEND := Lib.hid (fun (h : ∀ j (hj : j < L.length), insB L[j] vw L.length = true) => show V = true by rw [← hV]; exact pr_ok h1.1 h1.2 h2.1 h2.2 h3 h4.1 h4.2 (by omega) (by omega) h)
    have HR : Hid (∀ j, (h : j < L.length) → ∃ b o, q = some ⟨b, o, none⟩ ∧ b < w.heap.size ∧ ∀ W, Below w.heap.size w W → W.cell? ⟨b, o + j * 4, none⟩ = some (.int .i64 L[j].f0) ∧ W.cell? ⟨b, o + j * 4 + 1, none⟩ = some (.int .i64 L[j].f1) ∧ W.cell? ⟨b, o + j * 4 + 2, none⟩ = some (.int .i64 L[j].f2) ∧ W.cell? ⟨b, o + j * 4 + 3, none⟩ = some (.int .i64 L[j].f3)) := Lib.hid (fun j h => by
      rcases Cs.shows_cases HS.out with ⟨h0, _⟩ | ⟨_, b, o, c, hq, _, _, hbl, hr⟩
      · omega
      · injection hq with e1 e2 e3
        refine ⟨b, o, e1, hbl, fun W hW => ?_⟩
        have hh := flat_nth InsR.cells 4 (fun _ => rfl) L j h (rangeAt_below hW hr)
        exact ⟨hh 0 _ rfl, hh 1 _ rfl, hh 2 _ rfl, hh 3 _ rfl⟩)
    have hl40 : (L.length : Int) ≤ 40 := h5.2
    have hl0 : 1 ≤ L.length := by omega
    clear h1 h2 h3 h4 h5 hV _hok HS
    obtain ⟨x0, x1, x2, x3⟩ := X0.out
    rw [hw0] at x0 x1 x2 x3
    go_enter Tryz.func56, Tryz.ntmps56
    go_wp2_with fail
    rw [← hw0] at x0 x1 x2 x3 ⊢
    clear hw0
    refine (K1.out _).mono ?_
    rintro e w2 ⟨rfl, rfl⟩
    go_wp2_with fail
    refine (K2.out _).mono ?_
    rintro e w2 ⟨rfl, rfl⟩
    go_wp2_with fail
    refine (K3.out _).mono ?_
    rintro e w2 ⟨rfl, rfl⟩
    go_wp2_with fail
    refine (K4.out _).mono ?_
    rintro e w2 ⟨rfl, rfl⟩
    go_wp2_with fail
    refine (K5.out _).mono ?_
    rintro e w2 ⟨rfl, rfl⟩
    go_wp2
    clear x0 x1 x2 x3 K1 K2 K3 K4 K5
    go_loopw [39] (fun i wr => ∃ j : Nat, j ≤ L.length ∧ i = .int .i64 j ∧ (∀ t (ht : t < L.length), t < j → insB L[t] vw L.length = true) ∧ Below w0.heap.size w0 wr) (fun i _ => L.length - (intOf i).toNat)
    case atStart => exact ⟨0, Nat.zero_le _, rfl, fun t _ h => absurd h (Nat.not_lt_zero _), Below.refl _ _⟩
    case round =>
      obtain ⟨j, hj, rfl, hv, hb⟩ := hrel
      have HV := Lib.hid hv
      have HB := Lib.hid hb
      have hsz := hb.size
      clear hv
      obtain ⟨x0, x1, x2, x3⟩ := X0.out.below hb
      by_cases hjn : j < L.length
      · obtain ⟨b, o, rfl, hbl, hcells⟩ := HR.out j hjn
        obtain ⟨c0, c1, c2, c3⟩ := hcells wr (HB0.out.trans (hb.mono (by omega)))
        clear hcells hb
        have hat := HAT.out j hjn
        have HN := Lib.hid (show ∀ (hv : insB L[j] vw L.length = true) t (ht : t < L.length), t < j + 1 → insB L[t] vw L.length = true from fun hv t ht h => by
          by_cases e : t = j
          · subst e; exact hv
          · exact HV.out t ht (by omega))
        generalize L[j] = g at *
        obtain ⟨op, a, b', c⟩ := g
        simp only at c0 c1 c2 c3
        have KX := Lib.hid (fun W => s_ins op a b' c vw L.length W)
        obtain ⟨B, hB⟩ : ∃ B, insB ⟨op, a, b', c⟩ vw L.length = B := ⟨_, rfl⟩
        rw [hB] at KX hat
        have HAT2 := Lib.hid hat
        have HN2 := Lib.hid (fun e => HN.out (hB.trans e))
        clear hat hB HN
        have hki : decide ((j : Int) < (L.length : Int)) = true := by simp; omega
        have hlt : w.heap.size < wr.heap.size := by omega
        have hbw : b < wr.heap.size := by omega
        go_wp2_with fail
        refine (KX.out _).mono ?_
        rintro e w2 ⟨rfl, hb2⟩
        have HB2 := Lib.hid ((HB.out.alloc hsz _).trans (hb2.mono (by simp; omega)))
        clear hb2 c0 c1 c2 c3 x0 x1 x2 x3
        cases B
        case false =>
          have hv := HAT2.out rfl
          subst hv
          go_wp2
          go_ret
          exact ⟨rfl, HB0.out.trans (HB2.out.mono (by omega))⟩
        case true =>
          go_wp2
          first
            | (refine ⟨⟨j + 1, by omega, by go_num, HN2.out (by trivial), HB2.out⟩, ?_⟩; simp [intOf]; omega)
            | (go_roundw
               case rel => exact ⟨j + 1, by omega, by go_num, HN2.out (by trivial), HB2.out⟩
               case measure => simp [intOf]; omega)
      · have hje : j = L.length := by omega
        subst hje
        have hv := HEND.out (fun t ht => HV.out t ht ht)
        subst hv
        have hki : decide ((L.length : Int) < (L.length : Int)) = false := by simp
        go_wp2
        go_ret
        exact ⟨rfl, HB0.out.trans (HB.out.mono (by omega))⟩
  · have hv : V = false := by
      rw [← hV]
      refine pr_out fun hh => hall ?_
      obtain ⟨g1, g2, g3, g4, g5, g6, g7, g8, g9⟩ := hh
      refine ⟨h1.symm.trans ?_, h2.symm.trans ?_, h3.symm.trans g5, h4.symm.trans ?_, h5.symm.trans ?_⟩
      all_goals (rw [Bool.and_eq_true]; exact ⟨decide_eq_true (by omega), decide_eq_true (by omega)⟩)
    subst hv
    clear h1 h2 h3 h4 h5 hV HS _hok
    obtain ⟨x0, x1, x2, x3⟩ := X0.out
    rw [hw0] at x0 x1 x2 x3
    go_enter Tryz.func56, Tryz.ntmps56
    go_wp2_with fail
    rw [← hw0] at x0 x1 x2 x3 ⊢
    clear hw0
    refine (K1.out _).mono ?_
    rintro e w2 ⟨rfl, rfl⟩
    cases b1
    case false =>
      go_wp2
      go_ret
      exact ⟨rfl, HB0.out⟩
    case true =>
      go_wp2_with fail
      refine (K2.out _).mono ?_
      rintro e w2 ⟨rfl, rfl⟩
      cases b2
      case false =>
        go_wp2
        go_ret
        exact ⟨rfl, HB0.out⟩
      case true =>
        go_wp2_with fail
        refine (K3.out _).mono ?_
        rintro e w2 ⟨rfl, rfl⟩
        cases b3
        case false =>
          go_wp2
          go_ret
          exact ⟨rfl, HB0.out⟩
        case true =>
          go_wp2_with fail
          refine (K4.out _).mono ?_
          rintro e w2 ⟨rfl, rfl⟩
          cases b4
          case false =>
            go_wp2
            go_ret
            exact ⟨rfl, HB0.out⟩
          case true =>
            go_wp2_with fail
            refine (K5.out _).mono ?_
            rintro e w2 ⟨rfl, rfl⟩
            cases b5
            case false =>
              go_wp2
              go_ret
              exact ⟨rfl, HB0.out⟩
            case true => exact absurd ⟨by trivial, by trivial, by trivial, by trivial, by trivial⟩ hall
end Go.Proofs.YthmababifgaejaaGreatDoor
