/- What the specification's l05Words and InputsOk return. No condition. -/
import Derived.Test.YtbbalmeglgecgaaInM
import Derived.Test.YtbbalmeglgecgaaPrS
namespace Go.Proofs.Ytbbalmeglgecgaa
open Go.ChangeShapes Go.WideShapes Go.ChangeAt Go.RowKit
set_option maxRecDepth 100000 in
set_option maxHeartbeats 2000000 in
theorem s_words (l : List Int) (n wd size : Int) (ls : Value) (w : World) (hs : Cs.Shows w 0 1 ls l.length (IntL.all l)) (_hl : l.length ≤ maxLen) :
    Calls Try.prog 97 #[ls, .int .i64 n, .int .i64 wd] w fun e w' => e = .returned (.bool (decide ((l.length : Int) = n) && oprB 2 wd size l)) ∧ w = w' := by
  have hml : maxLen = 9223372036854775807 := rfl
  have HS := Lib.hid hs
  obtain ⟨_, lq, lcap, rfl, _⟩ := hs
  obtain ⟨V, hV⟩ : ∃ V, (decide ((l.length : Int) = n) && oprB 2 wd size l) = V := ⟨_, rfl⟩
  rw [hV]
  obtain ⟨o, ho⟩ : ∃ o : Int, o = 2 := ⟨_, rfl⟩
  rw [← ho] at hV
  have HAT := Lib.hid (fun j (h : j < l.length) (hi : opB o l[j] wd size = false) => show V = false by rw [← hV, oprB_bad h hi, Bool.and_false])
  have HEND := Lib.hid (fun (h : ∀ j (hj : j < l.length), opB o l[j] wd size = true) => show V = decide ((l.length : Int) = n) by rw [← hV, oprB_ok h, Bool.and_true])
  have KW := Lib.hid (fun n W => show Calls Try.prog 85 #[.int .i64 wd, .int .i64 n] W fun e w' => e = .returned (.bool (opB o n wd size)) ∧ W = w' by rw [ho, opB_word]; exact s_wk wd n W)
  clear hV ho
  have HR : Hid (∀ j, (h : j < l.length) → ∃ b o, lq = some ⟨b, o, none⟩ ∧ b < w.heap.size ∧ ∀ W, Below w.heap.size w W → W.cell? ⟨b, o + j, none⟩ = some (.int .i64 l[j])) := Lib.hid (fun j h => by
    rcases Cs.shows_cases HS.out with ⟨h0, _⟩ | ⟨_, b, o, c, hq, _, _, hbl, hr⟩
    · omega
    · injection hq with e1 e2 e3
      exact ⟨b, o, e1, hbl, fun W hW => IntL.nth l j h (rangeAt_below hW hr)⟩)
  clear HS
  go_enter Try.func97, Try.ntmps97
  go_wp2
  go_loopw [11] (fun i wr => ∃ j : Nat, j ≤ l.length ∧ i = .int .i64 j ∧ (∀ t (ht : t < l.length), t < j → opB o l[t] wd size = true) ∧ wr = w) (fun i _ => l.length - (intOf i).toNat)
  case atStart => exact ⟨0, Nat.zero_le _, rfl, fun t _ h => absurd h (Nat.not_lt_zero _), rfl⟩
  case round =>
    obtain ⟨j, hj, rfl, hv, hwr⟩ := hrel
    subst hwr
    have HV := Lib.hid hv
    clear hv
    by_cases hjn : j < l.length
    · obtain ⟨b, p, rfl, hbl, hcells⟩ := HR.out j hjn
      have c0 := hcells wr (Below.refl _ _)
      clear hcells
      have hat := HAT.out j hjn
      have HN := Lib.hid (show ∀ (hv : opB o l[j] wd size = true) t (ht : t < l.length), t < j + 1 → opB o l[t] wd size = true from fun hv t ht h => by
        by_cases e : t = j
        · subst e; exact hv
        · exact HV.out t ht (by omega))
      generalize l[j] = n at *
      have KX := Lib.hid (fun W => KW.out n W)
      obtain ⟨B, hB⟩ : ∃ B, opB o n wd size = B := ⟨_, rfl⟩
      rw [hB] at KX hat
      have HAT2 := Lib.hid hat
      have HN2 := Lib.hid (fun e => HN.out (hB.trans e))
      clear hat hB HN
      have hki : decide ((j : Int) < (l.length : Int)) = true := by simp; omega
      have hki2 : (j : Int) < (l.length : Int) := by omega
      go_wp2_with fail
      refine (KX.out _).mono ?_
      rintro e w2 ⟨rfl, rfl⟩
      cases B
      case false =>
        have hv := HAT2.out rfl
        subst hv
        go_wp2
        go_ret
        exact ⟨rfl, rfl⟩
      case true =>
        go_wp2
        first
          | (refine ⟨⟨j + 1, by omega, by go_num, HN2.out (by trivial), (by first | trivial | rfl)⟩, ?_⟩; simp [intOf]; omega)
          | (go_roundw
             case rel => exact ⟨j + 1, by omega, by go_num, HN2.out (by trivial), (by first | trivial | rfl)⟩
             case measure => simp [intOf]; omega)
    · have hje : j = l.length := by omega
      subst hje
      have hv := HEND.out (fun t ht => HV.out t ht ht)
      have hki : decide ((l.length : Int) < (l.length : Int)) = false := by simp
      subst hv
      by_cases hn : (l.length : Int) = n
      · subst hn
        go_wp2
        go_ret
        exact ⟨by first | rfl | (simp; done), rfl⟩
      · have hn2 : ((l.length : Int) == n) = false := by simpa using hn
        go_wp2
        go_ret
        exact ⟨by first | rfl | (rw [decide_eq_false hn] <;> rfl), rfl⟩
end Go.Proofs.Ytbbalmeglgecgaa
