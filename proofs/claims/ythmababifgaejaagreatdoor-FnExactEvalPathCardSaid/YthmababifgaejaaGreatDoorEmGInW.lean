/- What the specification's l05Words and InputsOk return. No condition. What the specification's InputsOk returns. No condition. -/
import Derived.Test.YthmababifgaejaaGreatDoorEmGPaM
import Derived.Test.YthmababifgaejaaGreatDoorEmPrS
namespace Go.Proofs.YthmababifgaejaaGreatDoor
open Go.ChangeShapes Go.WideShapes Go.ChangeAt Go.RowKit
set_option maxRecDepth 100000 in
set_option maxHeartbeats 2000000 in
theorem s_words (l : List Int) (n wd size : Int) (ls : Value) (w : World) (hs : Cs.Shows w 0 1 ls l.length (IntL.all l)) (_hl : l.length ≤ maxLen) :
    Calls Tryz.prog 59 #[ls, .int .i64 n, .int .i64 wd] w fun e w' => e = .returned (.bool (decide ((l.length : Int) = n) && oprB 2 wd size l)) ∧ w = w' := by
  have hml : maxLen = 9223372036854775807 := rfl
  have HS := Lib.hid hs
  obtain ⟨_, lq, lcap, rfl, _⟩ := hs
  obtain ⟨V, hV⟩ : ∃ V, (decide ((l.length : Int) = n) && oprB 2 wd size l) = V := ⟨_, rfl⟩
  rw [hV]
  obtain ⟨o, ho⟩ : ∃ o : Int, o = 2 := ⟨_, rfl⟩
  rw [← ho] at hV
  have HAT := Lib.hid (fun j (h : j < l.length) (hi : opB o l[j] wd size = false) => show V = false by rw [← hV, oprB_bad h hi, Bool.and_false])
  have HEND := Lib.hid (fun (h : ∀ j (hj : j < l.length), opB o l[j] wd size = true) => show V = decide ((l.length : Int) = n) by rw [← hV, oprB_ok h, Bool.and_true])
  have KW := Lib.hid (fun n W => show Calls Tryz.prog 77 #[.int .i64 wd, .int .i64 n] W fun e w' => e = .returned (.bool (opB o n wd size)) ∧ W = w' by rw [ho, opB_word]; exact s_wk wd n W)
  clear hV ho
  have HR : Hid (∀ j, (h : j < l.length) → ∃ b o, lq = some ⟨b, o, none⟩ ∧ b < w.heap.size ∧ ∀ W, Below w.heap.size w W → W.cell? ⟨b, o + j, none⟩ = some (.int .i64 l[j])) := Lib.hid (fun j h => by
    rcases Cs.shows_cases HS.out with ⟨h0, _⟩ | ⟨_, b, o, c, hq, _, _, hbl, hr⟩
    · omega
    · injection hq with e1 e2 e3
      exact ⟨b, o, e1, hbl, fun W hW => IntL.nth l j h (rangeAt_below hW hr)⟩)
  clear HS
  go_enter Tryz.func59, Tryz.ntmps59
  go_wp2
  go_loopw [11] (fun i wr => ∃ j : Nat, j ≤ l.length ∧ i = .int .i64 j ∧ (∀ t (ht : t < l.length), t < j → opB o l[t] wd size = true) ∧ wr = w) (fun i _ => l.length - (intOf i).toNat)
  case atStart => exact ⟨0, Nat.zero_le _, rfl, fun t _ h => absurd h (Nat.not_lt_zero _), rfl⟩
  case round =>
    obtain ⟨j, hj, rfl, hv, hwr⟩ := hrel
    subst hwr
    have HV := Lib.hid hv
    clear hv
    by_cases hjn : j < l.length
    · obtain ⟨b, p, rfl, hbl, hcells⟩ := HR.out j hjn
      have c0 := hcells wr (Below.refl _ _)
      clear hcells
      have hat := HAT.out j hjn
      have HN := Lib.hid (show ∀ (hv : opB o l[j] wd size = true) t (ht : t < l.length), t < j + 1 → opB o l[t] wd size = true from fun hv t ht h => by
        by_cases e : t = j
        · subst e; exact hv
        · exact HV.out t ht (by omega))
      generalize l[j] = n at *
      have KX := Lib.hid (fun W => KW.out n W)
      obtain ⟨B, hB⟩ : ∃ B, opB o n wd size = B := ⟨_, rfl⟩
      rw [hB] at KX hat
      have HAT2 := Lib.hid hat
      have HN2 := Lib.hid (fun e => HN.out (hB.trans e))
      clear hat hB HN
      have hki : decide ((j : Int) < (l.length : Int)) = true := by simp; omega
      have hki2 : (j : Int) < (l.length : Int) := by omega
      go_wp2_with fail
      refine (KX.out _).mono ?_
      rintro e w2 ⟨rfl, rfl⟩
      cases B
      case false =>
        have hv := HAT2.out rfl
        subst hv
        go_wp2
        go_ret
        exact ⟨rfl, rfl⟩
      case true =>
        go_wp2
        first
          | (refine ⟨⟨j + 1, by omega, by go_num, HN2.out (by trivial), (by first | trivial | rfl)⟩, ?_⟩; simp [intOf]; omega)
          | (go_roundw
             case rel => exact ⟨j + 1, by omega, by go_num, HN2.out (by trivial), (by first | trivial | rfl)⟩
             case measure => simp [intOf]; omega)
    · have hje : j = l.length := by omega
      subst hje
      have hv := HEND.out (fun t ht => HV.out t ht ht)
      have hki : decide ((l.length : Int) < (l.length : Int)) = false := by simp
      subst hv
      by_cases hn : (l.length : Int) = n
      · subst hn
        go_wp2
        go_ret
        exact ⟨by first | rfl | (simp; done), rfl⟩
      · have hn2 : ((l.length : Int) == n) = false := by simpa using hn
        go_wp2
        go_ret
        exact ⟨by first | rfl | (rw [decide_eq_false hn] <;> rfl), rfl⟩
end Go.Proofs.YthmababifgaejaaGreatDoor
namespace Go.Proofs.YthmababifgaejaaGreatDoor
open Go.ChangeShapes Go.WideShapes Go.ChangeAt Go.RowKit
set_option maxRecDepth 100000 in
set_option maxHeartbeats 2000000 in
theorem s_inputs (vw vm vi : Int) (L : List InsR) (l : List Int) (s ls : Value) (w : World) (hs : Cs.Shows w 0 4 s L.length (InsR.all L)) (hls : Cs.Shows w 0 1 ls l.length (IntL.all l)) (hok : ∀ r ∈ L, r.Ok) (hL : L.length ≤ maxLen) (hl : l.length ≤ maxLen) :
    Calls Tryz.prog 40 #[.agg #[.int .i64 vw, .int .i64 vm, .int .i64 vi, s], ls] w fun e w' => e = .returned (.bool (inB vw vm vi L l)) ∧ Below w.heap.size w w' := by
  have hml : maxLen = 9223372036854775807 := rfl
  have KP := Lib.hid (fun W (hb : Below w.heap.size w W) => s_prog vw vm vi L s W (hs.below hb) hok hL)
  have KL := Lib.hid (fun W (hb : Below w.heap.size w W) => s_words l vi vw L.length ls W (hls.below hb) hl)
  obtain ⟨_, q, cap, rfl, _⟩ := hs
  obtain ⟨_, lq, lcap, rfl, _⟩ := hls
  unfold inB
  generalize prB vw vm vi L = b1 at *
  have HB0 := Lib.hid ((Below.refl w.heap.size w).alloc (Nat.le_refl _) (.cells #[.int .i64 vw, .int .i64 vm, .int .i64 vi, .slice q L.length cap] 37))
  have X0 := Lib.hid (cell4_alloc w 37 (.int .i64 vw) (.int .i64 vm) (.int .i64 vi) (.slice q L.length cap))
  obtain ⟨w0, hw0⟩ : ∃ w0, w0 = w.alloc (.cells #[.int .i64 vw, .int .i64 vm, .int .i64 vi, .slice q L.length cap] 37) := ⟨_, rfl⟩
  rw [← hw0] at HB0 X0
  go_enter Tryz.func40, Tryz.ntmps40
  go_wp2_with fail
  rw [← hw0]
  clear hw0
  refine (KP.out _ HB0.out).mono ?_
  rintro e w1 ⟨rfl, hb⟩
  have HB1 := Lib.hid (HB0.out.trans (hb.mono HB0.out.size))
  have X1 := Lib.hid (X0.out.below hb)
  clear hb
  obtain ⟨x0, x1, x2, x3⟩ := X1.out
  cases b1
  case false =>
    go_wp2
    go_ret
    exact ⟨rfl, HB1.out⟩
  case true =>
    obtain ⟨b2, h2⟩ : ∃ b, (decide ((l.length : Int) = vi) && oprB 2 vw L.length l) = b := ⟨_, rfl⟩
    rw [h2] at KL
    go_wp2_with fail
    refine (KL.out _ HB1.out).mono ?_
    rintro e w2 ⟨rfl, rfl⟩
    go_wp2
    go_ret
    exact ⟨by first | rfl | (simp; done) | (rw [← h2] <;> rfl) | (simp [← h2] <;> rfl), HB1.out⟩
end Go.Proofs.YthmababifgaejaaGreatDoor
