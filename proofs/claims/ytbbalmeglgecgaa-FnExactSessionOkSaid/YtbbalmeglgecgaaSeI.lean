/- What the program's SessionOk returns. No condition. -/
import Derived.Test.YtbbalmeglgecgaaSeM
import Derived.Test.YtbbalmeglgecgaaPrI
import Derived.Test.YtbbalmeglgecgaaAoI
import Derived.Test.YtbbalmeglgecgaaCell6
namespace Go.Proofs.Ytbbalmeglgecgaa
open Go.ChangeShapes Go.WideShapes Go.ChangeAt Go.RowKit
set_option maxRecDepth 100000 in
theorem i_sfuel (x : Int) (c : Bool) (h : (decide (1 ≤ x) && decide (x ≤ 60)) = c) (w : World) : Calls Try.prog 53 #[.int .i64 x] w fun e w' => e = .returned (.bool c) ∧ w = w' := by
  subst h
  by_cases h1 : 1 ≤ x
  · by_cases h2 : x ≤ 60
    · go_enter Try.func53, Try.ntmps53
      go_wp2
      go_ret
      exact ⟨by simp [h1, h2], rfl⟩
    · go_enter Try.func53, Try.ntmps53
      go_wp2
      go_ret
      exact ⟨by simp [h2], rfl⟩
  · go_enter Try.func53, Try.ntmps53
    go_wp2
    go_ret
    exact ⟨by rw [show decide (1 ≤ x) = false from by simp; omega]; rfl, rfl⟩
set_option maxRecDepth 100000 in
set_option maxHeartbeats 4000000 in
theorem i_session (vw vm vi fu : Int) (L : List InsR) (T : List (List Int)) (s t : Value) (w : World) (hs : Cs.Shows w 0 4 s L.length (InsR.all L)) (ht : (Cs.rows IntSS.c T).Is w 0 1 T.length t) (hok : ∀ r ∈ L, r.Ok) (hL : L.length ≤ maxLen) (hT : IntSS.Ok T) (hl : T.length ≤ maxLen) :
    Calls Try.prog 16 #[.agg #[.int .i64 vw, .int .i64 vm, .int .i64 vi, s, .int .i64 fu, t]] w fun e w' => e = .returned (.bool (seB vw vm vi fu L T)) ∧ Below w.heap.size w w' := by
  have hml : maxLen = 9223372036854775807 := rfl
  have KP := Lib.hid (fun W (hb : Below w.heap.size w W) => i_prog vw vm vi L s W (hs.below hb) hok hL)
  have KR := Lib.hid (fun W => i_sfuel fu _ rfl W)
  have KT := Lib.hid (fun W (hb : Below w.heap.size w W) => i_tests vw vm vi L T s t W (hs.below hb) (ht.below hb) hok hL hT)
  obtain ⟨_, q, cap, rfl, _⟩ := hs
  obtain ⟨_, ⟨_, tq, tc, rfl, _⟩, _⟩ := ht
  clear hok hT
  have H1 : Hid (prB vw vm vi L = false → seB vw vm vi fu L T = false) := Lib.hid se_1
  have H2 : Hid ((decide (1 ≤ fu) && decide (fu ≤ 60)) = false → seB vw vm vi fu L T = false) := Lib.hid se_2
  have H3 : Hid (¬ T.length ≤ 64 → seB vw vm vi fu L T = false) := Lib.hid se_3
  have H4 : Hid (prB vw vm vi L = true → (decide (1 ≤ fu) && decide (fu ≤ 60)) = true → T.length ≤ 64 → seB vw vm vi fu L T = aoB vw vm vi L T) := Lib.hid se_4
  obtain ⟨B, hB⟩ : ∃ B, seB vw vm vi fu L T = B := ⟨_, rfl⟩
  obtain ⟨b1, h1⟩ : ∃ B, prB vw vm vi L = B := ⟨_, rfl⟩
  obtain ⟨b2, h2⟩ : ∃ B, (decide (1 ≤ fu) && decide (fu ≤ 60)) = B := ⟨_, rfl⟩
  obtain ⟨b4, h4⟩ : ∃ B, aoB vw vm vi L T = B := ⟨_, rfl⟩
  rw [hB]
  rw [h1] at H1 H4 KP
  rw [h2] at H2 H4 KR
  rw [h4] at H4 KT
  rw [hB] at H1 H2 H3 H4
  clear hB h1 h2 h4
  obtain ⟨w0, hw0⟩ : ∃ w0, w0 = w.alloc (.cells #[.int .i64 vw, .int .i64 vm, .int .i64 vi, .slice q L.length cap, .int .i64 fu, .slice tq T.length tc] 27) := ⟨_, rfl⟩
  have HB0 := Lib.hid (show Below w.heap.size w w0 by rw [hw0]; exact (Below.refl _ _).alloc (Nat.le_refl _) _)
  have X0 := Lib.hid (show Cell6 w0 w.heap.size (.int .i64 vw) (.int .i64 vm) (.int .i64 vi) (.slice q L.length cap) (.int .i64 fu) (.slice tq T.length tc) by rw [hw0]; exact cell6_alloc _ _ _ _ _ _ _ _)
  go_enter Try.func16, Try.ntmps16
  go_wp2_with fail
  rw [← hw0]
  clear hw0
  refine (KP.out _ HB0.out).mono ?_
  rintro e w1 ⟨rfl, hb⟩
  have HB1 := Lib.hid (HB0.out.trans (hb.mono HB0.out.size))
  have X1 := Lib.hid (X0.out.below hb)
  clear hb
  cases b1
  case false =>
    have hv := H1.out (by trivial)
    subst hv
    go_wp2
    go_ret
    exact ⟨rfl, HB1.out⟩
  case true =>
    obtain ⟨x0, x1, x2, x3, x4, x5⟩ := X1.out
    go_wp2_with fail
    refine (KR.out _).mono ?_
    rintro e _ ⟨rfl, rfl⟩
    cases b2
    case false =>
      have hv := H2.out (by trivial)
      subst hv
      go_wp2
      go_ret
      exact ⟨rfl, HB1.out⟩
    case true =>
      by_cases hn : T.length ≤ 64
      · have hv := H4.out (by trivial) (by trivial) hn
        subst hv
        have hn1 : ¬ (64 < (T.length : Int)) := by omega
        have hn2 : (T.length : Int) ≤ 64 := by omega
        go_wp2_with fail
        clear x0 x1 x2 x3 x4 x5
        refine (KT.out _ HB1.out).mono ?_
        rintro e w2 ⟨rfl, hb⟩
        have HB2 := Lib.hid (HB1.out.trans (hb.mono HB1.out.size))
        clear hb
        cases B
        all_goals
          go_wp2
          go_ret
          exact ⟨rfl, HB2.out⟩
      · have hv := H3.out hn
        subst hv
        have hn1 : 64 < (T.length : Int) := by omega
        have hn2 : ¬ (T.length : Int) ≤ 64 := by omega
        go_wp2
        go_ret
        exact ⟨rfl, HB1.out⟩
end Go.Proofs.Ytbbalmeglgecgaa
