/- What the program's measure, holds and FactHolds return. -/
import Derived.Test.YtcihgechijiamaaDoorFhM
import Derived.Test.YtcihgechijiamaaDoorFcI
import Derived.Test.YtcihgechijiamaaDoorInA
import Derived.Deep.QuietTactic
import Derived.BigQuiet
namespace Go.Proofs.YtcihgechijiamaaDoor
open Go.ChangeShapes Go.WideShapes Go.ChangeAt Go.RowKit
set_option maxHeartbeats 2000000 in
theorem if_add (w a b : Int) (ha : IsW w a) (hb : IsW w b) (W : World) :
    Calls Tryd.prog 79 #[.int .i64 3, .int .i64 w, .int .i64 a, .int .i64 b] W fun e W' => e = .returned (.int .i64 (mask w (a + b))) ∧ W = W' := by
  obtain ⟨h1, h2, h3, h4⟩ := ha
  obtain ⟨_, _, k3, k4⟩ := hb
  obtain ⟨hp1, hp2⟩ := pw w h1 h2
  go_enter Tryd.func79, Tryd.ntmps79
  go_wp2
  go_ret
  exact ⟨rfl, rfl⟩
set_option maxHeartbeats 2000000 in
theorem if_sub (w a b : Int) (ha : IsW w a) (hb : IsW w b) (W : World) :
    Calls Tryd.prog 79 #[.int .i64 4, .int .i64 w, .int .i64 a, .int .i64 b] W fun e W' => e = .returned (.int .i64 (mask w (a - b))) ∧ W = W' := by
  obtain ⟨h1, h2, h3, h4⟩ := ha
  obtain ⟨_, _, k3, k4⟩ := hb
  obtain ⟨hp1, hp2⟩ := pw w h1 h2
  go_enter Tryd.func79, Tryd.ntmps79
  go_wp2
  go_ret
  exact ⟨rfl, rfl⟩
set_option maxHeartbeats 2000000 in
theorem if_less (w a b : Int) (ha : IsW w a) (hb : IsW w b) (W : World) :
    Calls Tryd.prog 79 #[.int .i64 15, .int .i64 w, .int .i64 a, .int .i64 b] W fun e W' => e = .returned (.int .i64 (if a < b then 1 else 0)) ∧ W = W' := by
  obtain ⟨h1, h2, h3, h4⟩ := ha
  obtain ⟨_, _, k3, k4⟩ := hb
  obtain ⟨hp1, hp2⟩ := pw w h1 h2
  by_cases h5 : a < b
  · rw [if_pos h5]
    go_enter Tryd.func79, Tryd.ntmps79
    go_wp2
    go_ret
    exact ⟨rfl, rfl⟩
  · rw [if_neg h5]
    have h6 : decide (a < b) = false := decide_eq_false h5
    have h7 : b ≤ a := by omega
    go_enter Tryd.func79, Tryd.ntmps79
    go_wp2
    go_ret
    exact ⟨rfl, rfl⟩
set_option maxHeartbeats 2000000 in
theorem if_cut (w a l : Int) (ha : IsW w a) (g1 : 0 ≤ l) (g3 : l < w) (W : World) :
    Calls Tryd.prog 80 #[.int .i64 w, .int .i64 a, .int .i64 l, .int .i64 1] W fun e W' => e = .returned (.int .i64 (mask 1 (a / 2 ^ l.toNat))) ∧ W = W' := by
  obtain ⟨h1, h2, h3, h4⟩ := ha
  obtain ⟨hp1, hp2⟩ := pw w h1 h2
  have g5 : l ≤ w - 1 := by omega
  go_enter Tryd.func80, Tryd.ntmps80
  go_wp2
  go_ret
  exact ⟨rfl, rfl⟩
set_option maxRecDepth 100000 in
set_option maxHeartbeats 8000000 in
theorem i_measure1 (vw a b n : Int) (R : List Int) (lr : Value) (w : World) (hs : Cs.Shows w 0 1 lr R.length (IntL.all R)) (hf : FcIn vw 1 a b n) (hR : R.length = 4) (hx : ∀ y ∈ R, IsW vw y) :
    Calls Tryd.prog 72 #[.agg #[.int .i64 1, .int .i64 a, .int .i64 b, .int .i64 n], .int .i64 vw, lr] w fun e w' => e = .returned (.int .i64 (msV vw 1 a b R)) ∧ Below w.heap.size w w' := by
  have hml : maxLen = 9223372036854775807 := rfl
  have HS := Lib.hid hs
  obtain ⟨_, lq, lcap, rfl, _⟩ := hs
  have HR : Hid (∀ i : Int, 0 ≤ i → i ≤ 3 → ∃ (j : Nat) (bo oo : Nat), i = j ∧ j < 4 ∧ lq = some ⟨bo, oo, none⟩ ∧ bo < w.heap.size ∧ ∀ W, Below w.heap.size w W → W.cell? ⟨bo, oo + j, none⟩ = some (.int .i64 (atI R i))) := Lib.hid (fun i h0 h3 => by
    obtain ⟨j, rfl⟩ : ∃ j : Nat, i = j := ⟨i.toNat, by omega⟩
    rcases Cs.shows_cases HS.out with ⟨h0, _⟩ | ⟨_, bo, oo, c, hq, _, _, hbl, hr⟩
    · omega
    · injection hq with e1 e2 e3
      refine ⟨j, bo, oo, rfl, by omega, e1, hbl, fun W hW => ?_⟩
      rw [at_get (show j < R.length by omega)]
      exact IntL.nth R j (by omega) (rangeAt_below hW hr))
  have HB0 := Lib.hid ((Below.refl w.heap.size w).alloc (Nat.le_refl _) (.cells #[.int .i64 1, .int .i64 a, .int .i64 b, .int .i64 n] 33))
  have Y0 := Lib.hid (cell4_alloc w 33 (.int .i64 1) (.int .i64 a) (.int .i64 b) (.int .i64 n))
  obtain ⟨w0, hw0⟩ : ∃ w0, w0 = w.alloc (.cells #[.int .i64 1, .int .i64 a, .int .i64 b, .int .i64 n] 33) := ⟨_, rfl⟩
  have hs0 : w0.heap.size = w.heap.size + 1 := by rw [hw0]; simp
  rw [← hw0] at HB0 Y0
  obtain ⟨ja, bo, oo, hja, hj4, rfl, hbl, hc⟩ := HR.out a hf.ha.1 hf.ha.2
  have g0 := hc w0 HB0.out
  have HWA := hx _ (at_mem hR hf.ha.1 hf.ha.2)
  have hbw : bo < w0.heap.size := by omega
  clear hc HR HS
  obtain ⟨y0, y1, y2, y3⟩ := Y0.out
  show Calls _ _ _ _ fun e w' => e = .returned (.int .i64 (atI R a)) ∧ _
  have hz1 : w.heap.size < w0.heap.size := by omega
  clear hf hx HWA
  generalize atI R a = X at *
  subst hja
  rw [hw0] at y0 y1 y2 y3 g0 hbw
  go_enter Tryd.func72, Tryd.ntmps72
  go_wp2
  go_ret
  rw [← hw0]
  exact ⟨rfl, HB0.out⟩
set_option maxRecDepth 100000 in
set_option maxHeartbeats 8000000 in
theorem i_measure2 (vw a b n : Int) (R : List Int) (lr : Value) (w : World) (hs : Cs.Shows w 0 1 lr R.length (IntL.all R)) (hf : FcIn vw 2 a b n) (hR : R.length = 4) (hx : ∀ y ∈ R, IsW vw y) :
    Calls Tryd.prog 72 #[.agg #[.int .i64 2, .int .i64 a, .int .i64 b, .int .i64 n], .int .i64 vw, lr] w fun e w' => e = .returned (.int .i64 (msV vw 2 a b R)) ∧ Below w.heap.size w w' := by
  have hml : maxLen = 9223372036854775807 := rfl
  have HS := Lib.hid hs
  obtain ⟨_, lq, lcap, rfl, _⟩ := hs
  have HR : Hid (∀ i : Int, 0 ≤ i → i ≤ 3 → ∃ (j : Nat) (bo oo : Nat), i = j ∧ j < 4 ∧ lq = some ⟨bo, oo, none⟩ ∧ bo < w.heap.size ∧ ∀ W, Below w.heap.size w W → W.cell? ⟨bo, oo + j, none⟩ = some (.int .i64 (atI R i))) := Lib.hid (fun i h0 h3 => by
    obtain ⟨j, rfl⟩ : ∃ j : Nat, i = j := ⟨i.toNat, by omega⟩
    rcases Cs.shows_cases HS.out with ⟨h0, _⟩ | ⟨_, bo, oo, c, hq, _, _, hbl, hr⟩
    · omega
    · injection hq with e1 e2 e3
      refine ⟨j, bo, oo, rfl, by omega, e1, hbl, fun W hW => ?_⟩
      rw [at_get (show j < R.length by omega)]
      exact IntL.nth R j (by omega) (rangeAt_below hW hr))
  have HB0 := Lib.hid ((Below.refl w.heap.size w).alloc (Nat.le_refl _) (.cells #[.int .i64 2, .int .i64 a, .int .i64 b, .int .i64 n] 33))
  have Y0 := Lib.hid (cell4_alloc w 33 (.int .i64 2) (.int .i64 a) (.int .i64 b) (.int .i64 n))
  obtain ⟨w0, hw0⟩ : ∃ w0, w0 = w.alloc (.cells #[.int .i64 2, .int .i64 a, .int .i64 b, .int .i64 n] 33) := ⟨_, rfl⟩
  have hs0 : w0.heap.size = w.heap.size + 1 := by rw [hw0]; simp
  rw [← hw0] at HB0 Y0
  obtain ⟨ja, bo, oo, hja, hj4, rfl, hbl, hc⟩ := HR.out a hf.ha.1 hf.ha.2
  have g0 := hc w0 HB0.out
  have HWA := hx _ (at_mem hR hf.ha.1 hf.ha.2)
  obtain ⟨jb, bo2, oo2, hjb, hj4b, hq2, _, hc2⟩ := HR.out b (hf.hb (by omega)).1 (hf.hb (by omega)).2
  have HWB := hx _ (at_mem hR (hf.hb (by omega)).1 (hf.hb (by omega)).2)
  cases hq2
  have g1 := hc2 w0 HB0.out
  have hbw : bo < w0.heap.size := by omega
  clear hc HR HS
  clear hc2
  obtain ⟨y0, y1, y2, y3⟩ := Y0.out
  have KX := Lib.hid (fun W => if_sub vw (atI R a) (atI R b) HWA HWB W)
  show Calls _ _ _ _ fun e w' => e = .returned (.int .i64 (mask vw (atI R a - atI R b))) ∧ _
  have hz1 : w.heap.size < w0.heap.size := by omega
  clear hf hx HWA
  clear HWB
  generalize atI R a = X at *
  generalize atI R b = Y at *
  subst hja
  subst hjb
  rw [hw0] at y0 y1 y2 y3 g0 g1 hbw
  go_enter Tryd.func72, Tryd.ntmps72
  go_wp2_with fail
  refine (KX.out _).mono ?_
  rintro e w3 ⟨rfl, rfl⟩
  go_wp2
  go_ret
  rw [← hw0]
  exact ⟨rfl, HB0.out⟩
set_option maxRecDepth 100000 in
set_option maxHeartbeats 8000000 in
theorem i_measure3 (vw a b n : Int) (R : List Int) (lr : Value) (w : World) (hs : Cs.Shows w 0 1 lr R.length (IntL.all R)) (hf : FcIn vw 3 a b n) (hR : R.length = 4) (hx : ∀ y ∈ R, IsW vw y) :
    Calls Tryd.prog 72 #[.agg #[.int .i64 3, .int .i64 a, .int .i64 b, .int .i64 n], .int .i64 vw, lr] w fun e w' => e = .returned (.int .i64 (msV vw 3 a b R)) ∧ Below w.heap.size w w' := by
  have hml : maxLen = 9223372036854775807 := rfl
  have HS := Lib.hid hs
  obtain ⟨_, lq, lcap, rfl, _⟩ := hs
  have HR : Hid (∀ i : Int, 0 ≤ i → i ≤ 3 → ∃ (j : Nat) (bo oo : Nat), i = j ∧ j < 4 ∧ lq = some ⟨bo, oo, none⟩ ∧ bo < w.heap.size ∧ ∀ W, Below w.heap.size w W → W.cell? ⟨bo, oo + j, none⟩ = some (.int .i64 (atI R i))) := Lib.hid (fun i h0 h3 => by
    obtain ⟨j, rfl⟩ : ∃ j : Nat, i = j := ⟨i.toNat, by omega⟩
    rcases Cs.shows_cases HS.out with ⟨h0, _⟩ | ⟨_, bo, oo, c, hq, _, _, hbl, hr⟩
    · omega
    · injection hq with e1 e2 e3
      refine ⟨j, bo, oo, rfl, by omega, e1, hbl, fun W hW => ?_⟩
      rw [at_get (show j < R.length by omega)]
      exact IntL.nth R j (by omega) (rangeAt_below hW hr))
  have HB0 := Lib.hid ((Below.refl w.heap.size w).alloc (Nat.le_refl _) (.cells #[.int .i64 3, .int .i64 a, .int .i64 b, .int .i64 n] 33))
  have Y0 := Lib.hid (cell4_alloc w 33 (.int .i64 3) (.int .i64 a) (.int .i64 b) (.int .i64 n))
  obtain ⟨w0, hw0⟩ : ∃ w0, w0 = w.alloc (.cells #[.int .i64 3, .int .i64 a, .int .i64 b, .int .i64 n] 33) := ⟨_, rfl⟩
  have hs0 : w0.heap.size = w.heap.size + 1 := by rw [hw0]; simp
  rw [← hw0] at HB0 Y0
  obtain ⟨ja, bo, oo, hja, hj4, rfl, hbl, hc⟩ := HR.out a hf.ha.1 hf.ha.2
  have g0 := hc w0 HB0.out
  have HWA := hx _ (at_mem hR hf.ha.1 hf.ha.2)
  have hbw : bo < w0.heap.size := by omega
  clear hc HR HS
  obtain ⟨y0, y1, y2, y3⟩ := Y0.out
  show Calls _ _ _ _ fun e w' => e = .returned (.int .i64 (atI R a)) ∧ _
  have hz1 : w.heap.size < w0.heap.size := by omega
  clear hf hx HWA
  generalize atI R a = X at *
  subst hja
  rw [hw0] at y0 y1 y2 y3 g0 hbw
  go_enter Tryd.func72, Tryd.ntmps72
  go_wp2
  go_ret
  rw [← hw0]
  exact ⟨rfl, HB0.out⟩
set_option maxRecDepth 100000 in
set_option maxHeartbeats 8000000 in
theorem i_measure4 (vw a b n : Int) (R : List Int) (lr : Value) (w : World) (hs : Cs.Shows w 0 1 lr R.length (IntL.all R)) (hf : FcIn vw 4 a b n) (hR : R.length = 4) (hx : ∀ y ∈ R, IsW vw y) :
    Calls Tryd.prog 72 #[.agg #[.int .i64 4, .int .i64 a, .int .i64 b, .int .i64 n], .int .i64 vw, lr] w fun e w' => e = .returned (.int .i64 (msV vw 4 a b R)) ∧ Below w.heap.size w w' := by
  have hml : maxLen = 9223372036854775807 := rfl
  have HS := Lib.hid hs
  obtain ⟨_, lq, lcap, rfl, _⟩ := hs
  have HR : Hid (∀ i : Int, 0 ≤ i → i ≤ 3 → ∃ (j : Nat) (bo oo : Nat), i = j ∧ j < 4 ∧ lq = some ⟨bo, oo, none⟩ ∧ bo < w.heap.size ∧ ∀ W, Below w.heap.size w W → W.cell? ⟨bo, oo + j, none⟩ = some (.int .i64 (atI R i))) := Lib.hid (fun i h0 h3 => by
    obtain ⟨j, rfl⟩ : ∃ j : Nat, i = j := ⟨i.toNat, by omega⟩
    rcases Cs.shows_cases HS.out with ⟨h0, _⟩ | ⟨_, bo, oo, c, hq, _, _, hbl, hr⟩
    · omega
    · injection hq with e1 e2 e3
      refine ⟨j, bo, oo, rfl, by omega, e1, hbl, fun W hW => ?_⟩
      rw [at_get (show j < R.length by omega)]
      exact IntL.nth R j (by omega) (rangeAt_below hW hr))
  have HB0 := Lib.hid ((Below.refl w.heap.size w).alloc (Nat.le_refl _) (.cells #[.int .i64 4, .int .i64 a, .int .i64 b, .int .i64 n] 33))
  have Y0 := Lib.hid (cell4_alloc w 33 (.int .i64 4) (.int .i64 a) (.int .i64 b) (.int .i64 n))
  obtain ⟨w0, hw0⟩ : ∃ w0, w0 = w.alloc (.cells #[.int .i64 4, .int .i64 a, .int .i64 b, .int .i64 n] 33) := ⟨_, rfl⟩
  have hs0 : w0.heap.size = w.heap.size + 1 := by rw [hw0]; simp
  rw [← hw0] at HB0 Y0
  obtain ⟨ja, bo, oo, hja, hj4, rfl, hbl, hc⟩ := HR.out a hf.ha.1 hf.ha.2
  have g0 := hc w0 HB0.out
  have HWA := hx _ (at_mem hR hf.ha.1 hf.ha.2)
  have hbw : bo < w0.heap.size := by omega
  clear hc HR HS
  obtain ⟨y0, y1, y2, y3⟩ := Y0.out
  have KX := Lib.hid (fun W => if_cut vw (atI R a) b HWA (hf.hb4 rfl).1 (hf.hb4 rfl).2 W)
  show Calls _ _ _ _ fun e w' => e = .returned (.int .i64 (mask 1 (atI R a / 2 ^ b.toNat))) ∧ _
  have hz1 : w.heap.size < w0.heap.size := by omega
  clear hf hx HWA
  generalize atI R a = X at *
  subst hja
  rw [hw0] at y0 y1 y2 y3 g0 hbw
  go_enter Tryd.func72, Tryd.ntmps72
  go_wp2_with fail
  refine (KX.out _).mono ?_
  rintro e w3 ⟨rfl, rfl⟩
  go_wp2
  go_ret
  rw [← hw0]
  exact ⟨rfl, HB0.out⟩
set_option maxRecDepth 100000 in
set_option maxHeartbeats 8000000 in
theorem i_measure5 (vw a b n : Int) (R : List Int) (lr : Value) (w : World) (hs : Cs.Shows w 0 1 lr R.length (IntL.all R)) (hf : FcIn vw 5 a b n) (hR : R.length = 4) (hx : ∀ y ∈ R, IsW vw y) :
    Calls Tryd.prog 72 #[.agg #[.int .i64 5, .int .i64 a, .int .i64 b, .int .i64 n], .int .i64 vw, lr] w fun e w' => e = .returned (.int .i64 (msV vw 5 a b R)) ∧ Below w.heap.size w w' := by
  have hml : maxLen = 9223372036854775807 := rfl
  have HS := Lib.hid hs
  obtain ⟨_, lq, lcap, rfl, _⟩ := hs
  have HR : Hid (∀ i : Int, 0 ≤ i → i ≤ 3 → ∃ (j : Nat) (bo oo : Nat), i = j ∧ j < 4 ∧ lq = some ⟨bo, oo, none⟩ ∧ bo < w.heap.size ∧ ∀ W, Below w.heap.size w W → W.cell? ⟨bo, oo + j, none⟩ = some (.int .i64 (atI R i))) := Lib.hid (fun i h0 h3 => by
    obtain ⟨j, rfl⟩ : ∃ j : Nat, i = j := ⟨i.toNat, by omega⟩
    rcases Cs.shows_cases HS.out with ⟨h0, _⟩ | ⟨_, bo, oo, c, hq, _, _, hbl, hr⟩
    · omega
    · injection hq with e1 e2 e3
      refine ⟨j, bo, oo, rfl, by omega, e1, hbl, fun W hW => ?_⟩
      rw [at_get (show j < R.length by omega)]
      exact IntL.nth R j (by omega) (rangeAt_below hW hr))
  have HB0 := Lib.hid ((Below.refl w.heap.size w).alloc (Nat.le_refl _) (.cells #[.int .i64 5, .int .i64 a, .int .i64 b, .int .i64 n] 33))
  have Y0 := Lib.hid (cell4_alloc w 33 (.int .i64 5) (.int .i64 a) (.int .i64 b) (.int .i64 n))
  obtain ⟨w0, hw0⟩ : ∃ w0, w0 = w.alloc (.cells #[.int .i64 5, .int .i64 a, .int .i64 b, .int .i64 n] 33) := ⟨_, rfl⟩
  have hs0 : w0.heap.size = w.heap.size + 1 := by rw [hw0]; simp
  rw [← hw0] at HB0 Y0
  obtain ⟨ja, bo, oo, hja, hj4, rfl, hbl, hc⟩ := HR.out a hf.ha.1 hf.ha.2
  have g0 := hc w0 HB0.out
  have HWA := hx _ (at_mem hR hf.ha.1 hf.ha.2)
  obtain ⟨jb, bo2, oo2, hjb, hj4b, hq2, _, hc2⟩ := HR.out b (hf.hb (by omega)).1 (hf.hb (by omega)).2
  have HWB := hx _ (at_mem hR (hf.hb (by omega)).1 (hf.hb (by omega)).2)
  cases hq2
  have g1 := hc2 w0 HB0.out
  have hbw : bo < w0.heap.size := by omega
  clear hc HR HS
  clear hc2
  obtain ⟨y0, y1, y2, y3⟩ := Y0.out
  have KX := Lib.hid (fun W => if_add vw (atI R a) (atI R b) HWA HWB W)
  show Calls _ _ _ _ fun e w' => e = .returned (.int .i64 (mask vw (atI R a + atI R b))) ∧ _
  have hz1 : w.heap.size < w0.heap.size := by omega
  clear hf hx HWA
  clear HWB
  generalize atI R a = X at *
  generalize atI R b = Y at *
  subst hja
  subst hjb
  rw [hw0] at y0 y1 y2 y3 g0 g1 hbw
  go_enter Tryd.func72, Tryd.ntmps72
  go_wp2_with fail
  refine (KX.out _).mono ?_
  rintro e w3 ⟨rfl, rfl⟩
  go_wp2
  go_ret
  rw [← hw0]
  exact ⟨rfl, HB0.out⟩
set_option maxRecDepth 100000 in
set_option maxHeartbeats 8000000 in
theorem i_measure6 (vw a b n : Int) (R : List Int) (lr : Value) (w : World) (hs : Cs.Shows w 0 1 lr R.length (IntL.all R)) (hf : FcIn vw 6 a b n) (hR : R.length = 4) (hx : ∀ y ∈ R, IsW vw y) :
    Calls Tryd.prog 72 #[.agg #[.int .i64 6, .int .i64 a, .int .i64 b, .int .i64 n], .int .i64 vw, lr] w fun e w' => e = .returned (.int .i64 (msV vw 6 a b R)) ∧ Below w.heap.size w w' := by
  have hml : maxLen = 9223372036854775807 := rfl
  have HS := Lib.hid hs
  obtain ⟨_, lq, lcap, rfl, _⟩ := hs
  have HR : Hid (∀ i : Int, 0 ≤ i → i ≤ 3 → ∃ (j : Nat) (bo oo : Nat), i = j ∧ j < 4 ∧ lq = some ⟨bo, oo, none⟩ ∧ bo < w.heap.size ∧ ∀ W, Below w.heap.size w W → W.cell? ⟨bo, oo + j, none⟩ = some (.int .i64 (atI R i))) := Lib.hid (fun i h0 h3 => by
    obtain ⟨j, rfl⟩ : ∃ j : Nat, i = j := ⟨i.toNat, by omega⟩
    rcases Cs.shows_cases HS.out with ⟨h0, _⟩ | ⟨_, bo, oo, c, hq, _, _, hbl, hr⟩
    · omega
    · injection hq with e1 e2 e3
      refine ⟨j, bo, oo, rfl, by omega, e1, hbl, fun W hW => ?_⟩
      rw [at_get (show j < R.length by omega)]
      exact IntL.nth R j (by omega) (rangeAt_below hW hr))
  have HB0 := Lib.hid ((Below.refl w.heap.size w).alloc (Nat.le_refl _) (.cells #[.int .i64 6, .int .i64 a, .int .i64 b, .int .i64 n] 33))
  have Y0 := Lib.hid (cell4_alloc w 33 (.int .i64 6) (.int .i64 a) (.int .i64 b) (.int .i64 n))
  obtain ⟨w0, hw0⟩ : ∃ w0, w0 = w.alloc (.cells #[.int .i64 6, .int .i64 a, .int .i64 b, .int .i64 n] 33) := ⟨_, rfl⟩
  have hs0 : w0.heap.size = w.heap.size + 1 := by rw [hw0]; simp
  rw [← hw0] at HB0 Y0
  obtain ⟨ja, bo, oo, hja, hj4, rfl, hbl, hc⟩ := HR.out a hf.ha.1 hf.ha.2
  have g0 := hc w0 HB0.out
  have HWA := hx _ (at_mem hR hf.ha.1 hf.ha.2)
  obtain ⟨jb, bo2, oo2, hjb, hj4b, hq2, _, hc2⟩ := HR.out b (hf.hb (by omega)).1 (hf.hb (by omega)).2
  have HWB := hx _ (at_mem hR (hf.hb (by omega)).1 (hf.hb (by omega)).2)
  cases hq2
  have g1 := hc2 w0 HB0.out
  have hbw : bo < w0.heap.size := by omega
  clear hc HR HS
  clear hc2
  obtain ⟨y0, y1, y2, y3⟩ := Y0.out
  have KX := Lib.hid (fun W => if_less vw (atI R b) (atI R a) HWB HWA W)
  show Calls _ _ _ _ fun e w' => e = .returned (.int .i64 (if atI R b < atI R a then 1 else 0)) ∧ _
  have hz1 : w.heap.size < w0.heap.size := by omega
  clear hf hx HWA
  clear HWB
  obtain ⟨V, hV⟩ : ∃ V : Int, (if atI R b < atI R a then 1 else 0) = V := ⟨_, rfl⟩
  rw [hV] at KX ⊢
  clear hV
  generalize atI R a = X at *
  generalize atI R b = Y at *
  subst hja
  subst hjb
  rw [hw0] at y0 y1 y2 y3 g0 g1 hbw
  go_enter Tryd.func72, Tryd.ntmps72
  go_wp2_with fail
  refine (KX.out _).mono ?_
  rintro e w3 ⟨rfl, rfl⟩
  go_wp2
  go_ret
  rw [← hw0]
  exact ⟨rfl, HB0.out⟩
theorem i_measure (vw k a b n : Int) (R : List Int) (lr : Value) (w : World) (hs : Cs.Shows w 0 1 lr R.length (IntL.all R)) (hf : FcIn vw k a b n) (hR : R.length = 4) (hx : ∀ y ∈ R, IsW vw y) :
    Calls Tryd.prog 72 #[.agg #[.int .i64 k, .int .i64 a, .int .i64 b, .int .i64 n], .int .i64 vw, lr] w fun e w' => e = .returned (.int .i64 (msV vw k a b R)) ∧ Below w.heap.size w w' := by
  have hk := hf.hk
  rcases hk with rfl | rfl | rfl | rfl | rfl | rfl
  · exact i_measure1 vw a b n R lr w hs hf hR hx
  · exact i_measure2 vw a b n R lr w hs hf hR hx
  · exact i_measure3 vw a b n R lr w hs hf hR hx
  · exact i_measure4 vw a b n R lr w hs hf hR hx
  · exact i_measure5 vw a b n R lr w hs hf hR hx
  · exact i_measure6 vw a b n R lr w hs hf hR hx
set_option maxRecDepth 100000 in
set_option maxHeartbeats 8000000 in
theorem i_holds (vw k a b n : Int) (R : List Int) (lr : Value) (w : World) (hs : Cs.Shows w 0 1 lr R.length (IntL.all R)) (hf : FcIn vw k a b n) (hR : R.length = 4) (hx : ∀ y ∈ R, IsW vw y) :
    Calls Tryd.prog 42 #[.agg #[.int .i64 k, .int .i64 a, .int .i64 b, .int .i64 n], .int .i64 vw, lr] w fun e w' => e = .returned (.bool (htB vw k a b n R)) ∧ Below w.heap.size w w' := by
  have hml : maxLen = 9223372036854775807 := rfl
  have KM := Lib.hid (fun W (hb : Below w.heap.size w W) => i_measure vw k a b n R lr W (hs.below hb) hf hR hx)
  obtain ⟨_, lq, lcap, rfl, _⟩ := hs
  unfold htB
  generalize msV vw k a b R = m at *
  have HB0 := Lib.hid ((Below.refl w.heap.size w).alloc (Nat.le_refl _) (.cells #[.int .i64 k, .int .i64 a, .int .i64 b, .int .i64 n] 33))
  have Y0 := Lib.hid (cell4_alloc w 33 (.int .i64 k) (.int .i64 a) (.int .i64 b) (.int .i64 n))
  obtain ⟨w0, hw0⟩ : ∃ w0, w0 = w.alloc (.cells #[.int .i64 k, .int .i64 a, .int .i64 b, .int .i64 n] 33) := ⟨_, rfl⟩
  rw [← hw0] at HB0 Y0
  obtain ⟨y0, y1, y2, y3⟩ := Y0.out
  rw [hw0] at y0 y1 y2 y3
  clear hf hx hR
  go_enter Tryd.func42, Tryd.ntmps42
  go_wp2_with fail
  rw [← hw0] at y0 y1 y2 y3 ⊢
  clear hw0
  refine (KM.out _ HB0.out).mono ?_
  rintro e w1 ⟨rfl, hb⟩
  have HB1 := Lib.hid (HB0.out.trans (hb.mono HB0.out.size))
  have Y1 := Lib.hid (Y0.out.below hb)
  clear hb y0 y1 y2 y3
  obtain ⟨y0, y1, y2, y3⟩ := Y1.out
  rcases Decidable.em (m = n) with h | h
  case inl =>
    subst h
    have hz : (m == m) = true := by simp
    go_wp2
    go_ret
    exact ⟨by simp, HB1.out⟩
  case inr =>
    have hz : (m == n) = false := by simpa using h
    rcases Decidable.em (k = 3) with h3 | h3
    case inl =>
      subst h3
      go_wp2
      go_ret
      exact ⟨by simp, HB1.out⟩
    case inr =>
      have hz3 : (k == 3) = false := by simpa using h3
      go_wp2
      go_ret
      exact ⟨by simp [h, h3], HB1.out⟩
set_option maxRecDepth 100000 in
set_option maxHeartbeats 8000000 in
theorem i_fholds (vw vm vi : Int) (L : List InsR) (k a b n : Int) (R : List Int) (s lr : Value) (w : World) (hs : Cs.Shows w 0 4 s L.length (InsR.all L)) (hls : Cs.Shows w 0 1 lr R.length (IntL.all R)) (hok : ∀ r ∈ L, r.Ok) (hL : L.length ≤ maxLen) (hl : R.length ≤ maxLen) (hvar : w.var? Tryd.prog "loop.example/g03219/impl.factForms" = some fmCells) :
    Calls Tryd.prog 15 #[.agg #[.int .i64 vw, .int .i64 vm, .int .i64 vi, s], .agg #[.int .i64 k, .int .i64 a, .int .i64 b, .int .i64 n], lr] w fun e w' => e = .returned (.bool (fhB vw vm vi L k a b n R)) ∧ Below w.heap.size w w' := by
  have hml : maxLen = 9223372036854775807 := rfl
  have K1 := Lib.hid (fun W (hb : Below w.heap.size w W) => i_fact vw vm vi L k a b n s W (hs.below hb) hok hL (forms_below hb hvar))
  have K2 := Lib.hid (fun q c W (hb : Below w.heap.size w W) => i_all vw vm vi q L.length c R 2 (by omega) lr W (hls.below hb) hl hL)
  have K3 := Lib.hid (fun W (hb : Below w.heap.size w W) (hf : FcIn vw k a b n) (hR : R.length = 4) (hx : ∀ y ∈ R, IsW vw y) => i_holds vw k a b n R lr W (hls.below hb) hf hR hx)
  clear hvar
  obtain ⟨_, q, cap, rfl, _⟩ := hs
  obtain ⟨_, lq, lcap, rfl, _⟩ := hls
  obtain ⟨V, hV⟩ : ∃ V, fhB vw vm vi L k a b n R = V := ⟨_, rfl⟩
  rw [hV]
  unfold fhB at hV
  obtain ⟨b1, hb1⟩ : ∃ x, fcB vw vm vi L k a b n = x := ⟨_, rfl⟩
  obtain ⟨b2, hb2⟩ : ∃ x, oprB 2 vw L.length R = x := ⟨_, rfl⟩
  rw [hb1, hb2] at hV
  rw [hb1] at K1
  rw [hb2] at K2
  have HV := Lib.hid hV
  clear hV
  have HB0 := Lib.hid (((Below.refl w.heap.size w).alloc (Nat.le_refl _) (.cells #[.int .i64 vw, .int .i64 vm, .int .i64 vi, .slice q L.length cap] 31)).alloc (by simp) (.cells #[.int .i64 k, .int .i64 a, .int .i64 b, .int .i64 n] 33))
  have X0 := Lib.hid ((cell4_alloc w 31 (.int .i64 vw) (.int .i64 vm) (.int .i64 vi) (.slice q L.length cap)).below ((Below.refl _ _).alloc (Nat.le_refl _) (.cells #[.int .i64 k, .int .i64 a, .int .i64 b, .int .i64 n] 33)))
  have Y0 := Lib.hid (cell4_alloc (w.alloc (.cells #[.int .i64 vw, .int .i64 vm, .int .i64 vi, .slice q L.length cap] 31)) 33 (.int .i64 k) (.int .i64 a) (.int .i64 b) (.int .i64 n))
  rw [show (w.alloc (.cells #[.int .i64 vw, .int .i64 vm, .int .i64 vi, .slice q L.length cap] 31)).heap.size = w.heap.size + 1 by simp] at Y0
  obtain ⟨w0, hw0⟩ : ∃ w0, w0 = (w.alloc (.cells #[.int .i64 vw, .int .i64 vm, .int .i64 vi, .slice q L.length cap] 31)).alloc (.cells #[.int .i64 k, .int .i64 a, .int .i64 b, .int .i64 n] 33) := ⟨_, rfl⟩
  rw [← hw0] at HB0 X0 Y0
  obtain ⟨x0, x1, x2, x3⟩ := X0.out
  obtain ⟨y0, y1, y2, y3⟩ := Y0.out
  rw [hw0] at x0 x1 x2 x3 y0 y1 y2 y3
  go_enter Tryd.func15, Tryd.ntmps15
  go_wp2_with fail
  rw [← hw0] at x0 x1 x2 x3 y0 y1 y2 y3 ⊢
  clear hw0
  refine (K1.out _ HB0.out).mono ?_
  rintro e w1 ⟨rfl, hb⟩
  have HB1 := Lib.hid (HB0.out.trans (hb.mono HB0.out.size))
  have X1 := Lib.hid (X0.out.below hb)
  have Y1 := Lib.hid (Y0.out.below hb)
  clear hb x0 x1 x2 x3 y0 y1 y2 y3
  obtain ⟨x0, x1, x2, x3⟩ := X1.out
  obtain ⟨y0, y1, y2, y3⟩ := Y1.out
  cases b1
  case false =>
    have hv : V = false := HV.out.symm
    subst hv
    go_wp2
    go_ret
    exact ⟨rfl, HB1.out⟩
  case true =>
    by_cases hR : R.length = 4
    · have hR2 : ((R.length : Int) == 4) = true := by simp; omega
      have HRL := Lib.hid hR
      clear hR
      go_wp2_with fail
      refine (K2.out _ _ _ HB1.out).mono ?_
      rintro e w2 ⟨rfl, hb⟩
      have HB2 := Lib.hid (HB1.out.trans (hb.mono HB1.out.size))
      have X2 := Lib.hid (X1.out.below hb)
      have Y2 := Lib.hid (Y1.out.below hb)
      clear hb x0 x1 x2 x3 y0 y1 y2 y3
      obtain ⟨x0, x1, x2, x3⟩ := X2.out
      obtain ⟨y0, y1, y2, y3⟩ := Y2.out
      cases b2
      case false =>
        have hv : V = false := by rw [← HV.out]; simp
        subst hv
        go_wp2
        go_ret
        exact ⟨rfl, HB2.out⟩
      case true =>
        have hR := HRL.out
        clear HRL
        have hx : ∀ y ∈ R, IsW vw y := fun y hy => isW_of (by have := List.all_eq_true.1 hb2 y hy; rw [opB_word] at this; exact this)
        have HF := Lib.hid (fc_facts hb1).2
        have hv : V = htB vw k a b n R := by rw [← HV.out, show decide ((R.length : Int) = 4) = true from decide_eq_true (by omega)]; rfl
        have KV := Lib.hid (fun W (hb : Below w.heap.size w W) => show Calls Tryd.prog 42 #[.agg #[.int .i64 k, .int .i64 a, .int .i64 b, .int .i64 n], .int .i64 vw, .slice lq R.length lcap] W fun e w' => e = .returned (.bool V) ∧ Below W.heap.size W w' by rw [hv]; exact K3.out W hb HF.out hR hx)
        clear hv HV K3 hx hb2 HF hR hR2
        go_wp2_with fail
        refine (KV.out _ HB2.out).mono ?_
        rintro e w3 ⟨rfl, hb⟩
        have HB3 := Lib.hid (HB2.out.trans (hb.mono HB2.out.size))
        clear hb
        go_wp2
        go_ret
        exact ⟨rfl, HB3.out⟩
    · have hR2 : ((R.length : Int) == 4) = false := by simp; omega
      have hv : V = false := by rw [← HV.out, show decide ((R.length : Int) = 4) = false from decide_eq_false (by omega)]; rfl
      subst hv
      go_wp2
      go_ret
      exact ⟨rfl, HB1.out⟩
end Go.Proofs.YtcihgechijiamaaDoor
