/- What the specification's l08True and FactHolds return. No condition. -/
import Derived.Test.YtcihgechijiamaaDoorFhM
import Derived.Test.YtcihgechijiamaaDoorFcS
import Derived.Test.YtcihgechijiamaaDoorInW
import Derived.Deep.QuietTactic
import Derived.BigQuiet
namespace Go.Proofs.YtcihgechijiamaaDoor
open Go.ChangeShapes Go.WideShapes Go.ChangeAt Go.RowKit
set_option maxRecDepth 100000 in
theorem s_wordOf (x y : Int) (h1 : 1 ≤ x) (h2 : x ≤ 16) (w : World) : Calls Tryd.prog 71 #[.int .i64 x, .int .i64 y] w fun e w' => e = .returned (.int .i64 (mask x y)) ∧ w = w' := by
  obtain ⟨hp1, hp2⟩ := pw x h1 h2
  go_enter Tryd.func71, Tryd.ntmps71
  go_wp2
  go_ret
  exact ⟨rfl, rfl⟩
set_option maxRecDepth 100000 in
set_option maxHeartbeats 8000000 in
theorem s_true1 (vw vm vi : Int) (nL : Nat) (q : Option Addr) (cap : Nat) (a b n : Int) (R : List Int) (lr : Value) (w : World) (hs : Cs.Shows w 0 1 lr R.length (IntL.all R)) (hf : FcIn vw 1 a b n) (hR : R.length = 4) (hx : ∀ y ∈ R, IsW vw y) :
    Calls Tryd.prog 40 #[.agg #[.int .i64 vw, .int .i64 vm, .int .i64 vi, .slice q nL cap], .agg #[.int .i64 1, .int .i64 a, .int .i64 b, .int .i64 n], lr] w fun e w' => e = .returned (.bool (stB vw 1 a b n R)) ∧ Below w.heap.size w w' := by
  have hml : maxLen = 9223372036854775807 := rfl
  have HS := Lib.hid hs
  obtain ⟨_, lq, lcap, rfl, _⟩ := hs
  have HR : Hid (∀ i : Int, 0 ≤ i → i ≤ 3 → ∃ (j : Nat) (bo oo : Nat), i = j ∧ j < 4 ∧ lq = some ⟨bo, oo, none⟩ ∧ bo < w.heap.size ∧ ∀ W, Below w.heap.size w W → W.cell? ⟨bo, oo + j, none⟩ = some (.int .i64 (atI R i))) := Lib.hid (fun i h0 h3 => by
    obtain ⟨j, rfl⟩ : ∃ j : Nat, i = j := ⟨i.toNat, by omega⟩
    rcases Cs.shows_cases HS.out with ⟨h0, _⟩ | ⟨_, bo, oo, c, hq, _, _, hbl, hr⟩
    · omega
    · injection hq with e1 e2 e3
      refine ⟨j, bo, oo, rfl, by omega, e1, hbl, fun W hW => ?_⟩
      rw [at_get (show j < R.length by omega)]
      exact IntL.nth R j (by omega) (rangeAt_below hW hr))
  have HB0 := Lib.hid (((Below.refl w.heap.size w).alloc (Nat.le_refl _) (.cells #[.int .i64 vw, .int .i64 vm, .int .i64 vi, .slice q nL cap] 31)).alloc (by simp) (.cells #[.int .i64 1, .int .i64 a, .int .i64 b, .int .i64 n] 33))
  have X0 := Lib.hid ((cell4_alloc w 31 (.int .i64 vw) (.int .i64 vm) (.int .i64 vi) (.slice q nL cap)).below ((Below.refl _ _).alloc (Nat.le_refl _) (.cells #[.int .i64 1, .int .i64 a, .int .i64 b, .int .i64 n] 33)))
  have Y0 := Lib.hid (cell4_alloc (w.alloc (.cells #[.int .i64 vw, .int .i64 vm, .int .i64 vi, .slice q nL cap] 31)) 33 (.int .i64 1) (.int .i64 a) (.int .i64 b) (.int .i64 n))
  rw [show (w.alloc (.cells #[.int .i64 vw, .int .i64 vm, .int .i64 vi, .slice q nL cap] 31)).heap.size = w.heap.size + 1 by simp] at Y0
  obtain ⟨w0, hw0⟩ : ∃ w0, w0 = (w.alloc (.cells #[.int .i64 vw, .int .i64 vm, .int .i64 vi, .slice q nL cap] 31)).alloc (.cells #[.int .i64 1, .int .i64 a, .int .i64 b, .int .i64 n] 33) := ⟨_, rfl⟩
  have hs0 : w0.heap.size = w.heap.size + 2 := by rw [hw0]; simp
  rw [← hw0] at HB0 X0 Y0
  obtain ⟨ja, bo, oo, hja, hj4, rfl, hbl, hc⟩ := HR.out a hf.ha.1 hf.ha.2
  have g0 := hc w0 HB0.out
  have HWA := hx _ (at_mem hR hf.ha.1 hf.ha.2)
  have hbw : bo < w0.heap.size := by omega
  clear hc HR HS
  obtain ⟨x0, x1, x2, x3⟩ := X0.out
  obtain ⟨y0, y1, y2, y3⟩ := Y0.out
  show Calls _ _ _ _ fun e w' => e = .returned (.bool (decide (atI R a = n))) ∧ _
  obtain ⟨h1, h16, hxa0, hxa1⟩ := HWA
  obtain ⟨hp1, hp2⟩ := pw vw h1 h16
  have hz1 : w.heap.size < w0.heap.size := by omega
  have hz2 : w.heap.size + 1 < w0.heap.size := by omega
  clear hf hx
  generalize atI R a = X at *
  subst hja
  rw [hw0] at x0 x1 x2 x3 y0 y1 y2 y3 g0 hbw
  go_enter Tryd.func40, Tryd.ntmps40
  go_wp2
  go_ret
  rw [← hw0]
  exact ⟨rfl, HB0.out⟩
set_option maxRecDepth 100000 in
set_option maxHeartbeats 8000000 in
theorem s_true2 (vw vm vi : Int) (nL : Nat) (q : Option Addr) (cap : Nat) (a b n : Int) (R : List Int) (lr : Value) (w : World) (hs : Cs.Shows w 0 1 lr R.length (IntL.all R)) (hf : FcIn vw 2 a b n) (hR : R.length = 4) (hx : ∀ y ∈ R, IsW vw y) :
    Calls Tryd.prog 40 #[.agg #[.int .i64 vw, .int .i64 vm, .int .i64 vi, .slice q nL cap], .agg #[.int .i64 2, .int .i64 a, .int .i64 b, .int .i64 n], lr] w fun e w' => e = .returned (.bool (stB vw 2 a b n R)) ∧ Below w.heap.size w w' := by
  have hml : maxLen = 9223372036854775807 := rfl
  have HS := Lib.hid hs
  obtain ⟨_, lq, lcap, rfl, _⟩ := hs
  have HR : Hid (∀ i : Int, 0 ≤ i → i ≤ 3 → ∃ (j : Nat) (bo oo : Nat), i = j ∧ j < 4 ∧ lq = some ⟨bo, oo, none⟩ ∧ bo < w.heap.size ∧ ∀ W, Below w.heap.size w W → W.cell? ⟨bo, oo + j, none⟩ = some (.int .i64 (atI R i))) := Lib.hid (fun i h0 h3 => by
    obtain ⟨j, rfl⟩ : ∃ j : Nat, i = j := ⟨i.toNat, by omega⟩
    rcases Cs.shows_cases HS.out with ⟨h0, _⟩ | ⟨_, bo, oo, c, hq, _, _, hbl, hr⟩
    · omega
    · injection hq with e1 e2 e3
      refine ⟨j, bo, oo, rfl, by omega, e1, hbl, fun W hW => ?_⟩
      rw [at_get (show j < R.length by omega)]
      exact IntL.nth R j (by omega) (rangeAt_below hW hr))
  have HB0 := Lib.hid (((Below.refl w.heap.size w).alloc (Nat.le_refl _) (.cells #[.int .i64 vw, .int .i64 vm, .int .i64 vi, .slice q nL cap] 31)).alloc (by simp) (.cells #[.int .i64 2, .int .i64 a, .int .i64 b, .int .i64 n] 33))
  have X0 := Lib.hid ((cell4_alloc w 31 (.int .i64 vw) (.int .i64 vm) (.int .i64 vi) (.slice q nL cap)).below ((Below.refl _ _).alloc (Nat.le_refl _) (.cells #[.int .i64 2, .int .i64 a, .int .i64 b, .int .i64 n] 33)))
  have Y0 := Lib.hid (cell4_alloc (w.alloc (.cells #[.int .i64 vw, .int .i64 vm, .int .i64 vi, .slice q nL cap] 31)) 33 (.int .i64 2) (.int .i64 a) (.int .i64 b) (.int .i64 n))
  rw [show (w.alloc (.cells #[.int .i64 vw, .int .i64 vm, .int .i64 vi, .slice q nL cap] 31)).heap.size = w.heap.size + 1 by simp] at Y0
  obtain ⟨w0, hw0⟩ : ∃ w0, w0 = (w.alloc (.cells #[.int .i64 vw, .int .i64 vm, .int .i64 vi, .slice q nL cap] 31)).alloc (.cells #[.int .i64 2, .int .i64 a, .int .i64 b, .int .i64 n] 33) := ⟨_, rfl⟩
  have hs0 : w0.heap.size = w.heap.size + 2 := by rw [hw0]; simp
  rw [← hw0] at HB0 X0 Y0
  obtain ⟨ja, bo, oo, hja, hj4, rfl, hbl, hc⟩ := HR.out a hf.ha.1 hf.ha.2
  have g0 := hc w0 HB0.out
  have HWA := hx _ (at_mem hR hf.ha.1 hf.ha.2)
  obtain ⟨jb, bo2, oo2, hjb, hj4b, hq2, _, hc2⟩ := HR.out b (hf.hb (by omega)).1 (hf.hb (by omega)).2
  have HWB := hx _ (at_mem hR (hf.hb (by omega)).1 (hf.hb (by omega)).2)
  cases hq2
  have g1 := hc2 w0 HB0.out
  have hbw : bo < w0.heap.size := by omega
  clear hc HR HS
  clear hc2
  obtain ⟨x0, x1, x2, x3⟩ := X0.out
  obtain ⟨y0, y1, y2, y3⟩ := Y0.out
  show Calls _ _ _ _ fun e w' => e = .returned (.bool (decide (atI R a = atI R b))) ∧ _
  obtain ⟨h1, h16, hxa0, hxa1⟩ := HWA
  obtain ⟨hp1, hp2⟩ := pw vw h1 h16
  obtain ⟨_, _, hxb0, hxb1⟩ := HWB
  have hz1 : w.heap.size < w0.heap.size := by omega
  have hz2 : w.heap.size + 1 < w0.heap.size := by omega
  clear hf hx
  generalize atI R a = X at *
  generalize atI R b = Y at *
  subst hja
  subst hjb
  rw [hw0] at x0 x1 x2 x3 y0 y1 y2 y3 g0 g1 hbw
  go_enter Tryd.func40, Tryd.ntmps40
  go_wp2
  go_ret
  rw [← hw0]
  exact ⟨rfl, HB0.out⟩
set_option maxRecDepth 100000 in
set_option maxHeartbeats 8000000 in
theorem s_true3 (vw vm vi : Int) (nL : Nat) (q : Option Addr) (cap : Nat) (a b n : Int) (R : List Int) (lr : Value) (w : World) (hs : Cs.Shows w 0 1 lr R.length (IntL.all R)) (hf : FcIn vw 3 a b n) (hR : R.length = 4) (hx : ∀ y ∈ R, IsW vw y) :
    Calls Tryd.prog 40 #[.agg #[.int .i64 vw, .int .i64 vm, .int .i64 vi, .slice q nL cap], .agg #[.int .i64 3, .int .i64 a, .int .i64 b, .int .i64 n], lr] w fun e w' => e = .returned (.bool (stB vw 3 a b n R)) ∧ Below w.heap.size w w' := by
  have hml : maxLen = 9223372036854775807 := rfl
  have HS := Lib.hid hs
  obtain ⟨_, lq, lcap, rfl, _⟩ := hs
  have HR : Hid (∀ i : Int, 0 ≤ i → i ≤ 3 → ∃ (j : Nat) (bo oo : Nat), i = j ∧ j < 4 ∧ lq = some ⟨bo, oo, none⟩ ∧ bo < w.heap.size ∧ ∀ W, Below w.heap.size w W → W.cell? ⟨bo, oo + j, none⟩ = some (.int .i64 (atI R i))) := Lib.hid (fun i h0 h3 => by
    obtain ⟨j, rfl⟩ : ∃ j : Nat, i = j := ⟨i.toNat, by omega⟩
    rcases Cs.shows_cases HS.out with ⟨h0, _⟩ | ⟨_, bo, oo, c, hq, _, _, hbl, hr⟩
    · omega
    · injection hq with e1 e2 e3
      refine ⟨j, bo, oo, rfl, by omega, e1, hbl, fun W hW => ?_⟩
      rw [at_get (show j < R.length by omega)]
      exact IntL.nth R j (by omega) (rangeAt_below hW hr))
  have HB0 := Lib.hid (((Below.refl w.heap.size w).alloc (Nat.le_refl _) (.cells #[.int .i64 vw, .int .i64 vm, .int .i64 vi, .slice q nL cap] 31)).alloc (by simp) (.cells #[.int .i64 3, .int .i64 a, .int .i64 b, .int .i64 n] 33))
  have X0 := Lib.hid ((cell4_alloc w 31 (.int .i64 vw) (.int .i64 vm) (.int .i64 vi) (.slice q nL cap)).below ((Below.refl _ _).alloc (Nat.le_refl _) (.cells #[.int .i64 3, .int .i64 a, .int .i64 b, .int .i64 n] 33)))
  have Y0 := Lib.hid (cell4_alloc (w.alloc (.cells #[.int .i64 vw, .int .i64 vm, .int .i64 vi, .slice q nL cap] 31)) 33 (.int .i64 3) (.int .i64 a) (.int .i64 b) (.int .i64 n))
  rw [show (w.alloc (.cells #[.int .i64 vw, .int .i64 vm, .int .i64 vi, .slice q nL cap] 31)).heap.size = w.heap.size + 1 by simp] at Y0
  obtain ⟨w0, hw0⟩ : ∃ w0, w0 = (w.alloc (.cells #[.int .i64 vw, .int .i64 vm, .int .i64 vi, .slice q nL cap] 31)).alloc (.cells #[.int .i64 3, .int .i64 a, .int .i64 b, .int .i64 n] 33) := ⟨_, rfl⟩
  have hs0 : w0.heap.size = w.heap.size + 2 := by rw [hw0]; simp
  rw [← hw0] at HB0 X0 Y0
  obtain ⟨ja, bo, oo, hja, hj4, rfl, hbl, hc⟩ := HR.out a hf.ha.1 hf.ha.2
  have g0 := hc w0 HB0.out
  have HWA := hx _ (at_mem hR hf.ha.1 hf.ha.2)
  have hbw : bo < w0.heap.size := by omega
  clear hc HR HS
  obtain ⟨x0, x1, x2, x3⟩ := X0.out
  obtain ⟨y0, y1, y2, y3⟩ := Y0.out
  show Calls _ _ _ _ fun e w' => e = .returned (.bool (decide (atI R a ≤ n))) ∧ _
  obtain ⟨h1, h16, hxa0, hxa1⟩ := HWA
  obtain ⟨hp1, hp2⟩ := pw vw h1 h16
  have hz1 : w.heap.size < w0.heap.size := by omega
  have hz2 : w.heap.size + 1 < w0.heap.size := by omega
  clear hf hx
  generalize atI R a = X at *
  subst hja
  rw [hw0] at x0 x1 x2 x3 y0 y1 y2 y3 g0 hbw
  go_enter Tryd.func40, Tryd.ntmps40
  go_wp2
  go_ret
  rw [← hw0]
  exact ⟨rfl, HB0.out⟩
set_option maxRecDepth 100000 in
set_option maxHeartbeats 8000000 in
theorem s_true4 (vw vm vi : Int) (nL : Nat) (q : Option Addr) (cap : Nat) (a b n : Int) (R : List Int) (lr : Value) (w : World) (hs : Cs.Shows w 0 1 lr R.length (IntL.all R)) (hf : FcIn vw 4 a b n) (hR : R.length = 4) (hx : ∀ y ∈ R, IsW vw y) :
    Calls Tryd.prog 40 #[.agg #[.int .i64 vw, .int .i64 vm, .int .i64 vi, .slice q nL cap], .agg #[.int .i64 4, .int .i64 a, .int .i64 b, .int .i64 n], lr] w fun e w' => e = .returned (.bool (stB vw 4 a b n R)) ∧ Below w.heap.size w w' := by
  have hml : maxLen = 9223372036854775807 := rfl
  have HS := Lib.hid hs
  obtain ⟨_, lq, lcap, rfl, _⟩ := hs
  have HR : Hid (∀ i : Int, 0 ≤ i → i ≤ 3 → ∃ (j : Nat) (bo oo : Nat), i = j ∧ j < 4 ∧ lq = some ⟨bo, oo, none⟩ ∧ bo < w.heap.size ∧ ∀ W, Below w.heap.size w W → W.cell? ⟨bo, oo + j, none⟩ = some (.int .i64 (atI R i))) := Lib.hid (fun i h0 h3 => by
    obtain ⟨j, rfl⟩ : ∃ j : Nat, i = j := ⟨i.toNat, by omega⟩
    rcases Cs.shows_cases HS.out with ⟨h0, _⟩ | ⟨_, bo, oo, c, hq, _, _, hbl, hr⟩
    · omega
    · injection hq with e1 e2 e3
      refine ⟨j, bo, oo, rfl, by omega, e1, hbl, fun W hW => ?_⟩
      rw [at_get (show j < R.length by omega)]
      exact IntL.nth R j (by omega) (rangeAt_below hW hr))
  have HB0 := Lib.hid (((Below.refl w.heap.size w).alloc (Nat.le_refl _) (.cells #[.int .i64 vw, .int .i64 vm, .int .i64 vi, .slice q nL cap] 31)).alloc (by simp) (.cells #[.int .i64 4, .int .i64 a, .int .i64 b, .int .i64 n] 33))
  have X0 := Lib.hid ((cell4_alloc w 31 (.int .i64 vw) (.int .i64 vm) (.int .i64 vi) (.slice q nL cap)).below ((Below.refl _ _).alloc (Nat.le_refl _) (.cells #[.int .i64 4, .int .i64 a, .int .i64 b, .int .i64 n] 33)))
  have Y0 := Lib.hid (cell4_alloc (w.alloc (.cells #[.int .i64 vw, .int .i64 vm, .int .i64 vi, .slice q nL cap] 31)) 33 (.int .i64 4) (.int .i64 a) (.int .i64 b) (.int .i64 n))
  rw [show (w.alloc (.cells #[.int .i64 vw, .int .i64 vm, .int .i64 vi, .slice q nL cap] 31)).heap.size = w.heap.size + 1 by simp] at Y0
  obtain ⟨w0, hw0⟩ : ∃ w0, w0 = (w.alloc (.cells #[.int .i64 vw, .int .i64 vm, .int .i64 vi, .slice q nL cap] 31)).alloc (.cells #[.int .i64 4, .int .i64 a, .int .i64 b, .int .i64 n] 33) := ⟨_, rfl⟩
  have hs0 : w0.heap.size = w.heap.size + 2 := by rw [hw0]; simp
  rw [← hw0] at HB0 X0 Y0
  obtain ⟨ja, bo, oo, hja, hj4, rfl, hbl, hc⟩ := HR.out a hf.ha.1 hf.ha.2
  have g0 := hc w0 HB0.out
  have HWA := hx _ (at_mem hR hf.ha.1 hf.ha.2)
  have hbw : bo < w0.heap.size := by omega
  clear hc HR HS
  obtain ⟨x0, x1, x2, x3⟩ := X0.out
  obtain ⟨y0, y1, y2, y3⟩ := Y0.out
  have hb4 := hf.hb4 rfl
  show Calls _ _ _ _ fun e w' => e = .returned (.bool (decide (bits .and .i64 (atI R a / 2 ^ b.toNat) 1 = n))) ∧ _
  obtain ⟨h1, h16, hxa0, hxa1⟩ := HWA
  obtain ⟨hp1, hp2⟩ := pw vw h1 h16
  have hz1 : w.heap.size < w0.heap.size := by omega
  have hz2 : w.heap.size + 1 < w0.heap.size := by omega
  clear hf hx
  generalize atI R a = X at *
  subst hja
  rw [hw0] at x0 x1 x2 x3 y0 y1 y2 y3 g0 hbw
  go_enter Tryd.func40, Tryd.ntmps40
  go_wp2
  go_quiet (fail)
  go_wp2
  go_ret
  rw [← hw0]
  exact ⟨rfl, below_drewN HB0.out _⟩
set_option maxRecDepth 100000 in
set_option maxHeartbeats 8000000 in
theorem s_true5 (vw vm vi : Int) (nL : Nat) (q : Option Addr) (cap : Nat) (a b n : Int) (R : List Int) (lr : Value) (w : World) (hs : Cs.Shows w 0 1 lr R.length (IntL.all R)) (hf : FcIn vw 5 a b n) (hR : R.length = 4) (hx : ∀ y ∈ R, IsW vw y) :
    Calls Tryd.prog 40 #[.agg #[.int .i64 vw, .int .i64 vm, .int .i64 vi, .slice q nL cap], .agg #[.int .i64 5, .int .i64 a, .int .i64 b, .int .i64 n], lr] w fun e w' => e = .returned (.bool (stB vw 5 a b n R)) ∧ Below w.heap.size w w' := by
  have hml : maxLen = 9223372036854775807 := rfl
  have HS := Lib.hid hs
  obtain ⟨_, lq, lcap, rfl, _⟩ := hs
  have HR : Hid (∀ i : Int, 0 ≤ i → i ≤ 3 → ∃ (j : Nat) (bo oo : Nat), i = j ∧ j < 4 ∧ lq = some ⟨bo, oo, none⟩ ∧ bo < w.heap.size ∧ ∀ W, Below w.heap.size w W → W.cell? ⟨bo, oo + j, none⟩ = some (.int .i64 (atI R i))) := Lib.hid (fun i h0 h3 => by
    obtain ⟨j, rfl⟩ : ∃ j : Nat, i = j := ⟨i.toNat, by omega⟩
    rcases Cs.shows_cases HS.out with ⟨h0, _⟩ | ⟨_, bo, oo, c, hq, _, _, hbl, hr⟩
    · omega
    · injection hq with e1 e2 e3
      refine ⟨j, bo, oo, rfl, by omega, e1, hbl, fun W hW => ?_⟩
      rw [at_get (show j < R.length by omega)]
      exact IntL.nth R j (by omega) (rangeAt_below hW hr))
  have HB0 := Lib.hid (((Below.refl w.heap.size w).alloc (Nat.le_refl _) (.cells #[.int .i64 vw, .int .i64 vm, .int .i64 vi, .slice q nL cap] 31)).alloc (by simp) (.cells #[.int .i64 5, .int .i64 a, .int .i64 b, .int .i64 n] 33))
  have X0 := Lib.hid ((cell4_alloc w 31 (.int .i64 vw) (.int .i64 vm) (.int .i64 vi) (.slice q nL cap)).below ((Below.refl _ _).alloc (Nat.le_refl _) (.cells #[.int .i64 5, .int .i64 a, .int .i64 b, .int .i64 n] 33)))
  have Y0 := Lib.hid (cell4_alloc (w.alloc (.cells #[.int .i64 vw, .int .i64 vm, .int .i64 vi, .slice q nL cap] 31)) 33 (.int .i64 5) (.int .i64 a) (.int .i64 b) (.int .i64 n))
  rw [show (w.alloc (.cells #[.int .i64 vw, .int .i64 vm, .int .i64 vi, .slice q nL cap] 31)).heap.size = w.heap.size + 1 by simp] at Y0
  obtain ⟨w0, hw0⟩ : ∃ w0, w0 = (w.alloc (.cells #[.int .i64 vw, .int .i64 vm, .int .i64 vi, .slice q nL cap] 31)).alloc (.cells #[.int .i64 5, .int .i64 a, .int .i64 b, .int .i64 n] 33) := ⟨_, rfl⟩
  have hs0 : w0.heap.size = w.heap.size + 2 := by rw [hw0]; simp
  rw [← hw0] at HB0 X0 Y0
  obtain ⟨ja, bo, oo, hja, hj4, rfl, hbl, hc⟩ := HR.out a hf.ha.1 hf.ha.2
  have g0 := hc w0 HB0.out
  have HWA := hx _ (at_mem hR hf.ha.1 hf.ha.2)
  obtain ⟨jb, bo2, oo2, hjb, hj4b, hq2, _, hc2⟩ := HR.out b (hf.hb (by omega)).1 (hf.hb (by omega)).2
  have HWB := hx _ (at_mem hR (hf.hb (by omega)).1 (hf.hb (by omega)).2)
  cases hq2
  have g1 := hc2 w0 HB0.out
  have hbw : bo < w0.heap.size := by omega
  clear hc HR HS
  clear hc2
  obtain ⟨x0, x1, x2, x3⟩ := X0.out
  obtain ⟨y0, y1, y2, y3⟩ := Y0.out
  have KW := Lib.hid (fun y W => s_wordOf vw y (by have := hf.hw; omega) (by have := hf.hw; omega) W)
  show Calls _ _ _ _ fun e w' => e = .returned (.bool (decide (mask vw (atI R a + atI R b) = n))) ∧ _
  obtain ⟨h1, h16, hxa0, hxa1⟩ := HWA
  obtain ⟨hp1, hp2⟩ := pw vw h1 h16
  obtain ⟨_, _, hxb0, hxb1⟩ := HWB
  have hz1 : w.heap.size < w0.heap.size := by omega
  have hz2 : w.heap.size + 1 < w0.heap.size := by omega
  clear hf hx
  generalize atI R a = X at *
  generalize atI R b = Y at *
  subst hja
  subst hjb
  rw [hw0] at x0 x1 x2 x3 y0 y1 y2 y3 g0 g1 hbw
  go_enter Tryd.func40, Tryd.ntmps40
  go_wp2
  go_quiet ((go_at_call 71; exact q_left (KW.out _ _)))
  go_wp2
  go_ret
  rw [← hw0]
  exact ⟨rfl, below_drewN HB0.out _⟩
set_option maxRecDepth 100000 in
set_option maxHeartbeats 8000000 in
theorem s_true6 (vw vm vi : Int) (nL : Nat) (q : Option Addr) (cap : Nat) (a b n : Int) (R : List Int) (lr : Value) (w : World) (hs : Cs.Shows w 0 1 lr R.length (IntL.all R)) (hf : FcIn vw 6 a b n) (hR : R.length = 4) (hx : ∀ y ∈ R, IsW vw y) :
    Calls Tryd.prog 40 #[.agg #[.int .i64 vw, .int .i64 vm, .int .i64 vi, .slice q nL cap], .agg #[.int .i64 6, .int .i64 a, .int .i64 b, .int .i64 n], lr] w fun e w' => e = .returned (.bool (stB vw 6 a b n R)) ∧ Below w.heap.size w w' := by
  have hml : maxLen = 9223372036854775807 := rfl
  have HS := Lib.hid hs
  obtain ⟨_, lq, lcap, rfl, _⟩ := hs
  have HR : Hid (∀ i : Int, 0 ≤ i → i ≤ 3 → ∃ (j : Nat) (bo oo : Nat), i = j ∧ j < 4 ∧ lq = some ⟨bo, oo, none⟩ ∧ bo < w.heap.size ∧ ∀ W, Below w.heap.size w W → W.cell? ⟨bo, oo + j, none⟩ = some (.int .i64 (atI R i))) := Lib.hid (fun i h0 h3 => by
    obtain ⟨j, rfl⟩ : ∃ j : Nat, i = j := ⟨i.toNat, by omega⟩
    rcases Cs.shows_cases HS.out with ⟨h0, _⟩ | ⟨_, bo, oo, c, hq, _, _, hbl, hr⟩
    · omega
    · injection hq with e1 e2 e3
      refine ⟨j, bo, oo, rfl, by omega, e1, hbl, fun W hW => ?_⟩
      rw [at_get (show j < R.length by omega)]
      exact IntL.nth R j (by omega) (rangeAt_below hW hr))
  have HB0 := Lib.hid (((Below.refl w.heap.size w).alloc (Nat.le_refl _) (.cells #[.int .i64 vw, .int .i64 vm, .int .i64 vi, .slice q nL cap] 31)).alloc (by simp) (.cells #[.int .i64 6, .int .i64 a, .int .i64 b, .int .i64 n] 33))
  have X0 := Lib.hid ((cell4_alloc w 31 (.int .i64 vw) (.int .i64 vm) (.int .i64 vi) (.slice q nL cap)).below ((Below.refl _ _).alloc (Nat.le_refl _) (.cells #[.int .i64 6, .int .i64 a, .int .i64 b, .int .i64 n] 33)))
  have Y0 := Lib.hid (cell4_alloc (w.alloc (.cells #[.int .i64 vw, .int .i64 vm, .int .i64 vi, .slice q nL cap] 31)) 33 (.int .i64 6) (.int .i64 a) (.int .i64 b) (.int .i64 n))
  rw [show (w.alloc (.cells #[.int .i64 vw, .int .i64 vm, .int .i64 vi, .slice q nL cap] 31)).heap.size = w.heap.size + 1 by simp] at Y0
  obtain ⟨w0, hw0⟩ : ∃ w0, w0 = (w.alloc (.cells #[.int .i64 vw, .int .i64 vm, .int .i64 vi, .slice q nL cap] 31)).alloc (.cells #[.int .i64 6, .int .i64 a, .int .i64 b, .int .i64 n] 33) := ⟨_, rfl⟩
  have hs0 : w0.heap.size = w.heap.size + 2 := by rw [hw0]; simp
  rw [← hw0] at HB0 X0 Y0
  obtain ⟨ja, bo, oo, hja, hj4, rfl, hbl, hc⟩ := HR.out a hf.ha.1 hf.ha.2
  have g0 := hc w0 HB0.out
  have HWA := hx _ (at_mem hR hf.ha.1 hf.ha.2)
  obtain ⟨jb, bo2, oo2, hjb, hj4b, hq2, _, hc2⟩ := HR.out b (hf.hb (by omega)).1 (hf.hb (by omega)).2
  have HWB := hx _ (at_mem hR (hf.hb (by omega)).1 (hf.hb (by omega)).2)
  cases hq2
  have g1 := hc2 w0 HB0.out
  have hbw : bo < w0.heap.size := by omega
  clear hc HR HS
  clear hc2
  obtain ⟨x0, x1, x2, x3⟩ := X0.out
  obtain ⟨y0, y1, y2, y3⟩ := Y0.out
  show Calls _ _ _ _ fun e w' => e = .returned (.bool (decide (atI R a ≤ atI R b))) ∧ _
  obtain ⟨h1, h16, hxa0, hxa1⟩ := HWA
  obtain ⟨hp1, hp2⟩ := pw vw h1 h16
  obtain ⟨_, _, hxb0, hxb1⟩ := HWB
  have hz1 : w.heap.size < w0.heap.size := by omega
  have hz2 : w.heap.size + 1 < w0.heap.size := by omega
  clear hf hx
  generalize atI R a = X at *
  generalize atI R b = Y at *
  subst hja
  subst hjb
  rw [hw0] at x0 x1 x2 x3 y0 y1 y2 y3 g0 g1 hbw
  go_enter Tryd.func40, Tryd.ntmps40
  go_wp2
  go_ret
  rw [← hw0]
  exact ⟨rfl, HB0.out⟩
theorem s_true (vw vm vi : Int) (nL : Nat) (q : Option Addr) (cap : Nat) (k a b n : Int) (R : List Int) (lr : Value) (w : World) (hs : Cs.Shows w 0 1 lr R.length (IntL.all R)) (hf : FcIn vw k a b n) (hR : R.length = 4) (hx : ∀ y ∈ R, IsW vw y) :
    Calls Tryd.prog 40 #[.agg #[.int .i64 vw, .int .i64 vm, .int .i64 vi, .slice q nL cap], .agg #[.int .i64 k, .int .i64 a, .int .i64 b, .int .i64 n], lr] w fun e w' => e = .returned (.bool (stB vw k a b n R)) ∧ Below w.heap.size w w' := by
  have hk := hf.hk
  rcases hk with rfl | rfl | rfl | rfl | rfl | rfl
  · exact s_true1 vw vm vi nL q cap a b n R lr w hs hf hR hx
  · exact s_true2 vw vm vi nL q cap a b n R lr w hs hf hR hx
  · exact s_true3 vw vm vi nL q cap a b n R lr w hs hf hR hx
  · exact s_true4 vw vm vi nL q cap a b n R lr w hs hf hR hx
  · exact s_true5 vw vm vi nL q cap a b n R lr w hs hf hR hx
  · exact s_true6 vw vm vi nL q cap a b n R lr w hs hf hR hx
set_option maxRecDepth 100000 in
set_option maxHeartbeats 8000000 in
theorem s_fholds (vw vm vi : Int) (L : List InsR) (k a b n : Int) (R : List Int) (s lr : Value) (w : World) (hs : Cs.Shows w 0 4 s L.length (InsR.all L)) (hls : Cs.Shows w 0 1 lr R.length (IntL.all R)) (hok : ∀ r ∈ L, r.Ok) (hL : L.length ≤ maxLen) (hl : R.length ≤ maxLen) :
    Calls Tryd.prog 13 #[.agg #[.int .i64 vw, .int .i64 vm, .int .i64 vi, s], .agg #[.int .i64 k, .int .i64 a, .int .i64 b, .int .i64 n], lr] w fun e w' => e = .returned (.bool (fhB vw vm vi L k a b n R)) ∧ Below w.heap.size w w' := by
  have hml : maxLen = 9223372036854775807 := rfl
  have K1 := Lib.hid (fun W (hb : Below w.heap.size w W) => s_fact vw vm vi L k a b n s W (hs.below hb) hok hL)
  have K2 := Lib.hid (fun W (hb : Below w.heap.size w W) => s_words R 4 vw L.length lr W (hls.below hb) hl)
  have K3 := Lib.hid (fun q c W (hb : Below w.heap.size w W) (hf : FcIn vw k a b n) (hR : R.length = 4) (hx : ∀ y ∈ R, IsW vw y) => s_true vw vm vi L.length q c k a b n R lr W (hls.below hb) hf hR hx)
  obtain ⟨_, q, cap, rfl, _⟩ := hs
  obtain ⟨_, lq, lcap, rfl, _⟩ := hls
  obtain ⟨V, hV⟩ : ∃ V, fhB vw vm vi L k a b n R = V := ⟨_, rfl⟩
  rw [hV]
  unfold fhB at hV
  obtain ⟨b1, hb1⟩ : ∃ x, fcB vw vm vi L k a b n = x := ⟨_, rfl⟩
  obtain ⟨b2, hb2⟩ : ∃ x, (decide ((R.length : Int) = 4) && oprB 2 vw L.length R) = x := ⟨_, rfl⟩
  rw [hb1, hb2] at hV
  rw [hb1] at K1
  rw [hb2] at K2
  have HV := Lib.hid hV
  clear hV
  have HB0 := Lib.hid (((Below.refl w.heap.size w).alloc (Nat.le_refl _) (.cells #[.int .i64 vw, .int .i64 vm, .int .i64 vi, .slice q L.length cap] 31)).alloc (by simp) (.cells #[.int .i64 k, .int .i64 a, .int .i64 b, .int .i64 n] 33))
  have X0 := Lib.hid ((cell4_alloc w 31 (.int .i64 vw) (.int .i64 vm) (.int .i64 vi) (.slice q L.length cap)).below ((Below.refl _ _).alloc (Nat.le_refl _) (.cells #[.int .i64 k, .int .i64 a, .int .i64 b, .int .i64 n] 33)))
  have Y0 := Lib.hid (cell4_alloc (w.alloc (.cells #[.int .i64 vw, .int .i64 vm, .int .i64 vi, .slice q L.length cap] 31)) 33 (.int .i64 k) (.int .i64 a) (.int .i64 b) (.int .i64 n))
  rw [show (w.alloc (.cells #[.int .i64 vw, .int .i64 vm, .int .i64 vi, .slice q L.length cap] 31)).heap.size = w.heap.size + 1 by simp] at Y0
  obtain ⟨w0, hw0⟩ : ∃ w0, w0 = (w.alloc (.cells #[.int .i64 vw, .int .i64 vm, .int .i64 vi, .slice q L.length cap] 31)).alloc (.cells #[.int .i64 k, .int .i64 a, .int .i64 b, .int .i64 n] 33) := ⟨_, rfl⟩
  rw [← hw0] at HB0 X0 Y0
  obtain ⟨x0, x1, x2, x3⟩ := X0.out
  obtain ⟨y0, y1, y2, y3⟩ := Y0.out
  rw [hw0] at x0 x1 x2 x3 y0 y1 y2 y3
  go_enter Tryd.func13, Tryd.ntmps13
  go_wp2_with fail
  rw [← hw0] at x0 x1 x2 x3 y0 y1 y2 y3 ⊢
  clear hw0
  refine (K1.out _ HB0.out).mono ?_
  rintro e w1 ⟨rfl, hb⟩
  have HB1 := Lib.hid (HB0.out.trans (hb.mono HB0.out.size))
  have X1 := Lib.hid (X0.out.below hb)
  have Y1 := Lib.hid (Y0.out.below hb)
  clear hb x0 x1 x2 x3 y0 y1 y2 y3
  obtain ⟨x0, x1, x2, x3⟩ := X1.out
  obtain ⟨y0, y1, y2, y3⟩ := Y1.out
  cases b1
  case false =>
    have hv : V = false := HV.out.symm
    subst hv
    go_wp2
    go_ret
    exact ⟨rfl, HB1.out⟩
  case true =>
    go_wp2_with fail
    refine (K2.out _ HB1.out).mono ?_
    rintro e w2 ⟨rfl, rfl⟩
    cases b2
    case false =>
      have hv : V = false := HV.out.symm
      subst hv
      go_wp2
      go_ret
      exact ⟨rfl, HB1.out⟩
    case true =>
      rw [Bool.and_eq_true, decide_eq_true_eq] at hb2
      have hR : R.length = 4 := by omega
      have hx : ∀ y ∈ R, IsW vw y := fun y hy => isW_of (by have := List.all_eq_true.1 hb2.2 y hy; rw [opB_word] at this; exact this)
      have HF := Lib.hid (fc_facts hb1).2
      have hv : V = stB vw k a b n R := by rw [← HV.out, st_eq HF.out hR hx]; rfl
      have KV := Lib.hid (fun q c W (hb : Below w.heap.size w W) => show Calls Tryd.prog 40 #[.agg #[.int .i64 vw, .int .i64 vm, .int .i64 vi, .slice q L.length c], .agg #[.int .i64 k, .int .i64 a, .int .i64 b, .int .i64 n], .slice lq R.length lcap] W fun e w' => e = .returned (.bool V) ∧ Below W.heap.size W w' by rw [hv]; exact K3.out q c W hb HF.out hR hx)
      clear hv HV K3 hx hb2 HF hR
      go_wp2_with fail
      refine (KV.out _ _ _ HB1.out).mono ?_
      rintro e w3 ⟨rfl, hb⟩
      have HB3 := Lib.hid (HB1.out.trans (hb.mono HB1.out.size))
      clear hb
      go_wp2
      go_ret
      exact ⟨rfl, HB3.out⟩
end Go.Proofs.YtcihgechijiamaaDoor
