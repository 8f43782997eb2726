/- The reading of the marks that the laws write into slices of Ins and into programs: heldInsS, heldProgram. No condition. -/
import Derived.Test.YtbbalmeglgecgaaMkIns
import Derived.Deep.RegionWith
namespace Go.Proofs.Ytbbalmeglgecgaa
open Go.ChangeShapes Go.WideShapes Go.ChangeAt Go.RowKit
open InsR (all costs)
set_option maxRecDepth 100000 in
theorem held_Ins_none (a : Option Addr) (c k : Nat) (w : World) : Calls Try.prog 72 #[.slice a 0 c, .int .i64 k] w fun e w' => e = .returned (.int .i64 k) ∧ w = w' := by
  go_enter Try.func72, Try.ntmps72
  go_wp2
  refine wp_loop_rounds 1 ?_
  rw [rounds_succ]
  go_wp2
  go_ret
  exact ⟨rfl, rfl⟩
set_option maxRecDepth 100000 in
set_option maxHeartbeats 1000000 in
theorem held_Ins (L : List InsR) (v : Value) (k : Nat) (w : World) (hv : Cs.Shows w 0 4 v L.length (all (InsR.mkrs L k))) (h1 : 1 ≤ k) (hk : k + 4 * L.length ≤ 1000000000000) :
    Calls Try.prog 72 #[v, .int .i64 k] w fun e w' => e = .returned (.int .i64 ((k + 4 * L.length : Nat) : Int)) ∧ Below w.heap.size w w' := by
  have hml : maxLen = 9223372036854775807 := rfl
  rcases Cs.shows_cases hv with ⟨h0, q, cap, rfl⟩ | ⟨hpos, b, o, cap, rfl, _, _, hbl, hr⟩
  · have hL : L = [] := List.length_eq_zero_iff.1 h0
    subst hL
    exact (held_Ins_none _ _ _ _).mono fun e w' ⟨he, hw⟩ => by subst hw; exact ⟨he, Below.refl _ _⟩
  have HR := Lib.hid (fun j (h : j < L.length) => show w.rangeAt b (o + j * 4) (InsR.mkr (k + 4 * j)).cells by
    have := flat_nth InsR.cells 4 (fun _ => rfl) (InsR.mkrs L k) j (by rw [InsR.mkrs_len]; exact h) hr
    rw [InsR.mkrs_get L k j h] at this
    exact this)
  clear hv hr
  generalize L.length = n at *
  go_enter Try.func72, Try.ntmps72
  go_wp2
  go_loopw [1, 5] (fun m i wr => ∃ (j c : Nat), j ≤ n ∧ i = .int .i64 j ∧ m = .int .i64 c ∧ c = k + 4 * j ∧ Below w.heap.size w wr) (fun _ i _ => n - (intOf i).toNat)
  case atStart => exact ⟨0, k, Nat.zero_le _, rfl, rfl, rfl, Below.refl _ _⟩
  case round =>
    obtain ⟨j, c, hj, rfl, rfl, hc, hb⟩ := hrel
    by_cases hjn : j < n
    · have hrr := HR.out j hjn
      rw [← hc] at hrr
      have hrr := rangeAt_below hb hrr
      have c0 : wr.cell? ⟨b, o + j * 4, none⟩ = some (.int .i64 (c : Int)) := hrr 0 _ rfl
      have c1 : wr.cell? ⟨b, o + j * 4 + 1, none⟩ = some (.int .i64 ((c : Int) + 1)) := hrr 1 _ rfl
      have c2 : wr.cell? ⟨b, o + j * 4 + 2, none⟩ = some (.int .i64 ((c : Int) + 1 + 1)) := hrr 2 _ rfl
      have c3 : wr.cell? ⟨b, o + j * 4 + 3, none⟩ = some (.int .i64 ((c : Int) + 1 + 1 + 1)) := hrr 3 _ rfl
      have hbl2 : b < wr.heap.size := Nat.lt_of_lt_of_le hbl hb.size
      have HB := Lib.hid hb
      have hcb : c + 4 ≤ 1000000000000 := by omega
      have hc1 : 1 ≤ c := by omega
      have hki : (j : Int) < (n : Int) := by omega
      have HC := Lib.hid hc
      clear hb hrr hc
      go_wp2
      go_roundw
      case rel => exact ⟨j + 1, c + 4, by omega, by go_num, by go_num, by rw [HC.out]; omega, HB.out⟩
      case measure => simp [intOf]; omega
    · have ej : j = n := by omega
      subst ej
      have HB := Lib.hid (And.intro hc hb)
      clear hc hb
      go_wp2
      go_ret
      exact ⟨by rw [HB.out.1]; rfl, HB.out.2⟩
set_option maxRecDepth 100000 in
theorem held_Program (vw vm vi : Int) (L : List InsR) (q : Option Addr) (cap k : Nat) (w : World) (hv : Cs.Shows w 0 4 (.slice q L.length cap) L.length (InsR.all (InsR.mkrs L k))) (h1 : 1 ≤ k) (hk : k + 4 * L.length ≤ 1000000000000) :
    Calls Try.prog 45 #[.agg #[.int .i64 vw, .int .i64 vm, .int .i64 vi, .slice q L.length cap], .int .i64 k] w fun e w' => e = .returned (.int .i64 ((k + 4 * L.length : Nat) : Int)) ∧ Below w.heap.size w w' := by
  have KM := Lib.hid (fun W (hb : Below w.heap.size w W) => held_Ins L _ k W (hv.below hb) h1 hk)
  have HB := Lib.hid ((Below.refl w.heap.size w).alloc (Nat.le_refl _) (.cells #[.int .i64 vw, .int .i64 vm, .int .i64 vi, .slice q L.length cap] 24))
  have hz0 : ¬ (((k + 4 * L.length : Nat) : Int) < 0) := by omega
  generalize hz : ((k + 4 * L.length : Nat) : Int) = z at *
  clear hk hv
  go_enter Try.func45, Try.ntmps45
  go_wp2_with (go_at_call 72; refine (KM.out _ HB.out).mono ?_; rintro e w1 ⟨rfl, hb1⟩)
  go_ret
  exact ⟨rfl, HB.out.trans (hb1.mono (by simp))⟩
end Go.Proofs.Ytbbalmeglgecgaa
