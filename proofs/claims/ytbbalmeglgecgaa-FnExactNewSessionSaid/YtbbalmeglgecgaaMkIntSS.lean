/- Marks of lists of lists of ints: what is held. No condition. -/
import Derived.Test.YtbbalmeglgecgaaMkSS
namespace Go.Proofs.Ytbbalmeglgecgaa
open Go.ChangeShapes Go.WideShapes Go.ChangeAt Go.RowKit
set_option maxRecDepth 100000 in
theorem held_IntSS_none (a : Option Addr) (c k : Nat) (w : World) : Calls Try.prog 46 #[.slice a 0 c, .int .i64 k] w fun e w' => e = .returned (.int .i64 k) ∧ w = w' := by
  go_enter Try.func46, Try.ntmps46
  go_wp2
  refine wp_loop_rounds 1 ?_
  rw [rounds_succ]
  go_wp2
  go_ret
  exact ⟨rfl, rfl⟩
set_option maxRecDepth 100000 in
set_option maxHeartbeats 2000000 in
theorem held_IntSS (L : List (List Int)) (v : Value) (k : Nat) (w : World) (hv : (Cs.rows IntSS.c (IntSS.mkrs L k)).Is w 0 1 L.length v) (h1 : 1 ≤ k) (hk : k + IntSS.tot L ≤ 1000000000000) (hl : L.length ≤ 1000000000000) :
    Calls Try.prog 46 #[v, .int .i64 k] w fun e w' => e = .returned (.int .i64 ((k + IntSS.tot L : Nat) : Int)) ∧ Below w.heap.size w w' := by
  have hml : maxLen = 9223372036854775807 := rfl
  rw [← IntSS.mkrs_len L k] at hv
  rcases IntSS.cases hv with ⟨hL, q, cap, rfl⟩ | ⟨hpos, b, o, cap, rfl, _, _, hbl, hrow⟩
  · have hL2 : L = [] := by
      have := IntSS.mkrs_len L k
      rw [hL] at this
      exact List.length_eq_zero_iff.1 this.symm
    subst hL2
    exact (held_IntSS_none _ _ _ _).mono fun e w' ⟨he, hw⟩ => by subst hw; exact ⟨he, Below.refl _ _⟩
  · rw [IntSS.mkrs_len] at hpos
    have HR : Hid (∀ (wr : World), Below w.heap.size w wr → ∀ j (h : j < L.length), ∃ q m cp, L[j].length = m ∧ wr.cell? ⟨b, o + j, none⟩ = some (.slice q m cp) ∧ Cs.Shows wr 0 1 (.slice q m cp) L[j].length (IntL.all (IntL.mkrs L[j] (k + IntSS.tot (L.take j))))) := Lib.hid (fun wr hb j h => by
      obtain ⟨q, m, cp, h1, h2, h3⟩ := hrow wr hb j (by rw [IntSS.mkrs_len]; exact h)
      rw [IntSS.mkrs_at L k j h] at h1 h3
      have hml2 : (IntL.mkrs L[j] (k + IntSS.tot (L.take j))).length = L[j].length := markL_len _ _ _ _
      rw [hml2] at h1 h3
      exact ⟨q, m, cp, h1, h2, h3⟩)
    have HT := Lib.hid (fun j (h : j < L.length) => cntL_take List.length L j h)
    have HTL := Lib.hid (fun j => cntL_le List.length L j)
    rw [IntSS.mkrs_len]
    clear hrow hv
    go_enter Try.func46, Try.ntmps46
    go_wp2
    go_loopw [1, 5] (fun m i wr => ∃ (j c : Nat), j ≤ L.length ∧ i = .int .i64 j ∧ m = .int .i64 c ∧ c = k + IntSS.tot (L.take j) ∧ Below w.heap.size w wr) (fun _ i _ => L.length - (intOf i).toNat)
    case atStart => exact ⟨0, k, Nat.zero_le _, rfl, rfl, by simp [IntSS.tot, cntL], Below.refl _ _⟩
    case round =>
      obtain ⟨j, c, hj, rfl, rfl, hc, hb⟩ := hrel
      by_cases hjn : j < L.length
      · obtain ⟨q, m, cp, hm, hcell, hsh⟩ := HR.out wr hb j hjn
        rw [← hc] at hsh
        have ht1 := HT.out j hjn
        have ht2 := HTL.out (j + 1)
        have hck : c + L[j].length ≤ 1000000000000 := by unfold IntSS.tot at hc hk; omega
        have KH := Lib.hid (held_Int L[j] _ c wr hsh (by omega) hck)
        have hjj : (j : Int) < (L.length : Int) := by omega
        have HC := Lib.hid (show c + L[j].length = k + IntSS.tot (L.take (j + 1)) by unfold IntSS.tot at hc ⊢; omega)
        have HB := Lib.hid hb
        clear hsh ht1 ht2 hc hb
        obtain ⟨lj, hlj⟩ : ∃ l, L[j] = l := ⟨_, rfl⟩
        rw [hlj] at KH HC hck hm
        clear hlj
        subst hm
        have hn1 : ¬ ((c : Int) + (lj.length : Int) < 0) := by omega
        go_wp2_with fail
        refine KH.out.mono ?_
        rintro e w2 ⟨rfl, hb2⟩
        have HB2 := Lib.hid (HB.out.trans (hb2.mono HB.out.size))
        clear hb2 hcell
        go_wp2
        go_roundw
        case rel => exact ⟨j + 1, c + lj.length, by omega, by go_num, rfl, HC.out, HB2.out⟩
        case measure => simp [intOf]; omega
      · have ej : j = L.length := by omega
        have hjj : ¬ ((j : Int) < (L.length : Int)) := by omega
        have HB := Lib.hid hb
        subst ej
        rw [List.take_length] at hc
        have HC := Lib.hid hc
        clear hb hc
        go_wp2
        go_ret
        exact ⟨by rw [HC.out]; first | rfl | (simp only [Int.natCast_add]; rfl), HB.out⟩
end Go.Proofs.Ytbbalmeglgecgaa
