/- Slices of int: marks. No condition. -/
import Derived.Test.YtbbalmeglgecgaaFlInt
namespace Go.Proofs.Ytbbalmeglgecgaa
open Go.ChangeShapes Go.WideShapes Go.ChangeAt Go.RowKit
set_option maxRecDepth 100000 in
theorem mark_Int_none (a : Option Addr) (c k : Nat) (w : World) : Calls Try.prog 40 #[.slice a 0 c, .int .i64 k] w fun e w' => e = .returned (.int .i64 k) ∧ w = w' := by
  go_enter Try.func40, Try.ntmps40
  go_wp2
  refine wp_loop_rounds 1 ?_
  rw [rounds_succ]
  go_wp2
  go_ret
  exact ⟨rfl, rfl⟩
set_option maxRecDepth 100000 in
theorem held_Int_none (a : Option Addr) (c k : Nat) (w : World) : Calls Try.prog 83 #[.slice a 0 c, .int .i64 k] w fun e w' => e = .returned (.int .i64 k) ∧ w = w' := by
  go_enter Try.func83, Try.ntmps83
  go_wp2
  refine wp_loop_rounds 1 ?_
  rw [rounds_succ]
  go_wp2
  go_ret
  exact ⟨rfl, rfl⟩
def MarkIntEnd (L : List Int) (base k : Nat) (v : Value) (w : World) (e : Ending) (w' : World) : Prop := e = .returned (.int .i64 ((k + L.length : Nat) : Int)) ∧ w'.ownsRow base 3 1 v L.length (IntL.all (IntL.mkrs L k)) ∧ Apart v.ownBlock.toList w w'
set_option maxRecDepth 100000 in
set_option maxHeartbeats 1000000 in
theorem mark_Int (L : List Int) (v : Value) (k base : Nat) (w : World) (ho : w.ownsRow base 3 1 v L.length (IntL.all L)) (h1 : 1 ≤ k) (hk : k + L.length ≤ 1000000000000) :
    Calls Try.prog 40 #[v, .int .i64 k] w (MarkIntEnd L base k v w) := by
  have hml : maxLen = 9223372036854775807 := rfl
  rcases ho.2 with ⟨rfl, h0⟩ | ⟨g, cap, cur, rfl, _⟩
  · have hL : L = [] := List.length_eq_zero_iff.1 h0
    subst hL
    exact (mark_Int_none _ _ _ _).mono fun e w' ⟨he, hw⟩ => by subst hw; exact ⟨he, ho, Apart.refl _ _⟩
  have HOW := Lib.hid ho
  have HG := Lib.hid (fun j (h : j < L.length) => IntL.half_at L k j h)
  have HZ := Lib.hid (IntL.half_zero L k)
  have HE := Lib.hid (IntL.half_all L k)
  unfold MarkIntEnd
  clear ho
  generalize hlen : L.length = n at *
  have HL := Lib.hid hlen
  clear hlen
  go_enter Try.func40, Try.ntmps40
  go_wp2
  go_loopw [1, 5] (fun m i wr => ∃ (j c : Nat), j ≤ n ∧ i = .int .i64 j ∧ m = .int .i64 c ∧ c = k + j ∧ wr.ownsRow base 3 1 (.slice (some ⟨g, 0, none⟩) n cap) n (IntL.all (IntL.half L k j)) ∧ Apart [g] w wr) (fun _ i _ => n - (intOf i).toNat)
  case atStart => exact ⟨0, k, Nat.zero_le _, rfl, rfl, rfl, by rw [HZ.out]; exact HOW.out, Apart.refl _ _⟩
  case round =>
    obtain ⟨j, c, hj, rfl, rfl, hc, ho, hap⟩ := hrel
    by_cases hjn : j < n
    · obtain ⟨x1, r, x3, hl1, hx0, hx1⟩ := HG.out j hjn
      rw [hx0] at ho
      have HX1 := Lib.hid (hx1 c hc)
      have HL1 := Lib.hid hl1
      have hcb : c + 1 ≤ 1000000000000 := by omega
      have hc1 : 1 ≤ c := by omega
      have HC := Lib.hid hc
      clear hx0 hx1 hl1
      have HO := Lib.hid ho
      have HA := Lib.hid hap
      have hr := range_mid (own_range HO.out)
      rw [HL1.out, Nat.zero_add] at hr
      have c0 : wr.cell? ⟨g, j, none⟩ = some (.int .i64 r) := hr 0 _ rfl
      have f0 := HO.out.frozenAt j
      clear hr hc ho hap
      have hki : (j : Int) < (n : Int) := by omega
      have OE := Lib.hid (Cs.own_poke (i := 0) HO.out HL1.out (by simp) (.int .i64 ((c : Int) : Int)))
      have AE := Lib.hid (HA.out.setCell (p := ⟨g, j, none⟩) (by simp) (.int .i64 ((c : Int) : Int)))
      go_wp2
      go_roundw
      case rel => exact ⟨j + 1, c + 1, by omega, by go_num, by go_num, by rw [HC.out]; omega, by rw [HX1.out]; exact OE.out, AE.out⟩
      case measure => simp [intOf]; omega
    · have ej : j = n := by omega
      subst ej
      have HR := Lib.hid (And.intro hc (And.intro ho hap))
      clear hc ho hap
      go_wp2
      go_ret
      obtain ⟨hc, ho, hap⟩ := HR.out
      rw [HE.out] at ho
      exact ⟨by rw [hc]; rfl, ho, hap⟩
set_option maxRecDepth 100000 in
set_option maxHeartbeats 1000000 in
theorem held_Int (L : List Int) (v : Value) (k : Nat) (w : World) (hv : Cs.Shows w 0 1 v L.length (IntL.all (IntL.mkrs L k))) (h1 : 1 ≤ k) (hk : k + L.length ≤ 1000000000000) :
    Calls Try.prog 83 #[v, .int .i64 k] w fun e w' => e = .returned (.int .i64 ((k + L.length : Nat) : Int)) ∧ Below w.heap.size w w' := by
  have hml : maxLen = 9223372036854775807 := rfl
  rcases Cs.shows_cases hv with ⟨h0, q, cap, rfl⟩ | ⟨hpos, b, o, cap, rfl, _, _, hbl, hr⟩
  · have hL : L = [] := List.length_eq_zero_iff.1 h0
    subst hL
    exact (held_Int_none _ _ _ _).mono fun e w' ⟨he, hw⟩ => by subst hw; exact ⟨he, Below.refl _ _⟩
  have HR := Lib.hid (fun (wr : World) (hb : Below w.heap.size w wr) j (h : j < L.length) => show wr.cell? ⟨b, o + j, none⟩ = some (.int .i64 (((k + j : Nat) : Int) : Int)) by
    have := IntL.nth (IntL.mkrs L k) j (by rw [IntL.mkrs_len]; exact h) (rangeAt_below hb hr)
    rw [IntL.mkrs_get L k j h] at this
    exact this)
  clear hv hr
  generalize L.length = n at *
  go_enter Try.func83, Try.ntmps83
  go_wp2
  go_loopw [1, 5] (fun m i wr => ∃ (j c : Nat), j ≤ n ∧ i = .int .i64 j ∧ m = .int .i64 c ∧ c = k + j ∧ Below w.heap.size w wr) (fun _ i _ => n - (intOf i).toNat)
  case atStart => exact ⟨0, k, Nat.zero_le _, rfl, rfl, rfl, Below.refl _ _⟩
  case round =>
    obtain ⟨j, c, hj, rfl, rfl, hc, hb⟩ := hrel
    by_cases hjn : j < n
    · have c0 := HR.out wr hb j hjn
      rw [← hc] at c0
      have HB := Lib.hid hb
      have hcb : c + 1 ≤ 1000000000000 := by omega
      have hc1 : 1 ≤ c := by omega
      have hki : (j : Int) < (n : Int) := by omega
      have HC := Lib.hid hc
      clear hb hc
      go_wp2
      go_roundw
      case rel => exact ⟨j + 1, c + 1, by omega, by go_num, by go_num, by rw [HC.out]; omega, HB.out⟩
      case measure => simp [intOf]; omega
    · have ej : j = n := by omega
      subst ej
      have HB := Lib.hid (And.intro hc hb)
      clear hc hb
      go_wp2
      go_ret
      exact ⟨by rw [HB.out.1]; rfl, HB.out.2⟩
end Go.Proofs.Ytbbalmeglgecgaa
