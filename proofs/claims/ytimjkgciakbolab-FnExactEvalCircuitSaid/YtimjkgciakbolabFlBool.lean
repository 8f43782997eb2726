/- What the laws do with slices of bool: to, eq, mark, held. No condition. -/
import Derived.Test.YtimjkgciakbolabPlBool
namespace Go.Proofs.Ytimjkgciakbolab
open Go.ChangeShapes Go.WideShapes Go.ChangeAt Go.RowKit
set_option maxRecDepth 100000 in
set_option maxHeartbeats 1000000 in
theorem eq_Bool (L : List Bool) (v1 v2 : Value) (w : World) (h1 : Cs.Shows w 0 1 v1 L.length (BoolL.all L)) (h2 : Cs.Shows w 0 1 v2 L.length (BoolL.all L)) (hn : L.length ≤ 2097152) :
    Calls Try.prog 27 #[v1, v2] w fun e w' => e = .returned (.bool true) ∧ Below w.heap.size w w' := by
  rcases Cs.shows_cases h1 with ⟨h0, q1, cap1, rfl⟩ | ⟨hpos, b1, o1, cap1, rfl, _, _, _, hr1⟩
  · obtain ⟨_, q2, cap2, rfl, _⟩ := h2
    rw [h0]
    clear hn h0 h1
    go_enter Try.func27, Try.ntmps27
    go_wp2
    refine wp_loop_rounds 1 ?_
    rw [rounds_succ]
    go_wp2
    go_ret
    exact ⟨rfl, Below.refl _ _⟩
  · rcases Cs.shows_cases h2 with ⟨h0, _⟩ | ⟨_, b2, o2, cap2, rfl, _, _, _, hr2⟩
    · omega
    have H1 := Lib.hid (fun j (h : j < L.length) => BoolL.nth L j h hr1)
    have H2 := Lib.hid (fun j (h : j < L.length) => BoolL.nth L j h hr2)
    have HB1 := Lib.hid (fun (wr : World) (hb : Below w.heap.size w wr) j (h : j < L.length) => BoolL.nth L j h (rangeAt_below hb hr1))
    have HB2 := Lib.hid (fun (wr : World) (hb : Below w.heap.size w wr) j (h : j < L.length) => BoolL.nth L j h (rangeAt_below hb hr2))
    clear h1 h2 hr1 hr2 H1 H2
    go_enter Try.func27, Try.ntmps27
    go_wp2
    go_loopw [5] (fun i wr => ∃ (j : Nat), j ≤ L.length ∧ i = .int .i64 j ∧ Below w.heap.size w wr) (fun i _ => L.length - (intOf i).toNat)
    case atStart => exact ⟨0, Nat.zero_le _, rfl, Below.refl _ _⟩
    case round =>
      obtain ⟨j, hj, rfl, hb⟩ := hrel
      by_cases hjn : j < L.length
      · have c0 := HB1.out wr hb j hjn
        have d0 := HB2.out wr hb j hjn
        generalize L[j] = r at *
        have HB := Lib.hid hb
        have hki : (j : Int) < (L.length : Int) := by omega
        clear hb
        go_wp2
        go_quiet (fail)
        go_wp2
        go_roundw
        case rel => exact ⟨j + 1, by omega, by go_num, below_drewN HB.out _⟩
        case measure => simp [intOf]; omega
      · have HB := Lib.hid hb
        have hnj : ¬ ((j : Int) < (L.length : Int)) := by omega
        clear hb
        go_wp2
        go_ret
        exact ⟨rfl, HB.out⟩
/-- the copy of a slice of them -/
def ToBoolEnd (L : List Bool) (w : World) (e : Ending) (w' : World) : Prop := ∃ g, e = .returned (.slice (some ⟨g, 0, none⟩) L.length L.length) ∧ w'.ownsRow w.heap.size 4 1 (.slice (some ⟨g, 0, none⟩) L.length L.length) L.length (BoolL.all L) ∧ Below w.heap.size w w'
def ToBoolRel (L : List Bool) (w : World) (n j : Nat) (wr : World) : Prop := ∃ cur, wr.ownsRow w.heap.size 4 1 (.slice (some ⟨w.heap.size, 0, none⟩) n n) n cur ∧ cur.take j = BoolL.all (L.take j) ∧ Below w.heap.size w wr
theorem to_Bool_step {L : List Bool} {w wr : World} {n j : Nat} (hj : j < L.length) (hn : L.length = n) (hr : ToBoolRel L w n j wr) : ToBoolRel L w n (j + 1) (wr.setCell ⟨w.heap.size, j, none⟩ (.bool L[j])) := by
  obtain ⟨cur, ho, hc, hbw⟩ := hr
  have hlen := ho.1
  refine ⟨_, own_put [.bool L[j]] j wr cur ho, ?_, hbw.setCell (Nat.le_refl _) _⟩
  rw [putAt_take cur j [.bool L[j]] (j + 1) rfl (by omega), hc]
  unfold BoolL.all
  rw [List.take_succ_eq_append_getElem hj, List.flatMap_append]
  simp [BoolL.cell]
set_option maxRecDepth 100000 in
set_option maxHeartbeats 1000000 in
theorem to_Bool (L : List Bool) (v : Value) (w : World) (hv : Cs.Shows w 0 1 v L.length (BoolL.all L)) (hn : L.length ≤ 1048576) : Calls Try.prog 25 #[v] w (ToBoolEnd L w) := by
  have hml : maxLen = 9223372036854775807 := rfl
  obtain ⟨i0, hi, hz0, hz1, hz2⟩ := info_parts zero_Bool
  unfold ToBoolEnd
  rcases Cs.shows_cases hv with ⟨h0, q, cap, rfl⟩ | ⟨hpos, b, o, cap, rfl, _, _, _, hr⟩
  · have hL : L = [] := List.length_eq_zero_iff.1 h0
    subst hL
    clear hv hn h0
    go_enter Try.func25, Try.ntmps25
    go_wp2_with (refine wpList_make_full _ rfl _ _ 39 rfl w.heap.size 4 i0 (.bool false) 1 Try.underlying39 hi hz0 hz1 .i64 .i64 _ _ 0 rfl rfl rfl rfl (by rw [hz2]; omega) (by unfold maxLen; omega) (Nat.le_refl _) ?_; intro w1 hown hgrow; have hb1 := (Below.refl w.heap.size w).grown hgrow (Nat.le_refl _) (fun k e => by cases e); have HO := Lib.hid hown; have HB1 := Lib.hid hb1; clear hown hgrow hb1)
    refine wp_loop_rounds 1 ?_
    rw [rounds_succ]
    go_wp2
    go_ret
    refine ⟨w.heap.size, rfl, ?_, HB1.out⟩
    have h := HO.out
    have e := List.length_eq_zero_iff.1 (h.1.trans (Nat.zero_mul _))
    rw [e] at h
    exact h
  · have HB := Lib.hid (fun (wr : World) (hb : Below w.heap.size w wr) j (h : j < L.length) => BoolL.nth L j h (rangeAt_below hb hr))
    clear hv hr
    go_enter Try.func25, Try.ntmps25
    go_wp2_with (refine wpList_make_full _ rfl _ _ 39 rfl w.heap.size 4 i0 (.bool false) 1 Try.underlying39 hi hz0 hz1 .i64 .i64 _ _ L.length rfl rfl rfl rfl (by rw [hz2]; omega) (by unfold maxLen; omega) (Nat.le_refl _) ?_; intro w1 hown hgrow; have hb1 := (Below.refl w.heap.size w).grown hgrow (Nat.le_refl _) (fun k e => by cases e); have HO := Lib.hid hown; have HB1 := Lib.hid hb1; clear hown hgrow hb1)
    go_loopw [4] (fun i wr => ∃ (j : Nat), j ≤ L.length ∧ i = .int .i64 j ∧ ToBoolRel L w L.length j wr) (fun i _ => L.length - (intOf i).toNat)
    case atStart => exact ⟨0, Nat.zero_le _, rfl, _, HO.out, by simp [BoolL.all], HB1.out⟩
    case round =>
      obtain ⟨j, hj, rfl, hrel⟩ := hrel
      by_cases hjn : j < L.length
      · have HS := Lib.hid (to_Bool_step hjn rfl hrel)
        obtain ⟨cur, ho, hc, hb⟩ := hrel
        have c0 := HB.out wr hb j hjn
        have hcl := ho.1
        obtain ⟨old, hold⟩ : ∃ old, wr.cell? ⟨w.heap.size, j, none⟩ = some old := ⟨cur[j]'(by omega), by
          rw [ho.cellAt j (by omega)]; exact List.getElem?_eq_getElem (by omega)⟩
        have hfz := ho.frozenAt j
        have hki : (j : Int) < (L.length : Int) := by omega
        clear ho hc hb hcl
        generalize L[j] = r at *
        go_wp2
        go_roundw
        case rel => exact ⟨j + 1, by omega, by go_num, HS.out⟩
        case measure => simp [intOf]; omega
      · have ej : j = L.length := by omega
        have hnj : ¬ ((j : Int) < (L.length : Int)) := by omega
        rw [ej] at hrel
        have HR := Lib.hid hrel
        clear hrel
        go_wp2
        go_ret
        obtain ⟨cur, ho, hc, hb⟩ := HR.out
        rw [List.take_of_length_le (by rw [ho.1]; omega), List.take_length] at hc
        rw [hc] at ho
        exact ⟨w.heap.size, rfl, ho, hb⟩
set_option maxRecDepth 100000 in
theorem mark_Bool_none (a : Option Addr) (c k : Nat) (w : World) : Calls Try.prog 28 #[.slice a 0 c, .int .i64 k] w fun e w' => e = .returned (.int .i64 k) ∧ w = w' := by
  go_enter Try.func28, Try.ntmps28
  go_wp2
  refine wp_loop_rounds 1 ?_
  rw [rounds_succ]
  go_wp2
  go_ret
  exact ⟨rfl, rfl⟩
set_option maxRecDepth 100000 in
theorem held_Bool_none (a : Option Addr) (c k : Nat) (w : World) : Calls Try.prog 29 #[.slice a 0 c, .int .i64 k] w fun e w' => e = .returned (.int .i64 k) ∧ w = w' := by
  go_enter Try.func29, Try.ntmps29
  go_wp2
  refine wp_loop_rounds 1 ?_
  rw [rounds_succ]
  go_wp2
  go_ret
  exact ⟨rfl, rfl⟩
def MarkBoolEnd (L : List Bool) (base k : Nat) (v : Value) (w : World) (e : Ending) (w' : World) : Prop := e = .returned (.int .i64 ((k + L.length : Nat) : Int)) ∧ w'.ownsRow base 4 1 v L.length (BoolL.all (BoolL.mkrs L k)) ∧ Apart v.ownBlock.toList w w'
set_option maxRecDepth 100000 in
set_option maxHeartbeats 1000000 in
theorem mark_Bool (L : List Bool) (v : Value) (k base : Nat) (w : World) (ho : w.ownsRow base 4 1 v L.length (BoolL.all L)) (h1 : 1 ≤ k) (hk : k + L.length ≤ 1000000000000) :
    Calls Try.prog 28 #[v, .int .i64 k] w (MarkBoolEnd L base k v w) := by
  have hml : maxLen = 9223372036854775807 := rfl
  rcases ho.2 with ⟨rfl, h0⟩ | ⟨g, cap, cur, rfl, _⟩
  · have hL : L = [] := List.length_eq_zero_iff.1 h0
    subst hL
    exact (mark_Bool_none _ _ _ _).mono fun e w' ⟨he, hw⟩ => by subst hw; exact ⟨he, ho, Apart.refl _ _⟩
  have HOW := Lib.hid ho
  have HG := Lib.hid (fun j (h : j < L.length) => BoolL.half_at L k j h)
  have HZ := Lib.hid (BoolL.half_zero L k)
  have HE := Lib.hid (BoolL.half_all L k)
  unfold MarkBoolEnd
  clear ho
  generalize hlen : L.length = n at *
  have HL := Lib.hid hlen
  clear hlen
  go_enter Try.func28, Try.ntmps28
  go_wp2
  go_loopw [1, 5] (fun m i wr => ∃ (j c : Nat), j ≤ n ∧ i = .int .i64 j ∧ m = .int .i64 c ∧ c = k + j ∧ wr.ownsRow base 4 1 (.slice (some ⟨g, 0, none⟩) n cap) n (BoolL.all (BoolL.half L k j)) ∧ Apart [g] w wr) (fun _ i _ => n - (intOf i).toNat)
  case atStart => exact ⟨0, k, Nat.zero_le _, rfl, rfl, rfl, by rw [HZ.out]; exact HOW.out, Apart.refl _ _⟩
  case round =>
    obtain ⟨j, c, hj, rfl, rfl, hc, ho, hap⟩ := hrel
    by_cases hjn : j < n
    · obtain ⟨x1, r, x3, hl1, hx0, hx1⟩ := HG.out j hjn
      rw [hx0] at ho
      have HX1 := Lib.hid (hx1 c hc)
      have HL1 := Lib.hid hl1
      have hcb : c + 1 ≤ 1000000000000 := by omega
      have hc1 : 1 ≤ c := by omega
      have HC := Lib.hid hc
      clear hx0 hx1 hl1
      have HO := Lib.hid ho
      have HA := Lib.hid hap
      have hr := range_mid (own_range HO.out)
      rw [HL1.out, Nat.zero_add] at hr
      have c0 : wr.cell? ⟨g, j, none⟩ = some (.bool r) := hr 0 _ rfl
      have f0 := HO.out.frozenAt j
      clear hr hc ho hap
      have hki : (j : Int) < (n : Int) := by omega
      have OE := Lib.hid (Cs.own_poke (i := 0) HO.out HL1.out (by simp) (.bool (((c : Int) : Int) % 3 == 0)))
      have AE := Lib.hid (HA.out.setCell (p := ⟨g, j, none⟩) (by simp) (.bool (((c : Int) : Int) % 3 == 0)))
      go_wp2
      go_roundw
      case rel => exact ⟨j + 1, c + 1, by omega, by go_num, by go_num, by rw [HC.out]; omega, by rw [HX1.out]; exact OE.out, AE.out⟩
      case measure => simp [intOf]; omega
    · have ej : j = n := by omega
      subst ej
      have HR := Lib.hid (And.intro hc (And.intro ho hap))
      clear hc ho hap
      go_wp2
      go_ret
      obtain ⟨hc, ho, hap⟩ := HR.out
      rw [HE.out] at ho
      exact ⟨by rw [hc]; rfl, ho, hap⟩
set_option maxRecDepth 100000 in
set_option maxHeartbeats 1000000 in
theorem held_Bool (L : List Bool) (v : Value) (k : Nat) (w : World) (hv : Cs.Shows w 0 1 v L.length (BoolL.all (BoolL.mkrs L k))) (h1 : 1 ≤ k) (hk : k + L.length ≤ 1000000000000) :
    Calls Try.prog 29 #[v, .int .i64 k] w fun e w' => e = .returned (.int .i64 ((k + L.length : Nat) : Int)) ∧ Below w.heap.size w w' := by
  have hml : maxLen = 9223372036854775807 := rfl
  rcases Cs.shows_cases hv with ⟨h0, q, cap, rfl⟩ | ⟨hpos, b, o, cap, rfl, _, _, hbl, hr⟩
  · have hL : L = [] := List.length_eq_zero_iff.1 h0
    subst hL
    exact (held_Bool_none _ _ _ _).mono fun e w' ⟨he, hw⟩ => by subst hw; exact ⟨he, Below.refl _ _⟩
  have HR := Lib.hid (fun (wr : World) (hb : Below w.heap.size w wr) j (h : j < L.length) => show wr.cell? ⟨b, o + j, none⟩ = some (.bool ((((k + j : Nat) : Int) : Int) % 3 == 0)) by
    have := BoolL.nth (BoolL.mkrs L k) j (by rw [BoolL.mkrs_len]; exact h) (rangeAt_below hb hr)
    rw [BoolL.mkrs_get L k j h] at this
    exact this)
  clear hv hr
  generalize L.length = n at *
  go_enter Try.func29, Try.ntmps29
  go_wp2
  go_loopw [1, 5] (fun m i wr => ∃ (j c : Nat), j ≤ n ∧ i = .int .i64 j ∧ m = .int .i64 c ∧ c = k + j ∧ Below w.heap.size w wr) (fun _ i _ => n - (intOf i).toNat)
  case atStart => exact ⟨0, k, Nat.zero_le _, rfl, rfl, rfl, Below.refl _ _⟩
  case round =>
    obtain ⟨j, c, hj, rfl, rfl, hc, hb⟩ := hrel
    by_cases hjn : j < n
    · have c0 := HR.out wr hb j hjn
      rw [← hc] at c0
      have HB := Lib.hid hb
      have hcb : c + 1 ≤ 1000000000000 := by omega
      have hc1 : 1 ≤ c := by omega
      have hki : (j : Int) < (n : Int) := by omega
      have HC := Lib.hid hc
      clear hb hc
      go_wp2
      go_roundw
      case rel => exact ⟨j + 1, c + 1, by omega, by go_num, by go_num, by rw [HC.out]; omega, HB.out⟩
      case measure => simp [intOf]; omega
    · have ej : j = n := by omega
      subst ej
      have HB := Lib.hid (And.intro hc hb)
      clear hc hb
      go_wp2
      go_ret
      exact ⟨by rw [HB.out.1]; rfl, HB.out.2⟩
end Go.Proofs.Ytimjkgciakbolab
