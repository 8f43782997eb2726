/- Slices of slices of ints: what the laws do with them: sz, to. No condition. -/
import Derived.Test.YtbbalmeglgecgaaSzI
import Derived.Test.YtbbalmeglgecgaaIntSSb
import Derived.Test.YtbbalmeglgecgaaFlInt
import Derived.Deep.RegionWith
namespace Go.Proofs.Ytbbalmeglgecgaa
open Go.ChangeShapes Go.WideShapes Go.ChangeAt Go.RowKit
set_option maxRecDepth 100000 in
set_option maxHeartbeats 1000000 in
theorem sz_IntSS (L : List (List Int)) (v : Value) (l : Nat) (w : World) (hl : l ≤ 1048576) (hv : (Cs.rows IntSS.c L).Is w 0 1 L.length v) (hok : IntSS.Ok L) (hlen : L.length ≤ maxLen) :
    Calls Try.prog 47 #[v, .int .i64 l] w fun e w' => e = .returned (.int .i64 (left l (IntSS.costs L))) ∧ Below w.heap.size w w' := by
  have hml : maxLen = 9223372036854775807 := rfl
  have hce := IntSS.len_le L
  rcases IntSS.cases hv with ⟨hL, q, cap, rfl⟩ | ⟨hpos, b, o, cap, rfl, _, _, _, hr⟩
  · subst hL
    have hfin : left l (IntSS.costs []) = (l : Int) := by unfold left IntSS.costs; simp
    rw [hfin]
    have hlo : ¬ ((l : Int) < 0) := by omega
    clear hfin hv hok hlen hce
    go_enter Try.func47, Try.ntmps47
    go_wp2
    refine wp_loop_rounds 1 ?_
    rw [rounds_succ]
    go_wp2
    go_ret
    exact ⟨rfl, Below.refl _ _⟩
  · by_cases h1 : L.length ≤ l
    · have HR := Lib.hid hr
      have HT := Lib.hid (fun j (h : j < L.length) => IntSS.costs_take L j h)
      have HLE := Lib.hid (fun j => IntSS.costs_le L j)
      have HALL := Lib.hid (show L.take L.length = L from List.take_length)
      have HOK := Lib.hid hok
      clear hok hv hr hce
      have hlo : 0 ≤ (l : Int) - L.length := by omega
      go_enter Try.func47, Try.ntmps47
      go_wp2
      go_loopw [1, 5] (fun lf i wr => ∃ (j p : Nat), j ≤ L.length ∧ i = .int .i64 j ∧ p + j = IntSS.costs (L.take j) ∧ p + L.length ≤ l ∧ lf = .int .i64 ((l : Int) - L.length - p) ∧ Below w.heap.size w wr) (fun _ i _ => L.length - (intOf i).toNat)
      case atStart => exact ⟨0, 0, Nat.zero_le _, rfl, by simp [IntSS.costs], by omega, by simp, Below.refl _ _⟩
      case round =>
        obtain ⟨j, p, hj, rfl, hp, hpl, rfl, hb⟩ := hrel
        by_cases hjn : j < L.length
        · obtain ⟨qe, me, cpe, hme, c0, hsh⟩ := HR.out wr hb j hjn
          have hst := HT.out j hjn
          have hle := HLE.out (j + 1)
          have hok1 := (HOK.out L[j] (List.getElem_mem hjn)).2
          generalize L[j] = r at *
          have SO := Lib.hid (sz_Int r (.slice qe me cpe) (l - L.length - p) wr (by omega) hsh hok1)
          have hcast : ((l - L.length - p : Nat) : Int) = (l : Int) - L.length - p := by omega
          rw [hcast] at SO
          have HB := Lib.hid hb
          have HP1 := Lib.hid (And.intro hst (And.intro hle hp))
          have hki : (j : Int) < (L.length : Int) := by omega
          clear hb hsh hok1 hst hle hp hcast
          by_cases h2 : r.length ≤ l - L.length - p
          · have he : left (l - L.length - p) r.length = (l : Int) - L.length - p - (r.length : Nat) := by unfold left; rw [if_pos h2]; omega
            rw [he] at SO
            have hnn : 0 ≤ (l : Int) - L.length - p - (r.length : Nat) := by omega
            clear he
            go_wp2_with (go_at_call 84; refine (SO.out).mono ?_; rintro e w1 ⟨rfl, hb1⟩)
            go_roundw
            case rel =>
              obtain ⟨e1, e2, e3⟩ := HP1.out
              exact ⟨j + 1, p + r.length, by omega, by go_num, by omega, by omega, by go_num, HB.out.trans (hb1.mono HB.out.size)⟩
            case measure => simp [intOf]; omega
          · have he : left (l - L.length - p) r.length = -1 := by unfold left; rw [if_neg h2]
            have hfin : left l (IntSS.costs L) = -1 := by
              obtain ⟨e1, e2, e3⟩ := HP1.out
              unfold left
              rw [if_neg (by omega)]
            rw [he] at SO
            clear he
            go_wp2_with (go_at_call 84; refine (SO.out).mono ?_; rintro e w1 ⟨rfl, hb1⟩)
            go_ret
            rw [hfin]
            exact ⟨rfl, HB.out.trans (hb1.mono HB.out.size)⟩
        · have ej : j = L.length := by omega
          have hfin : left l (IntSS.costs L) = (l : Int) - L.length - p := by
            have e1 := HALL.out
            rw [ej, e1] at hp
            unfold left
            rw [if_pos (by omega)]
            omega
          have HB := Lib.hid hb
          have hnj : ¬ ((j : Int) < (L.length : Int)) := by omega
          clear hb hp
          go_wp2
          go_ret
          exact ⟨rfl, HB.out⟩
    · have hfin : left l (IntSS.costs L) = -1 := by unfold left; rw [if_neg (by omega)]
      have hlo : (l : Int) - L.length < 0 := by omega
      clear hce hv hr hok
      go_enter Try.func47, Try.ntmps47
      go_wp2
      go_ret
      exact ⟨by first | rfl | (rw [hfin]; rfl), Below.refl _ _⟩
/-- the copy of a slice of them -/
def ToIntSSEnd (L : List (List Int)) (w : World) (e : Ending) (w' : World) : Prop := ∃ g, e = .returned (.slice (some ⟨g, 0, none⟩) L.length L.length) ∧ (∃ bs, (Cs.rows IntSS.c L).Has w' w.heap.size 58 1 L.length (.slice (some ⟨g, 0, none⟩) L.length L.length) bs ∧ bs.Nodup) ∧ Below w.heap.size w w'
set_option maxRecDepth 100000 in
set_option maxHeartbeats 1000000 in
theorem to_IntSS (L : List (List Int)) (v : Value) (w : World) (hv : (Cs.rows IntSS.c L).Is w 0 1 L.length v) (hn : IntSS.costs L ≤ 1048576) : Calls Try.prog 51 #[v] w (ToIntSSEnd L w) := by
  have hml : maxLen = 9223372036854775807 := rfl
  have hll := IntSS.len_le L
  obtain ⟨i0, hi, hz0, hz1, hz2⟩ := info_parts zero_IntS
  unfold ToIntSSEnd
  rcases IntSS.cases hv with ⟨hL, q, cap, rfl⟩ | ⟨hpos, b, o, cap, rfl, _, _, _, hr⟩
  · subst hL
    clear hv hn hll
    go_enter Try.func51, Try.ntmps51
    go_wp2_with (refine wpList_make_full _ rfl _ _ 25 rfl w.heap.size 58 i0 (.slice none 0 0) 1 Try.underlying25 hi hz0 hz1 .i64 .i64 _ _ 0 rfl rfl rfl rfl (by rw [hz2]; omega) (by unfold maxLen; omega) (Nat.le_refl _) ?_; intro w1 hown hgrow; have hb1 := (Below.refl w.heap.size w).grown hgrow (Nat.le_refl _) (fun k e => by cases e); have HO := Lib.hid hown; have HB1 := Lib.hid hb1; clear hown hgrow hb1)
    refine wp_loop_rounds 1 ?_
    rw [rounds_succ]
    go_wp2
    go_ret
    refine ⟨w.heap.size, rfl, ⟨[w.heap.size], ?_, by simp⟩, HB1.out⟩
    have h := HO.out
    have e := List.length_eq_zero_iff.1 (h.1.trans (Nat.zero_mul _))
    rw [e] at h
    exact ⟨[], [], h, ⟨rfl, rfl⟩, by simp [Value.ownBlock]⟩
  · have HR := Lib.hid hr
    have HC := Lib.hid (fun j h => IntSS.cost_lt L j h)
    clear hv hr
    go_enter Try.func51, Try.ntmps51
    go_wp2_with (refine wpList_make_full _ rfl _ _ 25 rfl w.heap.size 58 i0 (.slice none 0 0) 1 Try.underlying25 hi hz0 hz1 .i64 .i64 _ _ L.length rfl rfl rfl rfl (by rw [hz2]; omega) (by unfold maxLen; omega) (Nat.le_refl _) ?_; intro w1 hown hgrow; have hb1 := (Below.refl w.heap.size w).grown hgrow (Nat.le_refl _) (fun k e => by cases e); have HO := Lib.hid hown; have HB1 := Lib.hid hb1; clear hown hgrow hb1)
    go_loopw [4] (fun i wr => ∃ (j : Nat), j ≤ L.length ∧ i = .int .i64 j ∧ Cs.Fill IntSS.c 58 1 L w L.length j wr) (fun i _ => L.length - (intOf i).toNat)
    case atStart => exact ⟨0, Nat.zero_le _, rfl, Cs.fill_start HO.out HB1.out⟩
    case round =>
      obtain ⟨j, hj, rfl, hrel⟩ := hrel
      by_cases hjn : j < L.length
      · have hjL := hjn
        have HF := Lib.hid hrel
        obtain ⟨cur, bs, ho, hown, hnd, hb⟩ := hrel
        obtain ⟨qe, me, cpe, hme, c0, hsh⟩ := HR.out wr hb j hjL
        have hcl := HC.out j hjL
        have SO := Lib.hid (to_Int L[j] (.slice qe me cpe) wr hsh (by omega))
        have HO := Lib.hid ho
        have HB := Lib.hid hb
        have HME := Lib.hid hme
        have hki : (j : Int) < (L.length : Int) := by omega
        unfold ToIntEnd at SO
        clear hb hsh ho hown hnd
        go_wp2_with (go_at_call 36; refine (SO.out).mono ?_; rintro e w1 ⟨g, rfl, hh, hb1⟩; have HO1 := Lib.hid (own_keep HO.out hb1); have HSTEP := Lib.hid (Cs.fill_step IntSS.c_len hjL rfl HF.out hb1 (xs := [.slice (some ⟨g, 0, none⟩) L[j].length L[j].length]) (b1 := [g]) ⟨_, [], _, [], [], rfl, hh, Cs.own_flat.2 ⟨rfl, rfl⟩, ⟨rfl, rfl⟩, by simp [Value.ownBlock]⟩ (by simp)); rw [Nat.mul_one] at HSTEP; have hcl1 := HO1.out.1; obtain ⟨old, hold⟩ : ∃ old, w1.cell? ⟨w.heap.size, j, none⟩ = some old := ⟨cur[j]'(by omega), by
          rw [HO1.out.cellAt j (by omega)]; exact List.getElem?_eq_getElem (by omega)⟩; have hfz := HO1.out.frozenAt j; clear hh hb1)
        go_roundw
        case rel => exact ⟨j + 1, by omega, by go_num, by have h := HSTEP.out; rw [HME.out] at h; exact h⟩
        case measure => simp [intOf]; omega
      · have ej : j = L.length := by omega
        have hnj : ¬ ((j : Int) < (L.length : Int)) := by omega
        rw [ej] at hrel
        have HR := Lib.hid hrel
        clear hrel
        go_wp2
        go_ret
        obtain ⟨h1, h2⟩ := Cs.fill_end rfl HR.out
        exact ⟨w.heap.size, rfl, h1, h2⟩
end Go.Proofs.Ytbbalmeglgecgaa
