/- Slices of int: how they come in, and what the laws do with them: sz, to, eq, mark, held. No condition. -/
import Derived.Test.YtbbalmeglgecgaaRows
import Derived.Test.YtbbalmeglgecgaaFlat
import Derived.Test.YtbbalmeglgecgaaDat
import Derived.Test.YtbbalmeglgecgaaIntP
import Derived.WalkKit
import Derived.ProofKit
import Derived.OpenShut
import Derived.Handy
import Derived.Lib.Hide
import Derived.Below
import Derived.IntWalk
import Derived.WalkLawsBesides
import Derived.Deep.QuietTactic
import Derived.BigQuiet
import Derived.OwnWalk
import Derived.Laws.OwnMore
import Derived.Deep.OwnRows
import Derived.Deep.MidRow
import Derived.WalkSmall
import Derived.StillTailTactics
import Derived.KernelRfl
import Derived.Outline
namespace Go.Proofs.Ytbbalmeglgecgaa
open Go.ChangeShapes Go.WideShapes Go.ChangeAt Go.RowKit
theorem zero_Int : (Try.prog.info? 3).map (fun i => (i.zero, i.size, i.bytes)) = some (some (.int .i64 0), 1, 8) := by kernel_rfl
section
variable {H : Type} {enc : TypeId × Value → H} {w : World} {base b0 : Nat} {spare : Nat → Bool} {held : Bool} {r : Reach}
theorem plain_Int : [3, 58].all (Cs.plainAt Try.prog [3, 58]) = true := by kernel_rfl
set_option maxRecDepth 100000 in
theorem ty_Int (m : Nat) (C : Cs) (h : Cs.Ty Try.prog m 3 C) : ∃ x : Int, C = Cs.flat (IntL.cell x) ∧ IntL.Ok x := by
  obtain ⟨n, rfl, hn⟩ := Fo.ty_int Try.underlying3 h
  exact ⟨n, rfl, hn⟩
set_option maxRecDepth 100000 in
theorem tys_Int (m : Nat) (C : Cs) (h : Cs.Ty Try.prog m 58 C) : ∃ L : List Int, C = .sl 3 1 L.length (Cs.flat (IntL.all L)) .nil ∧ (∀ x ∈ L, IntL.Ok x) ∧ L.length ≤ maxLen := by
  cases m with
  | zero => exact h.elim
  | succ m =>
    unfold Cs.Ty at h
    rw [Try.underlying58] at h
    dsimp only at h
    have hC : Try.prog.cellsOf 3 = 1 := by kernel_rfl
    rw [hC] at h
    obtain ⟨n, k, rfl, hn, hr⟩ := h
    have key : ∀ (n : Nat) (k : Cs), Cs.Rows (Cs.Ty Try.prog m 3) n k → ∃ L : List Int, L.length = n ∧ k = Cs.flat (IntL.all L) ∧ ∀ x ∈ L, IntL.Ok x := by
      intro n
      induction n with
      | zero => rintro k rfl; exact ⟨[], rfl, rfl, fun r h => by cases h⟩
      | succ n ihn =>
        rintro k ⟨c, q, rfl, hc, hq⟩
        obtain ⟨r, rfl, hok⟩ := ty_Int m _ hc
        obtain ⟨L, rfl, rfl, hL⟩ := ihn _ hq
        exact ⟨r :: L, rfl, by rw [← Cs.flat_app]; rfl, fun x hx => (List.mem_cons.1 hx).elim (fun e => by rw [e]; exact hok) (hL x)⟩
    obtain ⟨L, rfl, rfl, hL⟩ := key n k hr
    exact ⟨L, rfl, hL, hn⟩
set_option maxRecDepth 100000 in
/-- a slice of them as an argument -/
theorem open_Ints {v : Value} {d : DataW H} {p : List MemPlace} (hv : Value.okWide Try.prog w r b0 58 v) (h : DataW.Trod enc Try.prog w base spare held 58 v d p) :
    ∃ L : List Int, Cs.Shows w base 1 v L.length (IntL.all L) ∧ (∀ x ∈ L, IntL.Ok x) ∧ L.length ≤ maxLen := by
  obtain ⟨a, l, c, rfl⟩ := okWide_slice Try.underlying58 hv
  have hin : ∀ t ∈ [3, 58], t ∈ [3, 58] := fun _ h => h
  obtain ⟨m, C, h1, h2⟩ := Cs.open_arg (t := 58) plain_Int (hin _ (List.mem_cons_of_mem _ (List.mem_cons_self ..))) h
  obtain ⟨L, rfl, hok, hl⟩ := tys_Int m C h2
  obtain ⟨s, xs, e, ⟨ys, hs, hys⟩, _⟩ := Cs.vs_sl.1 h1
  have e : [Value.slice a l c] = s :: xs := e
  obtain ⟨rfl, rfl⟩ := List.cons.inj e
  rw [Cs.flat_vs.1 hys] at hs
  exact ⟨L, hs, hok, hl⟩
end
set_option maxRecDepth 100000 in
set_option maxHeartbeats 1000000 in
theorem eq_Int (L : List Int) (v1 v2 : Value) (w : World) (h1 : Cs.Shows w 0 1 v1 L.length (IntL.all L)) (h2 : Cs.Shows w 0 1 v2 L.length (IntL.all L)) (hn : L.length ≤ 2097152) :
    Calls Try.prog 39 #[v1, v2] w fun e w' => e = .returned (.bool true) ∧ Below w.heap.size w w' := by
  rcases Cs.shows_cases h1 with ⟨h0, q1, cap1, rfl⟩ | ⟨hpos, b1, o1, cap1, rfl, _, _, _, hr1⟩
  · obtain ⟨_, q2, cap2, rfl, _⟩ := h2
    rw [h0]
    clear hn h0 h1
    go_enter Try.func39, Try.ntmps39
    go_wp2
    refine wp_loop_rounds 1 ?_
    rw [rounds_succ]
    go_wp2
    go_ret
    exact ⟨rfl, Below.refl _ _⟩
  · rcases Cs.shows_cases h2 with ⟨h0, _⟩ | ⟨_, b2, o2, cap2, rfl, _, _, _, hr2⟩
    · omega
    have H1 := Lib.hid (fun j (h : j < L.length) => IntL.nth L j h hr1)
    have H2 := Lib.hid (fun j (h : j < L.length) => IntL.nth L j h hr2)
    have HB1 := Lib.hid (fun (wr : World) (hb : Below w.heap.size w wr) j (h : j < L.length) => IntL.nth L j h (rangeAt_below hb hr1))
    have HB2 := Lib.hid (fun (wr : World) (hb : Below w.heap.size w wr) j (h : j < L.length) => IntL.nth L j h (rangeAt_below hb hr2))
    clear h1 h2 hr1 hr2 H1 H2
    go_enter Try.func39, Try.ntmps39
    go_wp2
    go_loopw [5] (fun i wr => ∃ (j : Nat), j ≤ L.length ∧ i = .int .i64 j ∧ Below w.heap.size w wr) (fun i _ => L.length - (intOf i).toNat)
    case atStart => exact ⟨0, Nat.zero_le _, rfl, Below.refl _ _⟩
    case round =>
      obtain ⟨j, hj, rfl, hb⟩ := hrel
      by_cases hjn : j < L.length
      · have c0 := HB1.out wr hb j hjn
        have d0 := HB2.out wr hb j hjn
        generalize L[j] = r at *
        have HB := Lib.hid hb
        have hki : (j : Int) < (L.length : Int) := by omega
        clear hb
        go_wp2
        go_quiet (fail)
        go_wp2
        go_roundw
        case rel => exact ⟨j + 1, by omega, by go_num, below_drewN HB.out _⟩
        case measure => simp [intOf]; omega
      · have HB := Lib.hid hb
        have hnj : ¬ ((j : Int) < (L.length : Int)) := by omega
        clear hb
        go_wp2
        go_ret
        exact ⟨rfl, HB.out⟩
/-- the copy of a slice of them -/
def ToIntEnd (L : List Int) (w : World) (e : Ending) (w' : World) : Prop := ∃ g, e = .returned (.slice (some ⟨g, 0, none⟩) L.length L.length) ∧ w'.ownsRow w.heap.size 3 1 (.slice (some ⟨g, 0, none⟩) L.length L.length) L.length (IntL.all L) ∧ Below w.heap.size w w'
def ToIntRel (L : List Int) (w : World) (n j : Nat) (wr : World) : Prop := ∃ cur, wr.ownsRow w.heap.size 3 1 (.slice (some ⟨w.heap.size, 0, none⟩) n n) n cur ∧ cur.take j = IntL.all (L.take j) ∧ Below w.heap.size w wr
theorem to_Int_step {L : List Int} {w wr : World} {n j : Nat} (hj : j < L.length) (hn : L.length = n) (hr : ToIntRel L w n j wr) : ToIntRel L w n (j + 1) (wr.setCell ⟨w.heap.size, j, none⟩ (.int .i64 L[j])) := by
  obtain ⟨cur, ho, hc, hbw⟩ := hr
  have hlen := ho.1
  refine ⟨_, own_put [.int .i64 L[j]] j wr cur ho, ?_, hbw.setCell (Nat.le_refl _) _⟩
  rw [putAt_take cur j [.int .i64 L[j]] (j + 1) rfl (by omega), hc]
  unfold IntL.all
  rw [List.take_succ_eq_append_getElem hj, List.flatMap_append]
  simp [IntL.cell]
set_option maxRecDepth 100000 in
set_option maxHeartbeats 1000000 in
theorem to_Int (L : List Int) (v : Value) (w : World) (hv : Cs.Shows w 0 1 v L.length (IntL.all L)) (hn : L.length ≤ 1048576) : Calls Try.prog 36 #[v] w (ToIntEnd L w) := by
  have hml : maxLen = 9223372036854775807 := rfl
  obtain ⟨i0, hi, hz0, hz1, hz2⟩ := info_parts zero_Int
  unfold ToIntEnd
  rcases Cs.shows_cases hv with ⟨h0, q, cap, rfl⟩ | ⟨hpos, b, o, cap, rfl, _, _, _, hr⟩
  · have hL : L = [] := List.length_eq_zero_iff.1 h0
    subst hL
    clear hv hn h0
    go_enter Try.func36, Try.ntmps36
    go_wp2_with (refine wpList_make_full _ rfl _ _ 58 rfl w.heap.size 3 i0 (.int .i64 0) 1 Try.underlying58 hi hz0 hz1 .i64 .i64 _ _ 0 rfl rfl rfl rfl (by rw [hz2]; omega) (by unfold maxLen; omega) (Nat.le_refl _) ?_; intro w1 hown hgrow; have hb1 := (Below.refl w.heap.size w).grown hgrow (Nat.le_refl _) (fun k e => by cases e); have HO := Lib.hid hown; have HB1 := Lib.hid hb1; clear hown hgrow hb1)
    refine wp_loop_rounds 1 ?_
    rw [rounds_succ]
    go_wp2
    go_ret
    refine ⟨w.heap.size, rfl, ?_, HB1.out⟩
    have h := HO.out
    have e := List.length_eq_zero_iff.1 (h.1.trans (Nat.zero_mul _))
    rw [e] at h
    exact h
  · have HB := Lib.hid (fun (wr : World) (hb : Below w.heap.size w wr) j (h : j < L.length) => IntL.nth L j h (rangeAt_below hb hr))
    clear hv hr
    go_enter Try.func36, Try.ntmps36
    go_wp2_with (refine wpList_make_full _ rfl _ _ 58 rfl w.heap.size 3 i0 (.int .i64 0) 1 Try.underlying58 hi hz0 hz1 .i64 .i64 _ _ L.length rfl rfl rfl rfl (by rw [hz2]; omega) (by unfold maxLen; omega) (Nat.le_refl _) ?_; intro w1 hown hgrow; have hb1 := (Below.refl w.heap.size w).grown hgrow (Nat.le_refl _) (fun k e => by cases e); have HO := Lib.hid hown; have HB1 := Lib.hid hb1; clear hown hgrow hb1)
    go_loopw [4] (fun i wr => ∃ (j : Nat), j ≤ L.length ∧ i = .int .i64 j ∧ ToIntRel L w L.length j wr) (fun i _ => L.length - (intOf i).toNat)
    case atStart => exact ⟨0, Nat.zero_le _, rfl, _, HO.out, by simp [IntL.all], HB1.out⟩
    case round =>
      obtain ⟨j, hj, rfl, hrel⟩ := hrel
      by_cases hjn : j < L.length
      · have HS := Lib.hid (to_Int_step hjn rfl hrel)
        obtain ⟨cur, ho, hc, hb⟩ := hrel
        have c0 := HB.out wr hb j hjn
        have hcl := ho.1
        obtain ⟨old, hold⟩ : ∃ old, wr.cell? ⟨w.heap.size, j, none⟩ = some old := ⟨cur[j]'(by omega), by
          rw [ho.cellAt j (by omega)]; exact List.getElem?_eq_getElem (by omega)⟩
        have hfz := ho.frozenAt j
        have hki : (j : Int) < (L.length : Int) := by omega
        clear ho hc hb hcl
        generalize L[j] = r at *
        go_wp2
        go_roundw
        case rel => exact ⟨j + 1, by omega, by go_num, HS.out⟩
        case measure => simp [intOf]; omega
      · have ej : j = L.length := by omega
        have hnj : ¬ ((j : Int) < (L.length : Int)) := by omega
        rw [ej] at hrel
        have HR := Lib.hid hrel
        clear hrel
        go_wp2
        go_ret
        obtain ⟨cur, ho, hc, hb⟩ := HR.out
        rw [List.take_of_length_le (by rw [ho.1]; omega), List.take_length] at hc
        rw [hc] at ho
        exact ⟨w.heap.size, rfl, ho, hb⟩
end Go.Proofs.Ytbbalmeglgecgaa
