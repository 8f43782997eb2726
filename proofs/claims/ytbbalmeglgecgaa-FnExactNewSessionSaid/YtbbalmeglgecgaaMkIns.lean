/- The marks that the laws write into slices of Ins, and their reading: markInsS. No condition. -/
import Derived.Test.YtbbalmeglgecgaaFlIns
import Derived.Test.YtbbalmeglgecgaaDat
import Derived.Test.YtbbalmeglgecgaaDat
import Derived.Deep.RegionWith
namespace Go.Proofs.Ytbbalmeglgecgaa
open Go.ChangeShapes Go.WideShapes Go.ChangeAt Go.RowKit
namespace InsR
/-- a row that bears the marks from a number on -/
def mkr (k : Nat) : InsR := ⟨(k : Int), ((k : Int) + 1), ((k : Int) + 1 + 1), ((k : Int) + 1 + 1 + 1)⟩
/-- a list of rows that bear them -/
def mkrs (L : List InsR) (k : Nat) : List InsR := markL (fun _ k => mkr k) (fun _ => 4) L k
theorem mkrs_len (L : List InsR) (k : Nat) : (mkrs L k).length = L.length := markL_len _ _ _ _
theorem cnt3 (L : List InsR) : cntL (fun _ => 4) L = 4 * L.length := by
  unfold cntL
  induction L with
  | nil => rfl
  | cons r L ih => simp only [List.map_cons, List.sum_cons, List.length_cons, ih]; omega
theorem mkrs_get (L : List InsR) (k j : Nat) (h : j < L.length) : (mkrs L k)[j]'(by rw [mkrs_len]; exact h) = mkr (k + 4 * j) := by
  have := markL_get (fun (_ : InsR) k => mkr k) (fun _ => 4) L k j h
  rw [cnt3, List.length_take, Nat.min_eq_left (by omega)] at this
  exact this
/-- the first rows bear their marks, the others are as they were -/
def half (L : List InsR) (k j : Nat) : List InsR := (mkrs L k).take j ++ L.drop j
theorem half_zero (L : List InsR) (k : Nat) : half L k 0 = L := by simp [half]
theorem half_all (L : List InsR) (k : Nat) : half L k L.length = mkrs L k := by simp [half, mkrs_len, List.take_of_length_le]
theorem all_len (L : List InsR) : (all L).length = L.length * 4 := by
  unfold all
  induction L with
  | nil => rfl
  | cons r L ih => rw [List.flatMap_cons, List.length_append, ih, len, List.length_cons]; omega
theorem half_at (L : List InsR) (k j : Nat) (h : j < L.length) : ∃ (x1 : List Value) (r : InsR) (x3 : List Value), x1.length = j * 4 ∧ all (half L k j) = x1 ++ r.cells ++ x3 ∧ ∀ c, c = k + 4 * j → all (half L k (j + 1)) = x1 ++ (mkr c).cells ++ x3 := by
  refine ⟨all ((mkrs L k).take j), L[j], all (L.drop (j + 1)), ?_, ?_, fun c hc => ?_⟩
  · rw [all_len, List.length_take, mkrs_len, Nat.min_eq_left (by omega)]
  · unfold half
    rw [List.drop_eq_getElem_cons h]
    simp only [all, List.flatMap_append, List.flatMap_cons, List.append_assoc]
  · unfold half
    rw [List.take_succ_eq_append_getElem (by rw [mkrs_len]; exact h), mkrs_get L k j h, ← hc]
    simp only [all, List.flatMap_append, List.flatMap_cons, List.append_assoc, List.flatMap_nil, List.nil_append]
end InsR
open InsR (all costs)
set_option maxRecDepth 100000 in
theorem mark_Ins_none (a : Option Addr) (c k : Nat) (w : World) : Calls Try.prog 71 #[.slice a 0 c, .int .i64 k] w fun e w' => e = .returned (.int .i64 k) ∧ w = w' := by
  go_enter Try.func71, Try.ntmps71
  go_wp2
  refine wp_loop_rounds 1 ?_
  rw [rounds_succ]
  go_wp2
  go_ret
  exact ⟨rfl, rfl⟩
def MarkInsEnd (L : List InsR) (base k : Nat) (v : Value) (w : World) (e : Ending) (w' : World) : Prop := e = .returned (.int .i64 ((k + 4 * L.length : Nat) : Int)) ∧ w'.ownsRow base 68 4 v L.length (all (InsR.mkrs L k)) ∧ Apart v.ownBlock.toList w w'
set_option maxRecDepth 100000 in
set_option maxHeartbeats 1000000 in
theorem mark_Ins (L : List InsR) (v : Value) (k base : Nat) (w : World) (ho : w.ownsRow base 68 4 v L.length (all L)) (h1 : 1 ≤ k) (hk : k + 4 * L.length ≤ 1000000000000) :
    Calls Try.prog 71 #[v, .int .i64 k] w (MarkInsEnd L base k v w) := by
  have hml : maxLen = 9223372036854775807 := rfl
  rcases ho.2 with ⟨rfl, h0⟩ | ⟨g, cap, cur, rfl, _⟩
  · have hL : L = [] := List.length_eq_zero_iff.1 h0
    subst hL
    exact (mark_Ins_none _ _ _ _).mono fun e w' ⟨he, hw⟩ => by subst hw; exact ⟨he, ho, Apart.refl _ _⟩
  have HOW := Lib.hid ho
  have HG := Lib.hid (fun j (h : j < L.length) => InsR.half_at L k j h)
  have HZ := Lib.hid (InsR.half_zero L k)
  have HE := Lib.hid (InsR.half_all L k)
  unfold MarkInsEnd
  clear ho
  generalize hlen : L.length = n at *
  have HL := Lib.hid hlen
  clear hlen
  go_enter Try.func71, Try.ntmps71
  go_wp2
  go_loopw [1, 5] (fun m i wr => ∃ (j c : Nat), j ≤ n ∧ i = .int .i64 j ∧ m = .int .i64 c ∧ c = k + 4 * j ∧ wr.ownsRow base 68 4 (.slice (some ⟨g, 0, none⟩) n cap) n (all (InsR.half L k j)) ∧ Apart [g] w wr) (fun _ i _ => n - (intOf i).toNat)
  case atStart => exact ⟨0, k, Nat.zero_le _, rfl, rfl, rfl, by rw [HZ.out]; exact HOW.out, Apart.refl _ _⟩
  case round =>
    obtain ⟨j, c, hj, rfl, rfl, hc, ho, hap⟩ := hrel
    by_cases hjn : j < n
    · obtain ⟨x1, r, x3, hl1, hx0, hx1⟩ := HG.out j hjn
      rw [hx0] at ho
      have HX1 := Lib.hid (hx1 c hc)
      have HL1 := Lib.hid hl1
      have hcb : c + 4 ≤ 1000000000000 := by omega
      have hc1 : 1 ≤ c := by omega
      have HC := Lib.hid hc
      clear hx0 hx1 hl1
      have HO : Hid (wr.ownsRow base 68 4 (.slice (some ⟨g, 0, none⟩) n cap) n (x1 ++ [.int .i64 r.f0, .int .i64 r.f1, .int .i64 r.f2, .int .i64 r.f3] ++ x3)) := Lib.hid ho
      have HA := Lib.hid hap
      have hr := range_mid (own_range HO.out)
      rw [HL1.out, Nat.zero_add] at hr
      have c0 : wr.cell? ⟨g, j * 4, none⟩ = some (.int .i64 r.f0) := hr 0 _ rfl
      have c1 : wr.cell? ⟨g, j * 4 + 1, none⟩ = some (.int .i64 r.f1) := hr 1 _ rfl
      have c2 : wr.cell? ⟨g, j * 4 + 2, none⟩ = some (.int .i64 r.f2) := hr 2 _ rfl
      have c3 : wr.cell? ⟨g, j * 4 + 3, none⟩ = some (.int .i64 r.f3) := hr 3 _ rfl
      have f0 := HO.out.frozenAt (j * 4)
      have f1 := HO.out.frozenAt (j * 4 + 1)
      have f2 := HO.out.frozenAt (j * 4 + 2)
      have f3 := HO.out.frozenAt (j * 4 + 3)
      clear hr hc ho hap
      have OE := Lib.hid (Cs.own_poke (i := 3) (Cs.own_poke (i := 2) (Cs.own_poke (i := 1) (Cs.own_poke (i := 0) HO.out HL1.out (by simp) (.int .i64 (c : Int))) HL1.out (by simp) (.int .i64 ((c : Int) + 1))) HL1.out (by simp) (.int .i64 ((c : Int) + 1 + 1))) HL1.out (by simp) (.int .i64 ((c : Int) + 1 + 1 + 1)))
      have AE := Lib.hid (((((Apart.refl [g] wr).setCell (p := ⟨g, j * 4, none⟩) (by simp) (.int .i64 (c : Int))).setCell (p := ⟨g, j * 4 + 1, none⟩) (by simp) (.int .i64 ((c : Int) + 1))).setCell (p := ⟨g, j * 4 + 2, none⟩) (by simp) (.int .i64 ((c : Int) + 1 + 1))).setCell (p := ⟨g, j * 4 + 3, none⟩) (by simp) (.int .i64 ((c : Int) + 1 + 1 + 1)))
      go_wp2
      go_roundw
      case rel => exact ⟨j + 1, c + 4, by omega, by go_num, by go_num, by rw [HC.out]; omega, by rw [HX1.out]; exact OE.out, HA.out.trans AE.out⟩
      case measure => simp [intOf]; omega
    · have ej : j = n := by omega
      subst ej
      have HR := Lib.hid (And.intro hc (And.intro ho hap))
      clear hc ho hap
      go_wp2
      go_ret
      obtain ⟨hc, ho, hap⟩ := HR.out
      rw [HE.out] at ho
      exact ⟨by rw [hc]; rfl, ho, hap⟩
end Go.Proofs.Ytbbalmeglgecgaa
