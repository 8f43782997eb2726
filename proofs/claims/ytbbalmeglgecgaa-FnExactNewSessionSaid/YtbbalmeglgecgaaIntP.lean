/- Lists of int as rows: their cells and marks. No condition. -/
import Derived.Test.YtbbalmeglgecgaaRows
import Derived.Test.YtbbalmeglgecgaaFlat
import Derived.Test.YtbbalmeglgecgaaDat
import Derived.WalkKit
import Derived.ProofKit
import Derived.OpenShut
import Derived.Handy
import Derived.Lib.Hide
import Derived.Below
import Derived.IntWalk
import Derived.WalkLawsBesides
import Derived.Deep.QuietTactic
import Derived.BigQuiet
import Derived.OwnWalk
import Derived.Laws.OwnMore
import Derived.Deep.OwnRows
import Derived.Deep.MidRow
import Derived.WalkSmall
import Derived.StillTailTactics
import Derived.KernelRfl
import Derived.Outline
namespace Go.Proofs.Ytbbalmeglgecgaa
open Go.ChangeShapes Go.WideShapes Go.ChangeAt Go.RowKit
namespace IntL
def cell (x : Int) : List Value := [.int .i64 x]
/-- the cells of a list -/
def all (L : List Int) : List Value := L.flatMap cell
def Ok (x : Int) : Prop := (-9223372036854775808 ≤ x ∧ x ≤ 9223372036854775807)
theorem all_len (L : List Int) : (all L).length = L.length := by
  unfold all
  induction L with
  | nil => rfl
  | cons r L ih => rw [List.flatMap_cons, List.length_append, ih, List.length_cons]; simp [cell]; omega
theorem all_map (L : List Int) : all L = L.map (fun x => .int .i64 x) := by
  unfold all
  induction L with
  | nil => rfl
  | cons r L ih => rw [List.flatMap_cons, ih]; rfl
theorem all_app (a b : List Int) : all (a ++ b) = all a ++ all b := by unfold all; rw [List.flatMap_append]
theorem nth {w : World} {b o : Nat} (L : List Int) (j : Nat) (h : j < L.length) (hr : w.rangeAt b o (all L)) : w.cell? ⟨b, o + j, none⟩ = some (.int .i64 L[j]) := by
  have := flat_nth cell 1 (fun _ => rfl) L j h hr 0 _ rfl
  rwa [Nat.mul_one, Nat.add_zero] at this
/-- the marks from a number on -/
def mkrs (L : List Int) (k : Nat) : List Int := markL (fun _ k => (k : Int)) (fun _ => 1) L k
theorem mkrs_len (L : List Int) (k : Nat) : (mkrs L k).length = L.length := markL_len _ _ _ _
theorem cnt1 (L : List Int) : cntL (fun _ => 1) L = L.length := by
  unfold cntL
  induction L with
  | nil => rfl
  | cons r L ih => simp only [List.map_cons, List.sum_cons, List.length_cons, ih]; omega
theorem mkrs_get (L : List Int) (k j : Nat) (h : j < L.length) : (mkrs L k)[j]'(by rw [mkrs_len]; exact h) = (((k + j : Nat) : Int) : Int) := by
  have := markL_get (fun (_ : Int) k => (k : Int)) (fun _ => 1) L k j h
  rw [cnt1, List.length_take, Nat.min_eq_left (by omega)] at this
  exact this
/-- the first ones bear their marks, the others are as they were -/
def half (L : List Int) (k j : Nat) : List Int := (mkrs L k).take j ++ L.drop j
theorem half_zero (L : List Int) (k : Nat) : half L k 0 = L := by simp [half]
theorem half_all (L : List Int) (k : Nat) : half L k L.length = mkrs L k := by simp [half, mkrs_len, List.take_of_length_le]
theorem half_at (L : List Int) (k j : Nat) (h : j < L.length) : ∃ (x1 : List Value) (r : Int) (x3 : List Value), x1.length = j ∧ all (half L k j) = x1 ++ [.int .i64 r] ++ x3 ∧ ∀ c : Nat, c = k + j → all (half L k (j + 1)) = x1 ++ [.int .i64 ((c : Int) : Int)] ++ x3 := by
  refine ⟨all ((mkrs L k).take j), L[j], all (L.drop (j + 1)), ?_, ?_, fun c hc => ?_⟩
  · rw [all_len, List.length_take, mkrs_len, Nat.min_eq_left (by omega)]
  · unfold half
    rw [List.drop_eq_getElem_cons h]
    simp only [all, cell, List.flatMap_append, List.flatMap_cons, List.append_assoc]
  · unfold half
    rw [List.take_succ_eq_append_getElem (by rw [mkrs_len]; exact h), mkrs_get L k j h, ← hc]
    simp only [all, cell, List.flatMap_append, List.flatMap_cons, List.append_assoc, List.flatMap_nil, List.nil_append]
end IntL
end Go.Proofs.Ytbbalmeglgecgaa
