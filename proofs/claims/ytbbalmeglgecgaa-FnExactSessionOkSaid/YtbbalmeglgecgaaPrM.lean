/- The model of what is a program of the machine: kinds of operands, forms of instructions, programs. No condition. -/
import Derived.Test.YtbbalmeglgecgaaFlIns
import Derived.Test.YtbbalmeglgecgaaWk
namespace Go.Proofs.Ytbbalmeglgecgaa
open Go.ChangeShapes Go.WideShapes Go.ChangeAt Go.RowKit
/-- an operand of a kind: 1 a register, 2 a word, 3 a place, 4 an operation, else nothing -/
def opB (o n w size : Int) : Bool := if o = 1 then decide (0 ≤ n) && decide (n ≤ 3) else if o = 2 then wkB w n else if o = 3 then decide (0 ≤ n) && decide (n ≤ size) else if o = 4 then decide (3 ≤ n) && decide (n ≤ 16) else decide (n = 0)
def fA (op : Int) : Int := if op = 9 ∨ op = 11 ∨ op = 12 ∨ op = 14 then 0 else 1
def fB (op : Int) : Int := if op = 1 then 2 else if op = 2 ∨ op = 3 ∨ op = 7 ∨ op = 8 then 1 else if op = 9 ∨ op = 10 ∨ op = 11 then 3 else 0
def fC (op : Int) : Int := if op = 3 then 4 else 0
def fL (op : Int) : Bool := decide (op = 9 ∨ op = 12 ∨ op = 14)
/-- the instruction can be in a program of a width and a size -/
def insB (r : InsR) (w size : Int) : Bool := decide (1 ≤ r.f0 ∧ r.f0 ≤ 14) && (opB (fA r.f0) r.f1 w size && (opB (fB r.f0) r.f2 w size && opB (fC r.f0) r.f3 w size))
/-- the program is one -/
def prB (vw vm vi : Int) (L : List InsR) : Bool := decide (2 ≤ vw ∧ vw ≤ 8 ∧ 1 ≤ vm ∧ vm ≤ 6 ∧ wkB vw vm = true ∧ 0 ≤ vi ∧ vi ≤ 3 ∧ 1 ≤ L.length ∧ L.length ≤ 40) && L.all fun r => insB r vw L.length
theorem opB_reg (n w size : Int) : opB 1 n w size = (decide (0 ≤ n) && decide (n ≤ 3)) := rfl
theorem opB_word (n w size : Int) : opB 2 n w size = wkB w n := rfl
theorem opB_place (n w size : Int) : opB 3 n w size = (decide (0 ≤ n) && decide (n ≤ size)) := rfl
theorem opB_oper (n w size : Int) : opB 4 n w size = (decide (3 ≤ n) && decide (n ≤ 16)) := rfl
theorem opB_none (n w size : Int) : opB 0 n w size = decide (n = 0) := rfl
theorem op_cases (op : Int) : op = 1 ∨ op = 2 ∨ op = 3 ∨ op = 4 ∨ op = 5 ∨ op = 6 ∨ op = 7 ∨ op = 8 ∨ op = 9 ∨ op = 10 ∨ op = 11 ∨ op = 12 ∨ op = 13 ∨ op = 14 ∨ (op < 1 ∨ 14 < op) := by omega
theorem ins_out {r : InsR} {w size : Int} (h : r.f0 < 1 ∨ 14 < r.f0) : insB r w size = false := by
  unfold insB
  rw [decide_eq_false (by omega)]
  rfl
theorem ins_in {r : InsR} {w size : Int} (h1 : 1 ≤ r.f0) (h2 : r.f0 ≤ 14) : insB r w size = (opB (fA r.f0) r.f1 w size && (opB (fB r.f0) r.f2 w size && opB (fC r.f0) r.f3 w size)) := by
  unfold insB
  rw [decide_eq_true ⟨h1, h2⟩]
  rfl
theorem pr_out {vw vm vi : Int} {L : List InsR} (h : ¬ (2 ≤ vw ∧ vw ≤ 8 ∧ 1 ≤ vm ∧ vm ≤ 6 ∧ wkB vw vm = true ∧ 0 ≤ vi ∧ vi ≤ 3 ∧ 1 ≤ L.length ∧ L.length ≤ 40)) : prB vw vm vi L = false := by
  unfold prB
  rw [decide_eq_false h]
  rfl
theorem pr_bad {vw vm vi : Int} {L : List InsR} {j : Nat} (hj : j < L.length) (h : insB L[j] vw L.length = false) : prB vw vm vi L = false := by
  unfold prB
  rw [Bool.and_eq_false_iff]
  refine .inr (Bool.eq_false_iff.2 fun hh => ?_)
  have := List.all_eq_true.1 hh _ (List.getElem_mem hj)
  rw [h] at this
  cases this
theorem pr_ok {vw vm vi : Int} {L : List InsR} (h1 : 2 ≤ vw) (h2 : vw ≤ 8) (h3 : 1 ≤ vm) (h4 : vm ≤ 6) (h5 : wkB vw vm = true) (h6 : 0 ≤ vi) (h7 : vi ≤ 3) (h8 : 1 ≤ L.length) (h9 : L.length ≤ 40) (h : ∀ j (hj : j < L.length), insB L[j] vw L.length = true) : prB vw vm vi L = true := by
  unfold prB
  rw [decide_eq_true ⟨h1, h2, h3, h4, h5, h6, h7, h8, h9⟩, Bool.true_and, List.all_eq_true]
  intro r hr
  obtain ⟨j, hj, rfl⟩ := List.getElem_of_mem hr
  exact h j hj
theorem pr_in {vw vm vi : Int} {L : List InsR} (h : prB vw vm vi L = true) : (2 ≤ vw ∧ vw ≤ 8 ∧ 1 ≤ vm ∧ vm ≤ 6 ∧ wkB vw vm = true ∧ 0 ≤ vi ∧ vi ≤ 3 ∧ 1 ≤ L.length ∧ L.length ≤ 40) ∧ ∀ j (hj : j < L.length), insB L[j] vw L.length = true := by
  unfold prB at h
  rw [Bool.and_eq_true] at h
  exact ⟨of_decide_eq_true h.1, fun j hj => List.all_eq_true.1 h.2 _ (List.getElem_mem hj)⟩
end Go.Proofs.Ytbbalmeglgecgaa
