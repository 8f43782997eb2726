/- Contracts of WordOk, widthOk and their model: whether a number is a word. The model of what is a program of the machine: kinds of operands, forms of instructions, programs. No condition. -/
import Derived.Test.YthmababifgaejaaGreatRows
import Derived.WalkKit
import Derived.ProofKit
import Derived.OpenShut
import Derived.Handy
import Derived.Lib.Hide
import Derived.Below
import Derived.IntWalk
import Derived.WalkLawsBesides
import Derived.WalkSmall
import Derived.Test.YthmababifgaejaaGreatCmGFlat
namespace Go.Proofs.YthmababifgaejaaGreat
open Go.ChangeShapes Go.WideShapes Go.ChangeAt Go.RowKit
theorem pw (w : Int) (h1 : 1 ≤ w) (h2 : w ≤ 16) : 2 ≤ (2 : Int) ^ w.toNat ∧ (2 : Int) ^ w.toNat ≤ 65536 := by
  have : w = 1 ∨ w = 2 ∨ w = 3 ∨ w = 4 ∨ w = 5 ∨ w = 6 ∨ w = 7 ∨ w = 8 ∨ w = 9 ∨ w = 10 ∨ w = 11 ∨ w = 12 ∨ w = 13 ∨ w = 14 ∨ w = 15 ∨ w = 16 := by omega
  rcases this with h | h | h | h | h | h | h | h | h | h | h | h | h | h | h | h <;> subst h <;> decide
def IsWk (w a : Int) : Prop := 1 ≤ w ∧ w ≤ 16 ∧ 0 ≤ a ∧ a ≤ 2 ^ w.toNat - 1
instance (w a : Int) : Decidable (IsWk w a) := by unfold IsWk; infer_instance
/-- whether a number is a word of so many bits -/
def wkB (w a : Int) : Bool := decide (IsWk w a)
theorem ok_cases (w a : Int) : (w < 1 ∧ wkB w a = false) ∨ (1 ≤ w ∧ 16 < w ∧ wkB w a = false) ∨ (1 ≤ w ∧ w ≤ 16 ∧ a < 0 ∧ wkB w a = false) ∨ (1 ≤ w ∧ w ≤ 16 ∧ 0 ≤ a ∧ 2 ^ w.toNat - 1 < a ∧ wkB w a = false) ∨ (1 ≤ w ∧ w ≤ 16 ∧ 0 ≤ a ∧ a ≤ 2 ^ w.toNat - 1 ∧ wkB w a = true) := by
  by_cases h : IsWk w a
  · have : wkB w a = true := decide_eq_true h
    obtain ⟨h1, h2, h3, h4⟩ := h
    exact .inr (.inr (.inr (.inr ⟨h1, h2, h3, h4, this⟩)))
  · have hf : wkB w a = false := decide_eq_false h
    unfold IsWk at h
    by_cases h1 : 1 ≤ w
    · by_cases h2 : w ≤ 16
      · obtain ⟨q1, q2⟩ := pw w h1 h2
        by_cases h3 : 0 ≤ a
        · exact .inr (.inr (.inr (.inl ⟨h1, h2, h3, by omega, hf⟩)))
        · exact .inr (.inr (.inl ⟨h1, h2, by omega, hf⟩))
      · exact .inr (.inl ⟨h1, by omega, hf⟩)
    · exact .inl ⟨by omega, hf⟩
/-- whether a number is a width -/
def wdB (w : Int) : Bool := decide (1 ≤ w ∧ w ≤ 16)
theorem wd_cases (w : Int) : (w < 1 ∧ wdB w = false) ∨ (1 ≤ w ∧ 16 < w ∧ wdB w = false) ∨ (1 ≤ w ∧ w ≤ 16 ∧ wdB w = true) := by
  unfold wdB
  by_cases h : 1 ≤ w
  · by_cases h' : w ≤ 16
    · exact .inr (.inr ⟨h, h', by simp; omega⟩)
    · exact .inr (.inl ⟨h, by omega, by simp; omega⟩)
  · exact .inl ⟨by omega, by simp; omega⟩
theorem wk_wd {w a : Int} (h : wkB w a = true) : wdB w = true := by
  have : IsWk w a := of_decide_eq_true h
  exact decide_eq_true ⟨this.1, this.2.1⟩
theorem s_wk (w a : Int) (W : World) : Calls Tryz.prog 57 #[.int .i64 w, .int .i64 a] W fun e W' => e = .returned (.bool (wkB w a)) ∧ W = W' := by
  rcases ok_cases w a with ⟨h1, he⟩ | ⟨h1, h2, he⟩ | ⟨h1, h2, h3, he⟩ | ⟨h1, h2, h3, h4, he⟩ | ⟨h1, h2, h3, h4, he⟩
  · rw [he]
    clear he
    go_enter Tryz.func57, Tryz.ntmps57
    go_wp2
    all_goals go_ret
    all_goals exact ⟨rfl, rfl⟩
  · rw [he]
    clear he
    have hx : decide (w ≤ 16) = false := by simp; omega
    go_enter Tryz.func57, Tryz.ntmps57
    go_wp2
    all_goals go_ret
    all_goals exact ⟨rfl, rfl⟩
  · rw [he]
    clear he
    obtain ⟨hp1, hp2⟩ := pw w h1 h2
    go_enter Tryz.func57, Tryz.ntmps57
    go_wp2
    all_goals go_ret
    all_goals exact ⟨rfl, rfl⟩
  · rw [he]
    clear he
    obtain ⟨hp1, hp2⟩ := pw w h1 h2
    have hx : decide (a ≤ 2 ^ w.toNat - 1) = false := by simp; omega
    go_enter Tryz.func57, Tryz.ntmps57
    go_wp2
    all_goals go_ret
    all_goals exact ⟨rfl, rfl⟩
  · rw [he]
    clear he
    obtain ⟨hp1, hp2⟩ := pw w h1 h2
    go_enter Tryz.func57, Tryz.ntmps57
    go_wp2
    all_goals go_ret
    all_goals exact ⟨rfl, rfl⟩
theorem i_wk (w a : Int) (W : World) : Calls Tryz.prog 62 #[.int .i64 w, .int .i64 a] W fun e W' => e = .returned (.bool (wkB w a)) ∧ W = W' := by
  rcases ok_cases w a with ⟨h1, he⟩ | ⟨h1, h2, he⟩ | ⟨h1, h2, h3, he⟩ | ⟨h1, h2, h3, h4, he⟩ | ⟨h1, h2, h3, h4, he⟩
  · rw [he]
    clear he
    go_enter Tryz.func62, Tryz.ntmps62
    go_wp2
    all_goals go_ret
    all_goals exact ⟨rfl, rfl⟩
  · rw [he]
    clear he
    have hx : decide (w ≤ 16) = false := by simp; omega
    go_enter Tryz.func62, Tryz.ntmps62
    go_wp2
    all_goals go_ret
    all_goals exact ⟨rfl, rfl⟩
  · rw [he]
    clear he
    obtain ⟨hp1, hp2⟩ := pw w h1 h2
    go_enter Tryz.func62, Tryz.ntmps62
    go_wp2
    all_goals go_ret
    all_goals exact ⟨rfl, rfl⟩
  · rw [he]
    clear he
    obtain ⟨hp1, hp2⟩ := pw w h1 h2
    have hx : decide (a ≤ 2 ^ w.toNat - 1) = false := by simp; omega
    go_enter Tryz.func62, Tryz.ntmps62
    go_wp2
    all_goals go_ret
    all_goals exact ⟨rfl, rfl⟩
  · rw [he]
    clear he
    obtain ⟨hp1, hp2⟩ := pw w h1 h2
    go_enter Tryz.func62, Tryz.ntmps62
    go_wp2
    all_goals go_ret
    all_goals exact ⟨rfl, rfl⟩
theorem i_wd (w : Int) (W : World) : Calls Tryz.prog 79 #[.int .i64 w] W fun e W' => e = .returned (.bool (wdB w)) ∧ W = W' := by
  rcases wd_cases w with ⟨h1, he⟩ | ⟨h1, h2, he⟩ | ⟨h1, h2, he⟩
  all_goals
    rw [he]
    clear he
  · go_enter Tryz.func79, Tryz.ntmps79
    go_wp2
    go_ret
    exact ⟨rfl, rfl⟩
  · have hx : decide (w ≤ 16) = false := by simp; omega
    go_enter Tryz.func79, Tryz.ntmps79
    go_wp2
    go_ret
    exact ⟨rfl, rfl⟩
  · go_enter Tryz.func79, Tryz.ntmps79
    go_wp2
    go_ret
    exact ⟨rfl, rfl⟩
theorem s_wd (w : Int) (W : World) : Calls Tryz.prog 20 #[.int .i64 w, .int .i64 1, .int .i64 16] W fun e W' => e = .returned (.bool (wdB w)) ∧ W = W' := by
  rcases wd_cases w with ⟨h1, he⟩ | ⟨h1, h2, he⟩ | ⟨h1, h2, he⟩
  all_goals
    rw [he]
    clear he
  · go_enter Tryz.func20, Tryz.ntmps20
    go_wp2
    go_ret
    exact ⟨rfl, rfl⟩
  · have hx : decide (w ≤ 16) = false := by simp; omega
    go_enter Tryz.func20, Tryz.ntmps20
    go_wp2
    go_ret
    exact ⟨rfl, rfl⟩
  · go_enter Tryz.func20, Tryz.ntmps20
    go_wp2
    go_ret
    exact ⟨rfl, rfl⟩
end Go.Proofs.YthmababifgaejaaGreat
namespace Go.Proofs.YthmababifgaejaaGreat
open Go.ChangeShapes Go.WideShapes Go.ChangeAt Go.RowKit
/-- an operand of a kind: 1 a register, 2 a word, 3 a place, 4 an operation, else nothing -/
def opB (o n w size : Int) : Bool := if o = 1 then decide (0 ≤ n) && decide (n ≤ 3) else if o = 2 then wkB w n else if o = 3 then decide (0 ≤ n) && decide (n ≤ size) else if o = 4 then decide (3 ≤ n) && decide (n ≤ 16) else decide (n = 0)
def fA (op : Int) : Int := if op = 9 ∨ op = 11 ∨ op = 12 ∨ op = 14 then 0 else 1
def fB (op : Int) : Int := if op = 1 then 2 else if op = 2 ∨ op = 3 ∨ op = 7 ∨ op = 8 then 1 else if op = 9 ∨ op = 10 ∨ op = 11 then 3 else 0
def fC (op : Int) : Int := if op = 3 then 4 else 0
def fL (op : Int) : Bool := decide (op = 9 ∨ op = 12 ∨ op = 14)
/-- the instruction can be in a program of a width and a size -/
def insB (r : InsR) (w size : Int) : Bool := decide (1 ≤ r.f0 ∧ r.f0 ≤ 14) && (opB (fA r.f0) r.f1 w size && (opB (fB r.f0) r.f2 w size && opB (fC r.f0) r.f3 w size))
/-- the program is one -/
def prB (vw vm vi : Int) (L : List InsR) : Bool := decide (2 ≤ vw ∧ vw ≤ 8 ∧ 1 ≤ vm ∧ vm ≤ 6 ∧ wkB vw vm = true ∧ 0 ≤ vi ∧ vi ≤ 3 ∧ 1 ≤ L.length ∧ L.length ≤ 40) && L.all fun r => insB r vw L.length
theorem opB_reg (n w size : Int) : opB 1 n w size = (decide (0 ≤ n) && decide (n ≤ 3)) := rfl
theorem opB_word (n w size : Int) : opB 2 n w size = wkB w n := rfl
theorem opB_place (n w size : Int) : opB 3 n w size = (decide (0 ≤ n) && decide (n ≤ size)) := rfl
theorem opB_oper (n w size : Int) : opB 4 n w size = (decide (3 ≤ n) && decide (n ≤ 16)) := rfl
theorem opB_none (n w size : Int) : opB 0 n w size = decide (n = 0) := rfl
theorem op_cases (op : Int) : op = 1 ∨ op = 2 ∨ op = 3 ∨ op = 4 ∨ op = 5 ∨ op = 6 ∨ op = 7 ∨ op = 8 ∨ op = 9 ∨ op = 10 ∨ op = 11 ∨ op = 12 ∨ op = 13 ∨ op = 14 ∨ (op < 1 ∨ 14 < op) := by omega
theorem ins_out {r : InsR} {w size : Int} (h : r.f0 < 1 ∨ 14 < r.f0) : insB r w size = false := by
  unfold insB
  rw [decide_eq_false (by omega)]
  rfl
theorem ins_in {r : InsR} {w size : Int} (h1 : 1 ≤ r.f0) (h2 : r.f0 ≤ 14) : insB r w size = (opB (fA r.f0) r.f1 w size && (opB (fB r.f0) r.f2 w size && opB (fC r.f0) r.f3 w size)) := by
  unfold insB
  rw [decide_eq_true ⟨h1, h2⟩]
  rfl
theorem pr_out {vw vm vi : Int} {L : List InsR} (h : ¬ (2 ≤ vw ∧ vw ≤ 8 ∧ 1 ≤ vm ∧ vm ≤ 6 ∧ wkB vw vm = true ∧ 0 ≤ vi ∧ vi ≤ 3 ∧ 1 ≤ L.length ∧ L.length ≤ 40)) : prB vw vm vi L = false := by
  unfold prB
  rw [decide_eq_false h]
  rfl
theorem pr_bad {vw vm vi : Int} {L : List InsR} {j : Nat} (hj : j < L.length) (h : insB L[j] vw L.length = false) : prB vw vm vi L = false := by
  unfold prB
  rw [Bool.and_eq_false_iff]
  refine .inr (Bool.eq_false_iff.2 fun hh => ?_)
  have := List.all_eq_true.1 hh _ (List.getElem_mem hj)
  rw [h] at this
  cases this
theorem pr_ok {vw vm vi : Int} {L : List InsR} (h1 : 2 ≤ vw) (h2 : vw ≤ 8) (h3 : 1 ≤ vm) (h4 : vm ≤ 6) (h5 : wkB vw vm = true) (h6 : 0 ≤ vi) (h7 : vi ≤ 3) (h8 : 1 ≤ L.length) (h9 : L.length ≤ 40) (h : ∀ j (hj : j < L.length), insB L[j] vw L.length = true) : prB vw vm vi L = true := by
  unfold prB
  rw [decide_eq_true ⟨h1, h2, h3, h4, h5, h6, h7, h8, h9⟩, Bool.true_and, List.all_eq_true]
  intro r hr
  obtain ⟨j, hj, rfl⟩ := List.getElem_of_mem hr
  exact h j hj
theorem pr_in {vw vm vi : Int} {L : List InsR} (h : prB vw vm vi L = true) : (2 ≤ vw ∧ vw ≤ 8 ∧ 1 ≤ vm ∧ vm ≤ 6 ∧ wkB vw vm = true ∧ 0 ≤ vi ∧ vi ≤ 3 ∧ 1 ≤ L.length ∧ L.length ≤ 40) ∧ ∀ j (hj : j < L.length), insB L[j] vw L.length = true := by
  unfold prB at h
  rw [Bool.and_eq_true] at h
  exact ⟨of_decide_eq_true h.1, fun j hj => List.all_eq_true.1 h.2 _ (List.getElem_mem hj)⟩
end Go.Proofs.YthmababifgaejaaGreat
