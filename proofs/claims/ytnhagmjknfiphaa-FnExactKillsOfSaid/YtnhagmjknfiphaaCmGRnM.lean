/- The model of a run. No condition. The model of StepState. No condition. What a function leaves that gives a list of ints. No condition. -/
import Derived.Test.YtnhagmjknfiphaaCmGWord
import Derived.Test.YtnhagmjknfiphaaCmGIntP
namespace Go.Proofs.Ytnhagmjknfiphaa
open Go.ChangeShapes Go.WideShapes Go.ChangeAt Go.RowKit
/-- the state after so many steps, and the places whose instructions were begun -/
def stN (vw vm vi : Int) (L : List InsR) (I : List Int) : Nat → StR
  | 0 => newSt vm
  | n + 1 => stepV vw vm vi L I (stN vw vm vi L I n)
def trN (vw vm vi : Int) (L : List InsR) (I : List Int) : Nat → List Int
  | 0 => []
  | n + 1 => if begunB L.length (stN vw vm vi L I n) = true then trN vw vm vi L I n ++ [(stN vw vm vi L I n).pc] else trN vw vm vi L I n
def rnB (vw vm vi : Int) (L : List InsR) (I : List Int) (f : Int) : Bool := inB vw vm vi L I && (decide (0 ≤ f) && decide (f ≤ 400))
def rnV (vw vm vi : Int) (L : List InsR) (I : List Int) (f : Int) : StR := if rnB vw vm vi L I f = true then stN vw vm vi L I f.toNat else zeroSt
def rtV (vw vm vi : Int) (L : List InsR) (I : List Int) (f : Int) : List Int := if rnB vw vm vi L I f = true then trN vw vm vi L I f.toNat else []
section
variable {vw vm vi : Int} {L : List InsR} {I : List Int}
theorem in_of (h : inB vw vm vi L I = true) : prB vw vm vi L = true ∧ (I.length : Int) = vi ∧ ∀ y ∈ I, IsW vw y := by
  unfold inB at h
  simp only [Bool.and_eq_true, decide_eq_true_eq] at h
  exact ⟨h.1, h.2.1, fun y hy => word_of (opr_all h.2.2 y hy)⟩
theorem gd_N (h : inB vw vm vi L I = true) : ∀ n, Gd vw vm vi L.length (stN vw vm vi L I n)
  | 0 => gd_new (in_of h).1
  | n + 1 => gd_step (in_of h).1 (gd_N h n) (in_of h).2
theorem step_stop {x : StR} (h : x.cd ≠ 0) : stepV vw vm vi L I x = x := by
  unfold stepV
  rw [if_pos (.inl h)]
theorem begun_stop {x : StR} {n : Int} (h : x.cd ≠ 0) : begunB n x = false := decide_eq_false (fun g => h g.1)
theorem stN_stop {n : Nat} (h : (stN vw vm vi L I n).cd ≠ 0) : ∀ m, stN vw vm vi L I (n + m) = stN vw vm vi L I n ∧ trN vw vm vi L I (n + m) = trN vw vm vi L I n
  | 0 => ⟨rfl, rfl⟩
  | m + 1 => by
    obtain ⟨h1, h2⟩ := stN_stop h m
    have e : n + (m + 1) = (n + m) + 1 := rfl
    rw [e]
    refine ⟨?_, ?_⟩
    · show stepV vw vm vi L I (stN vw vm vi L I (n + m)) = _
      rw [h1]
      exact step_stop h
    · show (if begunB L.length (stN vw vm vi L I (n + m)) = true then _ else trN vw vm vi L I (n + m)) = _
      rw [h1, begun_stop h, if_neg (by simp), h2]
theorem trN_len : ∀ n, (trN vw vm vi L I n).length ≤ n
  | 0 => Nat.le_refl _
  | n + 1 => by
    have := trN_len n
    show (if begunB L.length (stN vw vm vi L I n) = true then trN vw vm vi L I n ++ [(stN vw vm vi L I n).pc] else trN vw vm vi L I n).length ≤ n + 1
    split
    · rw [List.length_append]; simp only [List.length_singleton]; omega
    · omega
theorem gd_cost {n : Int} {x : StR} (h : Gd vw vm vi n x) (hm : vm ≤ 6) : x.cost ≤ 19 := by
  have h1 := h.hR
  have h2 := h.hM
  have h3 := h.hS
  have h4 := h.hO
  show x.R.length + x.M.length + x.S.length + x.O.length ≤ 19
  omega
theorem rn_cost (vw vm vi : Int) (L : List InsR) (I : List Int) (f : Int) : (rnV vw vm vi L I f).cost ≤ 19 := by
  unfold rnV
  split
  · rename_i h
    unfold rnB at h
    rw [Bool.and_eq_true] at h
    exact gd_cost (gd_N h.1 _) (pr_in (in_of h.1).1).1.2.2.2.1
  · simp [zeroSt, StR.cost]
theorem rt_len (vw vm vi : Int) (L : List InsR) (I : List Int) (f : Int) : (rtV vw vm vi L I f).length ≤ 400 := by
  unfold rtV
  split
  · rename_i h
    unfold rnB at h
    simp only [Bool.and_eq_true, decide_eq_true_eq] at h
    have := trN_len (vw := vw) (vm := vm) (vi := vi) (L := L) (I := I) f.toNat
    omega
  · simp
theorem doX_st (vw : Int) (I : List Int) (x : StR) (nx : Int) (r : InsR) : (doX vw I x nx r).st = x.st := by
  unfold doX
  repeat (first | rfl | split)
/-- the number of steps tells whether an instruction was begun -/
theorem begun_st {x : StR} : begunB L.length x = decide (x.st < (stepV vw vm vi L I x).st) := by
  by_cases h1 : x.cd ≠ 0 ∨ x.st = 400
  · have e : stepV vw vm vi L I x = x := by unfold stepV; rw [if_pos h1]
    rw [e, decide_eq_false (by omega)]
    exact decide_eq_false (fun g => h1.elim (fun h => h g.1) g.2.1)
  · by_cases h2 : x.pc = L.length
    · have e : (stepV vw vm vi L I x).st = x.st := by unfold stepV; rw [if_neg h1, if_pos h2]
      rw [e, decide_eq_false (by omega)]
      exact decide_eq_false (fun g => g.2.2 h2)
    · have e : (stepV vw vm vi L I x).st = x.st + 1 := by
        unfold stepV
        rw [if_neg h1, if_neg h2]
        split
        · rfl
        · exact doX_st vw I _ _ _
      rw [e, decide_eq_true (by omega)]
      exact decide_eq_true ⟨by by_cases h : x.cd = 0; exact h; exact absurd (.inl h) h1, fun h => h1 (.inr h), h2⟩
end
end Go.Proofs.Ytnhagmjknfiphaa
namespace Go.Proofs.Ytnhagmjknfiphaa
open Go.ChangeShapes Go.WideShapes Go.ChangeAt Go.RowKit
def ssV (vw vm vi : Int) (L : List InsR) (I : List Int) (x : StR) : StR := if (soB vw vm vi L x && inB vw vm vi L I) = true then stepV vw vm vi L I x else zeroSt
theorem ss_cost (vw vm vi : Int) (L : List InsR) (I : List Int) (x : StR) : (ssV vw vm vi L I x).cost ≤ 19 := by
  unfold ssV
  split
  · rename_i h
    rw [Bool.and_eq_true] at h
    exact gd_cost (gd_step (gd_of h.1).1 (gd_of h.1).2 (in_of h.2).2) (pr_in (gd_of h.1).1).1.2.2.2.1
  · simp [zeroSt, StR.cost]
end Go.Proofs.Ytnhagmjknfiphaa
namespace Go.Proofs.Ytnhagmjknfiphaa
open Go.ChangeShapes Go.WideShapes Go.ChangeAt Go.RowKit
/-- sorted -/
def sortI (zs : List Int) : List Int := zs.mergeSort fun x y => decide (x ≤ y)
theorem sortI_len (zs : List Int) : (sortI zs).length = zs.length := List.length_mergeSort zs
def NxOwn (V : List Int) (w : World) (e : Ending) (w' : World) : Prop := Below w.heap.size w w' ∧ ∃ q cap, e = .returned (.slice q V.length cap) ∧ w'.ownsRow w.heap.size 3 1 (.slice q V.length cap) V.length (IntL.all V)
theorem nx_none {V : List Int} {w w' : World} (h : V = []) (hb : Below w.heap.size w w') : NxOwn V w (.returned (.slice none 0 0)) w' := by
  subst h
  exact ⟨hb, none, 0, rfl, World.ownsRow_nil _ _ _ _⟩
end Go.Proofs.Ytnhagmjknfiphaa
