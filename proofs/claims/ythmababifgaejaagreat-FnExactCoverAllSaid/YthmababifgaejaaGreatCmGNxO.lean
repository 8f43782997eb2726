/- What a function leaves that gives a list of ints. No condition. The model of NextOf: what may come after an instruction. No condition. -/
import Derived.Test.YthmababifgaejaaGreatCmGFlInt
import Derived.Test.YthmababifgaejaaGreatCmGWk
import Derived.Lib.SlicesCompact
namespace Go.Proofs.YthmababifgaejaaGreat
open Go.ChangeShapes Go.WideShapes Go.ChangeAt Go.RowKit
/-- sorted -/
def sortI (zs : List Int) : List Int := zs.mergeSort fun x y => decide (x ≤ y)
theorem sortI_len (zs : List Int) : (sortI zs).length = zs.length := List.length_mergeSort zs
def NxOwn (V : List Int) (w : World) (e : Ending) (w' : World) : Prop := Below w.heap.size w w' ∧ ∃ q cap, e = .returned (.slice q V.length cap) ∧ w'.ownsRow w.heap.size 3 1 (.slice q V.length cap) V.length (IntL.all V)
theorem nx_none {V : List Int} {w w' : World} (h : V = []) (hb : Below w.heap.size w w') : NxOwn V w (.returned (.slice none 0 0)) w' := by
  subst h
  exact ⟨hb, none, 0, rfl, World.ownsRow_nil _ _ _ _⟩
end Go.Proofs.YthmababifgaejaaGreat
namespace Go.Proofs.YthmababifgaejaaGreat
open Go.ChangeShapes Go.WideShapes Go.ChangeAt Go.RowKit
/-- the places that may come next, in the order of the specification -/
def nxR (r : InsR) (pc : Int) : List Int :=
  if r.f0 = 9 then [r.f2] else if r.f0 = 12 ∨ r.f0 = 14 then [] else if r.f0 = 10 ∨ r.f0 = 11 then (if r.f2 < pc + 1 then [r.f2, pc + 1] else if pc + 1 < r.f2 then [pc + 1, r.f2] else [pc + 1]) else [pc + 1]
/-- .. as the program gathers them -/
def nxI (r : InsR) (pc : Int) : List Int := (if fL r.f0 = true then [] else [pc + 1]) ++ (if fB r.f0 = 3 then [r.f2] else [])
theorem srt1 (a : Int) : sortI [a] = [a] := by simp [sortI]
theorem srt2 (a b : Int) : sortI [a, b] = if a ≤ b then [a, b] else [b, a] := by
  unfold sortI
  by_cases h : a ≤ b <;> simp [List.mergeSort, List.MergeSort.Internal.splitInTwo, h]
theorem cmp0 : Lib.compact ([] : List Int) = [] := rfl
theorem cmp1 (a : Int) : Lib.compact [a] = [a] := by simp [Lib.compact, Lib.compactUpTo, Lib.keeps, List.range_succ]
theorem cmp2 (a b : Int) : Lib.compact [a, b] = if a = b then [a] else [a, b] := by
  by_cases h : a = b
  · subst h; simp [Lib.compact, Lib.compactUpTo, Lib.keeps, List.range_succ]
  · simp [Lib.compact, Lib.compactUpTo, Lib.keeps, List.range_succ, h, Ne.symm h]
theorem nx_eq {r : InsR} {pc : Int} (h1 : 1 ≤ r.f0) (h2 : r.f0 ≤ 14) : Lib.compact (sortI (nxI r pc)) = nxR r pc := by
  obtain ⟨op, a, b, c⟩ := r
  simp only at h1 h2
  unfold nxI nxR
  simp only
  rcases op_cases op with rfl | rfl | rfl | rfl | rfl | rfl | rfl | rfl | rfl | rfl | rfl | rfl | rfl | rfl | hop
  case inr.inr.inr.inr.inr.inr.inr.inr.inr.inr.inr.inr.inr.inr => omega
  all_goals simp only [fL, fB]
  all_goals simp [cmp1, cmp0, sortI]
  all_goals
    rw [show ([pc + 1, b] : List Int).mergeSort (fun x y => decide (x ≤ y)) = sortI [pc + 1, b] from rfl, srt2]
    by_cases hb : b < pc + 1
    · rw [if_neg (by omega), cmp2, if_neg (by omega), if_pos hb]
    · rw [if_pos (by omega), cmp2, if_neg hb]
      by_cases hb2 : pc + 1 < b
      · rw [if_neg (by omega), if_pos hb2]
      · rw [if_pos (by omega), if_neg hb2]
/-- the places that may come next in a program -/
def nxL (vw vm vi : Int) (L : List InsR) (pc : Int) : List Int := if prB vw vm vi L = true ∧ 0 ≤ pc ∧ pc < L.length then nxR (L.getD pc.toNat ⟨0, 0, 0, 0⟩) pc else []
theorem nx_len (r : InsR) (pc : Int) : (nxR r pc).length ≤ 2 := by
  unfold nxR
  repeat (first | split | simp)
theorem nxL_len (vw vm vi : Int) (L : List InsR) (pc : Int) : (nxL vw vm vi L pc).length ≤ 2 := by
  unfold nxL
  split
  · exact nx_len _ _
  · simp
end Go.Proofs.YthmababifgaejaaGreat
