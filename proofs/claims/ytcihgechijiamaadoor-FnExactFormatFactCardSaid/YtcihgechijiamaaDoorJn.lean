/- Joined words, written out. No condition. -/
import Derived.Test.YtcihgechijiamaaDoorRgS
import Derived.Test.YtcihgechijiamaaDoorSJoin
namespace Go.Proofs.YtcihgechijiamaaDoor
open Go.ChangeShapes Go.WideShapes Go.ChangeAt Go.RowKit
theorem rg_eq (s : ByteArray) (n : Int) : s ++ (⟨#[32]⟩ : ByteArray) ++ rgB n = s ++ (⟨#[32, 114]⟩ : ByteArray) ++ itB n := by
  unfold rgB
  rw [ByteArray.append_assoc, ← ByteArray.append_assoc (a := (⟨#[32]⟩ : ByteArray)), ← ByteArray.append_assoc]
  rfl
theorem jn1 (x p : ByteArray) : (⟨(JN [x] p).toArray⟩ : ByteArray) = x := by
  have h := JN_one [x] p (by simp)
  apply ByteArray.ext
  apply Array.ext'
  simpa using h
theorem jn2 (x y p : ByteArray) : (⟨(JN [x, y] p).toArray⟩ : ByteArray) = x ++ p ++ y := by
  have h := JN_succ [x, y] p 1 (by simp) (by omega)
  simp only [List.take_succ_cons, List.take_zero, List.getElem_cons_succ, List.getElem_cons_zero] at h
  rw [jn1] at h
  exact h.symm
theorem jn3 (x y z p : ByteArray) : (⟨(JN [x, y, z] p).toArray⟩ : ByteArray) = x ++ p ++ y ++ p ++ z := by
  have h := JN_succ [x, y, z] p 2 (by simp) (by omega)
  simp only [List.take_succ_cons, List.take_zero, List.getElem_cons_succ, List.getElem_cons_zero] at h
  rw [jn2] at h
  exact h.symm
theorem at_own {w : World} {base g cap n : Nat} {xs : List ByteArray} (h : w.ownsRow base 9 1 (.slice (some ⟨g, 0, none⟩) n cap) n (xs.map Value.string)) : At w g 0 (xs.map Value.string) := fun j u hu => by
  have hj := (List.getElem?_eq_some_iff.1 hu).1
  rw [Nat.zero_add, h.cellAt j (by have := h.1; omega)]
  exact hu
theorem jn_le (xs : List ByteArray) (p : ByteArray) (h : (⟨(JN xs p).toArray⟩ : ByteArray).size ≤ 1000) : (JN xs p).length ≤ 140737488355328 := by
  have e : (⟨(JN xs p).toArray⟩ : ByteArray).size = (JN xs p).length := by simp [ByteArray.size]
  omega
end Go.Proofs.YtcihgechijiamaaDoor
