/- When a node fits to its kids, and when a tree of nodes is a term. No condition. -/
import Derived.Test.YtkgdmamafemniaaDoorFlat
import Derived.Test.YtkgdmamafemniaaDoorWk
import Derived.Test.YtkgdmamafemniaaDoorNm
import Derived.IntWalk
namespace Go.Proofs.YtkgdmamafemniaaDoor
open Go.ChangeShapes Go.WideShapes Go.RowKit
namespace Fo
/-- the widths of the nodes of a slice -/
def ws : Fo → List Int
  | .nil => []
  | .cons _ wd _ _ _ r => wd :: r.ws
theorem ws_len : ∀ F : Fo, F.ws.length = F.len
  | .nil => rfl
  | .cons _ _ _ _ _ r => by simp only [ws, len, List.length_cons, ws_len r]
end Fo
/-- how many kids an operation has; -1 for what is none -/
def kc (op : Int) : Int := if op = 0 ∨ op = 22 then 0 else if op = 1 ∨ op = 2 ∨ op = 19 ∨ op = 20 ∨ op = 21 then 1 else if op = 17 then 3 else if 3 ≤ op ∧ op ≤ 18 then 2 else -1
/-- whether widths fit -/
def wfB (op wd n : Int) : List Int → Bool
  | [a] => if op = 19 then decide (0 ≤ n) && decide (n ≤ wrap64 (a - wd)) else if op = 20 ∨ op = 21 then decide (a ≤ wd) else decide (a = wd)
  | [a, b] => if op = 18 then decide (wrap64 (a + b) = wd) else if 14 ≤ op ∧ op ≤ 16 then decide (wd = 1) && decide (a = b) else decide (a = wd) && decide (b = wd)
  | [a, b, c] => decide (a = 1) && decide (b = wd) && decide (c = wd)
  | _ => false
/-- whether a node fits to kids of some widths -/
noncomputable def fitB (op wd n : Int) (nm : ByteArray) (ws : List Int) : Bool :=
  wdB wd && decide ((ws.length : Int) = kc op) && (decide (n = 0) || decide (op = 0) || decide (op = 19)) && (nm.toList.isEmpty || decide (op = 22)) &&
    (if op = 0 then wkB wd n else if op = 22 then nmB nm else wfB op wd n ws)
namespace Fo
/-- whether all nodes fit, all the way down -/
noncomputable def allB : Fo → Bool
  | .nil => true
  | .cons op wd n nm k r => (fitB op wd n nm k.ws && k.allB) && r.allB
end Fo
theorem op_cases (op : Int) : op = 0 ∨ op = 1 ∨ op = 2 ∨ (3 ≤ op ∧ op ≤ 13) ∨ (14 ≤ op ∧ op ≤ 16) ∨ op = 17 ∨ op = 18 ∨ op = 19 ∨ op = 20 ∨ op = 21 ∨ op = 22 ∨ (op < 0 ∨ 22 < op) := by omega
theorem len1 {k : Fo} (h : k.len = 1) : ∃ op wd n nm k', k = .cons op wd n nm k' .nil := by
  cases k with
  | nil => cases h
  | cons op wd n nm k' r => cases r with
    | nil => exact ⟨op, wd, n, nm, k', rfl⟩
    | cons => simp [Fo.len] at h
theorem len2 {k : Fo} (h : k.len = 2) : ∃ op wd n nm k' op2 wd2 n2 nm2 k2, k = .cons op wd n nm k' (.cons op2 wd2 n2 nm2 k2 .nil) := by
  cases k with
  | nil => cases h
  | cons op wd n nm k' r =>
    obtain ⟨op2, wd2, n2, nm2, k2, rfl⟩ := len1 (k := r) (by simpa [Fo.len] using h)
    exact ⟨_, _, _, _, _, _, _, _, _, _, rfl⟩
theorem len3 {k : Fo} (h : k.len = 3) : ∃ op wd n nm k' op2 wd2 n2 nm2 k2 op3 wd3 n3 nm3 k3, k = .cons op wd n nm k' (.cons op2 wd2 n2 nm2 k2 (.cons op3 wd3 n3 nm3 k3 .nil)) := by
  cases k with
  | nil => cases h
  | cons op wd n nm k' r =>
    obtain ⟨op2, wd2, n2, nm2, k2, op3, wd3, n3, nm3, k3, rfl⟩ := len2 (k := r) (by simpa [Fo.len] using h)
    exact ⟨_, _, _, _, _, _, _, _, _, _, _, _, _, _, _, rfl⟩
/-- the width of the node at an index, where it lies -/
theorem width_at {w : World} {T : TypeId} {k : Fo} {b o : Nat} {ys : List Value} (hv : (k.cs T).Vs w 0 ys) (hr : w.rangeAt b o ys) (j : Nat) (hj : j < k.len) : ∃ v, k.ws[j]? = some v ∧ w.cell? ⟨b, o + j * 5 + 1, none⟩ = some (.int .i64 v) := by
  have hw : ∀ (k : Fo) (j : Nat) {op wd n : Int} {nm : ByteArray} {k' : Fo}, k.At j op wd n nm k' → k.ws[j]? = some wd := by
    intro k
    induction k with
    | nil => intro j op wd n nm k' h; exact h.elim
    | cons op wd n nm k r _ ih =>
      intro j op' wd' n' nm' k' h
      cases j with
      | zero => obtain ⟨_, rfl, _⟩ := h; rfl
      | succ j => exact ih j h
  obtain ⟨op, wd, n, nm, k', v, hat, _, hrr⟩ := Fo.nth k hv hr j hj
  exact ⟨wd, hw k j hat, hrr 1 _ rfl⟩
end Go.Proofs.YtkgdmamafemniaaDoor
