/- The text of a formula, and of one of its clauses. No condition. -/
import Derived.Test.YtkgdmamafemniaaDoorFmOk
import Derived.Test.YtkgdmamafemniaaDoorFormatInts
namespace Go.Proofs.YtkgdmamafemniaaDoor
open Go.ChangeShapes Go.WideShapes Go.ChangeAt Go.RowKit
/-- the text of a clause -/
def fsT (zs : List Int) : ByteArray := ⟨(JN (FS zs) ⟨#[32]⟩).toArray⟩
def ffParts (n : Int) (L : List (List Int)) : List ByteArray := (⟨(Lib.itoa n).toArray⟩ : ByteArray) :: L.map fsT
/-- the text of a valid formula -/
def ffV (n : Int) (L : List (List Int)) : ByteArray := ⟨(JN (ffParts n L) ⟨#[124]⟩).toArray⟩
/-- what FormatFormula returns -/
def ffT (n : Int) (L : List (List Int)) : ByteArray := if fmB n L = true then ffV n L else ⟨#[]⟩
theorem fsT_nil : fsT [] = ⟨#[]⟩ := rfl
theorem sz_arr (l : List UInt8) : (⟨l.toArray⟩ : ByteArray).size = l.length := by simp [ByteArray.size]
theorem fsT_size (zs : List Int) (hr : ∀ z ∈ zs, InR z) (hl : zs.length ≤ 1048576) : (fsT zs).size ≤ 23068672 := by
  unfold fsT
  rw [sz_arr]
  have h := JN_le (FS zs) ⟨#[32]⟩ 21 (FS_size zs hr) (FS zs).length (Nat.le_refl _)
  rw [List.take_length, FS_len] at h
  have : (⟨#[32]⟩ : ByteArray).size = 1 := rfl
  rw [this] at h
  omega
theorem asc_len' (n : Int) : ∀ (l : List Int) (last : Int), last ≤ n → (∀ x ∈ l, iabs x ≤ n) → ascB last l = true → last + l.length ≤ n
  | [], last, h, _, _ => by simpa using h
  | x :: l, last, h, hm, ha => by
    have ha' : (decide (last < iabs x) && ascB (iabs x) l) = true := ha
    rw [Bool.and_eq_true, decide_eq_true_eq] at ha'
    have := asc_len' n l (iabs x) (hm x (List.mem_cons_self ..)) (fun y hy => hm y (List.mem_cons_of_mem _ hy)) ha'.2
    simp only [List.length_cons]; omega
theorem cl_short {n : Int} {l : List Int} (hn : 0 ≤ n) (h : clB n l = true) : (l.length : Int) ≤ n := by
  have hl := lits_of h
  unfold clB at h
  rw [Bool.and_eq_true] at h
  have := asc_len' n l 0 hn (fun x hx => by have := hl x hx; unfold iabs; split <;> omega) h.2
  omega
theorem parts_len (n : Int) (L : List (List Int)) : (ffParts n L).length = L.length + 1 := by simp [ffParts]
theorem parts_at (n : Int) (L : List (List Int)) (j : Nat) (hj : j < L.length) : (ffParts n L)[j + 1]'(by rw [parts_len]; omega) = fsT L[j] := by simp [ffParts]
/-- the texts of a valid formula are short -/
theorem parts_short {n : Int} {L : List (List Int)} (h : fmB n L = true) (hok : IntSS.Ok L) : (JN (ffParts n L) ⟨#[124]⟩).length ≤ 40000000000 := by
  obtain ⟨h0, h1, h2, h3⟩ := fm_of h
  have hp : ∀ (k : Nat) (hk : k < (ffParts n L).length), (ffParts n L)[k].size ≤ 23068672 := by
    intro k hk
    rw [parts_len] at hk
    cases k with
    | zero =>
      show (⟨(Lib.itoa n).toArray⟩ : ByteArray).size ≤ _
      rw [sz_arr]
      have := itoa_len n ⟨by omega, by omega⟩
      omega
    | succ k =>
      rw [parts_at n L k (by omega)]
      have hc := cl_short h0 (h3 L[k] (List.getElem_mem (by omega)))
      exact fsT_size _ (fun z hz => (hok L[k] (List.getElem_mem (by omega))).1 z hz) (by omega)
  have h := JN_le (ffParts n L) ⟨#[124]⟩ 23068672 hp (ffParts n L).length (Nat.le_refl _)
  rw [List.take_length, parts_len] at h
  have : (⟨#[124]⟩ : ByteArray).size = 1 := rfl
  rw [this] at h
  have h4 : (L.length + 1) * (23068672 + 1) ≤ 1601 * (23068672 + 1) := Nat.mul_le_mul_right _ (by omega)
  omega
/-- the text of the first clauses -/
def ffPre (n : Int) (L : List (List Int)) (j : Nat) : ByteArray := ⟨(JN ((ffParts n L).take (j + 1)) ⟨#[124]⟩).toArray⟩
theorem pre_zero (n : Int) (L : List (List Int)) : ffPre n L 0 = ⟨(Lib.itoa n).toArray⟩ := by
  unfold ffPre
  rw [Nat.zero_add, JN_one _ _ (by rw [parts_len]; omega)]
  simp [ffParts]
theorem pre_succ (n : Int) (L : List (List Int)) (j : Nat) (hj : j < L.length) : ffPre n L j ++ ⟨#[124]⟩ ++ fsT L[j] = ffPre n L (j + 1) := by
  unfold ffPre
  rw [← JN_succ (ffParts n L) ⟨#[124]⟩ (j + 1) (by rw [parts_len]; omega) (Nat.succ_pos _), parts_at n L j hj]
theorem pre_all (n : Int) (L : List (List Int)) : ffPre n L L.length = ffV n L := by
  unfold ffPre ffV
  rw [List.take_of_length_le (by rw [parts_len]; exact Nat.le_refl _)]
theorem pre_size (n : Int) (L : List (List Int)) (j : Nat) : (ffPre n L j).size ≤ (JN (ffParts n L) ⟨#[124]⟩).length := by
  unfold ffPre
  rw [sz_arr]
  exact JN_take_le _ _ _
end Go.Proofs.YtkgdmamafemniaaDoor
