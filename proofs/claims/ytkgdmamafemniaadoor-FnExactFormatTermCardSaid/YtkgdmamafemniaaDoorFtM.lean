/- The text of a term. No condition. -/
import Derived.Test.YtkgdmamafemniaaDoorOpNm
import Derived.Test.YtkgdmamafemniaaDoorFo
import Derived.Test.YtkgdmamafemniaaDoorTk
import Derived.Test.YtkgdmamafemniaaDoorFormatInts
namespace Go.Proofs.YtkgdmamafemniaaDoor
open Go.ChangeShapes Go.WideShapes Go.ChangeAt Go.RowKit
/-- the name of an operation in the text of a term -/
def tnm (op : Int) : ByteArray := if 17 ≤ op ∧ op ≤ 21 then fnm (op - 17).toNat else nm op.toNat
def itB (n : Int) : ByteArray := ⟨(Lib.itoa n).toArray⟩
/-- what stands ahead of the kids -/
def txHead (op wd n : Int) : List ByteArray := tnm op :: ((if op = 19 then [itB n] else []) ++ (if 19 ≤ op ∧ op ≤ 21 then [itB wd] else []))
/-- the text of a node whose kids have these texts -/
def txOne (op wd n : Int) (nm : ByteArray) (ks : List ByteArray) : ByteArray :=
  if op = 0 then itB wd ++ ⟨#[58]⟩ ++ itB n else if op = 22 then nm ++ ⟨#[58]⟩ ++ itB wd else ⟨#[40]⟩ ++ ⟨(JN (txHead op wd n ++ ks) ⟨#[32]⟩).toArray⟩ ++ ⟨#[41]⟩
namespace Fo
def txts : Fo → List ByteArray
  | .nil => []
  | .cons op wd n nm k r => txOne op wd n nm k.txts :: r.txts
theorem txts_len : ∀ F : Fo, F.txts.length = F.len
  | .nil => rfl
  | .cons _ _ _ _ _ r => by simp only [txts, List.length_cons, len, txts_len r]
theorem txts_at : ∀ (F : Fo) (j : Nat) {op wd n : Int} {nm : ByteArray} {k : Fo}, F.At j op wd n nm k → F.txts[j]? = some (txOne op wd n nm k.txts)
  | .nil, _, _, _, _, _, _, h => h.elim
  | .cons _ _ _ _ _ _, 0, _, _, _, _, _, ⟨rfl, rfl, rfl, rfl, rfl⟩ => rfl
  | .cons _ _ _ _ _ r, j + 1, _, _, _, _, _, h => by
    show r.txts[j]? = _
    exact txts_at r j h
end Fo
theorem itB_size (n : Int) (h : InR n) : (itB n).size ≤ 21 := by
  unfold itB
  rw [show (⟨(Lib.itoa n).toArray⟩ : ByteArray).size = (Lib.itoa n).length by simp [ByteArray.size]]
  exact itoa_len n h
theorem nm_size (k : Nat) : (nm k).size ≤ 10 := by
  by_cases h : k < 17
  · have : k = 0 ∨ k = 1 ∨ k = 2 ∨ k = 3 ∨ k = 4 ∨ k = 5 ∨ k = 6 ∨ k = 7 ∨ k = 8 ∨ k = 9 ∨ k = 10 ∨ k = 11 ∨ k = 12 ∨ k = 13 ∨ k = 14 ∨ k = 15 ∨ k = 16 := by omega
    rcases this with h | h | h | h | h | h | h | h | h | h | h | h | h | h | h | h | h <;> subst h <;> decide
  · unfold nm
    rw [show nmL.getD k [] = [] by simp [List.getD, List.getElem?_eq_none (show nmL.length ≤ k by simp [nmL]; omega)]]
    decide
theorem fnm_size (k : Nat) : (fnm k).size ≤ 10 := by
  by_cases h : k < 5
  · have : k = 0 ∨ k = 1 ∨ k = 2 ∨ k = 3 ∨ k = 4 := by omega
    rcases this with h | h | h | h | h <;> subst h <;> decide
  · unfold fnm
    rw [show fnL.getD k [] = [] by simp [List.getD, List.getElem?_eq_none (show fnL.length ≤ k by simp [fnL]; omega)]]
    decide
theorem tnm_size (op : Int) : (tnm op).size ≤ 10 := by
  unfold tnm
  split
  · exact fnm_size _
  · exact nm_size _
/-- the bytes of some texts, one more for each -/
def bytes (xs : List ByteArray) : Nat := (xs.map fun x => x.size + 1).sum
theorem bytes_app (a b : List ByteArray) : bytes (a ++ b) = bytes a + bytes b := by simp [bytes]
theorem JN_bytes : ∀ xs : List ByteArray, (JN xs ⟨#[32]⟩).length ≤ bytes xs := by
  intro xs
  have h : ∀ k, k ≤ xs.length → (JN (xs.take k) ⟨#[32]⟩).length ≤ bytes (xs.take k) := by
    intro k
    induction k with
    | zero => intro _; simp [JN, Lib.join_nil]
    | succ k ih =>
      intro hk
      have ih := ih (by omega)
      have e : xs.take (k + 1) = xs.take k ++ [xs[k]] := List.take_succ_eq_append_getElem (by omega)
      have hb : bytes (xs.take (k + 1)) = bytes (xs.take k) + (xs[k].size + 1) := by rw [e, bytes_app]; simp [bytes]
      by_cases h0 : 0 < k
      · rw [JN_step xs _ k (by omega) h0, hb]
        simp only [List.length_append, ← Lib.size_eq]
        have : ([32] : List UInt8).length = 1 := rfl
        omega
      · obtain rfl : k = 0 := by omega
        rw [Nat.zero_add, JN_one xs _ (by omega), ← Lib.size_eq]
        simp only [Nat.zero_add] at hb
        rw [hb]; omega
  have := h xs.length (Nat.le_refl _)
  rwa [List.take_length] at this
theorem head_bytes (op wd n : Int) (hw : InR wd) (hn : InR n) : bytes (txHead op wd n) ≤ 55 := by
  unfold txHead
  have h1 := tnm_size op
  have h2 := itB_size wd hw
  have h3 := itB_size n hn
  by_cases c1 : op = 19
  · rw [if_pos c1, if_pos (by omega)]
    simp [bytes]; omega
  · rw [if_neg c1]
    by_cases c2 : 19 ≤ op ∧ op ≤ 21
    · rw [if_pos c2]; simp [bytes]; omega
    · rw [if_neg c2]; simp [bytes]; omega
theorem tx_size (op wd n : Int) (nm : ByteArray) (ks : List ByteArray) (hw : InR wd) (hn : InR n) : (txOne op wd n nm ks).size ≤ 60 + nm.size + bytes ks := by
  have h1 := itB_size wd hw
  have h2 := itB_size n hn
  have h3 := head_bytes op wd n hw hn
  have h4 := JN_bytes (txHead op wd n ++ ks)
  rw [bytes_app] at h4
  have s1 : (⟨#[58]⟩ : ByteArray).size = 1 := rfl
  have s2 : (⟨#[40]⟩ : ByteArray).size = 1 := rfl
  have s3 : (⟨#[41]⟩ : ByteArray).size = 1 := rfl
  unfold txOne
  split
  · simp only [ByteArray.size_append]; omega
  · split
    · simp only [ByteArray.size_append]; omega
    · simp only [ByteArray.size_append]
      rw [show (⟨(JN (txHead op wd n ++ ks) ⟨#[32]⟩).toArray⟩ : ByteArray).size = (JN (txHead op wd n ++ ks) ⟨#[32]⟩).length by simp [ByteArray.size]]
      omega
/-- a node's text, as far as it goes -/
def pfx (l : List ByteArray) : ByteArray := ⟨#[40]⟩ ++ ⟨(JN l ⟨#[32]⟩).toArray⟩
theorem JN_snoc (l : List ByteArray) (x : ByteArray) (h : l ≠ []) : (⟨(JN l ⟨#[32]⟩).toArray⟩ : ByteArray) ++ ⟨#[32]⟩ ++ x = ⟨(JN (l ++ [x]) ⟨#[32]⟩).toArray⟩ := by
  have hl : 0 < l.length := List.length_pos_iff.2 h
  have := JN_succ (l ++ [x]) ⟨#[32]⟩ l.length (by simp) hl
  rw [List.take_left] at this
  rw [show (l ++ [x])[l.length]'(by simp) = x by simp] at this
  rw [this, List.take_of_length_le (by simp)]
theorem pfx_one (x : ByteArray) : ⟨#[40]⟩ ++ x = pfx [x] := by
  unfold pfx
  have := JN_one [x] ⟨#[32]⟩ (by simp)
  simp only [List.take_succ_cons, List.take_zero, List.getElem_cons_zero] at this
  rw [this]
theorem pfx_snoc (l : List ByteArray) (x : ByteArray) (h : l ≠ []) : pfx l ++ ⟨#[32]⟩ ++ x = pfx (l ++ [x]) := by
  unfold pfx
  rw [← JN_snoc l x h, ByteArray.append_assoc, ByteArray.append_assoc, ByteArray.append_assoc]
theorem pfx_size (l : List ByteArray) : (pfx l).size ≤ 1 + bytes l := by
  unfold pfx
  rw [ByteArray.size_append, show (⟨(JN l ⟨#[32]⟩).toArray⟩ : ByteArray).size = (JN l ⟨#[32]⟩).length by simp [ByteArray.size]]
  have := JN_bytes l
  have s2 : (⟨#[40]⟩ : ByteArray).size = 1 := rfl
  omega
theorem bytes_take (l : List ByteArray) (j : Nat) : bytes (l.take j) ≤ bytes l := by
  conv => rhs; rw [← List.take_append_drop j l, bytes_app]
  omega
theorem bytes_at {l : List ByteArray} {j : Nat} {x : ByteArray} (h : l[j]? = some x) : x.size ≤ bytes l := by
  have hj := (List.getElem?_eq_some_iff.1 h).1
  have e : l.take (j + 1) = l.take j ++ [x] := by rw [List.take_succ_eq_append_getElem hj]; congr 1; rw [(List.getElem?_eq_some_iff.1 h).2]
  have := bytes_take l (j + 1)
  rw [e, bytes_app] at this
  simp [bytes] at this ⊢
  omega
theorem take_next {l : List ByteArray} {j : Nat} {x : ByteArray} (h : l[j]? = some x) : l.take (j + 1) = l.take j ++ [x] := by
  have hj := (List.getElem?_eq_some_iff.1 h).1
  rw [List.take_succ_eq_append_getElem hj]; congr 1; rw [(List.getElem?_eq_some_iff.1 h).2]
theorem tx_op {op wd n : Int} {nm : ByteArray} {ks : List ByteArray} (h0 : op ≠ 0) (h22 : op ≠ 22) : txOne op wd n nm ks = pfx (txHead op wd n ++ ks) ++ ⟨#[41]⟩ := by
  unfold txOne pfx
  rw [if_neg h0, if_neg h22]
theorem head_ne (op wd n : Int) (l : List ByteArray) : txHead op wd n ++ l ≠ [] := by unfold txHead; simp
theorem Fo.txts_bytes : ∀ F : Fo, F.Ok → bytes F.txts ≤ 61 * F.cost
  | .nil, _ => by simp [Fo.txts, bytes]
  | .cons op wd n nm k r, h => by
    have h1 := Fo.txts_bytes k h.2.2.2.1
    have h2 := Fo.txts_bytes r h.2.2.2.2
    have h3 := tx_size op wd n nm k.txts h.1.2.1 h.1.2.2
    have : bytes (Fo.txts (.cons op wd n nm k r)) = (txOne op wd n nm k.txts).size + 1 + bytes r.txts := by simp [Fo.txts, bytes]
    rw [this]
    simp only [Fo.cost]
    omega
end Go.Proofs.YtkgdmamafemniaaDoor
