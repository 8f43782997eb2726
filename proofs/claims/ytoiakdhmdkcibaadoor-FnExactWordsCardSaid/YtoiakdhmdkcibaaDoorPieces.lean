/- Lists of bytes cut at every byte of one kind: the cuts of strings.Split, and those of a scan from the left. No program in this text. -/
import Derived.Lib.Split
import Derived.Lib.SplitLaws
import Derived.Lib.IndexBytes
import Derived.Lib.IndexLaws
namespace Go.Proofs.YtoiakdhmdkcibaaDoor.Pieces
open Go.Lib
def pre (a : List UInt8) : List (List UInt8) → List (List UInt8)
  | [] => [a]
  | h :: t => (a ++ h) :: t
def sp (c : UInt8) : List UInt8 → List (List UInt8)
  | [] => [[]]
  | x :: r => if x = c then [] :: sp c r else pre [x] (sp c r)
theorem sp_ne (c : UInt8) (l : List UInt8) : sp c l ≠ [] := by
  cases l with
  | nil => simp [sp]
  | cons x r =>
    simp only [sp]
    split
    · simp
    · cases sp c r <;> simp [pre]
theorem pre_nil (L : List (List UInt8)) (h : L ≠ []) : pre [] L = L := by
  cases L with
  | nil => exact absurd rfl h
  | cons a t => rfl
theorem pre_pre (a b : List UInt8) (L : List (List UInt8)) (h : L ≠ []) : pre a (pre b L) = pre (a ++ b) L := by
  cases L with
  | nil => exact absurd rfl h
  | cons x t => simp [pre]
theorem splitK_one (c : UInt8) : ∀ l : List UInt8, splitK [c] 0 (l.count c) l = sp c l := by
  intro l
  induction l with
  | nil => rfl
  | cons x r ih =>
    by_cases hx : x = c
    · subst hx
      rw [List.count_cons_self]
      simp only [splitK, sp, if_true]
      have e : index (x :: r) [x] = 0 := by rw [index_one]; simp [indexByte]
      rw [e]
      simp only [show ((0 : Int) == -1) = false from rfl, Bool.false_eq_true, if_false]
      rw [← ih]
      simp
    · have hc : (x :: r).count c = r.count c := List.count_cons_of_ne hx
      simp only [sp, if_neg hx]
      rw [hc, ← ih]
      cases hn : r.count c with
      | zero => rfl
      | succ m =>
        have hne : indexByte r c ≠ -1 := by
          intro h
          have := indexByte_none h
          have hmem : c ∈ r := List.count_pos_iff.1 (by omega)
          obtain ⟨k, hk⟩ := List.mem_iff_getElem?.1 hmem
          exact this k hk
        have hge := indexByte_ge r c
        have e1 : index r [c] = indexByte r c := index_one r c
        have e2 : index (x :: r) [c] = indexByte r c + 1 := by
          rw [index_one]
          have hb : (x == c) = false := by simpa using hx
          have hb2 : (indexByte r c == -1) = false := by simpa using hne
          simp [indexByte, hb, hb2]
        have hb1 : (indexByte r c == -1) = false := by simpa using hne
        have hb3 : (indexByte r c + 1 == -1) = false := by
          have : indexByte r c + 1 ≠ -1 := by omega
          simpa using this
        simp only [splitK, e1, e2, hb1, hb3, Bool.false_eq_true, if_false, pre]
        obtain ⟨i, hi⟩ : ∃ i : Nat, indexByte r c = i := ⟨(indexByte r c).toNat, by omega⟩
        rw [hi]
        have t1 : ((i : Int) + 1).toNat = i + 1 := by omega
        rw [t1]
        simp
theorem split_one (c : UInt8) (l : List UInt8) : split l [c] = sp c l := by
  unfold split
  rw [count_one]
  exact splitK_one c l
/-- a scan: behind what is done, the piece that is being read stands before the pieces of the rest -/
def Scan (c : UInt8) (l : List UInt8) (done : List (List UInt8)) (cur : List UInt8) (i : Nat) : Prop := sp c l = done ++ pre cur (sp c (l.drop i))
theorem scan_start (c : UInt8) (l : List UInt8) : Scan c l [] [] 0 := by
  unfold Scan
  rw [List.drop_zero, pre_nil _ (sp_ne c l)]
  rfl
theorem scan_hit (c : UInt8) (l : List UInt8) (done : List (List UInt8)) (cur : List UInt8) (i : Nat) (h : Scan c l done cur i) (hi : i < l.length) (hc : l[i] = c) : Scan c l (done ++ [cur]) [] (i + 1) := by
  unfold Scan at h ⊢
  rw [h, List.drop_eq_getElem_cons hi, hc]
  simp only [sp, if_true, pre, List.append_nil]
  rw [List.append_assoc]
  congr 1
  cases hq : sp c (List.drop (i + 1) l) with
  | nil => exact absurd hq (sp_ne c _)
  | cons a t => simp
theorem scan_miss (c : UInt8) (l : List UInt8) (done : List (List UInt8)) (cur : List UInt8) (i : Nat) (h : Scan c l done cur i) (hi : i < l.length) (hc : l[i] ≠ c) : Scan c l done (cur ++ [l[i]]) (i + 1) := by
  unfold Scan at h ⊢
  rw [h, List.drop_eq_getElem_cons hi]
  simp only [sp, if_neg hc]
  rw [pre_pre _ _ _ (sp_ne c _)]
theorem scan_end (c : UInt8) (l : List UInt8) (done : List (List UInt8)) (cur : List UInt8) (i : Nat) (h : Scan c l done cur i) (hi : l.length ≤ i) : sp c l = done ++ [cur] := by
  unfold Scan at h
  rw [List.drop_eq_nil_of_le hi] at h
  rw [h]
  simp [sp, pre]
/-- the lines of a text -/
def linesOf (l : List UInt8) : List (List UInt8) := if (sp 10 l).getLast? = some [] then (sp 10 l).dropLast else sp 10 l
theorem lines_end (l : List UInt8) (done : List (List UInt8)) (cur : List UInt8) (i : Nat) (h : Scan 10 l done cur i) (hi : l.length ≤ i) : linesOf l = if cur = [] then done else done ++ [cur] := by
  unfold linesOf
  rw [scan_end 10 l done cur i h hi]
  by_cases hc : cur = []
  · subst hc; simp
  · simp [hc]
/-- the words of a text -/
def wordsOf (l : List UInt8) : List (List UInt8) := (sp 32 l).filter fun x => !x.isEmpty
/-- lists of bytes as strings -/
def strs (L : List (List UInt8)) : List ByteArray := L.map fun x => ⟨x.toArray⟩
theorem strs_of (B : List ByteArray) (L : List (List UInt8)) (h : B.map (·.data.toList) = L) : B = strs L := by
  subst h
  unfold strs
  rw [List.map_map]
  have : (fun x : List UInt8 => (⟨x.toArray⟩ : ByteArray)) ∘ (fun b : ByteArray => b.data.toList) = id := by
    funext b
    cases b
    simp
  rw [this, List.map_id]
theorem strs_append (a b : List (List UInt8)) : strs (a ++ b) = strs a ++ strs b := by simp [strs]
theorem strs_len (a : List (List UInt8)) : (strs a).length = a.length := by simp [strs]
theorem sp_length (c : UInt8) (l : List UInt8) : (sp c l).length ≤ l.length + 1 := by
  induction l with
  | nil => simp [sp]
  | cons x r ih =>
    simp only [sp]
    split
    · simp; omega
    · cases hq : sp c r with
      | nil => simp [pre]
      | cons a t => rw [hq] at ih; simp [pre] at ih ⊢; omega
theorem sp_piece (c : UInt8) (l : List UInt8) : ∀ x ∈ sp c l, x.length ≤ l.length := by
  induction l with
  | nil => intro x hx; simp [sp] at hx; simp [hx]
  | cons y r ih =>
    intro x hx
    simp only [sp] at hx
    split at hx
    · rcases List.mem_cons.1 hx with rfl | h
      · simp
      · have := ih x h; simp; omega
    · cases hq : sp c r with
      | nil => exact absurd hq (sp_ne c r)
      | cons a t =>
        rw [hq] at hx ih
        simp only [pre] at hx
        rcases List.mem_cons.1 hx with rfl | h
        · have := ih a List.mem_cons_self; simp; omega
        · have := ih x (List.mem_cons_of_mem _ h); simp; omega
end Go.Proofs.YtoiakdhmdkcibaaDoor.Pieces
