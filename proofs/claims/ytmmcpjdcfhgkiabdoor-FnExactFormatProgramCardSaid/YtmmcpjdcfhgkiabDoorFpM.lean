/- The model of the text of a program. No condition. -/
import Derived.Test.YtmmcpjdcfhgkiabDoorFiI
import Derived.Test.YtmmcpjdcfhgkiabDoorFormatInts
namespace Go.Proofs.YtmmcpjdcfhgkiabDoor
open Go.ChangeShapes Go.WideShapes Go.ChangeAt Go.RowKit
/-- the three numbers of the first line -/
def fsB (vw vm vi : Int) : ByteArray := ⟨(JN (FS [vw, vm, vi]) ⟨#[32]⟩).toArray⟩
def fpHead (vw vm vi : Int) : ByteArray := ⟨#[109, 97, 99, 104, 105, 110, 101, 32]⟩ ++ fsB vw vm vi ++ ⟨#[10]⟩
/-- the text with the first so many instructions -/
def fpPre (vw vm vi : Int) (L : List InsR) (j : Nat) : ByteArray := (L.take j).foldl (fun s r => s ++ fiV r vw L.length ++ ⟨#[10]⟩) (fpHead vw vm vi)
def fpV (vw vm vi : Int) (L : List InsR) : ByteArray := if prB vw vm vi L = true then fpPre vw vm vi L L.length else ⟨#[]⟩
theorem fpPre_zero (vw vm vi : Int) (L : List InsR) : fpPre vw vm vi L 0 = fpHead vw vm vi := rfl
theorem fpPre_succ (vw vm vi : Int) (L : List InsR) (j : Nat) (hj : j < L.length) : fpPre vw vm vi L (j + 1) = fpPre vw vm vi L j ++ fiV L[j] vw L.length ++ ⟨#[10]⟩ := by
  unfold fpPre
  rw [List.take_succ_eq_append_getElem hj, List.foldl_append]
  rfl
theorem fsB_size (vw vm vi : Int) (h : ∀ z ∈ [vw, vm, vi], InR z) : (fsB vw vm vi).size ≤ 66 := by
  have h := JN_le (FS [vw, vm, vi]) ⟨#[32]⟩ 21 (FS_size _ h) 3 (by simp [FS])
  rw [List.take_of_length_le (by simp [FS])] at h
  have e : (⟨#[32]⟩ : ByteArray).size = 1 := rfl
  rw [e] at h
  have e2 : (fsB vw vm vi).size = (JN (FS [vw, vm, vi]) ⟨#[32]⟩).length := by simp [fsB, ByteArray.size]
  omega
theorem fiV_size (r : InsR) (w n : Int) (hr : r.Ok) : (fiV r w n).size ≤ 60 := by
  unfold fiV
  split
  · unfold itV
    have h1 := wd_size r.f0 r.f3
    have h2 := wr_size (fA r.f0) (wdV r.f0 r.f3) r.f1 hr.2.1.1 hr.2.1.2
    have h3 := wr_size (fB r.f0) (wrV (fA r.f0) (wdV r.f0 r.f3) r.f1) r.f2 hr.2.2.1.1 hr.2.2.1.2
    omega
  · have : (⟨#[]⟩ : ByteArray).size = 0 := rfl
    omega
theorem fpHead_size (vw vm vi : Int) (h : ∀ z ∈ [vw, vm, vi], InR z) : (fpHead vw vm vi).size ≤ 80 := by
  have := fsB_size vw vm vi h
  unfold fpHead
  rw [ByteArray.size_append, ByteArray.size_append]
  have e1 : (⟨#[109, 97, 99, 104, 105, 110, 101, 32]⟩ : ByteArray).size = 8 := rfl
  have e2 : (⟨#[10]⟩ : ByteArray).size = 1 := rfl
  omega
theorem fpPre_size (vw vm vi : Int) (L : List InsR) (h : ∀ z ∈ [vw, vm, vi], InR z) (hok : ∀ r ∈ L, r.Ok) : ∀ j, j ≤ L.length → (fpPre vw vm vi L j).size ≤ 80 + 61 * j
  | 0, _ => fpHead_size vw vm vi h
  | j + 1, hj => by
    have ih := fpPre_size vw vm vi L h hok j (by omega)
    rw [fpPre_succ vw vm vi L j (by omega), ByteArray.size_append, ByteArray.size_append]
    have h1 := fiV_size L[j] vw L.length (hok _ (List.getElem_mem _))
    have e2 : (⟨#[10]⟩ : ByteArray).size = 1 := rfl
    omega
end Go.Proofs.YtmmcpjdcfhgkiabDoor
