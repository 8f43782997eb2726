/- Slices of bool: how they come in, their marks. No condition. -/
import Derived.Test.YtimjkgciakbolabRows
import Derived.Test.YtimjkgciakbolabFlat
import Derived.Test.YtimjkgciakbolabDat
import Derived.WalkKit
import Derived.ProofKit
import Derived.OpenShut
import Derived.Handy
import Derived.Lib.Hide
import Derived.Below
import Derived.IntWalk
import Derived.WalkLawsBesides
import Derived.Deep.QuietTactic
import Derived.BigQuiet
import Derived.OwnWalk
import Derived.Laws.OwnMore
import Derived.Deep.OwnRows
import Derived.Deep.MidRow
import Derived.WalkSmall
import Derived.StillTailTactics
import Derived.KernelRfl
import Derived.Outline
namespace Go.Proofs.Ytimjkgciakbolab
open Go.ChangeShapes Go.WideShapes Go.ChangeAt Go.RowKit
namespace BoolL
def cell (x : Bool) : List Value := [.bool x]
/-- the cells of a list -/
def all (L : List Bool) : List Value := L.flatMap cell
def Ok (_ : Bool) : Prop := True
theorem all_len (L : List Bool) : (all L).length = L.length := by
  unfold all
  induction L with
  | nil => rfl
  | cons r L ih => rw [List.flatMap_cons, List.length_append, ih, List.length_cons]; simp [cell]; omega
theorem all_map (L : List Bool) : all L = L.map (fun x => .bool x) := by
  unfold all
  induction L with
  | nil => rfl
  | cons r L ih => rw [List.flatMap_cons, ih]; rfl
theorem all_app (a b : List Bool) : all (a ++ b) = all a ++ all b := by unfold all; rw [List.flatMap_append]
theorem nth {w : World} {b o : Nat} (L : List Bool) (j : Nat) (h : j < L.length) (hr : w.rangeAt b o (all L)) : w.cell? ⟨b, o + j, none⟩ = some (.bool L[j]) := by
  have := flat_nth cell 1 (fun _ => rfl) L j h hr 0 _ rfl
  rwa [Nat.mul_one, Nat.add_zero] at this
/-- the marks from a number on -/
def mkrs (L : List Bool) (k : Nat) : List Bool := markL (fun _ k => ((k : Int) % 3 == 0)) (fun _ => 1) L k
theorem mkrs_len (L : List Bool) (k : Nat) : (mkrs L k).length = L.length := markL_len _ _ _ _
theorem cnt1 (L : List Bool) : cntL (fun _ => 1) L = L.length := by
  unfold cntL
  induction L with
  | nil => rfl
  | cons r L ih => simp only [List.map_cons, List.sum_cons, List.length_cons, ih]; omega
theorem mkrs_get (L : List Bool) (k j : Nat) (h : j < L.length) : (mkrs L k)[j]'(by rw [mkrs_len]; exact h) = ((((k + j : Nat) : Int) : Int) % 3 == 0) := by
  have := markL_get (fun (_ : Bool) k => ((k : Int) % 3 == 0)) (fun _ => 1) L k j h
  rw [cnt1, List.length_take, Nat.min_eq_left (by omega)] at this
  exact this
/-- the first ones bear their marks, the others are as they were -/
def half (L : List Bool) (k j : Nat) : List Bool := (mkrs L k).take j ++ L.drop j
theorem half_zero (L : List Bool) (k : Nat) : half L k 0 = L := by simp [half]
theorem half_all (L : List Bool) (k : Nat) : half L k L.length = mkrs L k := by simp [half, mkrs_len, List.take_of_length_le]
theorem half_at (L : List Bool) (k j : Nat) (h : j < L.length) : ∃ (x1 : List Value) (r : Bool) (x3 : List Value), x1.length = j ∧ all (half L k j) = x1 ++ [.bool r] ++ x3 ∧ ∀ c : Nat, c = k + j → all (half L k (j + 1)) = x1 ++ [.bool (((c : Int) : Int) % 3 == 0)] ++ x3 := by
  refine ⟨all ((mkrs L k).take j), L[j], all (L.drop (j + 1)), ?_, ?_, fun c hc => ?_⟩
  · rw [all_len, List.length_take, mkrs_len, Nat.min_eq_left (by omega)]
  · unfold half
    rw [List.drop_eq_getElem_cons h]
    simp only [all, cell, List.flatMap_append, List.flatMap_cons, List.append_assoc]
  · unfold half
    rw [List.take_succ_eq_append_getElem (by rw [mkrs_len]; exact h), mkrs_get L k j h, ← hc]
    simp only [all, cell, List.flatMap_append, List.flatMap_cons, List.append_assoc, List.flatMap_nil, List.nil_append]
end BoolL
theorem zero_Bool : (Try.prog.info? 4).map (fun i => (i.zero, i.size, i.bytes)) = some (some (.bool false), 1, 1) := by kernel_rfl
section
variable {H : Type} {enc : TypeId × Value → H} {w : World} {base b0 : Nat} {spare : Nat → Bool} {held : Bool} {r : Reach}
theorem plain_Bool : [4, 39].all (Cs.plainAt Try.prog [4, 39]) = true := by kernel_rfl
set_option maxRecDepth 100000 in
theorem ty_Bool (m : Nat) (C : Cs) (h : Cs.Ty Try.prog m 4 C) : ∃ x : Bool, C = Cs.flat (BoolL.cell x) ∧ BoolL.Ok x := by
  cases m with
  | zero => exact h.elim
  | succ m => unfold Cs.Ty at h; rw [Try.underlying4] at h; obtain ⟨b, rfl⟩ := h; exact ⟨b, rfl, trivial⟩
set_option maxRecDepth 100000 in
theorem tys_Bool (m : Nat) (C : Cs) (h : Cs.Ty Try.prog m 39 C) : ∃ L : List Bool, C = .sl 4 1 L.length (Cs.flat (BoolL.all L)) .nil ∧ (∀ x ∈ L, BoolL.Ok x) ∧ L.length ≤ maxLen := by
  cases m with
  | zero => exact h.elim
  | succ m =>
    unfold Cs.Ty at h
    rw [Try.underlying39] at h
    dsimp only at h
    have hC : Try.prog.cellsOf 4 = 1 := by kernel_rfl
    rw [hC] at h
    obtain ⟨n, k, rfl, hn, hr⟩ := h
    have key : ∀ (n : Nat) (k : Cs), Cs.Rows (Cs.Ty Try.prog m 4) n k → ∃ L : List Bool, L.length = n ∧ k = Cs.flat (BoolL.all L) ∧ ∀ x ∈ L, BoolL.Ok x := by
      intro n
      induction n with
      | zero => rintro k rfl; exact ⟨[], rfl, rfl, fun r h => by cases h⟩
      | succ n ihn =>
        rintro k ⟨c, q, rfl, hc, hq⟩
        obtain ⟨r, rfl, hok⟩ := ty_Bool m _ hc
        obtain ⟨L, rfl, rfl, hL⟩ := ihn _ hq
        exact ⟨r :: L, rfl, by rw [← Cs.flat_app]; rfl, fun x hx => (List.mem_cons.1 hx).elim (fun e => by rw [e]; exact hok) (hL x)⟩
    obtain ⟨L, rfl, rfl, hL⟩ := key n k hr
    exact ⟨L, rfl, hL, hn⟩
set_option maxRecDepth 100000 in
/-- a slice of them as an argument -/
theorem open_Bools {v : Value} {d : DataW H} {p : List MemPlace} (hv : Value.okWide Try.prog w r b0 39 v) (h : DataW.Trod enc Try.prog w base spare held 39 v d p) :
    ∃ L : List Bool, Cs.Shows w base 1 v L.length (BoolL.all L) ∧ (∀ x ∈ L, BoolL.Ok x) ∧ L.length ≤ maxLen := by
  obtain ⟨a, l, c, rfl⟩ := okWide_slice Try.underlying39 hv
  have hin : ∀ t ∈ [4, 39], t ∈ [4, 39] := fun _ h => h
  obtain ⟨m, C, h1, h2⟩ := Cs.open_arg (t := 39) plain_Bool (hin _ (List.mem_cons_of_mem _ (List.mem_cons_self ..))) h
  obtain ⟨L, rfl, hok, hl⟩ := tys_Bool m C h2
  obtain ⟨s, xs, e, ⟨ys, hs, hys⟩, _⟩ := Cs.vs_sl.1 h1
  have e : [Value.slice a l c] = s :: xs := e
  obtain ⟨rfl, rfl⟩ := List.cons.inj e
  rw [Cs.flat_vs.1 hys] at hs
  exact ⟨L, hs, hok, hl⟩
end
end Go.Proofs.Ytimjkgciakbolab
