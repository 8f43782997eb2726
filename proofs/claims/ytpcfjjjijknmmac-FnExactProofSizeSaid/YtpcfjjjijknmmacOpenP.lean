/- A proof that comes in as an argument: its parts. No condition. -/
import Derived.Test.YtpcfjjjijknmmacRows
import Derived.Test.YtpcfjjjijknmmacPf
import Derived.KernelRfl
namespace Go.Proofs.Ytpcfjjjijknmmac
open Go.ChangeShapes Go.WideShapes Go.RowKit
section
variable {H : Type} {enc : TypeId × Value → H} {w : World} {base b0 : Nat} {spare : Nat → Bool} {held : Bool} {r : Reach}
theorem plainP : [43, 41, 3].all (Cs.plainAt Try.prog [43, 41, 3]) = true := by kernel_rfl
theorem both_P (m : Nat) : (∀ C, Cs.Ty Try.prog m 41 C → ∃ F : Pf, C = .sl 43 2 F.len (F.cs 43) .nil ∧ F.Ok ∧ F.len ≤ maxLen) ∧ (∀ C, Cs.Ty Try.prog m 43 C → ∃ vr k, C = Pf.one 43 vr k ∧ Pf.OneOk vr k) := Pf.open_both (P := Try.prog) (tS := 41) (tT := 43) Try.underlying41 Try.underlying43 (by kernel_rfl) Try.underlying3 rfl m
theorem inP : ∀ t ∈ [43, 41], t ∈ [43, 41, 3] := by decide
set_option maxRecDepth 100000 in
/-- one proof by value -/
theorem open_proof {v : Value} {d : DataW H} {p : List MemPlace} (hv : Value.okWide Try.prog w r b0 43 v) (h : DataW.Trod enc Try.prog w base spare held 43 v d p) :
    ∃ (vr : Int) (k : Pf) (s : Value), v = .agg #[.int .i64 vr, s] ∧ (k.cs 43).Is w base 2 k.len s ∧ Pf.OneOk vr k := by
  obtain ⟨cs, rfl, _⟩ := okWide_struct Try.underlying43 hv
  obtain ⟨m, C, h1, h2⟩ := Cs.open_arg (t := 43) plainP (inP _ (List.mem_cons_self ..)) h
  obtain ⟨vr, k, rfl, hok⟩ := (both_P m).2 C h2
  obtain ⟨s, e, his⟩ := Pf.one_vs h1
  refine ⟨vr, k, s, ?_, his, hok⟩
  have e : cs.toList = _ := e
  rw [← Array.toArray_toList (xs := cs), e]
set_option maxRecDepth 100000 in
/-- a slice of proofs -/
theorem open_proofs {v : Value} {d : DataW H} {p : List MemPlace} (hv : Value.okWide Try.prog w r b0 41 v) (h : DataW.Trod enc Try.prog w base spare held 41 v d p) :
    ∃ F : Pf, (F.cs 43).Is w base 2 F.len v ∧ F.Ok ∧ F.len ≤ maxLen := by
  obtain ⟨a, l, c, rfl⟩ := okWide_slice Try.underlying41 hv
  obtain ⟨m, C, h1, h2⟩ := Cs.open_arg (t := 41) plainP (inP _ (List.mem_cons_of_mem _ (List.mem_cons_self ..))) h
  obtain ⟨F, rfl, hok, hl⟩ := (both_P m).1 C h2
  obtain ⟨s, xs, e, his, _⟩ := Cs.vs_sl.1 h1
  have e : [Value.slice a l c] = s :: xs := e
  obtain ⟨rfl, rfl⟩ := List.cons.inj e
  exact ⟨F, his, hok, hl⟩
end
end Go.Proofs.Ytpcfjjjijknmmac
