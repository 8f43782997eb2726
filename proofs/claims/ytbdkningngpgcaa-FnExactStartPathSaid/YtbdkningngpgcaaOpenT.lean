/- A term that comes in as an argument: its parts. No condition. -/
import Derived.Test.YtbdkningngpgcaaRows
import Derived.Test.YtbdkningngpgcaaFo
import Derived.KernelRfl
namespace Go.Proofs.Ytbdkningngpgcaa
open Go.ChangeShapes Go.WideShapes Go.RowKit
section
variable {H : Type} {enc : TypeId × Value → H} {w : World} {base b0 : Nat} {spare : Nat → Bool} {held : Bool} {r : Reach}
theorem plainT : [120, 51, 3, 9].all (Cs.plainAt Try.prog [120, 51, 3, 9]) = true := by kernel_rfl
theorem both_T (m : Nat) : (∀ C, Cs.Ty Try.prog m 51 C → ∃ F : Fo, C = .sl 120 5 F.len (F.cs 120) .nil ∧ F.Ok ∧ F.len ≤ maxLen) ∧ (∀ C, Cs.Ty Try.prog m 120 C → ∃ op wd n nm k, C = Fo.one 120 op wd n nm k ∧ Fo.OneOk op wd n nm k) := Fo.open_both (P := Try.prog) (tS := 51) (tT := 120) Try.underlying51 Try.underlying120 (by kernel_rfl) Try.underlying3 Try.underlying3 Try.underlying3 Try.underlying9 rfl m
theorem inT : ∀ t ∈ [120, 51], t ∈ [120, 51, 3, 9] := by decide
set_option maxRecDepth 100000 in
/-- one term by value -/
theorem open_term {v : Value} {d : DataW H} {p : List MemPlace} (hv : Value.okWide Try.prog w r b0 120 v) (h : DataW.Trod enc Try.prog w base spare held 120 v d p) :
    ∃ (op wd n : Int) (nm : ByteArray) (k : Fo) (s : Value), v = .agg #[.int .i64 op, .int .i64 wd, .int .i64 n, .string nm, s] ∧ (k.cs 120).Is w base 5 k.len s ∧ Fo.OneOk op wd n nm k := by
  obtain ⟨cs, rfl, _⟩ := okWide_struct Try.underlying120 hv
  obtain ⟨m, C, h1, h2⟩ := Cs.open_arg (t := 120) plainT (inT _ (List.mem_cons_self ..)) h
  obtain ⟨op, wd, n, nm, k, rfl, hok⟩ := (both_T m).2 C h2
  obtain ⟨s, e, his⟩ := Fo.one_vs h1
  refine ⟨op, wd, n, nm, k, s, ?_, his, hok⟩
  have e : cs.toList = _ := e
  rw [← Array.toArray_toList (xs := cs), e]
set_option maxRecDepth 100000 in
/-- a slice of terms -/
theorem open_terms {v : Value} {d : DataW H} {p : List MemPlace} (hv : Value.okWide Try.prog w r b0 51 v) (h : DataW.Trod enc Try.prog w base spare held 51 v d p) :
    ∃ F : Fo, (F.cs 120).Is w base 5 F.len v ∧ F.Ok ∧ F.len ≤ maxLen := by
  obtain ⟨a, l, c, rfl⟩ := okWide_slice Try.underlying51 hv
  obtain ⟨m, C, h1, h2⟩ := Cs.open_arg (t := 51) plainT (inT _ (List.mem_cons_of_mem _ (List.mem_cons_self ..))) h
  obtain ⟨F, rfl, hok, hl⟩ := (both_T m).1 C h2
  obtain ⟨s, xs, e, his, _⟩ := Cs.vs_sl.1 h1
  have e : [Value.slice a l c] = s :: xs := e
  obtain ⟨rfl, rfl⟩ := List.cons.inj e
  exact ⟨F, his, hok, hl⟩
end
end Go.Proofs.Ytbdkningngpgcaa
