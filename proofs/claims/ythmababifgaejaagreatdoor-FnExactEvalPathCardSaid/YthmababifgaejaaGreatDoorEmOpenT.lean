/- A term that comes in as an argument: its parts. No condition. -/
import Derived.Test.YthmababifgaejaaGreatDoorRows
import Derived.Test.YthmababifgaejaaGreatDoorEmGCs
import Derived.KernelRfl
namespace Go.Proofs.YthmababifgaejaaGreatDoor
open Go.ChangeShapes Go.WideShapes Go.RowKit
section
variable {H : Type} {enc : TypeId × Value → H} {w : World} {base b0 : Nat} {spare : Nat → Bool} {held : Bool} {r : Reach}
theorem plainT : [74, 25, 3, 9].all (Cs.plainAt Tryz.prog [74, 25, 3, 9]) = true := by kernel_rfl
theorem both_T (m : Nat) : (∀ C, Cs.Ty Tryz.prog m 25 C → ∃ F : Fo, C = .sl 74 5 F.len (F.cs 74) .nil ∧ F.Ok ∧ F.len ≤ maxLen) ∧ (∀ C, Cs.Ty Tryz.prog m 74 C → ∃ op wd n nm k, C = Fo.one 74 op wd n nm k ∧ Fo.OneOk op wd n nm k) := Fo.open_both (P := Tryz.prog) (tS := 25) (tT := 74) Tryz.underlying25 Tryz.underlying74 (by kernel_rfl) Tryz.underlying3 Tryz.underlying3 Tryz.underlying3 Tryz.underlying9 rfl m
theorem inT : ∀ t ∈ [74, 25], t ∈ [74, 25, 3, 9] := by decide
set_option maxRecDepth 100000 in
/-- one term by value -/
theorem open_term {v : Value} {d : DataW H} {p : List MemPlace} (hv : Value.okWide Tryz.prog w r b0 74 v) (h : DataW.Trod enc Tryz.prog w base spare held 74 v d p) :
    ∃ (op wd n : Int) (nm : ByteArray) (k : Fo) (s : Value), v = .agg #[.int .i64 op, .int .i64 wd, .int .i64 n, .string nm, s] ∧ (k.cs 74).Is w base 5 k.len s ∧ Fo.OneOk op wd n nm k := by
  obtain ⟨cs, rfl, _⟩ := okWide_struct Tryz.underlying74 hv
  obtain ⟨m, C, h1, h2⟩ := Cs.open_arg (t := 74) plainT (inT _ (List.mem_cons_self ..)) h
  obtain ⟨op, wd, n, nm, k, rfl, hok⟩ := (both_T m).2 C h2
  obtain ⟨s, e, his⟩ := Fo.one_vs h1
  refine ⟨op, wd, n, nm, k, s, ?_, his, hok⟩
  have e : cs.toList = _ := e
  rw [← Array.toArray_toList (xs := cs), e]
set_option maxRecDepth 100000 in
/-- a slice of terms -/
theorem open_terms {v : Value} {d : DataW H} {p : List MemPlace} (hv : Value.okWide Tryz.prog w r b0 25 v) (h : DataW.Trod enc Tryz.prog w base spare held 25 v d p) :
    ∃ F : Fo, (F.cs 74).Is w base 5 F.len v ∧ F.Ok ∧ F.len ≤ maxLen := by
  obtain ⟨a, l, c, rfl⟩ := okWide_slice Tryz.underlying25 hv
  obtain ⟨m, C, h1, h2⟩ := Cs.open_arg (t := 25) plainT (inT _ (List.mem_cons_of_mem _ (List.mem_cons_self ..))) h
  obtain ⟨F, rfl, hok, hl⟩ := (both_T m).1 C h2
  obtain ⟨s, xs, e, his, _⟩ := Cs.vs_sl.1 h1
  have e : [Value.slice a l c] = s :: xs := e
  obtain ⟨rfl, rfl⟩ := List.cons.inj e
  exact ⟨F, his, hok, hl⟩
end
end Go.Proofs.YthmababifgaejaaGreatDoor
