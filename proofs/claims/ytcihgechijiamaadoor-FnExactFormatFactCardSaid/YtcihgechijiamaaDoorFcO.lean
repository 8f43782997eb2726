/- How a fact comes in as an argument. No condition. -/
import Derived.Test.YtcihgechijiamaaDoorRows
import Derived.Test.YtcihgechijiamaaDoorFlat
import Derived.Test.YtcihgechijiamaaDoorFo
import Derived.WalkKit
import Derived.ProofKit
import Derived.OpenShut
import Derived.KernelRfl
namespace Go.Proofs.YtcihgechijiamaaDoor
open Go.ChangeShapes Go.WideShapes Go.ChangeAt Go.RowKit
structure FactR where
  f0 : Int
  f1 : Int
  f2 : Int
  f3 : Int
namespace FactR
def cells (r : FactR) : List Value := [.int .i64 r.f0, .int .i64 r.f1, .int .i64 r.f2, .int .i64 r.f3]
def Ok (r : FactR) : Prop := (-9223372036854775808 ≤ r.f0 ∧ r.f0 ≤ 9223372036854775807) ∧ (-9223372036854775808 ≤ r.f1 ∧ r.f1 ≤ 9223372036854775807) ∧ (-9223372036854775808 ≤ r.f2 ∧ r.f2 ≤ 9223372036854775807) ∧ (-9223372036854775808 ≤ r.f3 ∧ r.f3 ≤ 9223372036854775807)
theorem len (r : FactR) : r.cells.length = 4 := rfl
end FactR
section
variable {H : Type} {enc : TypeId × Value → H} {w : World} {base b0 : Nat} {spare : Nat → Bool} {held : Bool} {r : Reach}
theorem plain_Fact : [26, 3].all (Cs.plainAt Tryd.prog [26, 3]) = true := by kernel_rfl
set_option maxRecDepth 100000 in
theorem ty_Fact (m : Nat) (C : Cs) (h : Cs.Ty Tryd.prog m 26 C) : ∃ r : FactR, C = Cs.flat r.cells ∧ r.Ok := by
  cases m with
  | zero => exact h.elim
  | succ m =>
    unfold Cs.Ty at h
    rw [Tryd.underlying26] at h
    simp only [List.map, Cs.Fields] at h
    obtain ⟨c0, _, rfl, g0, c1, _, rfl, g1, c2, _, rfl, g2, c3, _, rfl, g3, rfl⟩ := h
    obtain ⟨z0, rfl, w0⟩ := Fo.ty_int Tryd.underlying3 g0
    obtain ⟨z1, rfl, w1⟩ := Fo.ty_int Tryd.underlying3 g1
    obtain ⟨z2, rfl, w2⟩ := Fo.ty_int Tryd.underlying3 g2
    obtain ⟨z3, rfl, w3⟩ := Fo.ty_int Tryd.underlying3 g3
    exact ⟨⟨z0, z1, z2, z3⟩, rfl, w0, w1, w2, w3⟩
set_option maxRecDepth 100000 in
theorem open_Fact1 {v : Value} {d : DataW H} {p : List MemPlace} (hv : Value.okWide Tryd.prog w r b0 26 v) (h : DataW.Trod enc Tryd.prog w base spare held 26 v d p) :
    ∃ k a b n : Int, v = .agg #[.int .i64 k, .int .i64 a, .int .i64 b, .int .i64 n] ∧ (FactR.mk k a b n).Ok := by
  obtain ⟨cs, rfl, _⟩ := okWide_struct Tryd.underlying26 hv
  obtain ⟨m, C, h1, h2⟩ := Cs.open_arg (t := 26) plain_Fact (List.mem_cons_self ..) h
  obtain ⟨r, rfl, hok⟩ := ty_Fact m C h2
  have e : cs.toList = r.cells := Cs.flat_vs.1 h1
  refine ⟨r.f0, r.f1, r.f2, r.f3, ?_, hok⟩
  rw [← Array.toArray_toList (xs := cs), e]
  rfl
end
end Go.Proofs.YtcihgechijiamaaDoor
