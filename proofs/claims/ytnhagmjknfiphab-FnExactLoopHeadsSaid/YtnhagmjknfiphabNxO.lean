/- What a function leaves that gives a list of ints. No condition. -/
import Derived.Test.YtnhagmjknfiphabFlInt
namespace Go.Proofs.Ytnhagmjknfiphab
open Go.ChangeShapes Go.WideShapes Go.ChangeAt Go.RowKit
/-- sorted -/
def sortI (zs : List Int) : List Int := zs.mergeSort fun x y => decide (x ≤ y)
theorem sortI_len (zs : List Int) : (sortI zs).length = zs.length := List.length_mergeSort zs
def NxOwn (V : List Int) (w : World) (e : Ending) (w' : World) : Prop := Below w.heap.size w w' ∧ ∃ q cap, e = .returned (.slice q V.length cap) ∧ w'.ownsRow w.heap.size 3 1 (.slice q V.length cap) V.length (IntL.all V)
theorem nx_none {V : List Int} {w w' : World} (h : V = []) (hb : Below w.heap.size w w') : NxOwn V w (.returned (.slice none 0 0)) w' := by
  subst h
  exact ⟨hb, none, 0, rfl, World.ownsRow_nil _ _ _ _⟩
end Go.Proofs.Ytnhagmjknfiphab
