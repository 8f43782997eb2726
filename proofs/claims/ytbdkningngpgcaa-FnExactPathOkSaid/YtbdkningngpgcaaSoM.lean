/- The model of what is a state of a program, in the order of the program and in that of the specification. No condition. -/
import Derived.Test.YtbdkningngpgcaaInM
import Derived.Test.YtbdkningngpgcaaState
namespace Go.Proofs.Ytbdkningngpgcaa
open Go.ChangeShapes Go.WideShapes Go.ChangeAt Go.RowKit
def soB (vw vm vi : Int) (L : List InsR) (x : StR) : Bool :=
  prB vw vm vi L && (opB 3 x.pc vw L.length && (decide ((x.R.length : Int) = 4) && (decide ((x.M.length : Int) = vm) && (decide ((x.S.length : Int) ≤ 3) && (decide ((x.O.length : Int) ≤ 6) && (decide (0 ≤ x.inn) && (decide (x.inn ≤ vi) && (decide (0 ≤ x.cd) && (decide (x.cd ≤ 8) && (decide (0 ≤ x.st) && (decide (x.st ≤ 400) && (oprB 2 vw L.length x.R && (oprB 2 vw L.length x.M && (oprB 3 vw L.length x.S && oprB 2 vw L.length x.O))))))))))))))
theorem so_spec (vw vm vi : Int) (L : List InsR) (x : StR) : (prB vw vm vi L && (decide ((x.S.length : Int) ≤ 3) && (decide ((x.O.length : Int) ≤ 6) && (oprB 3 vw L.length x.S && ((decide (0 ≤ x.pc) && decide (x.pc ≤ L.length)) && ((decide ((x.R.length : Int) = 4) && oprB 2 vw L.length x.R) && ((decide ((x.M.length : Int) = vm) && oprB 2 vw L.length x.M) && ((decide (0 ≤ x.inn) && decide (x.inn ≤ vi)) && ((decide ((x.O.length : Int) = x.O.length) && oprB 2 vw L.length x.O) && ((decide (0 ≤ x.cd) && decide (x.cd ≤ 8)) && (decide (0 ≤ x.st) && decide (x.st ≤ 400)))))))))))) = soB vw vm vi L x := by
  unfold soB
  rw [opB_place, decide_eq_true (rfl : (x.O.length : Int) = x.O.length)]
  generalize prB vw vm vi L = a1
  generalize oprB 2 vw L.length x.R = a2
  generalize oprB 2 vw L.length x.M = a3
  generalize oprB 3 vw L.length x.S = a4
  generalize oprB 2 vw L.length x.O = a5
  rw [Bool.eq_iff_iff]
  simp only [Bool.and_eq_true, decide_eq_true_eq]
  constructor
  · rintro ⟨h1, h2, h3, h4, ⟨h5, h6⟩, ⟨h7, h8⟩, ⟨h9, h10⟩, ⟨h11, h12⟩, ⟨-, h14⟩, ⟨h15, h16⟩, h17, h18⟩
    exact ⟨h1, ⟨h5, h6⟩, h7, h9, h2, h3, h11, h12, h15, h16, h17, h18, h8, h10, h4, h14⟩
  · rintro ⟨h1, ⟨h5, h6⟩, h7, h9, h2, h3, h11, h12, h15, h16, h17, h18, h8, h10, h4, h14⟩
    exact ⟨h1, h2, h3, h4, ⟨h5, h6⟩, ⟨h7, h8⟩, ⟨h9, h10⟩, ⟨h11, h12⟩, ⟨trivial, h14⟩, ⟨h15, h16⟩, h17, h18⟩
end Go.Proofs.Ytbdkningngpgcaa
