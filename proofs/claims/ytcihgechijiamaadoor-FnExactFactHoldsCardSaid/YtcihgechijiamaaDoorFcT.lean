/- The table of the forms of facts as the program lays it, and what stands in it. No condition but that it lies there. -/
import Derived.Test.YtcihgechijiamaaDoorRows
import Derived.WalkKit
import Derived.ProofKit
import Derived.OpenShut
import Derived.ShutString
import Derived.Handy
import Derived.Lib.Hide
import Derived.Lib.Strings
import Derived.Lib.LaidTab
import Derived.LaidMore
import Derived.Stop.Joined
import Derived.MakeChecks
import Derived.WalkLawsBesides
import Derived.Deep.Strs
namespace Go.Proofs.YtcihgechijiamaaDoor
open Go.ChangeShapes Go.WideShapes Go.ChangeAt Go.RowKit
def fmL : List (List UInt8 × Int × Int) := [([], 0, 0), ([105, 115], 0, 2), ([115, 97, 109, 101], 1, 0), ([109, 111, 115, 116], 0, 2), ([98, 105, 116], 2, 2), ([115, 117, 109], 1, 2), ([111, 114, 100, 101, 114], 1, 0)]
def fmRow (x : List UInt8 × Int × Int) : List Value := [.string ⟨x.1.toArray⟩, .int .i64 x.2.1, .int .i64 x.2.2]
def fmCells : Array Value := (fmL.flatMap fmRow).toArray
theorem gForms : Tryd.prog.globalNamed "loop.example/g03219/impl.factForms" = some 0 := by kernel_rfl
theorem tForms : (Tryd.prog.globals[0]?).map (·.type) = some 64 := by kernel_rfl
theorem cellsA : Tryd.prog.cellsOf 64 = 21 := by kernel_rfl
theorem cellsF : Tryd.prog.cellsOf 63 = 3 := by kernel_rfl
theorem cellsN : Tryd.prog.cellsOf 9 = 1 := by kernel_rfl
theorem cellsO : Tryd.prog.cellsOf 61 = 1 := by kernel_rfl
section
variable {H : Type} {enc : TypeId × Value → H} {W : World} {base : Nat} {sp : Nat → Bool} {held : Bool} {fuel : Nat} {cs : List Value} {p : List MemPlace}
theorem one_form {l : List UInt8} {a b : Int} (h : DataW.trod enc Tryd.prog W base sp held fuel 63 cs = some (.agg [.lit (.string l), .lit (.int .i64 a), .lit (.int .i64 b)], p)) : cs = fmRow (l, a, b) := by
  obtain ⟨y0, y1, y2, n, hx, hl, h0, h1, h2⟩ := Go.Deep.trod_struct3 Tryd.underlying63 h
  rw [cellsF] at hl
  simp only [Prod.mk.injEq, DataW.agg.injEq, List.cons.injEq, and_true] at hx
  obtain ⟨⟨e0, e1, e2⟩, _⟩ := hx
  rw [cellsN] at h0
  rw [cellsO] at h1 h2
  obtain ⟨s, c0, rfl, _⟩ := DataW.trod_string Tryd.underlying9 h0
  obtain ⟨n1, c1, rfl, _⟩ := DataW.trod_int Tryd.underlying61 h1
  obtain ⟨n2, c2, rfl, _⟩ := DataW.trod_int Tryd.underlying61 h2
  simp only [DataW.lit.injEq, Lit.string.injEq, Lit.int.injEq, true_and] at e0 e1 e2
  subst e0 e1 e2
  match cs, hl with
  | [a0, a1, a2], _ =>
    simp at c0 c1 c2
    rw [c0, c1, c2]
    rfl
theorem forms_of_trod (h : DataW.trod enc Tryd.prog W base sp held fuel 64 cs = some (.agg (fmL.map fun x => (.agg [.lit (.string x.1), .lit (.int .i64 x.2.1), .lit (.int .i64 x.2.2)] : DataW H)), p)) : cs = fmL.flatMap fmRow := by
  obtain ⟨xs, m, rfl, hx, hlen, hn, hel⟩ := DataW.trod_array Tryd.underlying64 h
  rw [cellsA] at hlen
  rw [cellsF] at hel
  simp only [Prod.mk.injEq, DataW.agg.injEq] at hx
  have key : ∀ q (hq : q < 7) r, r < 3 → cs[q * 3 + r]? = (fmRow (fmL[q]'hq))[r]? := fun q hq r hr => by
    obtain ⟨y, hy⟩ : ∃ y, xs[q]? = some y := ⟨xs[q]'(by omega), by simp [hn, hq]⟩
    have h1 := hel q hq
    rw [hy] at h1
    have h3 : (xs.map (·.1))[q]? = some y.1 := by simp [hy]
    rw [← hx.1, List.getElem?_map, List.getElem?_eq_getElem (show q < fmL.length from hq)] at h3
    obtain ⟨y1, y2⟩ := y
    simp only [Option.map_some, Option.some.injEq] at h3
    subst h3
    have h4 := congrArg (·[r]?) (one_form h1)
    simp only [List.getElem?_take, List.getElem?_drop, if_pos hr] at h4
    exact h4
  apply List.ext_getElem?
  intro i
  by_cases hi : i < 21
  · have hc : i = 0 * 3 + 0 ∨ i = 0 * 3 + 1 ∨ i = 0 * 3 + 2 ∨ i = 1 * 3 + 0 ∨ i = 1 * 3 + 1 ∨ i = 1 * 3 + 2 ∨ i = 2 * 3 + 0 ∨ i = 2 * 3 + 1 ∨ i = 2 * 3 + 2 ∨ i = 3 * 3 + 0 ∨ i = 3 * 3 + 1 ∨ i = 3 * 3 + 2 ∨ i = 4 * 3 + 0 ∨ i = 4 * 3 + 1 ∨ i = 4 * 3 + 2 ∨ i = 5 * 3 + 0 ∨ i = 5 * 3 + 1 ∨ i = 5 * 3 + 2 ∨ i = 6 * 3 + 0 ∨ i = 6 * 3 + 1 ∨ i = 6 * 3 + 2 := by omega
    rcases hc with rfl | rfl | rfl | rfl | rfl | rfl | rfl | rfl | rfl | rfl | rfl | rfl | rfl | rfl | rfl | rfl | rfl | rfl | rfl | rfl | rfl
    · rw [key 0 (by omega) 0 (by omega)]; rfl
    · rw [key 0 (by omega) 1 (by omega)]; rfl
    · rw [key 0 (by omega) 2 (by omega)]; rfl
    · rw [key 1 (by omega) 0 (by omega)]; rfl
    · rw [key 1 (by omega) 1 (by omega)]; rfl
    · rw [key 1 (by omega) 2 (by omega)]; rfl
    · rw [key 2 (by omega) 0 (by omega)]; rfl
    · rw [key 2 (by omega) 1 (by omega)]; rfl
    · rw [key 2 (by omega) 2 (by omega)]; rfl
    · rw [key 3 (by omega) 0 (by omega)]; rfl
    · rw [key 3 (by omega) 1 (by omega)]; rfl
    · rw [key 3 (by omega) 2 (by omega)]; rfl
    · rw [key 4 (by omega) 0 (by omega)]; rfl
    · rw [key 4 (by omega) 1 (by omega)]; rfl
    · rw [key 4 (by omega) 2 (by omega)]; rfl
    · rw [key 5 (by omega) 0 (by omega)]; rfl
    · rw [key 5 (by omega) 1 (by omega)]; rfl
    · rw [key 5 (by omega) 2 (by omega)]; rfl
    · rw [key 6 (by omega) 0 (by omega)]; rfl
    · rw [key 6 (by omega) 1 (by omega)]; rfl
    · rw [key 6 (by omega) 2 (by omega)]; rfl
  · rw [List.getElem?_eq_none (by omega), List.getElem?_eq_none (by simp [fmL, fmRow]; omega)]
end
theorem forms_laid {W : World} {r : List (String × DataW Unit)} (h : laidMet Tryd.prog (("loop.example/g03219/impl.factForms", Rows.laid_loop_example_g03219_impl_factForms) :: r) W) : W.var? Tryd.prog "loop.example/g03219/impl.factForms" = some fmCells := by
  obtain ⟨ps, ⟨g, t, cs, fuel, p, q, hg, ht, hvar, hd, _, _⟩, _⟩ := h
  obtain rfl := Option.some.inj (gForms.symm.trans hg)
  obtain rfl := Option.some.inj (tForms.symm.trans ht)
  rw [hvar]
  have := forms_of_trod hd
  congr 1
  apply Array.ext'
  rw [this]
  rfl
theorem form_cells {W : World} (h : W.var? Tryd.prog "loop.example/g03219/impl.factForms" = some fmCells) (k : Nat) (_hk : k < 21) : W.cell? ⟨0, k, none⟩ = fmCells[k]? := by
  exact World.var?_cell gForms h k
theorem forms_below {w w' : World} (hb : Below w.heap.size w w') (h : w.var? Tryd.prog "loop.example/g03219/impl.factForms" = some fmCells) : w'.var? Tryd.prog "loop.example/g03219/impl.factForms" = some fmCells := by
  unfold World.var? at h ⊢
  rw [gForms] at h ⊢
  simp only [Option.bind_some] at h ⊢
  have hlt : 0 < w.heap.size := by
    rcases Nat.lt_or_ge 0 w.heap.size with h' | h'
    · exact h'
    · rw [Array.getElem?_eq_none h'] at h; cases h
  rw [hb.block _ hlt]
  exact h
end Go.Proofs.YtcihgechijiamaaDoor
