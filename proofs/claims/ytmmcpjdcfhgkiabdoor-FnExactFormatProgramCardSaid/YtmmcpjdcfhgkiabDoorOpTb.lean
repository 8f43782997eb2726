/- The table of names of operations as the program lays it, and what OpName and its model return. Conditions stand in each statement. -/
import Derived.Test.YtmmcpjdcfhgkiabDoorRows
import Derived.WalkKit
import Derived.ProofKit
import Derived.OpenShut
import Derived.ShutString
import Derived.Handy
import Derived.Lib.Hide
import Derived.Lib.Strings
import Derived.Lib.LaidTab
import Derived.LaidMore
import Derived.Stop.Joined
import Derived.MakeChecks
import Derived.WalkLawsBesides
namespace Go.Proofs.YtmmcpjdcfhgkiabDoor
open Go.ChangeShapes Go.WideShapes Go.ChangeAt Go.RowKit

def nmL : List (List UInt8) := [[], [110, 111, 116], [110, 101, 103], [97, 100, 100], [115, 117, 98], [109, 117, 108], [100, 105, 118], [114, 101, 109], [97, 110, 100], [111, 114], [120, 111, 114], [115, 104, 108], [115, 104, 114], [115, 97, 114], [101, 113], [108, 101, 115, 115], [98, 101, 108, 111, 119]]
def nm (k : Nat) : ByteArray := ⟨(nmL.getD k []).toArray⟩
def nmCells : Array Value := (nmL.map fun l => Value.string ⟨l.toArray⟩).toArray
theorem ret_int {k : IntKind} {a b : Int} (h : a = b) : Ending.returned (.int k a) = .returned (.int k b) := by rw [h]
theorem gNames : Tryd.prog.globalNamed "loop.example/g03219/impl.opNames" = some 0 := by kernel_rfl
theorem tNames : (Tryd.prog.globals[0]?).map (·.type) = some 63 := by kernel_rfl
theorem cells29 : Tryd.prog.cellsOf 63 = 17 := by kernel_rfl
theorem cells9 : Tryd.prog.cellsOf 9 = 1 := by kernel_rfl

theorem names_of_trod {H : Type} {enc : TypeId × Value → H} {W : World} {base : Nat} {sp : Nat → Bool} {held : Bool} {fuel : Nat} {cs : List Value} {p : List MemPlace}
    (h : DataW.trod enc Tryd.prog W base sp held fuel 63 cs = some (.agg (nmL.map fun l => (.lit (.string l) : DataW H)), p)) : cs = nmL.map fun l => Value.string ⟨l.toArray⟩ := by
  obtain ⟨xs, m, rfl, hx, hlen, hn, hel⟩ := DataW.trod_array Tryd.underlying63 h
  rw [cells29] at hlen
  simp only [Prod.mk.injEq, DataW.agg.injEq] at hx
  apply List.ext_getElem?
  intro i
  by_cases hi : i < 17
  · have h1 := hel i hi
    rw [cells9] at h1
    obtain ⟨b, hb⟩ : ∃ b, xs[i]? = some b := ⟨xs[i]'(by omega), by simp [hn, hi]⟩
    rw [hb] at h1
    obtain ⟨s, hc, rfl, _⟩ := DataW.trod_string Tryd.underlying9 h1
    have h2 : cs[i]? = some (.string s) := by
      have := congrArg (·[0]?) hc
      simpa [List.getElem?_take, List.getElem?_drop] using this
    have h3 : (xs.map (·.1))[i]? = some (DataW.lit (.string s.data.toList) : DataW H) := by simp [hb]
    rw [← hx.1] at h3
    simp only [List.getElem?_map, Option.map_eq_some_iff, DataW.lit.injEq, Lit.string.injEq] at h3
    obtain ⟨l, hl, hs⟩ := h3
    rw [h2, List.getElem?_map, hl]
    have : s = ⟨l.toArray⟩ := by rw [hs]
    rw [this]; rfl
  · rw [List.getElem?_eq_none (by omega), List.getElem?_eq_none (by simp [nmL]; omega)]

theorem var_of_trod {W : World} {r : List (String × DataW Unit)} (h : laidMet Tryd.prog (("loop.example/g03219/impl.opNames", Rows.laid_loop_example_g03219_impl_opNames) :: r) W) : W.var? Tryd.prog "loop.example/g03219/impl.opNames" = some nmCells := by
  obtain ⟨ps, ⟨g, t, cs, fuel, p, q, hg, ht, hvar, hd, _, _⟩, _⟩ := h
  obtain rfl := Option.some.inj (gNames.symm.trans hg)
  obtain rfl := Option.some.inj (tNames.symm.trans ht)
  rw [hvar]
  have := names_of_trod hd
  congr 1
  apply Array.ext'
  rw [this]; rfl
theorem cell_of_var {W : World} (h : W.var? Tryd.prog "loop.example/g03219/impl.opNames" = some nmCells) (k : Nat) (hk : k < 17) : W.cell? ⟨0, k, none⟩ = some (.string (nm k)) := by
  rw [World.var?_cell gNames h]
  have : k = 0 ∨ k = 1 ∨ k = 2 ∨ k = 3 ∨ k = 4 ∨ k = 5 ∨ k = 6 ∨ k = 7 ∨ k = 8 ∨ k = 9 ∨ k = 10 ∨ k = 11 ∨ k = 12 ∨ k = 13 ∨ k = 14 ∨ k = 15 ∨ k = 16 := by omega
  rcases this with h | h | h | h | h | h | h | h | h | h | h | h | h | h | h | h | h <;> subst h <;> rfl

theorem i_opName (op : Nat) (h1 : 1 ≤ op) (h2 : op ≤ 16) (w : World) (hc : w.cell? ⟨0, op, none⟩ = some (.string (nm op))) : Calls Tryd.prog 33 #[.int .i64 op] w fun e w' => e = .returned (.string (nm op)) ∧ w = w' := by
  go_enter Tryd.func33, Tryd.ntmps33
  go_wp2
  go_ret
  exact ⟨rfl, rfl⟩
theorem s_names (w : World) : Calls Tryd.prog 57 #[] w fun e w' => e = .returned (.slice (some ⟨w.heap.size, 0, none⟩) 17 17) ∧ w.alloc (.cells nmCells 9) = w' := by
  go_enter Tryd.func57, Tryd.ntmps57
  go_wp2
  go_ret
  exact ⟨rfl, rfl⟩
theorem i_opName_no (op : Int) (h : op < 1 ∨ 16 < op) (w : World) : Calls Tryd.prog 33 #[.int .i64 op] w fun e w' => e = .returned (.string ⟨#[]⟩) ∧ w = w' := by
  rcases h with h | h
  · go_enter Tryd.func33, Tryd.ntmps33
    go_wp2
    go_ret
    exact ⟨rfl, rfl⟩
  · have h' : 1 ≤ op := by omega
    go_enter Tryd.func33, Tryd.ntmps33
    go_wp2
    go_ret
    exact ⟨rfl, rfl⟩
theorem new_cell (w : World) (k : Nat) (hk : k < 17) : (w.alloc (.cells nmCells 9)).cell? ⟨w.heap.size, k, none⟩ = some (.string (nm k)) := by
  have e : (w.alloc (.cells nmCells 9)).cell? ⟨w.heap.size, k, none⟩ = nmCells[k]? := World.cell?_alloc_at nmCells 9 _ k rfl
  rw [e]
  have : k = 0 ∨ k = 1 ∨ k = 2 ∨ k = 3 ∨ k = 4 ∨ k = 5 ∨ k = 6 ∨ k = 7 ∨ k = 8 ∨ k = 9 ∨ k = 10 ∨ k = 11 ∨ k = 12 ∨ k = 13 ∨ k = 14 ∨ k = 15 ∨ k = 16 := by omega
  rcases this with h | h | h | h | h | h | h | h | h | h | h | h | h | h | h | h | h <;> subst h <;> rfl
theorem s_opName (op : Nat) (h1 : 1 ≤ op) (h2 : op ≤ 16) (w : World) : Calls Tryd.prog 37 #[.int .i64 op] w fun e w' => e = .returned (.string (nm op)) ∧ w.alloc (.cells nmCells 9) = w' := by
  have hc := new_cell w op (by omega)
  have h1' : 1 ≤ (op : Int) := by omega
  have h2' : (op : Int) ≤ 16 := by omega
  go_enter Tryd.func37, Tryd.ntmps37
  go_wp2_with (first | (go_at_call 57; refine (s_names _).mono ?_; rintro e w' ⟨rfl, rfl⟩) | go_in)
  go_ret
  exact ⟨rfl, rfl⟩
theorem s_opName_no (op : Int) (h : op < 1 ∨ 16 < op) (w : World) : Calls Tryd.prog 37 #[.int .i64 op] w fun e w' => e = .returned (.string ⟨#[]⟩) ∧ w = w' := by
  rcases h with h | h
  · go_enter Tryd.func37, Tryd.ntmps37
    go_wp2
    go_ret
    exact ⟨rfl, rfl⟩
  · have h' : 1 ≤ op := by omega
    have hx : decide (op ≤ 16) = false := decide_eq_false (by omega)
    go_enter Tryd.func37, Tryd.ntmps37
    go_wp2
    go_ret
    exact ⟨rfl, rfl⟩
end Go.Proofs.YtmmcpjdcfhgkiabDoor
