/- The table of names as the program lays it, and what CodeName and its model return. Conditions stand in each statement. -/
import Derived.Test.YtogmiahkccmfbabDoorRows
import Derived.WalkKit
import Derived.ProofKit
import Derived.OpenShut
import Derived.ShutString
import Derived.Handy
import Derived.Lib.Hide
import Derived.Lib.Strings
import Derived.Lib.LaidTab
import Derived.LaidMore
import Derived.Stop.Joined
import Derived.MakeChecks
import Derived.WalkLawsBesides
namespace Go.Proofs.YtogmiahkccmfbabDoor
open Go.ChangeShapes Go.WideShapes Go.ChangeAt Go.RowKit

def nmL : List (List UInt8) := [[114, 117, 110, 110, 105, 110, 103], [104, 97, 108, 116, 101, 100], [101, 110, 100], [105, 110, 112, 117, 116], [111, 117, 116, 112, 117, 116], [97, 100, 100, 114, 101, 115, 115], [100, 105, 118, 105, 115, 105, 111, 110], [115, 116, 97, 99, 107], [99, 104, 101, 99, 107], [98, 105, 103]]
def nm (k : Nat) : ByteArray := ⟨(nmL.getD k []).toArray⟩
def nmCells : Array Value := (nmL.map fun l => Value.string ⟨l.toArray⟩).toArray
theorem ret_int {k : IntKind} {a b : Int} (h : a = b) : Ending.returned (.int k a) = .returned (.int k b) := by rw [h]
theorem gNames : Tryd.prog.globalNamed "loop.example/g03219/impl.codeNames" = some 0 := by kernel_rfl
theorem tNames : (Tryd.prog.globals[0]?).map (·.type) = some 26 := by kernel_rfl
theorem cells29 : Tryd.prog.cellsOf 26 = 10 := by kernel_rfl
theorem cells9 : Tryd.prog.cellsOf 9 = 1 := by kernel_rfl

theorem names_of_trod {H : Type} {enc : TypeId × Value → H} {W : World} {base : Nat} {sp : Nat → Bool} {held : Bool} {fuel : Nat} {cs : List Value} {p : List MemPlace}
    (h : DataW.trod enc Tryd.prog W base sp held fuel 26 cs = some (.agg (nmL.map fun l => (.lit (.string l) : DataW H)), p)) : cs = nmL.map fun l => Value.string ⟨l.toArray⟩ := by
  obtain ⟨xs, m, rfl, hx, hlen, hn, hel⟩ := DataW.trod_array Tryd.underlying26 h
  rw [cells29] at hlen
  simp only [Prod.mk.injEq, DataW.agg.injEq] at hx
  apply List.ext_getElem?
  intro i
  by_cases hi : i < 10
  · have h1 := hel i hi
    rw [cells9] at h1
    obtain ⟨b, hb⟩ : ∃ b, xs[i]? = some b := ⟨xs[i]'(by omega), by simp [hn, hi]⟩
    rw [hb] at h1
    obtain ⟨s, hc, rfl, _⟩ := DataW.trod_string Tryd.underlying9 h1
    have h2 : cs[i]? = some (.string s) := by
      have := congrArg (·[0]?) hc
      simpa [List.getElem?_take, List.getElem?_drop] using this
    have h3 : (xs.map (·.1))[i]? = some (DataW.lit (.string s.data.toList) : DataW H) := by simp [hb]
    rw [← hx.1] at h3
    simp only [List.getElem?_map, Option.map_eq_some_iff, DataW.lit.injEq, Lit.string.injEq] at h3
    obtain ⟨l, hl, hs⟩ := h3
    rw [h2, List.getElem?_map, hl]
    have : s = ⟨l.toArray⟩ := by rw [hs]
    rw [this]; rfl
  · rw [List.getElem?_eq_none (by omega), List.getElem?_eq_none (by simp [nmL]; omega)]

theorem var_of_laid {W : World} (h : laidMetH Tryd.prog [("loop.example/g03219/impl.codeNames", Rows.laid_loop_example_g03219_impl_codeNames)] W) : W.var? Tryd.prog "loop.example/g03219/impl.codeNames" = some nmCells := by
  rw [MakeChecks.laidMetH_plain _ _ _ (by kernel_rfl)] at h
  obtain ⟨ps, ⟨g, t, cs, fuel, p, q, hg, ht, hvar, hd, _, _⟩, _⟩ := h
  obtain rfl := Option.some.inj (gNames.symm.trans hg)
  obtain rfl := Option.some.inj (tNames.symm.trans ht)
  rw [hvar]
  have := names_of_trod hd
  congr 1
  apply Array.ext'
  rw [this]; rfl
theorem cell_of_var {W : World} (h : W.var? Tryd.prog "loop.example/g03219/impl.codeNames" = some nmCells) (k : Nat) (hk : k < 10) : W.cell? ⟨0, k, none⟩ = some (.string (nm k)) := by
  rw [World.var?_cell gNames h]
  have : k = 0 ∨ k = 1 ∨ k = 2 ∨ k = 3 ∨ k = 4 ∨ k = 5 ∨ k = 6 ∨ k = 7 ∨ k = 8 ∨ k = 9 := by omega
  rcases this with h | h | h | h | h | h | h | h | h | h <;> subst h <;> rfl

theorem i_opName (op : Nat) (h2 : op ≤ 9) (w : World) (hc : w.cell? ⟨0, op, none⟩ = some (.string (nm op))) : Calls Tryd.prog 5 #[.int .i64 op] w fun e w' => e = .returned (.string (nm op)) ∧ w = w' := by
  go_enter Tryd.func5, Tryd.ntmps5
  go_wp2
  go_ret
  exact ⟨rfl, rfl⟩
theorem i_opName_no (op : Int) (h : op < 0 ∨ 9 < op) (w : World) : Calls Tryd.prog 5 #[.int .i64 op] w fun e w' => e = .returned (.string ⟨#[]⟩) ∧ w = w' := by
  rcases h with h | h
  · go_enter Tryd.func5, Tryd.ntmps5
    go_wp2
    go_ret
    exact ⟨rfl, rfl⟩
  · have h' : 0 ≤ op := by omega
    go_enter Tryd.func5, Tryd.ntmps5
    go_wp2
    go_ret
    exact ⟨rfl, rfl⟩
theorem new_cell (w : World) (k : Nat) (hk : k < 10) : (w.alloc (.cells nmCells 9)).cell? ⟨w.heap.size, k, none⟩ = some (.string (nm k)) := by
  have e : (w.alloc (.cells nmCells 9)).cell? ⟨w.heap.size, k, none⟩ = nmCells[k]? := World.cell?_alloc_at nmCells 9 _ k rfl
  rw [e]
  have : k = 0 ∨ k = 1 ∨ k = 2 ∨ k = 3 ∨ k = 4 ∨ k = 5 ∨ k = 6 ∨ k = 7 ∨ k = 8 ∨ k = 9 := by omega
  rcases this with h | h | h | h | h | h | h | h | h | h <;> subst h <;> rfl
set_option maxRecDepth 100000 in
set_option maxHeartbeats 4000000 in
theorem s_opName (op : Nat) (h2 : op ≤ 9) (w : World) : Calls Tryd.prog 4 #[.int .i64 op] w fun e w' => e = .returned (.string (nm op)) ∧ w.alloc (.cells nmCells 9) = w' := by
  have h10 : op = 0 ∨ op = 1 ∨ op = 2 ∨ op = 3 ∨ op = 4 ∨ op = 5 ∨ op = 6 ∨ op = 7 ∨ op = 8 ∨ op = 9 := by omega
  rcases h10 with h | h | h | h | h | h | h | h | h | h <;> subst h
  all_goals
    go_enter Tryd.func4, Tryd.ntmps4
    go_wp2
    go_ret
    exact ⟨rfl, rfl⟩
theorem s_opName_no (op : Int) (h : op < 0 ∨ 9 < op) (w : World) : Calls Tryd.prog 4 #[.int .i64 op] w fun e w' => e = .returned (.string ⟨#[]⟩) ∧ w = w' := by
  rcases h with h | h
  · go_enter Tryd.func4, Tryd.ntmps4
    go_wp2
    go_ret
    exact ⟨rfl, rfl⟩
  · have h' : 0 ≤ op := by omega
    have hx : decide (op ≤ 9) = false := decide_eq_false (by omega)
    go_enter Tryd.func4, Tryd.ntmps4
    go_wp2
    go_ret
    exact ⟨rfl, rfl⟩
theorem law_codeName (op : Int) (w : World) (hv : w.var? Tryd.prog "loop.example/g03219/impl.codeNames" = some nmCells) : Calls Tryd.prog 3 #[.int .i64 op] w fun e w' => e = .returned (.bool true) ∧ Grown w w' := by
  by_cases h : 0 ≤ op ∧ op ≤ 9
  · obtain ⟨n, rfl⟩ : ∃ n : Nat, op = n := ⟨op.toNat, by omega⟩
    have hc := cell_of_var hv n (by omega)
    have hlt : 0 < w.heap.size := World.block_lt_of_cell? _ _ hc
    have hc' : (w.alloc (.cells nmCells 9)).cell? ⟨0, n, none⟩ = some (.string (nm n)) := by
      rw [World.cell?_alloc_old _ _ _ (Nat.ne_of_lt hlt)]; exact hc
    have HC := Lib.hid hc'
    clear hv hc hc'
    go_enter Tryd.func3, Tryd.ntmps3
    go_wp2_with (first | (go_at_call 4; refine (s_opName _ (by omega) _).mono ?_; rintro e w' ⟨rfl, rfl⟩) | (go_at_call 5; refine (i_opName _ (by omega) _ HC.out).mono ?_; rintro e w' ⟨rfl, rfl⟩))
    go_ret
    exact ⟨rfl, (Grown.refl _).alloc _ _⟩
  · have h' : op < 0 ∨ 9 < op := by omega
    have HC := Lib.hid h'
    clear h h' hv
    go_enter Tryd.func3, Tryd.ntmps3
    go_wp2_with (first | (go_at_call 4; refine (s_opName_no _ HC.out _).mono ?_; rintro e w' ⟨rfl, rfl⟩) | (go_at_call 5; refine (i_opName_no _ HC.out _).mono ?_; rintro e w' ⟨rfl, rfl⟩))
    go_ret
    exact ⟨rfl, Grown.refl _⟩

theorem row_of_var {W : World} (h : W.var? Tryd.prog "loop.example/g03219/impl.codeNames" = some nmCells) : ∃ t fr, W.heap[0]? = some (.cells nmCells t fr) := by
  unfold World.var? at h
  rw [gNames] at h
  simp only [Option.bind_some] at h
  split at h
  · rename_i cs t fr e
    cases h
    exact ⟨t, fr, e⟩
  · cases h
end Go.Proofs.YtogmiahkccmfbabDoor
