/- The table of names as the program lays it, and what the four functions over it return: OpName, OpOf and their models. Conditions stand in each statement. -/
import Derived.Test.YtoiakdhmdkcibabDoorRows
import Derived.WalkKit
import Derived.ProofKit
import Derived.OpenShut
import Derived.ShutString
import Derived.Handy
import Derived.Lib.Hide
import Derived.Lib.Strings
import Derived.Lib.LaidTab
import Derived.LaidMore
import Derived.Stop.Joined
import Derived.MakeChecks
import Derived.WalkLawsBesides
namespace Go.Proofs.YtoiakdhmdkcibabDoor
open Go.ChangeShapes Go.WideShapes Go.ChangeAt Go.RowKit

def nmL : List (List UInt8) := [[], [110, 111, 116], [110, 101, 103], [97, 100, 100], [115, 117, 98], [109, 117, 108], [100, 105, 118], [114, 101, 109], [97, 110, 100], [111, 114], [120, 111, 114], [115, 104, 108], [115, 104, 114], [115, 97, 114], [101, 113], [108, 101, 115, 115], [98, 101, 108, 111, 119]]
def nm (k : Nat) : ByteArray := ⟨(nmL.getD k []).toArray⟩
def nmCells : Array Value := (nmL.map fun l => Value.string ⟨l.toArray⟩).toArray
theorem ret_int {k : IntKind} {a b : Int} (h : a = b) : Ending.returned (.int k a) = .returned (.int k b) := by rw [h]
theorem gNames : Tryd.prog.globalNamed "loop.example/g03219/impl.opNames" = some 0 := by kernel_rfl
theorem tNames : (Tryd.prog.globals[0]?).map (·.type) = some 29 := by kernel_rfl
theorem cells29 : Tryd.prog.cellsOf 29 = 17 := by kernel_rfl
theorem cells9 : Tryd.prog.cellsOf 9 = 1 := by kernel_rfl

theorem names_of_trod {H : Type} {enc : TypeId × Value → H} {W : World} {base : Nat} {sp : Nat → Bool} {held : Bool} {fuel : Nat} {cs : List Value} {p : List MemPlace}
    (h : DataW.trod enc Tryd.prog W base sp held fuel 29 cs = some (.agg (nmL.map fun l => (.lit (.string l) : DataW H)), p)) : cs = nmL.map fun l => Value.string ⟨l.toArray⟩ := by
  obtain ⟨xs, m, rfl, hx, hlen, hn, hel⟩ := DataW.trod_array Tryd.underlying29 h
  rw [cells29] at hlen
  simp only [Prod.mk.injEq, DataW.agg.injEq] at hx
  apply List.ext_getElem?
  intro i
  by_cases hi : i < 17
  · have h1 := hel i hi
    rw [cells9] at h1
    obtain ⟨b, hb⟩ : ∃ b, xs[i]? = some b := ⟨xs[i]'(by omega), by simp [hn, hi]⟩
    rw [hb] at h1
    obtain ⟨s, hc, rfl, _⟩ := DataW.trod_string Tryd.underlying9 h1
    have h2 : cs[i]? = some (.string s) := by
      have := congrArg (·[0]?) hc
      simpa [List.getElem?_take, List.getElem?_drop] using this
    have h3 : (xs.map (·.1))[i]? = some (DataW.lit (.string s.data.toList) : DataW H) := by simp [hb]
    rw [← hx.1] at h3
    simp only [List.getElem?_map, Option.map_eq_some_iff, DataW.lit.injEq, Lit.string.injEq] at h3
    obtain ⟨l, hl, hs⟩ := h3
    rw [h2, List.getElem?_map, hl]
    have : s = ⟨l.toArray⟩ := by rw [hs]
    rw [this]; rfl
  · rw [List.getElem?_eq_none (by omega), List.getElem?_eq_none (by simp [nmL]; omega)]

theorem var_of_laid {W : World} (h : laidMetH Tryd.prog [("loop.example/g03219/impl.opNames", Rows.laid_loop_example_g03219_impl_opNames)] W) : W.var? Tryd.prog "loop.example/g03219/impl.opNames" = some nmCells := by
  rw [MakeChecks.laidMetH_plain _ _ _ (by kernel_rfl)] at h
  obtain ⟨ps, ⟨g, t, cs, fuel, p, q, hg, ht, hvar, hd, _, _⟩, _⟩ := h
  obtain rfl := Option.some.inj (gNames.symm.trans hg)
  obtain rfl := Option.some.inj (tNames.symm.trans ht)
  rw [hvar]
  have := names_of_trod hd
  congr 1
  apply Array.ext'
  rw [this]; rfl
theorem cell_of_var {W : World} (h : W.var? Tryd.prog "loop.example/g03219/impl.opNames" = some nmCells) (k : Nat) (hk : k < 17) : W.cell? ⟨0, k, none⟩ = some (.string (nm k)) := by
  rw [World.var?_cell gNames h]
  have : k = 0 ∨ k = 1 ∨ k = 2 ∨ k = 3 ∨ k = 4 ∨ k = 5 ∨ k = 6 ∨ k = 7 ∨ k = 8 ∨ k = 9 ∨ k = 10 ∨ k = 11 ∨ k = 12 ∨ k = 13 ∨ k = 14 ∨ k = 15 ∨ k = 16 := by omega
  rcases this with h | h | h | h | h | h | h | h | h | h | h | h | h | h | h | h | h <;> subst h <;> rfl

theorem i_opName (op : Nat) (h1 : 1 ≤ op) (h2 : op ≤ 16) (w : World) (hc : w.cell? ⟨0, op, none⟩ = some (.string (nm op))) : Calls Tryd.prog 6 #[.int .i64 op] w fun e w' => e = .returned (.string (nm op)) ∧ w = w' := by
  go_enter Tryd.func6, Tryd.ntmps6
  go_wp2
  go_ret
  exact ⟨rfl, rfl⟩
theorem s_names (w : World) : Calls Tryd.prog 10 #[] w fun e w' => e = .returned (.slice (some ⟨w.heap.size, 0, none⟩) 17 17) ∧ w.alloc (.cells nmCells 9) = w' := by
  go_enter Tryd.func10, Tryd.ntmps10
  go_wp2
  go_ret
  exact ⟨rfl, rfl⟩
theorem i_opName_no (op : Int) (h : op < 1 ∨ 16 < op) (w : World) : Calls Tryd.prog 6 #[.int .i64 op] w fun e w' => e = .returned (.string ⟨#[]⟩) ∧ w = w' := by
  rcases h with h | h
  · go_enter Tryd.func6, Tryd.ntmps6
    go_wp2
    go_ret
    exact ⟨rfl, rfl⟩
  · have h' : 1 ≤ op := by omega
    go_enter Tryd.func6, Tryd.ntmps6
    go_wp2
    go_ret
    exact ⟨rfl, rfl⟩
theorem new_cell (w : World) (k : Nat) (hk : k < 17) : (w.alloc (.cells nmCells 9)).cell? ⟨w.heap.size, k, none⟩ = some (.string (nm k)) := by
  have e : (w.alloc (.cells nmCells 9)).cell? ⟨w.heap.size, k, none⟩ = nmCells[k]? := World.cell?_alloc_at nmCells 9 _ k rfl
  rw [e]
  have : k = 0 ∨ k = 1 ∨ k = 2 ∨ k = 3 ∨ k = 4 ∨ k = 5 ∨ k = 6 ∨ k = 7 ∨ k = 8 ∨ k = 9 ∨ k = 10 ∨ k = 11 ∨ k = 12 ∨ k = 13 ∨ k = 14 ∨ k = 15 ∨ k = 16 := by omega
  rcases this with h | h | h | h | h | h | h | h | h | h | h | h | h | h | h | h | h <;> subst h <;> rfl
theorem s_opName (op : Nat) (h1 : 1 ≤ op) (h2 : op ≤ 16) (w : World) : Calls Tryd.prog 5 #[.int .i64 op] w fun e w' => e = .returned (.string (nm op)) ∧ w.alloc (.cells nmCells 9) = w' := by
  have hc := new_cell w op (by omega)
  have h1' : 1 ≤ (op : Int) := by omega
  have h2' : (op : Int) ≤ 16 := by omega
  go_enter Tryd.func5, Tryd.ntmps5
  go_wp2_with (first | (go_at_call 10; refine (s_names _).mono ?_; rintro e w' ⟨rfl, rfl⟩) | go_in)
  go_ret
  exact ⟨rfl, rfl⟩
theorem s_opName_no (op : Int) (h : op < 1 ∨ 16 < op) (w : World) : Calls Tryd.prog 5 #[.int .i64 op] w fun e w' => e = .returned (.string ⟨#[]⟩) ∧ w = w' := by
  rcases h with h | h
  · go_enter Tryd.func5, Tryd.ntmps5
    go_wp2
    go_ret
    exact ⟨rfl, rfl⟩
  · have h' : 1 ≤ op := by omega
    have hx : decide (op ≤ 16) = false := decide_eq_false (by omega)
    go_enter Tryd.func5, Tryd.ntmps5
    go_wp2
    go_ret
    exact ⟨rfl, rfl⟩
theorem law_opName (op : Int) (w : World) (hv : w.var? Tryd.prog "loop.example/g03219/impl.opNames" = some nmCells) : Calls Tryd.prog 3 #[.int .i64 op] w fun e w' => e = .returned (.bool true) ∧ Grown w w' := by
  by_cases h : 1 ≤ op ∧ op ≤ 16
  · obtain ⟨n, rfl⟩ : ∃ n : Nat, op = n := ⟨op.toNat, by omega⟩
    have hc := cell_of_var hv n (by omega)
    have hlt : 0 < w.heap.size := World.block_lt_of_cell? _ _ hc
    have hc' : (w.alloc (.cells nmCells 9)).cell? ⟨0, n, none⟩ = some (.string (nm n)) := by
      rw [World.cell?_alloc_old _ _ _ (Nat.ne_of_lt hlt)]; exact hc
    have HC := Lib.hid hc'
    clear hv hc hc'
    go_enter Tryd.func3, Tryd.ntmps3
    go_wp2_with (first | (go_at_call 5; refine (s_opName _ (by omega) (by omega) _).mono ?_; rintro e w' ⟨rfl, rfl⟩) | (go_at_call 6; refine (i_opName _ (by omega) (by omega) _ HC.out).mono ?_; rintro e w' ⟨rfl, rfl⟩))
    go_ret
    exact ⟨rfl, (Grown.refl _).alloc _ _⟩
  · have h' : op < 1 ∨ 16 < op := by omega
    have HC := Lib.hid h'
    clear h h' hv
    go_enter Tryd.func3, Tryd.ntmps3
    go_wp2_with (first | (go_at_call 5; refine (s_opName_no _ HC.out _).mono ?_; rintro e w' ⟨rfl, rfl⟩) | (go_at_call 6; refine (i_opName_no _ HC.out _).mono ?_; rintro e w' ⟨rfl, rfl⟩))
    go_ret
    exact ⟨rfl, Grown.refl _⟩

/-- the place of a name, or 0 -/
def Hit (s : ByteArray) (k : Nat) : Prop := k < 17 ∧ ((nm k).toList == s.toList) = true ∧ ∀ j, j < k → ((nm j).toList == s.toList) = false
open Classical in
noncomputable def opIx (s : ByteArray) : Nat := if h : ∃ k, Hit s k then h.choose else 0
theorem opIx_hit (s : ByteArray) (k : Nat) (h : Hit s k) : opIx s = k := by
  have he : ∃ k, Hit s k := ⟨k, h⟩
  have e : opIx s = he.choose := by simp [opIx, he]
  rw [e]
  have hs := he.choose_spec
  rcases Nat.lt_trichotomy he.choose k with hl | hl | hl
  · have := h.2.2 _ hl; rw [hs.2.1] at this; cases this
  · exact hl
  · have := hs.2.2 _ hl; rw [h.2.1] at this; cases this
theorem opIx_none (s : ByteArray) (h : ∀ j, j < 17 → ((nm j).toList == s.toList) = false) : opIx s = 0 := by
  have he : ¬ ∃ k, Hit s k := by
    rintro ⟨k, h1, h2, _⟩
    rw [h k h1] at h2; cases h2
  simp [opIx, he]
theorem s_opOf (s : ByteArray) (w : World) : Calls Tryd.prog 7 #[.string s] w fun e w' => e = .returned (.int .i64 (opIx s)) ∧ w.alloc (.cells nmCells 9) = w' := by
  go_enter Tryd.func7, Tryd.ntmps7
  go_wp2_with (go_at_call 10; refine (s_names _).mono ?_; rintro e w' ⟨rfl, rfl⟩)
  go_loop [7] (fun i => ∃ k : Nat, k ≤ 17 ∧ i = .int .i64 k ∧ ∀ j, j < k → ((nm j).toList == s.toList) = false) (fun i => 17 - (intOf i).toNat)
  case atStart => exact ⟨0, Nat.zero_le _, rfl, fun j hj => absurd hj (by omega)⟩
  case round =>
    obtain ⟨k, hk, rfl, hg⟩ := hrel
    have HG := Lib.hid hg
    clear hg
    by_cases hlt : k < 17
    · have hc := new_cell w k hlt
      by_cases hq : ((nm k).toList == s.toList) = true
      · have HQ := Lib.hid (opIx_hit s k ⟨hlt, hq, HG.out⟩)
        go_wp2
        go_ret
        exact ⟨ret_int (by rw [HQ.out]), rfl⟩
      · have hq' : ((nm k).toList == s.toList) = false := by simpa using hq
        clear hq
        go_wp2
        go_round
        case rel =>
          refine ⟨k + 1, by omega, by go_num, fun j hj => ?_⟩
          by_cases e : j = k
          · subst e; exact hq'
          · exact HG.out j (by omega)
        case measure => simp [intOf]; omega
    · have HQ := Lib.hid (opIx_none s (fun j hj => HG.out j (by omega)))
      go_wp2
      go_ret
      exact ⟨ret_int (by rw [HQ.out]; rfl), rfl⟩

theorem row_of_var {W : World} (h : W.var? Tryd.prog "loop.example/g03219/impl.opNames" = some nmCells) : ∃ t fr, W.heap[0]? = some (.cells nmCells t fr) := by
  unfold World.var? at h
  rw [gNames] at h
  simp only [Option.bind_some] at h
  split at h
  · rename_i cs t fr e
    cases h
    exact ⟨t, fr, e⟩
  · cases h
theorem index_at (k : Nat) (hk : k < 17) (w : World) : (Instr.index 29 (.agg nmCells) (.int .i64 k)).run Tryd.prog w = .ok (.string (nm k)) w := by
  have : k = 0 ∨ k = 1 ∨ k = 2 ∨ k = 3 ∨ k = 4 ∨ k = 5 ∨ k = 6 ∨ k = 7 ∨ k = 8 ∨ k = 9 ∨ k = 10 ∨ k = 11 ∨ k = 12 ∨ k = 13 ∨ k = 14 ∨ k = 15 ∨ k = 16 := by omega
  rcases this with h | h | h | h | h | h | h | h | h | h | h | h | h | h | h | h | h <;> subst h <;> change _ = _ <;> kernel_rfl
theorem i_opOf (s : ByteArray) (w : World) (t : TypeId) (fr : Nat × Nat) (hr : w.heap[0]? = some (.cells nmCells t fr)) : Calls Tryd.prog 8 #[.string s] w fun e w' => e = .returned (.int .i64 (opIx s)) ∧ w = w' := by
  have HR := Lib.hid hr
  clear hr
  go_enter Tryd.func8, Tryd.ntmps8
  go_wp2_with (refine wpList_load_row rfl 29 _ rfl 0 rfl t nmCells fr _ HR.out Tryd.underlying29 rfl (by kernel_rfl) ?_)
  go_loop [6] (fun i => ∃ k : Nat, k ≤ 17 ∧ i = .int .i64 k ∧ ∀ j, j < k → ((nm j).toList == s.toList) = false) (fun i => 17 - (intOf i).toNat)
  case atStart => exact ⟨0, Nat.zero_le _, rfl, fun j hj => absurd hj (by omega)⟩
  case round =>
    obtain ⟨k, hk, rfl, hg⟩ := hrel
    have HG := Lib.hid hg
    clear hg
    by_cases hlt : k < 17
    · have hix := fun w => index_at k hlt w
      by_cases hq : ((nm k).toList == s.toList) = true
      · have HQ := Lib.hid (opIx_hit s k ⟨hlt, hq, HG.out⟩)
        go_wp2
        go_ret
        exact ⟨ret_int (by rw [HQ.out]), rfl⟩
      · have hq' : ((nm k).toList == s.toList) = false := by simpa using hq
        clear hq
        go_wp2
        go_round
        case rel =>
          refine ⟨k + 1, by omega, by go_num, fun j hj => ?_⟩
          by_cases e : j = k
          · subst e; exact hq'
          · exact HG.out j (by omega)
        case measure => simp [intOf]; omega
    · have HQ := Lib.hid (opIx_none s (fun j hj => HG.out j (by omega)))
      go_wp2
      go_ret
      exact ⟨ret_int (by rw [HQ.out]; rfl), rfl⟩

theorem law_opOf (s : ByteArray) (w : World) (hv : w.var? Tryd.prog "loop.example/g03219/impl.opNames" = some nmCells) : Calls Tryd.prog 4 #[.string s] w fun e w' => e = .returned (.bool true) ∧ Grown w w' := by
  obtain ⟨t, fr, hr⟩ := row_of_var hv
  have hlt : 0 < w.heap.size := by
    rcases Nat.lt_or_ge 0 w.heap.size with h | h
    · exact h
    · rw [Array.getElem?_eq_none h] at hr; cases hr
  have hr' : (w.alloc (.cells nmCells 9)).heap[0]? = some (.cells nmCells t fr) := by
    rw [Below.heap_alloc _ _ _ hlt]; exact hr
  have HR := Lib.hid hr'
  clear hr hr' hv hlt
  by_cases hs : s.size ≤ 1048576
  · go_enter Tryd.func4, Tryd.ntmps4
    go_wp2_with (first | (go_at_call 7; refine (s_opOf _ _).mono ?_; rintro e w' ⟨rfl, rfl⟩) | (go_at_call 8; refine (i_opOf _ _ _ _ HR.out).mono ?_; rintro e w' ⟨rfl, rfl⟩))
    go_ret
    exact ⟨rfl, (Grown.refl _).alloc _ _⟩
  · have hs' : 1048576 < s.size := by omega
    go_enter Tryd.func4, Tryd.ntmps4
    go_wp2
    go_ret
    exact ⟨rfl, Grown.refl _⟩
end Go.Proofs.YtoiakdhmdkcibabDoor
