/- addVar: a variable's width is kept among those in the order of their names. -/
import Derived.Test.YthmababifgaejaaGreatDoorEmInsert
import Derived.Test.YthmababifgaejaaGreatDoorEmGWk
namespace Go.Proofs.YthmababifgaejaaGreatDoor
open Go.ChangeShapes Go.WideShapes Go.ChangeAt Go.RowKit
open ValueR (all costs)
/-- the values with a variable beside them, if its width is that of its name -/
noncomputable def addV (V : List ValueR) (nm : ByteArray) (wd : Int) : Option (List ValueR) :=
  if isAt V nm = true then (match V[pos V nm]? with | some r => if r.f1 = wd then some V else none | none => none)
  else some (V.take (pos V nm) ++ ⟨nm, wd, 0⟩ :: V.drop (pos V nm))
theorem addV_asc {V V' : List ValueR} {nm : ByteArray} {wd : Int} (h : Asc V) (he : addV V nm wd = some V') : Asc V' := by
  unfold addV at he
  split at he
  · split at he
    · split at he
      · cases he; exact h
      · cases he
    · cases he
  · rename_i hat
    cases he
    have h' := h
    have hs : V.take (pos V nm) ++ V.drop (pos V nm) = V := List.take_append_drop _ _
    unfold Asc at h'
    rw [← hs, List.pairwise_append] at h'
    have hb : ∀ a ∈ V.take (pos V nm), Op.bytesLess a.f0.toList nm.toList = true := fun a ha => by
      obtain ⟨i, hi⟩ := List.getElem?_of_mem ha
      have hlt := (List.getElem?_eq_some_iff.1 hi).1
      rw [List.length_take] at hlt
      rw [List.getElem?_take_of_lt (by omega)] at hi
      exact pos_before V nm i a (by omega) hi
    have ha : ∀ b ∈ V.drop (pos V nm), Op.bytesLess nm.toList b.f0.toList = true := fun b hb => by
      obtain ⟨i, hi⟩ := List.getElem?_of_mem hb
      rw [List.getElem?_drop] at hi
      have hx := (List.getElem?_eq_some_iff.1 hi).1
      have h0 : V[pos V nm]? = some (V[pos V nm]'(by omega)) := List.getElem?_eq_getElem _
      generalize V[pos V nm]'(by omega) = r at *
      have h1 := pos_at V nm r h0
      have h2 : r.f0 ≠ nm := by
        intro e
        apply hat
        unfold isAt
        rw [h0]
        exact decide_eq_true e
      have h3 : Op.bytesLess nm.toList r.f0.toList = true := less_total _ _ h1 (fun e => h2 (ba_ext e))
      cases i with
      | zero => rw [Nat.add_zero, h0] at hi; cases hi; exact h3
      | succ i =>
        have h4 := (List.pairwise_iff_getElem.1 h) (pos V nm) (pos V nm + (i + 1)) (by omega) hx (by omega)
        rw [(List.getElem?_eq_some_iff.1 hi).2, (List.getElem?_eq_some_iff.1 h0).2] at h4
        exact less_trans _ _ _ h3 h4
    unfold Asc
    rw [List.pairwise_append]
    refine ⟨h'.1, List.pairwise_cons.2 ⟨ha, h'.2.1⟩, fun a hma b hmb => ?_⟩
    rcases List.mem_cons.1 hmb with rfl | hmb
    · exact hb a hma
    · exact h'.2.2 a hma b hmb
theorem addV_len {V V' : List ValueR} {nm : ByteArray} {wd : Int} (he : addV V nm wd = some V') : V'.length ≤ V.length + 1 := by
  unfold addV at he
  split at he
  · split at he
    · split at he
      · cases he; omega
      · cases he
    · cases he
  · cases he
    simp only [List.length_append, List.length_take, List.length_cons, List.length_drop]
    omega
theorem insert_any (V : List ValueR) (r : ValueR) (base g0 i : Nat) (vv : Value) (w : World) (hn : V.length ≤ 1048576) (hi : i ≤ V.length) (ho : w.ownsRow base 79 3 vv V.length (all V)) (hbase : base ≤ w.heap.size)
    (hr : w.heap[g0]? = some (.cells r.cells.toArray 79 (0, 0))) (hne : g0 ∉ vv.ownBlock.toList) :
    Calls Tryz.prog 144 #[vv, .int .i64 (i : Nat), .slice (some ⟨g0, 0, none⟩) 1 1] w (InsEnd V i r base vv w) := by
  by_cases he : i = V.length
  · subst he
    exact insert_end V r base g0 vv w hn ho hbase (fun j u hj => by
      rw [cell_of_row w g0 _ _ _ _ hr, Nat.zero_add]
      simpa using hj)
  · rcases ho.2 with ⟨_, h⟩ | ⟨g, cap, cur, rfl, _, _, h3, h4, _⟩
    · omega
    · by_cases hc : V.length + 1 ≤ cap
      · exact insert_shift V r base g0 g V.length cap i w rfl hn (by omega) hc h4 ho hr (fun e => hne (by simp [Value.ownBlock, e]))
      · obtain rfl : cap = V.length := by omega
        exact insert_grow V r base g0 g V.length i w rfl hn (by omega) ho hbase hr
set_option maxRecDepth 100000 in
set_option maxHeartbeats 1000000 in
theorem search_value (V : List ValueR) (v : Value) (nm : ByteArray) (w : World) (hv : Cs.Shows w 0 3 v V.length (all V)) (hn : V.length ≤ 1048576) (hasc : Asc V) :
    Calls Tryz.prog 51 #[v, .string nm] w fun e w' => e = .returned (.tuple #[.int .i64 (pos V nm : Nat), .bool (isAt V nm)]) ∧ Below w.heap.size w w' := by
  have HB := Lib.hid (fun W hW => bin_search V v nm W hW hn hasc)
  have HV := Lib.hid hv
  clear hv hn hasc
  go_enter Tryz.func51, Tryz.ntmps51
  go_wp2_with (go_at_call 69; refine (HB.out _ HV.out).mono ?_; rintro e w1 ⟨rfl, hb1⟩)
  go_ret2
  exact ⟨rfl, hb1⟩
end Go.Proofs.YthmababifgaejaaGreatDoor
