/- What the program's run, RunProgram and TraceOf return. No condition. -/
import Derived.Test.YtmmcpjdcfhgkiaaStI
import Derived.Test.YtmmcpjdcfhgkiaaRnM
import Derived.Test.YtmmcpjdcfhgkiaaNsI
import Derived.Test.YtmmcpjdcfhgkiaaInI
import Derived.Test.YtmmcpjdcfhgkiaaNxO
namespace Go.Proofs.Ytmmcpjdcfhgkiaa
open Go.ChangeShapes Go.WideShapes Go.ChangeAt Go.RowKit
set_option maxRecDepth 100000 in
theorem i_fuel (x : Int) (w : World) : Calls Try.prog 79 #[.int .i64 x] w fun e w' => e = .returned (.bool (decide (0 ≤ x) && decide (x ≤ 400))) ∧ w = w' := by
  by_cases h1 : 0 ≤ x
  · by_cases h2 : x ≤ 400
    · have e : (decide (0 ≤ x) && decide (x ≤ 400)) = true := by simp [h1, h2]
      rw [e]
      clear e
      go_enter Try.func79, Try.ntmps79
      go_wp2
      go_ret
      exact ⟨rfl, rfl⟩
    · have e : (decide (0 ≤ x) && decide (x ≤ 400)) = false := by simp [h2]
      have h3 : 400 < x := by omega
      rw [e]
      clear e h2
      go_enter Try.func79, Try.ntmps79
      go_wp2
      go_ret
      exact ⟨by show Ending.returned (.bool (decide (x ≤ 400))) = _; rw [decide_eq_false (by omega)], rfl⟩
  · have e : (decide (0 ≤ x) && decide (x ≤ 400)) = false := by simp [h1]
    have h3 : x < 0 := by omega
    rw [e]
    clear e h1
    go_enter Try.func79, Try.ntmps79
    go_wp2
    go_ret
    exact ⟨rfl, rfl⟩
theorem code_at {w : World} {q : Option Addr} {cap : Nat} {L : List InsR} (h : Cs.Shows w 0 4 (.slice q L.length cap) L.length (InsR.all L)) : CodeAt w w.heap.size q L := fun j hj => by
  rcases Cs.shows_cases h with ⟨h0, _⟩ | ⟨_, b, o, c, hq, _, _, hbl, hr⟩
  · omega
  · injection hq with e1 e2 e3
    have hh := flat_nth InsR.cells 4 (fun _ => rfl) L j hj hr
    exact ⟨b, o, e1, hbl, hbl, hh 0 _ rfl, hh 1 _ rfl, hh 2 _ rfl, hh 3 _ rfl⟩
theorem in_at {w : World} {q : Option Addr} {cap : Nat} {I : List Int} (h : Cs.Shows w 0 1 (.slice q I.length cap) I.length (IntL.all I)) : InAt w w.heap.size q I := fun j hj => by
  rcases Cs.shows_cases h with ⟨h0, _⟩ | ⟨_, b, o, c, hq, _, _, hbl, hr⟩
  · omega
  · injection hq with e1 e2 e3
    exact ⟨b, o, e1, hbl, hbl, hr j (.int .i64 I[j]) (by rw [IntL.all_map, List.getElem?_map, List.getElem?_eq_getElem hj]; rfl)⟩
def RnEnd (x : StR) (T : List Int) (w : World) (e : Ending) (w' : World) : Prop := Below w.heap.size w w' ∧ ∃ rq rc mq mc sq sc oq oc tq tc, e = .returned (.tuple #[.agg #[.int .i64 x.pc, .slice rq x.R.length rc, .slice mq x.M.length mc, .slice sq x.S.length sc, .int .i64 x.inn, .slice oq x.O.length oc, .int .i64 x.cd, .int .i64 x.st], .slice tq T.length tc]) ∧ StO w' w.heap.size x (.slice rq x.R.length rc) (.slice mq x.M.length mc) (.slice sq x.S.length sc) (.slice oq x.O.length oc) ∧ w'.ownsRow w.heap.size 3 1 (.slice tq T.length tc) T.length (IntL.all T)
section
variable {w : World} {b : Nat} {T : TypeId} {c0 c1 c2 c3 c4 c5 c6 c7 c8 c9 c10 c11 c12 c13 : Value}
theorem set14_row (h : w.heap[b]? = some (.cells #[c0, c1, c2, c3, c4, c5, c6, c7, c8, c9, c10, c11, c12, c13] T (0, 0))) (v0 v1 v2 v3 v4 v5 v6 v7 v8 v9 v10 v11 v12 v13 : Value) : ((((((((((((((w.setCell ⟨b, 0, none⟩ v0).setCell ⟨b, 1, none⟩ v1).setCell ⟨b, 2, none⟩ v2).setCell ⟨b, 3, none⟩ v3).setCell ⟨b, 4, none⟩ v4).setCell ⟨b, 5, none⟩ v5).setCell ⟨b, 6, none⟩ v6).setCell ⟨b, 7, none⟩ v7).setCell ⟨b, 8, none⟩ v8).setCell ⟨b, 9, none⟩ v9).setCell ⟨b, 10, none⟩ v10).setCell ⟨b, 11, none⟩ v11).setCell ⟨b, 12, none⟩ v12).setCell ⟨b, 13, none⟩ v13).heap[b]? = some (.cells #[v0, v1, v2, v3, v4, v5, v6, v7, v8, v9, v10, v11, v12, v13] T (0, 0)) := by
  have h0 : (w.setCell ⟨b, 0, none⟩ v0).heap[b]? = some (.cells #[v0, c1, c2, c3, c4, c5, c6, c7, c8, c9, c10, c11, c12, c13] T (0, 0)) := heap_setCell_same w b 0 _ _ _ h
  have h1 : ((w.setCell ⟨b, 0, none⟩ v0).setCell ⟨b, 1, none⟩ v1).heap[b]? = some (.cells #[v0, v1, c2, c3, c4, c5, c6, c7, c8, c9, c10, c11, c12, c13] T (0, 0)) := heap_setCell_same (w.setCell ⟨b, 0, none⟩ v0) b 1 _ _ _ h0
  have h2 : (((w.setCell ⟨b, 0, none⟩ v0).setCell ⟨b, 1, none⟩ v1).setCell ⟨b, 2, none⟩ v2).heap[b]? = some (.cells #[v0, v1, v2, c3, c4, c5, c6, c7, c8, c9, c10, c11, c12, c13] T (0, 0)) := heap_setCell_same ((w.setCell ⟨b, 0, none⟩ v0).setCell ⟨b, 1, none⟩ v1) b 2 _ _ _ h1
  have h3 : ((((w.setCell ⟨b, 0, none⟩ v0).setCell ⟨b, 1, none⟩ v1).setCell ⟨b, 2, none⟩ v2).setCell ⟨b, 3, none⟩ v3).heap[b]? = some (.cells #[v0, v1, v2, v3, c4, c5, c6, c7, c8, c9, c10, c11, c12, c13] T (0, 0)) := heap_setCell_same (((w.setCell ⟨b, 0, none⟩ v0).setCell ⟨b, 1, none⟩ v1).setCell ⟨b, 2, none⟩ v2) b 3 _ _ _ h2
  have h4 : (((((w.setCell ⟨b, 0, none⟩ v0).setCell ⟨b, 1, none⟩ v1).setCell ⟨b, 2, none⟩ v2).setCell ⟨b, 3, none⟩ v3).setCell ⟨b, 4, none⟩ v4).heap[b]? = some (.cells #[v0, v1, v2, v3, v4, c5, c6, c7, c8, c9, c10, c11, c12, c13] T (0, 0)) := heap_setCell_same ((((w.setCell ⟨b, 0, none⟩ v0).setCell ⟨b, 1, none⟩ v1).setCell ⟨b, 2, none⟩ v2).setCell ⟨b, 3, none⟩ v3) b 4 _ _ _ h3
  have h5 : ((((((w.setCell ⟨b, 0, none⟩ v0).setCell ⟨b, 1, none⟩ v1).setCell ⟨b, 2, none⟩ v2).setCell ⟨b, 3, none⟩ v3).setCell ⟨b, 4, none⟩ v4).setCell ⟨b, 5, none⟩ v5).heap[b]? = some (.cells #[v0, v1, v2, v3, v4, v5, c6, c7, c8, c9, c10, c11, c12, c13] T (0, 0)) := heap_setCell_same (((((w.setCell ⟨b, 0, none⟩ v0).setCell ⟨b, 1, none⟩ v1).setCell ⟨b, 2, none⟩ v2).setCell ⟨b, 3, none⟩ v3).setCell ⟨b, 4, none⟩ v4) b 5 _ _ _ h4
  have h6 : (((((((w.setCell ⟨b, 0, none⟩ v0).setCell ⟨b, 1, none⟩ v1).setCell ⟨b, 2, none⟩ v2).setCell ⟨b, 3, none⟩ v3).setCell ⟨b, 4, none⟩ v4).setCell ⟨b, 5, none⟩ v5).setCell ⟨b, 6, none⟩ v6).heap[b]? = some (.cells #[v0, v1, v2, v3, v4, v5, v6, c7, c8, c9, c10, c11, c12, c13] T (0, 0)) := heap_setCell_same ((((((w.setCell ⟨b, 0, none⟩ v0).setCell ⟨b, 1, none⟩ v1).setCell ⟨b, 2, none⟩ v2).setCell ⟨b, 3, none⟩ v3).setCell ⟨b, 4, none⟩ v4).setCell ⟨b, 5, none⟩ v5) b 6 _ _ _ h5
  have h7 : ((((((((w.setCell ⟨b, 0, none⟩ v0).setCell ⟨b, 1, none⟩ v1).setCell ⟨b, 2, none⟩ v2).setCell ⟨b, 3, none⟩ v3).setCell ⟨b, 4, none⟩ v4).setCell ⟨b, 5, none⟩ v5).setCell ⟨b, 6, none⟩ v6).setCell ⟨b, 7, none⟩ v7).heap[b]? = some (.cells #[v0, v1, v2, v3, v4, v5, v6, v7, c8, c9, c10, c11, c12, c13] T (0, 0)) := heap_setCell_same (((((((w.setCell ⟨b, 0, none⟩ v0).setCell ⟨b, 1, none⟩ v1).setCell ⟨b, 2, none⟩ v2).setCell ⟨b, 3, none⟩ v3).setCell ⟨b, 4, none⟩ v4).setCell ⟨b, 5, none⟩ v5).setCell ⟨b, 6, none⟩ v6) b 7 _ _ _ h6
  have h8 : (((((((((w.setCell ⟨b, 0, none⟩ v0).setCell ⟨b, 1, none⟩ v1).setCell ⟨b, 2, none⟩ v2).setCell ⟨b, 3, none⟩ v3).setCell ⟨b, 4, none⟩ v4).setCell ⟨b, 5, none⟩ v5).setCell ⟨b, 6, none⟩ v6).setCell ⟨b, 7, none⟩ v7).setCell ⟨b, 8, none⟩ v8).heap[b]? = some (.cells #[v0, v1, v2, v3, v4, v5, v6, v7, v8, c9, c10, c11, c12, c13] T (0, 0)) := heap_setCell_same ((((((((w.setCell ⟨b, 0, none⟩ v0).setCell ⟨b, 1, none⟩ v1).setCell ⟨b, 2, none⟩ v2).setCell ⟨b, 3, none⟩ v3).setCell ⟨b, 4, none⟩ v4).setCell ⟨b, 5, none⟩ v5).setCell ⟨b, 6, none⟩ v6).setCell ⟨b, 7, none⟩ v7) b 8 _ _ _ h7
  have h9 : ((((((((((w.setCell ⟨b, 0, none⟩ v0).setCell ⟨b, 1, none⟩ v1).setCell ⟨b, 2, none⟩ v2).setCell ⟨b, 3, none⟩ v3).setCell ⟨b, 4, none⟩ v4).setCell ⟨b, 5, none⟩ v5).setCell ⟨b, 6, none⟩ v6).setCell ⟨b, 7, none⟩ v7).setCell ⟨b, 8, none⟩ v8).setCell ⟨b, 9, none⟩ v9).heap[b]? = some (.cells #[v0, v1, v2, v3, v4, v5, v6, v7, v8, v9, c10, c11, c12, c13] T (0, 0)) := heap_setCell_same (((((((((w.setCell ⟨b, 0, none⟩ v0).setCell ⟨b, 1, none⟩ v1).setCell ⟨b, 2, none⟩ v2).setCell ⟨b, 3, none⟩ v3).setCell ⟨b, 4, none⟩ v4).setCell ⟨b, 5, none⟩ v5).setCell ⟨b, 6, none⟩ v6).setCell ⟨b, 7, none⟩ v7).setCell ⟨b, 8, none⟩ v8) b 9 _ _ _ h8
  have h10 : (((((((((((w.setCell ⟨b, 0, none⟩ v0).setCell ⟨b, 1, none⟩ v1).setCell ⟨b, 2, none⟩ v2).setCell ⟨b, 3, none⟩ v3).setCell ⟨b, 4, none⟩ v4).setCell ⟨b, 5, none⟩ v5).setCell ⟨b, 6, none⟩ v6).setCell ⟨b, 7, none⟩ v7).setCell ⟨b, 8, none⟩ v8).setCell ⟨b, 9, none⟩ v9).setCell ⟨b, 10, none⟩ v10).heap[b]? = some (.cells #[v0, v1, v2, v3, v4, v5, v6, v7, v8, v9, v10, c11, c12, c13] T (0, 0)) := heap_setCell_same ((((((((((w.setCell ⟨b, 0, none⟩ v0).setCell ⟨b, 1, none⟩ v1).setCell ⟨b, 2, none⟩ v2).setCell ⟨b, 3, none⟩ v3).setCell ⟨b, 4, none⟩ v4).setCell ⟨b, 5, none⟩ v5).setCell ⟨b, 6, none⟩ v6).setCell ⟨b, 7, none⟩ v7).setCell ⟨b, 8, none⟩ v8).setCell ⟨b, 9, none⟩ v9) b 10 _ _ _ h9
  have h11 : ((((((((((((w.setCell ⟨b, 0, none⟩ v0).setCell ⟨b, 1, none⟩ v1).setCell ⟨b, 2, none⟩ v2).setCell ⟨b, 3, none⟩ v3).setCell ⟨b, 4, none⟩ v4).setCell ⟨b, 5, none⟩ v5).setCell ⟨b, 6, none⟩ v6).setCell ⟨b, 7, none⟩ v7).setCell ⟨b, 8, none⟩ v8).setCell ⟨b, 9, none⟩ v9).setCell ⟨b, 10, none⟩ v10).setCell ⟨b, 11, none⟩ v11).heap[b]? = some (.cells #[v0, v1, v2, v3, v4, v5, v6, v7, v8, v9, v10, v11, c12, c13] T (0, 0)) := heap_setCell_same (((((((((((w.setCell ⟨b, 0, none⟩ v0).setCell ⟨b, 1, none⟩ v1).setCell ⟨b, 2, none⟩ v2).setCell ⟨b, 3, none⟩ v3).setCell ⟨b, 4, none⟩ v4).setCell ⟨b, 5, none⟩ v5).setCell ⟨b, 6, none⟩ v6).setCell ⟨b, 7, none⟩ v7).setCell ⟨b, 8, none⟩ v8).setCell ⟨b, 9, none⟩ v9).setCell ⟨b, 10, none⟩ v10) b 11 _ _ _ h10
  have h12 : (((((((((((((w.setCell ⟨b, 0, none⟩ v0).setCell ⟨b, 1, none⟩ v1).setCell ⟨b, 2, none⟩ v2).setCell ⟨b, 3, none⟩ v3).setCell ⟨b, 4, none⟩ v4).setCell ⟨b, 5, none⟩ v5).setCell ⟨b, 6, none⟩ v6).setCell ⟨b, 7, none⟩ v7).setCell ⟨b, 8, none⟩ v8).setCell ⟨b, 9, none⟩ v9).setCell ⟨b, 10, none⟩ v10).setCell ⟨b, 11, none⟩ v11).setCell ⟨b, 12, none⟩ v12).heap[b]? = some (.cells #[v0, v1, v2, v3, v4, v5, v6, v7, v8, v9, v10, v11, v12, c13] T (0, 0)) := heap_setCell_same ((((((((((((w.setCell ⟨b, 0, none⟩ v0).setCell ⟨b, 1, none⟩ v1).setCell ⟨b, 2, none⟩ v2).setCell ⟨b, 3, none⟩ v3).setCell ⟨b, 4, none⟩ v4).setCell ⟨b, 5, none⟩ v5).setCell ⟨b, 6, none⟩ v6).setCell ⟨b, 7, none⟩ v7).setCell ⟨b, 8, none⟩ v8).setCell ⟨b, 9, none⟩ v9).setCell ⟨b, 10, none⟩ v10).setCell ⟨b, 11, none⟩ v11) b 12 _ _ _ h11
  have h13 : ((((((((((((((w.setCell ⟨b, 0, none⟩ v0).setCell ⟨b, 1, none⟩ v1).setCell ⟨b, 2, none⟩ v2).setCell ⟨b, 3, none⟩ v3).setCell ⟨b, 4, none⟩ v4).setCell ⟨b, 5, none⟩ v5).setCell ⟨b, 6, none⟩ v6).setCell ⟨b, 7, none⟩ v7).setCell ⟨b, 8, none⟩ v8).setCell ⟨b, 9, none⟩ v9).setCell ⟨b, 10, none⟩ v10).setCell ⟨b, 11, none⟩ v11).setCell ⟨b, 12, none⟩ v12).setCell ⟨b, 13, none⟩ v13).heap[b]? = some (.cells #[v0, v1, v2, v3, v4, v5, v6, v7, v8, v9, v10, v11, v12, v13] T (0, 0)) := heap_setCell_same (((((((((((((w.setCell ⟨b, 0, none⟩ v0).setCell ⟨b, 1, none⟩ v1).setCell ⟨b, 2, none⟩ v2).setCell ⟨b, 3, none⟩ v3).setCell ⟨b, 4, none⟩ v4).setCell ⟨b, 5, none⟩ v5).setCell ⟨b, 6, none⟩ v6).setCell ⟨b, 7, none⟩ v7).setCell ⟨b, 8, none⟩ v8).setCell ⟨b, 9, none⟩ v9).setCell ⟨b, 10, none⟩ v10).setCell ⟨b, 11, none⟩ v11).setCell ⟨b, 12, none⟩ v12) b 13 _ _ _ h12
  exact h13
theorem set14_heap (w : World) (b k : Nat) (hk : k ≠ b) (v0 v1 v2 v3 v4 v5 v6 v7 v8 v9 v10 v11 v12 v13 : Value) : ((((((((((((((w.setCell ⟨b, 0, none⟩ v0).setCell ⟨b, 1, none⟩ v1).setCell ⟨b, 2, none⟩ v2).setCell ⟨b, 3, none⟩ v3).setCell ⟨b, 4, none⟩ v4).setCell ⟨b, 5, none⟩ v5).setCell ⟨b, 6, none⟩ v6).setCell ⟨b, 7, none⟩ v7).setCell ⟨b, 8, none⟩ v8).setCell ⟨b, 9, none⟩ v9).setCell ⟨b, 10, none⟩ v10).setCell ⟨b, 11, none⟩ v11).setCell ⟨b, 12, none⟩ v12).setCell ⟨b, 13, none⟩ v13).heap[k]? = w.heap[k]? := by
  rw [heap_setCell_other _ _ _ _ hk, heap_setCell_other _ _ _ _ hk, heap_setCell_other _ _ _ _ hk, heap_setCell_other _ _ _ _ hk, heap_setCell_other _ _ _ _ hk, heap_setCell_other _ _ _ _ hk, heap_setCell_other _ _ _ _ hk, heap_setCell_other _ _ _ _ hk, heap_setCell_other _ _ _ _ hk, heap_setCell_other _ _ _ _ hk, heap_setCell_other _ _ _ _ hk, heap_setCell_other _ _ _ _ hk, heap_setCell_other _ _ _ _ hk, heap_setCell_other _ _ _ _ hk]
theorem set14_below {base : Nat} {w0 : World} (h : Below base w0 w) (hb : base ≤ b) (v0 v1 v2 v3 v4 v5 v6 v7 v8 v9 v10 v11 v12 v13 : Value) : Below base w0 ((((((((((((((w.setCell ⟨b, 0, none⟩ v0).setCell ⟨b, 1, none⟩ v1).setCell ⟨b, 2, none⟩ v2).setCell ⟨b, 3, none⟩ v3).setCell ⟨b, 4, none⟩ v4).setCell ⟨b, 5, none⟩ v5).setCell ⟨b, 6, none⟩ v6).setCell ⟨b, 7, none⟩ v7).setCell ⟨b, 8, none⟩ v8).setCell ⟨b, 9, none⟩ v9).setCell ⟨b, 10, none⟩ v10).setCell ⟨b, 11, none⟩ v11).setCell ⟨b, 12, none⟩ v12).setCell ⟨b, 13, none⟩ v13) := by
  exact (Below.setCell (Below.setCell (Below.setCell (Below.setCell (Below.setCell (Below.setCell (Below.setCell (Below.setCell (Below.setCell (Below.setCell (Below.setCell (Below.setCell (Below.setCell (Below.setCell h hb v0) hb v1) hb v2) hb v3) hb v4) hb v5) hb v6) hb v7) hb v8) hb v9) hb v10) hb v11) hb v12) hb v13)
theorem mfroz14 {cs : Array Value} (h : w.heap[b]? = some (.cells cs T (0, 0))) : w.frozen? ⟨b, 0, none⟩ = false ∧ w.frozen? ⟨b, 1, none⟩ = false ∧ w.frozen? ⟨b, 2, none⟩ = false ∧ w.frozen? ⟨b, 3, none⟩ = false ∧ w.frozen? ⟨b, 4, none⟩ = false ∧ w.frozen? ⟨b, 5, none⟩ = false ∧ w.frozen? ⟨b, 6, none⟩ = false ∧ w.frozen? ⟨b, 7, none⟩ = false ∧ w.frozen? ⟨b, 8, none⟩ = false ∧ w.frozen? ⟨b, 9, none⟩ = false ∧ w.frozen? ⟨b, 10, none⟩ = false ∧ w.frozen? ⟨b, 11, none⟩ = false ∧ w.frozen? ⟨b, 12, none⟩ = false ∧ w.frozen? ⟨b, 13, none⟩ = false :=
  ⟨frozen_of_row w b 0 _ _ h, frozen_of_row w b 1 _ _ h, frozen_of_row w b 2 _ _ h, frozen_of_row w b 3 _ _ h, frozen_of_row w b 4 _ _ h, frozen_of_row w b 5 _ _ h, frozen_of_row w b 6 _ _ h, frozen_of_row w b 7 _ _ h, frozen_of_row w b 8 _ _ h, frozen_of_row w b 9 _ _ h, frozen_of_row w b 10 _ _ h, frozen_of_row w b 11 _ _ h, frozen_of_row w b 12 _ _ h, frozen_of_row w b 13 _ _ h⟩
end
set_option maxRecDepth 100000 in
set_option maxHeartbeats 16000000 in
theorem i_runp (vw vm vi : Int) (L : List InsR) (I : List Int) (f : Int) (sL li : Value) (w : World) (hs : Cs.Shows w 0 4 sL L.length (InsR.all L)) (hls : Cs.Shows w 0 1 li I.length (IntL.all I)) (hok : ∀ r ∈ L, r.Ok) (hL : L.length ≤ maxLen) (hl : I.length ≤ maxLen) :
    Calls Try.prog 57 #[.agg #[.int .i64 vw, .int .i64 vm, .int .i64 vi, sL], li, .int .i64 f] w (RnEnd (rnV vw vm vi L I f) (rtV vw vm vi L I f) w) := by
  have hml : maxLen = 9223372036854775807 := rfl
  have KI := Lib.hid (fun W (hb : Below w.heap.size w W) => i_inputs vw vm vi L I sL li W (hs.below hb) (hls.below hb) hok hL hl)
  have KN := Lib.hid (fun W (hb : Below w.heap.size w W) => i_new0 vw vm vi L sL W (hs.below hb) hok hL)
  have HS := Lib.hid hs
  have HLI := Lib.hid hls
  obtain ⟨_, q, cap, rfl, _⟩ := hs
  obtain ⟨_, iq, ic, rfl, _⟩ := hls
  have HCA := Lib.hid (code_at HS.out)
  have HIA := Lib.hid (in_at HLI.out)
  obtain ⟨B1, hB1⟩ : ∃ B, inB vw vm vi L I = B := ⟨_, rfl⟩
  obtain ⟨B2, hB2⟩ : ∃ B, (decide (0 ≤ f) && decide (f ≤ 400)) = B := ⟨_, rfl⟩
  have KR := Lib.hid (fun W => i_fuel f W)
  rw [hB2] at KR
  rw [hB1] at KI
  obtain ⟨XV, hXV⟩ : ∃ V, rnV vw vm vi L I f = V := ⟨_, rfl⟩
  obtain ⟨TV, hTV⟩ : ∃ V, rtV vw vm vi L I f = V := ⟨_, rfl⟩
  rw [hXV, hTV]
  have HXd := Lib.hid (show XV = if (B1 && B2) = true then stN vw vm vi L I f.toNat else zeroSt from by rw [← hXV, ← hB1, ← hB2]; rfl)
  have HTd := Lib.hid (show TV = if (B1 && B2) = true then trN vw vm vi L I f.toNat else [] from by rw [← hTV, ← hB1, ← hB2]; rfl)
  clear hXV hTV hok
  obtain ⟨w0, hw0⟩ : ∃ w0, w0 = (w.alloc (.cells #[.int .i64 vw, .int .i64 vm, .int .i64 vi, .slice q L.length cap] 30)).alloc (.cells #[.int .i64 0, .slice none 0 0, .slice none 0 0, .slice none 0 0, .int .i64 0, .slice none 0 0, .int .i64 0, .int .i64 0] 41) := ⟨_, rfl⟩
  have HB0 := Lib.hid (show Below w.heap.size w w0 by rw [hw0]; exact ((Below.refl _ _).alloc (Nat.le_refl _) _).alloc (by simp) _)
  have hs0 : w0.heap.size = w.heap.size + 2 := by rw [hw0]; simp
  have XR0 := Lib.hid (show w0.heap[w.heap.size]? = some (.cells #[.int .i64 vw, .int .i64 vm, .int .i64 vi, .slice q L.length cap] 30 (0, 0)) by rw [hw0, heap_alloc_old _ _ (by simp)]; exact heap_alloc_new _ _)
  have ZR0 := Lib.hid (show w0.heap[w.heap.size + 1]? = some (.cells #[.int .i64 0, .slice none 0 0, .slice none 0 0, .slice none 0 0, .int .i64 0, .slice none 0 0, .int .i64 0, .int .i64 0] 41 (0, 0)) by rw [hw0, ← show (w.alloc (.cells #[.int .i64 vw, .int .i64 vm, .int .i64 vi, .slice q L.length cap] 30)).heap.size = w.heap.size + 1 by simp]; exact heap_alloc_new _ _)
  obtain ⟨x0, x1, x2, x3⟩ := cell4_row XR0.out
  rw [hw0] at x0 x1 x2 x3
  go_enter Try.func57, Try.ntmps57
  go_wp2_with fail
  rw [← hw0]
  clear hw0 x0 x1 x2 x3
  refine (KI.out _ HB0.out).mono ?_
  rintro e w1 ⟨rfl, hb⟩
  have HBI := Lib.hid (HB0.out.trans (hb.mono HB0.out.size))
  have XR1 := Lib.hid ((hb.block w.heap.size (by omega)).trans XR0.out)
  have ZR1 := Lib.hid ((hb.block (w.heap.size + 1) (by omega)).trans ZR0.out)
  have hs1 := hb.size
  have hs1' : w.heap.size + 2 ≤ w1.heap.size := by omega
  clear hb hs1
  cases B1
  case false =>
    have hx : XV = zeroSt := HXd.out
    have ht : TV = [] := HTd.out
    clear HXd HTd
    subst hx ht
    obtain ⟨d0, d1, d2, d3, d4, d5, d6, d7⟩ := cell8_row ZR1.out
    obtain ⟨f0, f1, f2, f3, f4, f5, f6, f7⟩ := froz8_row ZR1.out
    go_wp2
    refine bodyPost_ret (v := .tuple #[.agg #[.int .i64 0, .slice none 0 0, .slice none 0 0, .slice none 0 0, .int .i64 0, .slice none 0 0, .int .i64 0, .int .i64 0], .slice none 0 0]) (by simp [results, Try.results57, go_sem, d0, d1, d2, d3, d4, d5, d6, d7]) rfl ?_
    refine ⟨?_, none, 0, none, 0, none, 0, none, 0, none, 0, rfl, ⟨World.ownsRow_nil _ _ _ _, World.ownsRow_nil _ _ _ _, World.ownsRow_nil _ _ _ _, World.ownsRow_nil _ _ _ _, by simp [Value.ownBlock]⟩, World.ownsRow_nil _ _ _ _⟩
    repeat (first | refine Below.setCell ?_ (by first | (simp; done) | (simp; omega)) _ | exact HBI.out)
  case true =>
    go_wp2_with fail
    refine (KR.out _).mono ?_
    rintro e w2 ⟨rfl, rfl⟩
    cases B2
    case false =>
      have hx : XV = zeroSt := HXd.out
      have ht : TV = [] := HTd.out
      clear HXd HTd
      subst hx ht
      obtain ⟨d0, d1, d2, d3, d4, d5, d6, d7⟩ := cell8_row ZR1.out
      obtain ⟨f0, f1, f2, f3, f4, f5, f6, f7⟩ := froz8_row ZR1.out
      go_wp2
      refine bodyPost_ret (v := .tuple #[.agg #[.int .i64 0, .slice none 0 0, .slice none 0 0, .slice none 0 0, .int .i64 0, .slice none 0 0, .int .i64 0, .int .i64 0], .slice none 0 0]) (by simp [results, Try.results57, go_sem, d0, d1, d2, d3, d4, d5, d6, d7]) rfl ?_
      refine ⟨?_, none, 0, none, 0, none, 0, none, 0, none, 0, rfl, ⟨World.ownsRow_nil _ _ _ _, World.ownsRow_nil _ _ _ _, World.ownsRow_nil _ _ _ _, World.ownsRow_nil _ _ _ _, by simp [Value.ownBlock]⟩, World.ownsRow_nil _ _ _ _⟩
      repeat (first | refine Below.setCell ?_ (by first | (simp; done) | (simp; omega)) _ | exact HBI.out)
    case true =>
      have hx : XV = stN vw vm vi L I f.toNat := HXd.out
      have ht : TV = trN vw vm vi L I f.toNat := HTd.out
      rw [Bool.and_eq_true, decide_eq_true_eq, decide_eq_true_eq] at hB2
      obtain ⟨fn, rfl⟩ : ∃ n : Nat, f = n := ⟨f.toNat, by omega⟩
      rw [Int.toNat_natCast] at hx ht
      subst hx ht
      have hfn : fn ≤ 400 := by omega
      have HIN := Lib.hid (in_of hB1)
      have HG := Lib.hid (gd_N hB1)
      have hpr := (in_of hB1).1
      have hns : nsV vw vm vi L = newSt vm := by unfold nsV; rw [if_pos hpr]
      rw [hns] at KN
      clear hns HXd HTd hB1 hB2 hpr
      obtain ⟨y, hy⟩ : ∃ y, newSt vm = y := ⟨_, rfl⟩
      have HY := Lib.hid hy
      rw [hy] at KN
      clear hy
      have hsp : w.heap.size < w1.heap.size := by omega
      obtain ⟨i9, hi9, hz9, hzs9, hzb9⟩ := info_parts zero_Int
      obtain ⟨x0, x1, x2, x3⟩ := cell4_row XR1.out
      go_upto_region 3 with fail
      go_cut [8] from 21 to 25 (fun v wx => ∃ b r m s o, v = .pointer (some ⟨b, 0, none⟩) ∧ w.heap.size + 2 ≤ b ∧ MRow wx b vw vm vi (.slice q L.length cap) (.slice iq I.length ic) y r m s o 0 ∧ StO wx w.heap.size y r m s o ∧ Below w1.heap.size w1 wx)
      case first =>
        have CH : Hid (w1.drew.cell? ⟨w.heap.size, 0, none⟩ = some (.int .i64 vw) ∧ w1.drew.cell? ⟨w.heap.size, 1, none⟩ = some (.int .i64 vm) ∧ w1.drew.cell? ⟨w.heap.size, 2, none⟩ = some (.int .i64 vi) ∧ w1.drew.cell? ⟨w.heap.size, 3, none⟩ = some (.slice q L.length cap)) := Lib.hid ⟨by assumption, by assumption, by assumption, by assumption⟩
        refine region_s [6] (fun V => V.cell? ⟨w.heap.size, 0, none⟩ = some (.int .i64 vw) ∧ V.cell? ⟨w.heap.size, 1, none⟩ = some (.int .i64 vm) ∧ V.cell? ⟨w.heap.size, 2, none⟩ = some (.int .i64 vi) ∧ V.cell? ⟨w.heap.size, 3, none⟩ = some (.slice q L.length cap)) (by kernel_rfl) ?_
        refine take_s (i := 0) (v := .agg #[.int .i64 vw, .int .i64 vm, .int .i64 vi, .slice q L.length cap]) rfl (by kernel_rfl) (fun _ _ _ h => h) CH.out rfl (fun V hV => ?_) ?_
        · obtain ⟨t0, t1, t2, t3⟩ := hV; go_simp
        refine take_s (i := 1) (v := .slice iq I.length ic) rfl (by kernel_rfl) (fun _ _ _ h => h) CH.out rfl (fun V hV => ?_) ?_
        · go_simp
        refine take_s (i := 2) (v := .agg #[.int .i64 vw, .int .i64 vm, .int .i64 vi, .slice q L.length cap]) rfl (by kernel_rfl) (fun _ _ _ h => h) CH.out rfl (fun V hV => ?_) ?_
        · obtain ⟨t0, t1, t2, t3⟩ := hV; go_simp
        have BD := Lib.hid (show Below w1.heap.size w1 w1.drew from (Below.refl _ _).drew)
        refine two_s (i := 3) (k := 5) (by kernel_rfl) (op_list rfl ?_) (op_list rfl ?_)
        · go_wp2_with fail
          refine (KN.out w1.drew (HBI.out.trans (BD.out.mono HBI.out.size))).mono ?_
          rintro e w2 ⟨hb, rq, rc, mq, mc, sq, sc, oq, oc, rfl, ho⟩
          have hb12 : Below w1.heap.size w1 w2 := BD.out.trans (hb.mono BD.out.size)
          have B2 := Lib.hid hb12
          have HO2 := Lib.hid (ho.base (base' := w.heap.size) (by have := HBI.out.size; first | omega | (simp; omega) | (have := HBa.out.size; omega)))
          go_wp2
          have C2 : Hid (w2.cell? ⟨w.heap.size, 0, none⟩ = some (.int .i64 vw) ∧ w2.cell? ⟨w.heap.size, 1, none⟩ = some (.int .i64 vm) ∧ w2.cell? ⟨w.heap.size, 2, none⟩ = some (.int .i64 vi) ∧ w2.cell? ⟨w.heap.size, 3, none⟩ = some (.slice q L.length cap)) := Lib.hid (by obtain ⟨t0, t1, t2, t3⟩ := CH.out; exact ⟨(hb.cell (p := ⟨w.heap.size, 0, none⟩) (hsp)).trans t0, (hb.cell (p := ⟨w.heap.size, 1, none⟩) (hsp)).trans t1, (hb.cell (p := ⟨w.heap.size, 2, none⟩) (hsp)).trans t2, (hb.cell (p := ⟨w.heap.size, 3, none⟩) (hsp)).trans t3⟩)
          refine ⟨fun _ => C2.out, ?_⟩
          refine take_s (i := 4) (v := .agg #[.int .i64 vw, .int .i64 vm, .int .i64 vi, .slice q L.length cap, .slice iq I.length ic, .int .i64 y.pc, .slice rq y.R.length rc, .slice mq y.M.length mc, .slice sq y.S.length sc, .int .i64 y.inn, .slice oq y.O.length oc, .int .i64 y.cd, .int .i64 y.st, .int .i64 0]) rfl (by kernel_rfl) (fun _ _ _ h => h) C2.out rfl (fun V hV => ?_) ?_
          · go_simp
            all_goals rfl
          refine one_s (i := 5) (by kernel_rfl) (op_list rfl ?_)
          go_wp2
          obtain ⟨wa, hwa⟩ : ∃ W9, W9 = (w2.alloc (.cells #[.int .i64 0, .int .i64 0, .int .i64 0, .slice none 0 0, .slice none 0 0, .int .i64 0, .slice none 0 0, .slice none 0 0, .slice none 0 0, .int .i64 0, .slice none 0 0, .int .i64 0, .int .i64 0, .int .i64 0] 65)) := ⟨_, rfl⟩
          have hba : Below w2.heap.size w2 wa := by rw [hwa]; exact (Below.refl _ _).alloc (Nat.le_refl _) _
          have hra : wa.heap[w2.heap.size]? = some (.cells #[.int .i64 0, .int .i64 0, .int .i64 0, .slice none 0 0, .slice none 0 0, .int .i64 0, .slice none 0 0, .slice none 0 0, .slice none 0 0, .int .i64 0, .slice none 0 0, .int .i64 0, .int .i64 0, .int .i64 0] 65 (0, 0)) := by rw [hwa]; exact heap_alloc_new w2 _
          obtain ⟨b, hbq⟩ : ∃ g, g = w2.heap.size := ⟨_, rfl⟩
          have hbge : w.heap.size + 2 ≤ b := by have := B2.out.size; omega
          rw [← hbq] at hra
          rw [← hwa, ← hbq]
          clear hwa
          have HRA := Lib.hid hra
          have HOA := Lib.hid (HO2.out.keep hba)
          have HBA := Lib.hid (B2.out.trans (hba.mono B2.out.size))
          have hb1b : w1.heap.size ≤ b := by have := B2.out.size; omega
          have C3 : Hid (wa.cell? ⟨w.heap.size, 0, none⟩ = some (.int .i64 vw) ∧ wa.cell? ⟨w.heap.size, 1, none⟩ = some (.int .i64 vm) ∧ wa.cell? ⟨w.heap.size, 2, none⟩ = some (.int .i64 vi) ∧ wa.cell? ⟨w.heap.size, 3, none⟩ = some (.slice q L.length cap)) := Lib.hid (by obtain ⟨t0, t1, t2, t3⟩ := C2.out; exact ⟨(hba.cell (p := ⟨w.heap.size, 0, none⟩) (by have := B2.out.size; (try dsimp only); omega)).trans t0, (hba.cell (p := ⟨w.heap.size, 1, none⟩) (by have := B2.out.size; (try dsimp only); omega)).trans t1, (hba.cell (p := ⟨w.heap.size, 2, none⟩) (by have := B2.out.size; (try dsimp only); omega)).trans t2, (hba.cell (p := ⟨w.heap.size, 3, none⟩) (by have := B2.out.size; (try dsimp only); omega)).trans t3⟩)
          clear hba hra hbq
          refine ⟨fun _ => C3.out, ?_⟩
          obtain ⟨z0, z1, z2, z3, z4, z5, z6, z7, z8, z9, z10, z11, z12, z13⟩ := mcells HRA.out
          obtain ⟨y0, y1, y2, y3, y4, y5, y6, y7, y8, y9, y10, y11, y12, y13⟩ := mfroz14 HRA.out
          refine one_s (i := 6) (by kernel_rfl) (op_list rfl ?_)
          go_wp2
          refine ⟨late_s (by kernel_rfl), done_s (by kernel_rfl) ?_ _⟩
          clear z0 z1 z2 z3 z4 z5 z6 z7 z8 z9 z10 z11 z12 z13 y0 y1 y2 y3 y4 y5 y6 y7 y8 y9 y10 y11 y12 y13
          obtain ⟨wm, hwm⟩ : ∃ W9, W9 = ((((((((((((((wa.setCell ⟨b, 0, none⟩ (.int .i64 vw)).setCell ⟨b, 1, none⟩ (.int .i64 vm)).setCell ⟨b, 2, none⟩ (.int .i64 vi)).setCell ⟨b, 3, none⟩ (.slice q L.length cap)).setCell ⟨b, 4, none⟩ (.slice iq I.length ic)).setCell ⟨b, 5, none⟩ (.int .i64 y.pc)).setCell ⟨b, 6, none⟩ (.slice rq y.R.length rc)).setCell ⟨b, 7, none⟩ (.slice mq y.M.length mc)).setCell ⟨b, 8, none⟩ (.slice sq y.S.length sc)).setCell ⟨b, 9, none⟩ (.int .i64 y.inn)).setCell ⟨b, 10, none⟩ (.slice oq y.O.length oc)).setCell ⟨b, 11, none⟩ (.int .i64 y.cd)).setCell ⟨b, 12, none⟩ (.int .i64 y.st)).setCell ⟨b, 13, none⟩ (.int .i64 0)) := ⟨_, rfl⟩
          have MM := Lib.hid (show MRow wm b vw vm vi (.slice q L.length cap) (.slice iq I.length ic) y (.slice rq y.R.length rc) (.slice mq y.M.length mc) (.slice sq y.S.length sc) (.slice oq y.O.length oc) 0 by rw [hwm]; exact set14_row HRA.out _ _ _ _ _ _ _ _ _ _ _ _ _ _)
          have OM := Lib.hid (show StO wm w.heap.size y (.slice rq y.R.length rc) (.slice mq y.M.length mc) (.slice sq y.S.length sc) (.slice oq y.O.length oc) by rw [hwm]; exact HOA.out.same (fun g hg => set14_heap _ _ _ (fun h => HOA.out.off (T := 65) mach_ne HRA.out (by rw [← h]; exact hg)) _ _ _ _ _ _ _ _ _ _ _ _ _ _))
          have hbm := Lib.hid (show ∀ g, g < w1.heap.size → wm.heap[g]? = w1.heap[g]? from fun g hg => by rw [hwm]; exact (set14_heap _ _ _ (by omega) _ _ _ _ _ _ _ _ _ _ _ _ _ _).trans (HBA.out.block g hg))
          have BM := Lib.hid (show Below w1.heap.size w1 wm by rw [hwm]; exact set14_below HBA.out (by omega) _ _ _ _ _ _ _ _ _ _ _ _ _ _)
          rw [← hwm]
          clear hwm
          go_wp2_with fail
          go_meet
          exact ⟨b, _, _, _, _, rfl, by omega, MM.out, OM.out, BM.out⟩
        · go_wp2
          obtain ⟨wa, hwa⟩ : ∃ W9, W9 = (w1.alloc (.cells #[.int .i64 0, .int .i64 0, .int .i64 0, .slice none 0 0, .slice none 0 0, .int .i64 0, .slice none 0 0, .slice none 0 0, .slice none 0 0, .int .i64 0, .slice none 0 0, .int .i64 0, .int .i64 0, .int .i64 0] 65)).drew := ⟨_, rfl⟩
          have hba : Below w1.heap.size w1 wa := by rw [hwa]; exact ((Below.refl _ _).alloc (Nat.le_refl _) _).drew
          have hra : wa.heap[w1.heap.size]? = some (.cells #[.int .i64 0, .int .i64 0, .int .i64 0, .slice none 0 0, .slice none 0 0, .int .i64 0, .slice none 0 0, .slice none 0 0, .slice none 0 0, .int .i64 0, .slice none 0 0, .int .i64 0, .int .i64 0, .int .i64 0] 65 (0, 0)) := by rw [hwa]; exact heap_alloc_new w1 _
          obtain ⟨b, hbq⟩ : ∃ g, g = w1.heap.size := ⟨_, rfl⟩
          have hbge : w.heap.size + 2 ≤ b := by have := BD.out.size; omega
          rw [← hbq] at hra
          rw [← hwa, ← hbq]
          clear hwa
          have HRa := Lib.hid hra
          have HBa := Lib.hid hba
          have hb1b : w1.heap.size ≤ b := by omega
          have C1 : Hid (wa.cell? ⟨w.heap.size, 0, none⟩ = some (.int .i64 vw) ∧ wa.cell? ⟨w.heap.size, 1, none⟩ = some (.int .i64 vm) ∧ wa.cell? ⟨w.heap.size, 2, none⟩ = some (.int .i64 vi) ∧ wa.cell? ⟨w.heap.size, 3, none⟩ = some (.slice q L.length cap)) := Lib.hid (by obtain ⟨t0, t1, t2, t3⟩ := CH.out; exact ⟨(hba.cell (p := ⟨w.heap.size, 0, none⟩) (by omega)).trans t0, (hba.cell (p := ⟨w.heap.size, 1, none⟩) (by omega)).trans t1, (hba.cell (p := ⟨w.heap.size, 2, none⟩) (by omega)).trans t2, (hba.cell (p := ⟨w.heap.size, 3, none⟩) (by omega)).trans t3⟩)
          have hba1 : b < wa.heap.size := row_lt hra
          clear hba hra hbq
          refine ⟨fun _ => C1.out, ?_⟩
          refine one_s (i := 3) (by kernel_rfl) (op_list rfl ?_)
          go_wp2_with fail
          refine (KN.out wa (HBI.out.trans (HBa.out.mono HBI.out.size))).mono ?_
          rintro e w2 ⟨hb, rq, rc, mq, mc, sq, sc, oq, oc, rfl, ho⟩
          have hb12 : Below w1.heap.size w1 w2 := HBa.out.trans (hb.mono HBa.out.size)
          have B2 := Lib.hid hb12
          have HO2 := Lib.hid (ho.base (base' := w.heap.size) (by have := HBI.out.size; first | omega | (simp; omega) | (have := HBa.out.size; omega)))
          go_wp2
          have HRA := Lib.hid ((hb.block b hba1).trans HRa.out)
          have HOA := HO2
          have HBA := B2
          have C2 : Hid (w2.cell? ⟨w.heap.size, 0, none⟩ = some (.int .i64 vw) ∧ w2.cell? ⟨w.heap.size, 1, none⟩ = some (.int .i64 vm) ∧ w2.cell? ⟨w.heap.size, 2, none⟩ = some (.int .i64 vi) ∧ w2.cell? ⟨w.heap.size, 3, none⟩ = some (.slice q L.length cap)) := Lib.hid (by obtain ⟨t0, t1, t2, t3⟩ := C1.out; exact ⟨(hb.cell (p := ⟨w.heap.size, 0, none⟩) (by have := HBa.out.size; (try dsimp only); omega)).trans t0, (hb.cell (p := ⟨w.heap.size, 1, none⟩) (by have := HBa.out.size; (try dsimp only); omega)).trans t1, (hb.cell (p := ⟨w.heap.size, 2, none⟩) (by have := HBa.out.size; (try dsimp only); omega)).trans t2, (hb.cell (p := ⟨w.heap.size, 3, none⟩) (by have := HBa.out.size; (try dsimp only); omega)).trans t3⟩)
          refine ⟨fun _ => C2.out, ?_⟩
          refine take_s (i := 4) (v := .agg #[.int .i64 vw, .int .i64 vm, .int .i64 vi, .slice q L.length cap, .slice iq I.length ic, .int .i64 y.pc, .slice rq y.R.length rc, .slice mq y.M.length mc, .slice sq y.S.length sc, .int .i64 y.inn, .slice oq y.O.length oc, .int .i64 y.cd, .int .i64 y.st, .int .i64 0]) rfl (by kernel_rfl) (fun _ _ _ h => h) C2.out rfl (fun V hV => ?_) ?_
          · go_simp
            all_goals rfl
          obtain ⟨z0, z1, z2, z3, z4, z5, z6, z7, z8, z9, z10, z11, z12, z13⟩ := mcells HRA.out
          obtain ⟨y0, y1, y2, y3, y4, y5, y6, y7, y8, y9, y10, y11, y12, y13⟩ := mfroz14 HRA.out
          refine one_s (i := 6) (by kernel_rfl) (op_list rfl ?_)
          go_wp2
          refine ⟨late_s (by kernel_rfl), done_s (by kernel_rfl) ?_ _⟩
          clear z0 z1 z2 z3 z4 z5 z6 z7 z8 z9 z10 z11 z12 z13 y0 y1 y2 y3 y4 y5 y6 y7 y8 y9 y10 y11 y12 y13
          obtain ⟨wm, hwm⟩ : ∃ W9, W9 = ((((((((((((((w2.setCell ⟨b, 0, none⟩ (.int .i64 vw)).setCell ⟨b, 1, none⟩ (.int .i64 vm)).setCell ⟨b, 2, none⟩ (.int .i64 vi)).setCell ⟨b, 3, none⟩ (.slice q L.length cap)).setCell ⟨b, 4, none⟩ (.slice iq I.length ic)).setCell ⟨b, 5, none⟩ (.int .i64 y.pc)).setCell ⟨b, 6, none⟩ (.slice rq y.R.length rc)).setCell ⟨b, 7, none⟩ (.slice mq y.M.length mc)).setCell ⟨b, 8, none⟩ (.slice sq y.S.length sc)).setCell ⟨b, 9, none⟩ (.int .i64 y.inn)).setCell ⟨b, 10, none⟩ (.slice oq y.O.length oc)).setCell ⟨b, 11, none⟩ (.int .i64 y.cd)).setCell ⟨b, 12, none⟩ (.int .i64 y.st)).setCell ⟨b, 13, none⟩ (.int .i64 0)) := ⟨_, rfl⟩
          have MM := Lib.hid (show MRow wm b vw vm vi (.slice q L.length cap) (.slice iq I.length ic) y (.slice rq y.R.length rc) (.slice mq y.M.length mc) (.slice sq y.S.length sc) (.slice oq y.O.length oc) 0 by rw [hwm]; exact set14_row HRA.out _ _ _ _ _ _ _ _ _ _ _ _ _ _)
          have OM := Lib.hid (show StO wm w.heap.size y (.slice rq y.R.length rc) (.slice mq y.M.length mc) (.slice sq y.S.length sc) (.slice oq y.O.length oc) by rw [hwm]; exact HOA.out.same (fun g hg => set14_heap _ _ _ (fun h => HOA.out.off (T := 65) mach_ne HRA.out (by rw [← h]; exact hg)) _ _ _ _ _ _ _ _ _ _ _ _ _ _))
          have hbm := Lib.hid (show ∀ g, g < w1.heap.size → wm.heap[g]? = w1.heap[g]? from fun g hg => by rw [hwm]; exact (set14_heap _ _ _ (by omega) _ _ _ _ _ _ _ _ _ _ _ _ _ _).trans (HBA.out.block g hg))
          have BM := Lib.hid (show Below w1.heap.size w1 wm by rw [hwm]; exact set14_below HBA.out (by omega) _ _ _ _ _ _ _ _ _ _ _ _ _ _)
          rw [← hwm]
          clear hwm
          go_wp2_with fail
          go_meet
          exact ⟨b, _, _, _, _, rfl, by omega, MM.out, OM.out, BM.out⟩
      case rest =>
        clear x0 x1 x2 x3
        obtain ⟨b, r, m, s, o, hv8, hbge, hM, hO, hbm⟩ := hcut
        subst hv8
        have HBC := Lib.hid (HBI.out.trans (hbm.mono HBI.out.size))
        have XRC := Lib.hid ((hbm.block w.heap.size hsp).trans XR1.out)
        have ZRC := Lib.hid ((hbm.block (w.heap.size + 1) (by omega)).trans ZR1.out)
        have RL := Lib.hid (show ∃ r m s o nx, MRow wc b vw vm vi (.slice q L.length cap) (.slice iq I.length ic) (stN vw vm vi L I 0) r m s o nx ∧ StO wc w.heap.size (stN vw vm vi L I 0) r m s o ∧ Below w.heap.size w wc ∧ wc.heap[w.heap.size]? = some (.cells #[.int .i64 vw, .int .i64 vm, .int .i64 vi, .slice q L.length cap] 30 (0, 0)) ∧ wc.heap[w.heap.size + 1]? = some (.cells #[.int .i64 0, .slice none 0 0, .slice none 0 0, .slice none 0 0, .int .i64 0, .slice none 0 0, .int .i64 0, .int .i64 0] 41 (0, 0)) ∧ wc.ownsRow w.heap.size 3 1 (.slice none 0 0) (trN vw vm vi L I 0).length (IntL.all (trN vw vm vi L I 0)) ∧ (∀ g ∈ (.slice none 0 0 : Value).ownBlock.toList, g ∉ b :: StB r m s o) from ⟨r, m, s, o, 0, by rw [show stN vw vm vi L I 0 = y from HY.out]; exact hM, by rw [show stN vw vm vi L I 0 = y from HY.out]; exact hO, HBC.out, XRC.out, ZRC.out, World.ownsRow_nil _ _ _ _, fun g hg => by simp [Value.ownBlock] at hg⟩)
        clear hM hO hbm
        go_wp2
        go_loopw [9, 27] (fun tv kv wr => ∃ j : Nat, j ≤ fn ∧ kv = .int .i64 j ∧ ∃ r m s o nx, MRow wr b vw vm vi (.slice q L.length cap) (.slice iq I.length ic) (stN vw vm vi L I j) r m s o nx ∧ StO wr w.heap.size (stN vw vm vi L I j) r m s o ∧ Below w.heap.size w wr ∧ wr.heap[w.heap.size]? = some (.cells #[.int .i64 vw, .int .i64 vm, .int .i64 vi, .slice q L.length cap] 30 (0, 0)) ∧ wr.heap[w.heap.size + 1]? = some (.cells #[.int .i64 0, .slice none 0 0, .slice none 0 0, .slice none 0 0, .int .i64 0, .slice none 0 0, .int .i64 0, .int .i64 0] 41 (0, 0)) ∧ wr.ownsRow w.heap.size 3 1 tv (trN vw vm vi L I j).length (IntL.all (trN vw vm vi L I j)) ∧ (∀ g ∈ tv.ownBlock.toList, g ∉ b :: StB r m s o)) (fun _ kv _ => fn - (intOf kv).toNat)
        case atStart => exact ⟨0, Nat.zero_le _, rfl, RL.out⟩
        case round =>
          obtain ⟨j, hj, rfl, r, m, s, o, nx, hM, hO, hB, hX, hZ, hT, hD⟩ := hrel
          obtain ⟨rq, rc, rfl⟩ := own_slice hO.1
          obtain ⟨mq, mc, rfl⟩ := own_slice hO.2.1
          obtain ⟨sq, sc, rfl⟩ := own_slice hO.2.2.1
          obtain ⟨oq, oc, rfl⟩ := own_slice hO.2.2.2.1
          obtain ⟨tq, tc, rfl⟩ := own_slice hT
          obtain ⟨x, hx⟩ : ∃ x, stN vw vm vi L I j = x := ⟨_, rfl⟩
          have HXJ := Lib.hid hx
          have hGx := HG.out j
          rw [hx] at hM hO hGx hD
          clear hx
          have MR := Lib.hid hM
          have OR := Lib.hid hO
          have HBr := Lib.hid hB
          have XRr := Lib.hid hX
          have ZRr := Lib.hid hZ
          have OT := Lib.hid hT
          have HD := Lib.hid hD
          have hsr := hB.size
          have hbs : b < wr.heap.size := row_lt hM
          have KM := Lib.hid (i_mstep vw vm vi L q cap iq ic I x (.slice rq x.R.length rc) (.slice mq x.M.length mc) (.slice sq x.S.length sc) (.slice oq x.O.length oc) nx b w.heap.size wr HIN.out.1 hGx HIN.out.2 (HCA.out.below hB) (HIA.out.below hB) (by omega) hM hO)
          clear hM hO hB hX hZ hT hD hGx
          obtain ⟨m0, m1, m2, m3, m4, m5, m6, m7, m8, m9, m10, m11, m12, m13⟩ := mcells MR.out
          by_cases hjn : j < fn
          · have hki : decide ((j : Int) < (fn : Int)) = true := decide_eq_true (by omega)
            go_wp2_with fail
            clear m0 m1 m2 m3 m4 m5 m6 m7 m8 m9 m10 m11 m12 m13
            refine KM.out.mono ?_
            rintro e w5 ⟨nx5, rfl, r5, m5, s5, o5, hM5, hO5, hA5, hs5⟩
            obtain ⟨rq5, rc5, rfl⟩ := own_slice hO5.1
            obtain ⟨mq5, mc5, rfl⟩ := own_slice hO5.2.1
            obtain ⟨sq5, sc5, rfl⟩ := own_slice hO5.2.2.1
            obtain ⟨oq5, oc5, rfl⟩ := own_slice hO5.2.2.2.1
            have HST := Lib.hid (show stN vw vm vi L I (j + 1) = stepV vw vm vi L I x by show stepV vw vm vi L I (stN vw vm vi L I j) = _; rw [HXJ.out])
            obtain ⟨y5, hy5⟩ : ∃ y, stepV vw vm vi L I x = y := ⟨_, rfl⟩
            rw [hy5] at HST hM5 hO5 hs5
            clear hy5
            have hoff : ∀ {g : Nat} {cs : Array Value} {T : TypeId}, T ≠ 3 → g ≠ b → wr.heap[g]? = some (.cells cs T (0, 0)) → g ∉ b :: StB (.slice rq x.R.length rc) (.slice mq x.M.length mc) (.slice sq x.S.length sc) (.slice oq x.O.length oc) := fun hT hg h hm => (List.mem_cons.1 hm).elim hg (OR.out.off hT h)
            have XR5 := Lib.hid ((hA5.block w.heap.size (by omega) (hoff (T := 30) (by decide) (by omega) XRr.out)).trans XRr.out)
            have ZR5 := Lib.hid ((hA5.block (w.heap.size + 1) (by omega) (hoff (T := 41) (by decide) (by omega) ZRr.out)).trans ZRr.out)
            have OT5 := Lib.hid (own_same OT.out (fun g hg => hA5.block g (own_lt OT.out hg).2 (HD.out g hg)))
            have HD5 := Lib.hid (show ∀ g ∈ (.slice tq (trN vw vm vi L I j).length tc : Value).ownBlock.toList, g ∉ b :: StB (.slice rq5 y5.R.length rc5) (.slice mq5 y5.M.length mc5) (.slice sq5 y5.S.length sc5) (.slice oq5 y5.O.length oc5) from fun g hg h => (List.mem_cons.1 h).elim (fun h => HD.out g hg (by rw [h]; exact List.mem_cons_self ..)) (fun h => (hs5 g h).elim (fun h => HD.out g hg (List.mem_cons_of_mem _ h)) (fun h => by have := (own_lt OT.out hg).2; omega)))
            have HB5 := Lib.hid (HBr.out.trans (hA5.below (by omega) (fun g hg => (List.mem_cons.1 hg).elim (fun h => by omega) (fun h => (OR.out.lt h).1))))
            have M5 := Lib.hid hM5
            have O5 := Lib.hid hO5
            have hs5' := hA5.size
            clear hM5 hO5 hA5 hs5 hoff
            by_cases hbg : begunB L.length x = true
            · have HTJ := Lib.hid (show trN vw vm vi L I (j + 1) = trN vw vm vi L I j ++ [x.pc] by show (if begunB L.length (stN vw vm vi L I j) = true then trN vw vm vi L I j ++ [(stN vw vm vi L I j).pc] else trN vw vm vi L I j) = _; rw [HXJ.out, if_pos hbg])
              rw [hbg]
              clear hbg
              have hTL := trN_len (vw := vw) (vm := vm) (vi := vi) (L := L) (I := I) j
              go_wp2_with (at_builtin; refine wpList_append_own_at _ rfl _ _ 37 rfl w.heap.size 3 i9 (.int .i64 0) 1 8 Try.underlying37 hi9 hz9 hzs9 hzb9 rfl (by decide) (.slice tq (trN vw vm vi L I j).length tc) (trN vw vm vi L I j).length _ rfl (own_keep OT5.out ((Below.refl _ _).alloc (Nat.le_refl _) _)) _ 1 1 [.int .i64 x.pc] rfl rfl ?c1 ?c2 ?c3 ?c4 ?c5 ?_)
              case c1 => exact cell_one_new _ _ _
              case c2 => intro u hu; simp at hu; subst hu; rfl
              case c3 => unfold maxLen; omega
              case c4 => omega
              case c5 => simp; omega
              intro v' w7 hown hgrow _ hat
              obtain ⟨q', c', rfl⟩ := own_slice hown
              have hal : Below w5.heap.size w5 (w5.alloc (.cells #[.int .i64 x.pc] 3)) := (Below.refl _ _).alloc (Nat.le_refl _) _
              have hk : ∀ g, g < w5.heap.size → g ∉ (.slice tq (trN vw vm vi L I j).length tc : Value).ownBlock.toList → w7.heap[g]? = w5.heap[g]? := fun g hg hn => (hgrow.block g (by simp; omega) (fun h => hn (by rw [← h]; simp))).trans (hal.block g hg)
              have hb5 := row_lt M5.out
              have RL7 := Lib.hid (show MRow w7 b vw vm vi (.slice q L.length cap) (.slice iq I.length ic) (stN vw vm vi L I (j + 1)) (.slice rq5 y5.R.length rc5) (.slice mq5 y5.M.length mc5) (.slice sq5 y5.S.length sc5) (.slice oq5 y5.O.length oc5) nx5 ∧ StO w7 w.heap.size (stN vw vm vi L I (j + 1)) (.slice rq5 y5.R.length rc5) (.slice mq5 y5.M.length mc5) (.slice sq5 y5.S.length sc5) (.slice oq5 y5.O.length oc5) ∧ Below w.heap.size w w7 ∧ w7.heap[w.heap.size]? = some (.cells #[.int .i64 vw, .int .i64 vm, .int .i64 vi, .slice q L.length cap] 30 (0, 0)) ∧ w7.heap[w.heap.size + 1]? = some (.cells #[.int .i64 0, .slice none 0 0, .slice none 0 0, .slice none 0 0, .int .i64 0, .slice none 0 0, .int .i64 0, .int .i64 0] 41 (0, 0)) ∧ w7.ownsRow w.heap.size 3 1 (.slice q' ((trN vw vm vi L I j).length + 1) c') (trN vw vm vi L I (j + 1)).length (IntL.all (trN vw vm vi L I (j + 1))) ∧ (∀ g ∈ (.slice q' ((trN vw vm vi L I j).length + 1) c' : Value).ownBlock.toList, g ∉ b :: StB (.slice rq5 y5.R.length rc5) (.slice mq5 y5.M.length mc5) (.slice sq5 y5.S.length sc5) (.slice oq5 y5.O.length oc5)) by
                rw [HST.out, HTJ.out]
                refine ⟨(hk b hb5 (fun h => HD5.out b h (List.mem_cons_self ..))).trans M5.out, O5.out.same (fun g hg => hk g (O5.out.lt hg).2 (fun h => HD5.out g h (List.mem_cons_of_mem _ hg))), (HB5.out.alloc (by omega) _).grown hgrow (by simp; omega) (fun g hg => (own_lt OT5.out (g := g) (by rw [hg]; simp)).1), (hk w.heap.size (by omega) (fun h => own_off (T := 30) (by decide) OT5.out XR5.out h)).trans XR5.out, (hk (w.heap.size + 1) (by omega) (fun h => own_off (T := 41) (by decide) OT5.out ZR5.out h)).trans ZR5.out, ?_, fun g hg => ?_⟩
                · rw [List.length_append, IntL.all_map, List.map_append, ← IntL.all_map]; exact hown
                · rcases hat with h | h
                  · rw [h] at hg; exact HD5.out g hg
                  · rw [h] at hg
                    simp at hg
                    subst hg
                    exact fun h => (List.mem_cons.1 h).elim (fun h => by omega) (fun h => by have := (O5.out.lt h).2; omega))
              clear hk hgrow hown hat hal hb5
              go_wp2
              go_roundw
              case rel => exact ⟨j + 1, by omega, by go_num, _, _, _, _, _, RL7.out⟩
              case measure => simp [intOf]; omega
            · have hbf : begunB L.length x = false := by simpa using hbg
              have HTJ := Lib.hid (show trN vw vm vi L I (j + 1) = trN vw vm vi L I j by show (if begunB L.length (stN vw vm vi L I j) = true then trN vw vm vi L I j ++ [(stN vw vm vi L I j).pc] else trN vw vm vi L I j) = _; rw [HXJ.out, if_neg hbg])
              rw [hbf]
              clear hbg hbf
              have RL7 := Lib.hid (show MRow w5 b vw vm vi (.slice q L.length cap) (.slice iq I.length ic) (stN vw vm vi L I (j + 1)) (.slice rq5 y5.R.length rc5) (.slice mq5 y5.M.length mc5) (.slice sq5 y5.S.length sc5) (.slice oq5 y5.O.length oc5) nx5 ∧ StO w5 w.heap.size (stN vw vm vi L I (j + 1)) (.slice rq5 y5.R.length rc5) (.slice mq5 y5.M.length mc5) (.slice sq5 y5.S.length sc5) (.slice oq5 y5.O.length oc5) ∧ Below w.heap.size w w5 ∧ w5.heap[w.heap.size]? = some (.cells #[.int .i64 vw, .int .i64 vm, .int .i64 vi, .slice q L.length cap] 30 (0, 0)) ∧ w5.heap[w.heap.size + 1]? = some (.cells #[.int .i64 0, .slice none 0 0, .slice none 0 0, .slice none 0 0, .int .i64 0, .slice none 0 0, .int .i64 0, .int .i64 0] 41 (0, 0)) ∧ w5.ownsRow w.heap.size 3 1 (.slice tq (trN vw vm vi L I j).length tc) (trN vw vm vi L I (j + 1)).length (IntL.all (trN vw vm vi L I (j + 1))) ∧ (∀ g ∈ (.slice tq (trN vw vm vi L I j).length tc : Value).ownBlock.toList, g ∉ b :: StB (.slice rq5 y5.R.length rc5) (.slice mq5 y5.M.length mc5) (.slice sq5 y5.S.length sc5) (.slice oq5 y5.O.length oc5)) by
                rw [HST.out, HTJ.out]
                exact ⟨M5.out, O5.out, HB5.out, XR5.out, ZR5.out, OT5.out, HD5.out⟩)
              go_wp2
              go_roundw
              case rel => exact ⟨j + 1, by omega, by go_num, _, _, _, _, _, RL7.out⟩
              case measure => simp [intOf]; omega
          · have hje : j = fn := by omega
            subst hje
            have hki : decide ((j : Int) < (j : Int)) = false := by simp
            obtain ⟨z0, z1, z2, z3, z4, z5, z6, z7⟩ := cell8_row ZRr.out
            obtain ⟨f0, f1, f2, f3, f4, f5, f6, f7⟩ := froz8_row ZRr.out
            go_wp2
            obtain ⟨we, hwe⟩ : ∃ W9, W9 = ((((((((wr.setCell ⟨w.heap.size + 1, 0, none⟩ (.int .i64 x.pc)).setCell ⟨w.heap.size + 1, 1, none⟩ (.slice rq x.R.length rc)).setCell ⟨w.heap.size + 1, 2, none⟩ (.slice mq x.M.length mc)).setCell ⟨w.heap.size + 1, 3, none⟩ (.slice sq x.S.length sc)).setCell ⟨w.heap.size + 1, 4, none⟩ (.int .i64 x.inn)).setCell ⟨w.heap.size + 1, 5, none⟩ (.slice oq x.O.length oc)).setCell ⟨w.heap.size + 1, 6, none⟩ (.int .i64 x.cd)).setCell ⟨w.heap.size + 1, 7, none⟩ (.int .i64 x.st)) := ⟨_, rfl⟩
            have D2 := Lib.hid (show we.heap[w.heap.size + 1]? = some (.cells #[.int .i64 x.pc, .slice rq x.R.length rc, .slice mq x.M.length mc, .slice sq x.S.length sc, .int .i64 x.inn, .slice oq x.O.length oc, .int .i64 x.cd, .int .i64 x.st] 41 (0, 0)) by rw [hwe]; exact set8_row ZRr.out _ _ _ _ _ _ _ _)
            have BE := Lib.hid (show Below w.heap.size w we by rw [hwe]; exact set8_below HBr.out (by omega) _ _ _ _ _ _ _ _)
            have OE := Lib.hid (show StO we w.heap.size x _ _ _ _ by rw [hwe]; exact OR.out.set8 (OR.out.off (T := 41) (by decide) ZRr.out) _ _ _ _ _ _ _ _)
            have TE := Lib.hid (show we.ownsRow _ _ _ _ _ _ by rw [hwe]; exact own_same OT.out (fun g hg => set8_heap _ _ _ (fun h => own_off (T := 41) (by decide) OT.out ZRr.out (by rw [← h]; exact hg)) _ _ _ _ _ _ _ _))
            rw [← hwe]
            clear hwe z0 z1 z2 z3 z4 z5 z6 z7 m0 m1 m2 m3 m4 m5 m6 m7 m8 m9 m10 m11 m12 m13
            obtain ⟨d0, d1, d2, d3, d4, d5, d6, d7⟩ := cell8_row D2.out
            refine bodyPost_ret (v := .tuple #[.agg #[.int .i64 x.pc, .slice rq x.R.length rc, .slice mq x.M.length mc, .slice sq x.S.length sc, .int .i64 x.inn, .slice oq x.O.length oc, .int .i64 x.cd, .int .i64 x.st], .slice tq (trN vw vm vi L I j).length tc]) (by simp [results, Try.results57, go_sem, d0, d1, d2, d3, d4, d5, d6, d7]) rfl ?_
            rw [HXJ.out]
            exact ⟨BE.out, rq, rc, mq, mc, sq, sc, oq, oc, tq, tc, rfl, OE.out, TE.out⟩
end Go.Proofs.Ytmmcpjdcfhgkiaa
