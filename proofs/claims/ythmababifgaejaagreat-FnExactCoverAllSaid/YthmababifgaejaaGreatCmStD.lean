/- The program's machine behind a pointer, and what a step does to it. No condition. -/
import Derived.Test.YthmababifgaejaaGreatCmGStO
namespace Go.Proofs.YthmababifgaejaaGreat
open Go.ChangeShapes Go.WideShapes Go.ChangeAt Go.RowKit
def MRow (w : World) (b : Nat) (vw vm vi : Int) (sL sI : Value) (x : StR) (r m s o : Value) (nx : Int) : Prop := w.heap[b]? = some (.cells #[.int .i64 vw, .int .i64 vm, .int .i64 vi, sL, sI, .int .i64 x.pc, r, m, s, .int .i64 x.inn, o, .int .i64 x.cd, .int .i64 x.st, .int .i64 nx] 77 (0, 0))
/-- what a function leaves that works on a machine: the number that it returns, the state and the place behind it; only the machine and its rows are touched -/
def MEnd (b base : Nat) (vw vm vi : Int) (sL sI : Value) (r m s o : Value) (w : World) (v : Value) (x' : StR) (nx' : Int) (e : Ending) (w' : World) : Prop := e = .returned v ∧ ∃ r' m' s' o', MRow w' b vw vm vi sL sI x' r' m' s' o' nx' ∧ StO w' base x' r' m' s' o' ∧ Apart (b :: StB r m s o) w w' ∧ ∀ g ∈ StB r' m' s' o', g ∈ StB r m s o ∨ w.heap.size ≤ g
theorem row_ltD {w : World} {b : Nat} {u : Obj} (h : w.heap[b]? = some u) : b < w.heap.size := (Array.getElem?_eq_some_iff.1 h).1
theorem mcells {w : World} {b : Nat} {c0 c1 c2 c3 c4 c5 c6 c7 c8 c9 c10 c11 c12 c13 : Value} {T : TypeId} (h : w.heap[b]? = some (.cells #[c0, c1, c2, c3, c4, c5, c6, c7, c8, c9, c10, c11, c12, c13] T (0, 0))) :
    w.cell? ⟨b, 0, none⟩ = some c0 ∧ w.cell? ⟨b, 1, none⟩ = some c1 ∧ w.cell? ⟨b, 2, none⟩ = some c2 ∧ w.cell? ⟨b, 3, none⟩ = some c3 ∧ w.cell? ⟨b, 4, none⟩ = some c4 ∧ w.cell? ⟨b, 5, none⟩ = some c5 ∧ w.cell? ⟨b, 6, none⟩ = some c6 ∧ w.cell? ⟨b, 7, none⟩ = some c7 ∧ w.cell? ⟨b, 8, none⟩ = some c8 ∧ w.cell? ⟨b, 9, none⟩ = some c9 ∧ w.cell? ⟨b, 10, none⟩ = some c10 ∧ w.cell? ⟨b, 11, none⟩ = some c11 ∧ w.cell? ⟨b, 12, none⟩ = some c12 ∧ w.cell? ⟨b, 13, none⟩ = some c13 :=
  ⟨cell_of_row w b 0 _ _ _ h, cell_of_row w b 1 _ _ _ h, cell_of_row w b 2 _ _ _ h, cell_of_row w b 3 _ _ _ h, cell_of_row w b 4 _ _ _ h, cell_of_row w b 5 _ _ _ h, cell_of_row w b 6 _ _ _ h, cell_of_row w b 7 _ _ _ h, cell_of_row w b 8 _ _ _ h, cell_of_row w b 9 _ _ _ h, cell_of_row w b 10 _ _ _ h, cell_of_row w b 11 _ _ _ h, cell_of_row w b 12 _ _ _ h, cell_of_row w b 13 _ _ _ h⟩
theorem mfroz {w : World} {b : Nat} {cs : Array Value} {T : TypeId} (h : w.heap[b]? = some (.cells cs T (0, 0))) : w.frozen? ⟨b, 5, none⟩ = false ∧ w.frozen? ⟨b, 8, none⟩ = false ∧ w.frozen? ⟨b, 9, none⟩ = false ∧ w.frozen? ⟨b, 10, none⟩ = false ∧ w.frozen? ⟨b, 11, none⟩ = false ∧ w.frozen? ⟨b, 12, none⟩ = false ∧ w.frozen? ⟨b, 13, none⟩ = false :=
  ⟨frozen_of_row w b 5 _ _ h, frozen_of_row w b 8 _ _ h, frozen_of_row w b 9 _ _ h, frozen_of_row w b 10 _ _ h, frozen_of_row w b 11 _ _ h, frozen_of_row w b 12 _ _ h, frozen_of_row w b 13 _ _ h⟩
section
variable {w W w' : World} {b base : Nat} {vw vm vi : Int} {sL sI r m s o r1 m1 s1 o1 : Value} {x x1 : StR} {nx : Int}
theorem MRow.keep (h : MRow w b vw vm vi sL sI x r m s o nx) (hb : Below w.heap.size w w') : MRow w' b vw vm vi sL sI x r m s o nx := (hb.block b (row_ltD h)).trans h
theorem MRow.other {g : Nat} (h : MRow w b vw vm vi sL sI x r m s o nx) (hg : g ≠ b) (k : Nat) (u : Value) : MRow (w.setCell ⟨g, k, none⟩ u) b vw vm vi sL sI x r m s o nx := (heap_setCell_other w ⟨g, k, none⟩ b u (fun e => hg e.symm)).trans h
theorem mach_ne : (77 : TypeId) ≠ 3 := by decide
theorem MRow.off (h : MRow w b vw vm vi sL sI x r m s o nx) (hO : StO w base x1 r1 m1 s1 o1) : b ∉ StB r1 m1 s1 o1 := hO.off (T := 77) mach_ne h
theorem MRow.pc (h : MRow w b vw vm vi sL sI x r m s o nx) (v : Int) : MRow (w.setCell ⟨b, 5, none⟩ (.int .i64 v)) b vw vm vi sL sI ⟨v, x.R, x.M, x.S, x.inn, x.O, x.cd, x.st⟩ r m s o nx := heap_setCell_same w b 5 _ _ _ h
theorem MRow.srow (h : MRow w b vw vm vi sL sI x r m s o nx) (v : Value) : MRow (w.setCell ⟨b, 8, none⟩ v) b vw vm vi sL sI x r m v o nx := heap_setCell_same w b 8 _ _ _ h
theorem MRow.inn (h : MRow w b vw vm vi sL sI x r m s o nx) (v : Int) : MRow (w.setCell ⟨b, 9, none⟩ (.int .i64 v)) b vw vm vi sL sI ⟨x.pc, x.R, x.M, x.S, v, x.O, x.cd, x.st⟩ r m s o nx := heap_setCell_same w b 9 _ _ _ h
theorem MRow.orow (h : MRow w b vw vm vi sL sI x r m s o nx) (v : Value) : MRow (w.setCell ⟨b, 10, none⟩ v) b vw vm vi sL sI x r m s v nx := heap_setCell_same w b 10 _ _ _ h
theorem MRow.cd (h : MRow w b vw vm vi sL sI x r m s o nx) (v : Int) : MRow (w.setCell ⟨b, 11, none⟩ (.int .i64 v)) b vw vm vi sL sI ⟨x.pc, x.R, x.M, x.S, x.inn, x.O, v, x.st⟩ r m s o nx := heap_setCell_same w b 11 _ _ _ h
theorem MRow.st (h : MRow w b vw vm vi sL sI x r m s o nx) (v : Int) : MRow (w.setCell ⟨b, 12, none⟩ (.int .i64 v)) b vw vm vi sL sI ⟨x.pc, x.R, x.M, x.S, x.inn, x.O, x.cd, v⟩ r m s o nx := heap_setCell_same w b 12 _ _ _ h
theorem MRow.next (h : MRow w b vw vm vi sL sI x r m s o nx) (v : Int) : MRow (w.setCell ⟨b, 13, none⟩ (.int .i64 v)) b vw vm vi sL sI x r m s o v := heap_setCell_same w b 13 _ _ _ h
/-- nothing but new memory -/
theorem m_same (hM : MRow w b vw vm vi sL sI x r m s o nx) (hO : StO w base x r m s o) (hb : Below w.heap.size w w') (v : Value) : MEnd b base vw vm vi sL sI r m s o w v x nx (.returned v) w' :=
  ⟨rfl, r, m, s, o, hM.keep hb, hO.keep hb, Apart.of_below hb, fun _ hg => .inl hg⟩
/-- a store into a register, as the last thing -/
theorem m_poke {g n c : Nat} (hM : MRow W b vw vm vi sL sI x (.slice (some ⟨g, 0, none⟩) n c) m s o nx) (hO : StO W base x (.slice (some ⟨g, 0, none⟩) n c) m s o) (hA : Apart (b :: StB (.slice (some ⟨g, 0, none⟩) n c) m s o) w W) (k : Nat) (v : Int) (hw : w' = W.setCell ⟨g, k, none⟩ (.int .i64 v)) (u : Value) :
    MEnd b base vw vm vi sL sI (.slice (some ⟨g, 0, none⟩) n c) m s o w u ⟨x.pc, x.R.set k v, x.M, x.S, x.inn, x.O, x.cd, x.st⟩ nx (.returned u) w' := by
  subst hw
  have hg : g ∈ StB (.slice (some ⟨g, 0, none⟩) n c) m s o := by unfold StB; simp [Value.ownBlock]
  refine ⟨rfl, _, _, _, _, hM.other (fun e => hM.off hO (by rw [← e]; exact hg)) k _, hO.poke_r k v rfl rfl rfl rfl, hA.setCell (List.mem_cons_of_mem _ hg) _, fun _ hg => .inl hg⟩
end
set_option maxRecDepth 100000 in
theorem i_mput (b gr rc ka : Nat) (n old : Int) (w : World) (_hb : b < w.heap.size) (h6 : w.cell? ⟨b, 6, none⟩ = some (.slice (some ⟨gr, 0, none⟩) 4 rc)) (hk : ka < 4) (hc : w.cell? ⟨gr, ka, none⟩ = some (.int .i64 old)) (hf : w.frozen? ⟨gr, ka, none⟩ = false) :
    Calls Tryz.prog 102 #[.pointer (some ⟨b, 0, none⟩), .int .i64 (ka : Int), .int .i64 n] w fun e w' => e = .returned (.int .i64 0) ∧ w' = w.setCell ⟨gr, ka, none⟩ (.int .i64 n) := by
  have hki : (ka : Int) < 4 := by omega
  go_enter Tryz.func102, Tryz.ntmps102
  go_wp2
  go_ret
  exact ⟨rfl, rfl⟩
/-- the inputs lie in memory, below what a machine owns -/
def InAt (w : World) (base : Nat) (iq : Option Addr) (I : List Int) : Prop := ∀ j (hj : j < I.length), ∃ bi oi, iq = some ⟨bi, oi, none⟩ ∧ bi < base ∧ bi < w.heap.size ∧ w.cell? ⟨bi, oi + j, none⟩ = some (.int .i64 I[j])
theorem InAt.below {w w' : World} {base : Nat} {iq : Option Addr} {I : List Int} (h : InAt w base iq I) (hb : Below base w w') : InAt w' base iq I := fun j hj => by
  obtain ⟨bi, oi, h1, h2, h3, h4⟩ := h j hj
  exact ⟨bi, oi, h1, h2, World.block_lt_of_cell? _ _ ((hb.cell (p := ⟨bi, oi + j, none⟩) h2).trans h4), (hb.cell (p := ⟨bi, oi + j, none⟩) h2).trans h4⟩
/-- a function that does the instructions with one Op -/
def DoesIt (F : FuncId) (op : Int) : Prop :=
  ∀ (vw vm vi n : Int) (qL : Option Addr) (nL cL : Nat) (iq : Option Addr) (ic : Nat) (I : List Int) (x : StR) (r m s o : Value) (nx a b' c : Int) (b base : Nat) (w : World),
    2 ≤ vw → vw ≤ 8 → vi ≤ 3 → Gd vw vm vi n x → ((I.length : Int) = vi ∧ ∀ y ∈ I, IsW vw y) → InAt w base iq I → base ≤ b → MRow w b vw vm vi (.slice qL nL cL) (.slice iq I.length ic) x r m s o nx → StO w base x r m s o → insB ⟨op, a, b', c⟩ vw n = true →
    Calls Tryz.prog F #[.pointer (some ⟨b, 0, none⟩), .agg #[.int .i64 op, .int .i64 a, .int .i64 b', .int .i64 c]] w
      (MEnd b base vw vm vi (.slice qL nL cL) (.slice iq I.length ic) r m s o w (.int .i64 (whyV vm vi x ⟨op, a, b', c⟩)) (if whyV vm vi x ⟨op, a, b', c⟩ = 0 then doX vw I x nx ⟨op, a, b', c⟩ else x) (if whyV vm vi x ⟨op, a, b', c⟩ = 0 then doN x nx ⟨op, a, b', c⟩ else nx))
end Go.Proofs.YthmababifgaejaaGreat
