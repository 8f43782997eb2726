/- The map of gates to their lines. No condition. -/
import Derived.Test.YtimjkgciakbolabGtM
import Derived.Maps.OwnOps
import Derived.Maps.Views
import Derived.DeepKeys4
namespace Go.Proofs.Ytimjkgciakbolab
open Go.ChangeShapes Go.WideShapes Go.RowKit
theorem lo_gate : laidOutB Try.prog = true := by kernel_rfl
theorem row_gate : (48 : TypeId) < Try.prog.types.size := of_decide_eq_true (by kernel_rfl)
theorem wide_gate : (match Try.prog.underlying 48 with | some (.array _ _) | some (.struct _) => true | _ => false) = true := by rw [Try.underlying48]
theorem law_gate : Maps.Keyed Try.prog 48 := .of_law (deep_law_laid lo_gate (m := 2) (by omega) row_gate (by kernel_rfl) wide_gate)
theorem kt_gate : Try.prog.keyType 48 = true := by kernel_rfl
theorem cells_gate : Try.prog.cellsOf 48 = 2 := by kernel_rfl
theorem cells_int1 : Try.prog.cellsOf 3 = 1 := by kernel_rfl
theorem zero_int1 (w : World) : (zeroValue 3).run Try.prog w = .ok (.int .i64 0) w := by kernel_rfl
noncomputable def kk (g : GateR) : Go.Lit := (keyOf Try.prog 48 (.agg #[.int .i64 g.f0, .int .i64 g.f1])).getD (.bool true)
theorem key_gate {g : GateR} (h : g.Ok) : keyOf Try.prog 48 (.agg #[.int .i64 g.f0, .int .i64 g.f1]) = some (kk g) := by
  have key : ∃ kl, keyOf Try.prog 48 (.agg #[.int .i64 g.f0, .int .i64 g.f1]) = some kl := by
    obtain ⟨m, hm⟩ : ∃ m, Try.prog.types.size + 1 = m + 2 := ⟨Try.prog.types.size - 1, by have : 0 < Try.prog.types.size := Nat.lt_of_le_of_lt (Nat.zero_le _) row_gate; omega⟩
    have h0 : (Go.Lit.int .i64 g.f0).wf = true := WalkArith.wf_i64 h.1
    have h1 : (Go.Lit.int .i64 g.f1).wf = true := WalkArith.wf_i64 h.2
    unfold keyOf
    rw [Try.underlying48]
    dsimp only
    rw [if_pos (by rw [kt_gate]; simp [Value.formed, Try.underlying48, cells_gate]), hm]
    simp [Program.keyLits, Try.underlying48, Try.underlying3, Value.cells, cells_gate, cells_int1, h0, h1]
  obtain ⟨kl, h⟩ := key
  unfold kk
  rw [h]; rfl
theorem kk_ne {g h : GateR} (hg : g.Ok) (hh : h.Ok) (hne : g ≠ h) : kk g ≠ kk h := fun e => hne (by
  have h1 := key_gate hg
  have h2 := key_gate hh
  rw [← e] at h2
  have := law_gate.inj h1 h2
  obtain ⟨a, b⟩ := g
  obtain ⟨c, d⟩ := h
  simpa using this)
/-- block m is the map of some gates to their lines -/
def MpAt (m : Nat) (I : Int) (gs : List GateR) (w : World) : Prop := ∃ D : DataW Unit, w.ownsMap Try.prog 48 (plainElem Try.prog 3) m gs.length D ∧ Maps.IsMap D ∧ ∀ g : GateR, g.Ok → D.atKey (kk g) (.lit (.int .i64 0)) = .lit (.int .i64 (lineG I gs g))
theorem MpAt.lt {m : Nat} {I : Int} {gs : List GateR} {w : World} (h : MpAt m I gs w) : m < w.heap.size := by obtain ⟨D, h, _⟩ := h; exact h.lt
theorem MpAt.same {m : Nat} {I : Int} {gs : List GateR} {w w' : World} (h : MpAt m I gs w) (e : w'.heap[m]? = w.heap[m]?) : MpAt m I gs w' := by
  obtain ⟨D, ⟨es, clock, hb, F, hs, hD⟩, h2, h3⟩ := h
  exact ⟨D, ⟨es, clock, e.trans hb, F, hs, hD⟩, h2, h3⟩
theorem MpAt.made (I : Int) (w : World) : MpAt w.heap.size I [] (w.alloc (.map #[] 0)) :=
  ⟨_, World.ownsMap_made _ _ _ _, ⟨_, rfl⟩, fun g _ => rfl⟩
/-- what a gate is looked up as -/
theorem MpAt.look {m : Nat} {I : Int} {gs : List GateR} {w : World} (h : MpAt m I gs w) {g : GateR} (hg : g.Ok) : (Instr.lookup 68 (.map (some m)) (.agg #[.int .i64 g.f0, .int .i64 g.f1]) false).run Try.prog w = .ok (.int .i64 (lineG I gs g)) w := by
  obtain ⟨D, h1, _, h3⟩ := h
  obtain ⟨c, hrun, hat, _⟩ := h1.lookup_int law_gate Try.underlying68 Try.underlying3 (zero_int1 w) (key_gate hg)
  rw [h3 g hg] at hat
  injection hat with hat
  injection hat with _ hat
  rw [hrun, hat]
theorem MpAt.put {m : Nat} {I : Int} {gs : List GateR} {w : World} (h : MpAt m I gs w) (hI : 0 ≤ I ∧ I ≤ 30) (hl : gs.length ≤ 360) {g : GateR} (hg : g.Ok) (hn : hasG g gs = false) :
    ∃ w', (Instr.mapUpdate 68 (.map (some m)) (.agg #[.int .i64 g.f0, .int .i64 g.f1]) (.int .i64 (I + 2 + gs.length))).run Try.prog w = .ok () w' ∧ MpAt m I (gs ++ [g]) w' ∧ w.grownBy w' (some m) := by
  obtain ⟨D, h1, h2, h3⟩ := h
  have hml : maxLen = 9223372036854775807 := rfl
  obtain ⟨w', hrun, r1, r2⟩ := h1.update law_gate Try.underlying68 (by omega) (key_gate hg) (plainElem_int Try.underlying3 (a := I + 2 + gs.length) (WalkArith.wf_i64 (by omega)))
  refine ⟨w', hrun, ⟨_, by rw [List.length_append]; exact r1, ?_, fun k hk => ?_⟩, r2⟩
  · obtain ⟨es, rfl⟩ := h2
    exact ⟨_, DataW.put_eq _ _ _⟩
  · rw [lineG_snoc I gs g k hn]
    by_cases e : eqG k g = true
    · obtain rfl := eqG_iff.1 e
      rw [if_pos e, Maps.atKey_put_same h2 (law_gate.key (key_gate hk))]
    · rw [if_neg e, Maps.atKey_put_other (kk_ne hk hg (fun h => e (eqG_iff.2 h))), h3 k hk]
/-- a store into a map whose run is known -/
theorem wpList_mp {P : Program} {w w' : World} {ops : Array Oper} {rest : List Oper} {o : Oper} {a : Act} {Q : Exit → Act → World → Prop}
    (hg : o.guard = none) (m x v : Operand) (t : TypeId) (hop : o.op = Op.mapUpdate t m x v) (mv key val : Value) (hm : a.eval m = mv) (hx : a.eval x = key) (hv : a.eval v = val)
    (hrun : (Instr.mapUpdate t mv key val).run P w = .ok () w') (hK : wpList P ops Q rest (a.put o.dst undef) w') : wpList P ops Q (o :: rest) a w := by
  refine wpList_plain hg fun K' hK' => ?_
  unfold Oper.wp
  simp [execOp, hop, hm, hx, hv, hrun, Result.andThen]
  exact hK' _ _ hK
end Go.Proofs.Ytimjkgciakbolab
