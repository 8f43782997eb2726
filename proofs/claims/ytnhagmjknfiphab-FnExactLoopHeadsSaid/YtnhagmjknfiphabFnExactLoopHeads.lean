/- Proved: for every value of the type Program the law FnExactLoopHeads returns true and leaves everything as it was: LoopHeads answers as its model does, and its answer owns its memory. No condition. -/
import Derived.Test.YtnhagmjknfiphabLawLoopHeads
import Derived.ProofKit
import Derived.OpenShut
import Derived.ShutString
import Derived.ChangeOld
import Derived.Below
import Derived.SliceStrings
namespace Go.Proofs.Ytnhagmjknfiphab.fnExactLoopHeads
open Go.ChangeShapes Go.WideShapes Go.ChangeAt Go.RowKit
open Go.ChangeMaps (open_string shut_string)
theorem own : ownKnob Try.prog.godebug = none := by kernel_rfl
theorem laidOut : laidOutB Try.prog = true := by kernel_rfl
set_option maxRecDepth 100000 in
theorem lifted (os : Os) (started : os.Started) (H : Type) (enc : TypeId × Value → H) :
    ReturnsInHanded {} Try.checked os 5 .any (Rows.fnExactLoopHeadsSpec.pre6 enc Try.prog Try.f5 Rows.fnExactLoopHeadsRow.domain false) (Rows.fnExactLoopHeadsSpec.post enc Try.prog Try.f5 false true false false) := by
  refine returnsInHanded_of_change (C := Try.checked) own started (by kernel_rfl) Try.func5
    (ChangeSpec.witness6 (enc := enc) (C := Try.checked) false ⟨#[], #[.agg #[.int .i64 0, .int .i64 0, .int .i64 0, .slice none 0 0]], []⟩ 8 (by kernel_rfl) (by kernel_rfl) (by kernel_rfl) (by kernel_rfl)) ?_
  intro W base args ds gs before hval0 hW hcnd _
  have hval : ∀ (j : Nat) t v, Try.f5.params[j]? = some t → args[j]? = some v → Value.okWide Try.prog W .any base t v := hval0
  have hW' := hW
  obtain ⟨p, q, hA0, hV, rfl, hfz, hnd⟩ := hW
  have hA : DataW.TrodAll enc Try.prog W 0 (fun _ => true) true Try.f5.params.toList args.toList ds p := hA0
  rw [Try.params5] at hA hval
  obtain ⟨v0, vs0, d0, ds0, p0, q0, hargs, rfl, rfl, h0, r0⟩ := trodAll_cons hA
  obtain ⟨rfl, rfl, rfl⟩ := trodAll_nil r0
  obtain rfl : args = #[v0] := by cases args; simp_all
  obtain ⟨rfl, rfl⟩ := trodVars_none hV
  have k0 := h0
  have lt0 : ∀ x ∈ p0, x.block < W.heap.size := by obtain ⟨m, hm⟩ := k0; exact DataW.trod_lt m _ _ _ hm
  obtain ⟨vw0, vm0, vi0, L0, s0, rfl, is0, ok0⟩ := open_Program (hval 0 24 v0 rfl rfl) k0
  clear hA0 hval0
  refine (law_FnExactLoopHeads vw0 vm0 vi0 L0 s0 W is0 ok0).mono fun e W' ⟨he, hb⟩ => ?_
  subst he
  exact ⟨_, rfl, _, _, _, [], _, [], hW', trodAll_mk1 (shut_bool Try.underlying4 _), (trodAll_cons_mk (Below.trod laidOut (by kernel_rfl) (of_decide_eq_true (by kernel_rfl)) k0 hb lt0) trodAll_mk0), rfl, hb.frame _, fun h => by cases h⟩
theorem ov_name : Try.pinned.checked.prog.funcNamed Rows.fnExactLoopHeadsRow.func = some 5 := by kernel_rfl
theorem ov_lo : laidOutB Try.pinned.checked.prog = true := by kernel_rfl
theorem ov_ip : (Rows.fnExactLoopHeadsRow.inPlace == Try.pinned.checked.prog.inPlace 5) = true := by kernel_rfl
theorem ov_un : (Rows.fnExactLoopHeadsRow.unfollowed == Try.pinned.checked.prog.unfollowed 5) = true := by kernel_rfl
theorem ov_re : (Rows.fnExactLoopHeadsRow.recurses == Try.pinned.checked.prog.recurses 5) = true := by kernel_rfl
theorem ov_na : (Rows.fnExactLoopHeadsRow.named == Try.pinned.checked.prog.varsNamed 5) = true := by kernel_rfl
theorem ov_closed : joinedFacts Try.pinned.checked.prog 5 Try.f5 Rows.fnExactLoopHeadsSpec Rows.fnExactLoopHeadsRow = true := by
  unfold joinedFacts
  rw [ov_lo, ov_ip, ov_un, ov_re, ov_na]
  kernel_rfl
theorem ov_inst : Try.f5.isInstance Try.pinned.checked.prog Rows.fnExactLoopHeadsRow.origin Rows.fnExactLoopHeadsRow.targs := of_decide_eq_true (by kernel_rfl)
theorem ov_wrap : Try.f5.isWrapper Try.pinned.checked.prog Rows.fnExactLoopHeadsRow.wrapper Rows.fnExactLoopHeadsRow.mainSum := by unfold Func.isWrapper; first | (rw [if_pos (by decide +kernel)]; kernel_rfl) | (rw [if_neg (by decide +kernel)]; exact ⟨rfl, rfl⟩)
theorem over : Rows.fnExactLoopHeadsRow.holds Try.pinned (OpenSpec.ofChange Rows.fnExactLoopHeadsSpec) :=
  OpenClaim.holds_of_wide 5 Try.f5 rfl rfl rfl rfl rfl rfl rfl ⟨rfl, rfl, rfl, rfl, rfl⟩ rfl rfl rfl rfl rfl ov_name Try.func5 ov_closed ov_inst ov_wrap
    (fun os started H enc _ => lifted os started H enc)
theorem proved : Rows.FnExactLoopHeadsSaid := over
#print axioms proved
end Go.Proofs.Ytnhagmjknfiphab.fnExactLoopHeads
