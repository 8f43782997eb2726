/- Proved: for every value of the type Session the law FnExactSessionOk returns true and leaves everything as it was: SessionOk answers as its model does. No condition. -/
import Derived.Test.YtbbalmeglgecgaaLawSessionOk
import Derived.ProofKit
import Derived.OpenShut
import Derived.ShutString
import Derived.ChangeOld
import Derived.Below
import Derived.SliceStrings
namespace Go.Proofs.Ytbbalmeglgecgaa.fnExactSessionOk
open Go.ChangeShapes Go.WideShapes Go.ChangeAt Go.RowKit
open Go.ChangeMaps (open_string shut_string)
theorem own : ownKnob Try.prog.godebug = none := by kernel_rfl
theorem laidOut : laidOutB Try.prog = true := by kernel_rfl
set_option maxRecDepth 100000 in
theorem lifted (os : Os) (started : os.Started) (H : Type) (enc : TypeId × Value → H) :
    ReturnsInHanded {} Try.checked os 4 .any (Rows.fnExactSessionOkSpec.pre6 enc Try.prog Try.f4 Rows.fnExactSessionOkRow.domain false) (Rows.fnExactSessionOkSpec.post enc Try.prog Try.f4 false true false false) := by
  refine returnsInHanded_of_change (C := Try.checked) own started (by kernel_rfl) Try.func4
    (ChangeSpec.witness6 (enc := enc) (C := Try.checked) false ⟨#[], #[.agg #[.int .i64 0, .int .i64 0, .int .i64 0, .slice none 0 0, .int .i64 0, .slice none 0 0]], []⟩ 8 (by kernel_rfl) (by kernel_rfl) (by kernel_rfl) (by kernel_rfl)) ?_
  intro W base args ds gs before hval0 hW hcnd _
  have hval : ∀ (j : Nat) t v, Try.f4.params[j]? = some t → args[j]? = some v → Value.okWide Try.prog W .any base t v := hval0
  have hW' := hW
  obtain ⟨p, q, hA0, hV, rfl, hfz, hnd⟩ := hW
  have hA : DataW.TrodAll enc Try.prog W 0 (fun _ => true) true Try.f4.params.toList args.toList ds p := hA0
  rw [Try.params4] at hA hval
  obtain ⟨v0, vs0, d0, ds0, p0, q0, hargs, rfl, rfl, h0, r0⟩ := trodAll_cons hA
  obtain ⟨rfl, rfl, rfl⟩ := trodAll_nil r0
  obtain rfl : args = #[v0] := by cases args; simp_all
  obtain ⟨rfl, rfl⟩ := trodVars_none hV
  have k0 := h0
  have lt0 : ∀ x ∈ p0, x.block < W.heap.size := by obtain ⟨m, hm⟩ := k0; exact DataW.trod_lt m _ _ _ hm
  obtain ⟨vw0, vm0, vi0, fu0, L0, T0, s0, t0, rfl, is0, it0, ok0, tk0, tl0⟩ := open_Session (hval 0 36 v0 rfl rfl) k0
  clear hA0 hval0
  refine (law_FnExactSessionOk vw0 vm0 vi0 fu0 L0 T0 s0 t0 W ⟨is0, it0⟩ ok0 tk0 tl0).mono fun e W' ⟨he, hb⟩ => ?_
  subst he
  exact ⟨_, rfl, _, _, _, [], _, [], hW', trodAll_mk1 (shut_bool Try.underlying4 _), (trodAll_cons_mk (Below.trod laidOut (by kernel_rfl) (of_decide_eq_true (by kernel_rfl)) k0 hb lt0) trodAll_mk0), rfl, hb.frame _, fun h => by cases h⟩
theorem ov_name : Try.pinned.checked.prog.funcNamed Rows.fnExactSessionOkRow.func = some 4 := by kernel_rfl
theorem ov_lo : laidOutB Try.pinned.checked.prog = true := by kernel_rfl
theorem ov_ip : (Rows.fnExactSessionOkRow.inPlace == Try.pinned.checked.prog.inPlace 4) = true := by kernel_rfl
theorem ov_un : (Rows.fnExactSessionOkRow.unfollowed == Try.pinned.checked.prog.unfollowed 4) = true := by kernel_rfl
theorem ov_re : (Rows.fnExactSessionOkRow.recurses == Try.pinned.checked.prog.recurses 4) = true := by kernel_rfl
theorem ov_na : (Rows.fnExactSessionOkRow.named == Try.pinned.checked.prog.varsNamed 4) = true := by kernel_rfl
theorem ov_closed : joinedFacts Try.pinned.checked.prog 4 Try.f4 Rows.fnExactSessionOkSpec Rows.fnExactSessionOkRow = true := by
  unfold joinedFacts
  rw [ov_lo, ov_ip, ov_un, ov_re, ov_na]
  kernel_rfl
theorem ov_inst : Try.f4.isInstance Try.pinned.checked.prog Rows.fnExactSessionOkRow.origin Rows.fnExactSessionOkRow.targs := of_decide_eq_true (by kernel_rfl)
theorem ov_wrap : Try.f4.isWrapper Try.pinned.checked.prog Rows.fnExactSessionOkRow.wrapper Rows.fnExactSessionOkRow.mainSum := by unfold Func.isWrapper; first | (rw [if_pos (by decide +kernel)]; kernel_rfl) | (rw [if_neg (by decide +kernel)]; exact ⟨rfl, rfl⟩)
theorem over : Rows.fnExactSessionOkRow.holds Try.pinned (OpenSpec.ofChange Rows.fnExactSessionOkSpec) :=
  OpenClaim.holds_of_wide 4 Try.f4 rfl rfl rfl rfl rfl rfl rfl ⟨rfl, rfl, rfl, rfl, rfl⟩ rfl rfl rfl rfl rfl ov_name Try.func4 ov_closed ov_inst ov_wrap
    (fun os started H enc _ => lifted os started H enc)
theorem proved : Rows.FnExactSessionOkSaid := over
#print axioms proved
end Go.Proofs.Ytbbalmeglgecgaa.fnExactSessionOk
