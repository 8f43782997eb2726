/- Proved: the law FnExactNewSession returns true and leaves everything as it was: NewSession answers as its model does, and its answer owns its memory. No condition. -/
import Derived.Test.YtbbalmeglgecgaaLawNewSession
import Derived.ProofKit
import Derived.OpenShut
import Derived.ShutString
import Derived.ChangeOld
import Derived.Below
import Derived.SliceStrings
namespace Go.Proofs.Ytbbalmeglgecgaa.fnExactNewSession
open Go.ChangeShapes Go.WideShapes Go.ChangeAt Go.RowKit
open Go.ChangeMaps (open_string shut_string)
theorem own : ownKnob Try.prog.godebug = none := by kernel_rfl
theorem laidOut : laidOutB Try.prog = true := by kernel_rfl
set_option maxRecDepth 100000 in
theorem lifted (os : Os) (started : os.Started) (H : Type) (enc : TypeId × Value → H) :
    ReturnsInHanded {} Try.checked os 3 .any (Rows.fnExactNewSessionSpec.pre6 enc Try.prog Try.f3 Rows.fnExactNewSessionRow.domain false) (Rows.fnExactNewSessionSpec.post enc Try.prog Try.f3 false true false false) := by
  refine returnsInHanded_of_change (C := Try.checked) own started (by kernel_rfl) Try.func3
    (ChangeSpec.witness6 (enc := enc) (C := Try.checked) false ⟨#[], #[], []⟩ 8 (by kernel_rfl) (by kernel_rfl) (by kernel_rfl) (by kernel_rfl)) ?_
  intro W base args ds gs before hval0 hW hcnd _
  have hval : ∀ (j : Nat) t v, Try.f3.params[j]? = some t → args[j]? = some v → Value.okWide Try.prog W .any base t v := hval0
  have hW' := hW
  obtain ⟨p, q, hA0, hV, rfl, hfz, hnd⟩ := hW
  have hA : DataW.TrodAll enc Try.prog W 0 (fun _ => true) true Try.f3.params.toList args.toList ds p := hA0
  rw [Try.params3] at hA hval
  obtain ⟨hargs, rfl, rfl⟩ := trodAll_nil hA
  obtain rfl : args = #[] := by cases args; simp_all
  obtain ⟨rfl, rfl⟩ := trodVars_none hV
  clear hA0 hval0
  refine (law_FnExactNewSession  W ).mono fun e W' ⟨he, hb⟩ => ?_
  subst he
  exact ⟨_, rfl, _, _, _, [], _, [], hW', trodAll_mk1 (shut_bool Try.underlying4 _), trodAll_mk0, rfl, hb.frame _, fun h => by cases h⟩
theorem ov_name : Try.pinned.checked.prog.funcNamed Rows.fnExactNewSessionRow.func = some 3 := by kernel_rfl
theorem ov_lo : laidOutB Try.pinned.checked.prog = true := by kernel_rfl
theorem ov_ip : (Rows.fnExactNewSessionRow.inPlace == Try.pinned.checked.prog.inPlace 3) = true := by kernel_rfl
theorem ov_un : (Rows.fnExactNewSessionRow.unfollowed == Try.pinned.checked.prog.unfollowed 3) = true := by kernel_rfl
theorem ov_re : (Rows.fnExactNewSessionRow.recurses == Try.pinned.checked.prog.recurses 3) = true := by kernel_rfl
theorem ov_na : (Rows.fnExactNewSessionRow.named == Try.pinned.checked.prog.varsNamed 3) = true := by kernel_rfl
theorem ov_closed : joinedFacts Try.pinned.checked.prog 3 Try.f3 Rows.fnExactNewSessionSpec Rows.fnExactNewSessionRow = true := by
  unfold joinedFacts
  rw [ov_lo, ov_ip, ov_un, ov_re, ov_na]
  kernel_rfl
theorem ov_inst : Try.f3.isInstance Try.pinned.checked.prog Rows.fnExactNewSessionRow.origin Rows.fnExactNewSessionRow.targs := of_decide_eq_true (by kernel_rfl)
theorem ov_wrap : Try.f3.isWrapper Try.pinned.checked.prog Rows.fnExactNewSessionRow.wrapper Rows.fnExactNewSessionRow.mainSum := by unfold Func.isWrapper; first | (rw [if_pos (by decide +kernel)]; kernel_rfl) | (rw [if_neg (by decide +kernel)]; exact ⟨rfl, rfl⟩)
theorem over : Rows.fnExactNewSessionRow.holds Try.pinned (OpenSpec.ofChange Rows.fnExactNewSessionSpec) :=
  OpenClaim.holds_of_wide 3 Try.f3 rfl rfl rfl rfl rfl rfl rfl ⟨rfl, rfl, rfl, rfl, rfl⟩ rfl rfl rfl rfl rfl ov_name Try.func3 ov_closed ov_inst ov_wrap
    (fun os started H enc _ => lifted os started H enc)
theorem proved : Rows.FnExactNewSessionSaid := over
#print axioms proved
end Go.Proofs.Ytbbalmeglgecgaa.fnExactNewSession
