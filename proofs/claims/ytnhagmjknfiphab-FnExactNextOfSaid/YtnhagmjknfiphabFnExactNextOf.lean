/- Proved: for every value of the type Program and every integer the law FnExactNextOf returns true and leaves everything as it was: NextOf answers as its model does, and its answer owns its memory. No condition. -/
import Derived.Test.YtnhagmjknfiphabLawNextOf
import Derived.ProofKit
import Derived.OpenShut
import Derived.ShutString
import Derived.ChangeOld
import Derived.Below
import Derived.SliceStrings
namespace Go.Proofs.Ytnhagmjknfiphab.fnExactNextOf
open Go.ChangeShapes Go.WideShapes Go.ChangeAt Go.RowKit
open Go.ChangeMaps (open_string shut_string)
theorem own : ownKnob Try.prog.godebug = none := by kernel_rfl
theorem laidOut : laidOutB Try.prog = true := by kernel_rfl
set_option maxRecDepth 100000 in
theorem lifted (os : Os) (started : os.Started) (H : Type) (enc : TypeId × Value → H) :
    ReturnsInHanded {} Try.checked os 3 .any (Rows.fnExactNextOfSpec.pre6 enc Try.prog Try.f3 Rows.fnExactNextOfRow.domain false) (Rows.fnExactNextOfSpec.post enc Try.prog Try.f3 false true false false) := by
  refine returnsInHanded_of_change (C := Try.checked) own started (by kernel_rfl) Try.func3
    (ChangeSpec.witness6 (enc := enc) (C := Try.checked) false ⟨#[], #[.agg #[.int .i64 0, .int .i64 0, .int .i64 0, .slice none 0 0], .int .i64 0], []⟩ 8 (by kernel_rfl) (by kernel_rfl) (by kernel_rfl) (by kernel_rfl)) ?_
  intro W base args ds gs before hval0 hW hcnd _
  have hval : ∀ (j : Nat) t v, Try.f3.params[j]? = some t → args[j]? = some v → Value.okWide Try.prog W .any base t v := hval0
  have hW' := hW
  obtain ⟨p, q, hA0, hV, rfl, hfz, hnd⟩ := hW
  have hA : DataW.TrodAll enc Try.prog W 0 (fun _ => true) true Try.f3.params.toList args.toList ds p := hA0
  rw [Try.params3] at hA hval
  obtain ⟨v0, vs0, d0, ds0, p0, q0, hargs, rfl, rfl, h0, r0⟩ := trodAll_cons hA
  obtain ⟨v1, vs1, d1, ds1, p1, q1, rfl, rfl, rfl, h1, r1⟩ := trodAll_cons r0
  obtain ⟨rfl, rfl, rfl⟩ := trodAll_nil r1
  obtain rfl : args = #[v0, v1] := by cases args; simp_all
  obtain ⟨rfl, rfl⟩ := trodVars_none hV
  have k0 := h0
  have lt0 : ∀ x ∈ p0, x.block < W.heap.size := by obtain ⟨m, hm⟩ := k0; exact DataW.trod_lt m _ _ _ hm
  have k1 := h1
  have lt1 : ∀ x ∈ p1, x.block < W.heap.size := by obtain ⟨m, hm⟩ := k1; exact DataW.trod_lt m _ _ _ hm
  obtain ⟨vw0, vm0, vi0, L0, s0, rfl, is0, ok0⟩ := open_Program (hval 0 24 v0 rfl rfl) k0
  obtain ⟨a1, rfl, -, -, w1⟩ := open_int Try.underlying3 (hval 1 3 v1 rfl rfl) k1
  clear hA0 hval0
  refine (law_FnExactNextOf vw0 vm0 vi0 L0 s0 a1 W is0 ok0).mono fun e W' ⟨he, hb⟩ => ?_
  subst he
  exact ⟨_, rfl, _, _, _, [], _, [], hW', trodAll_mk1 (shut_bool Try.underlying4 _), (trodAll_cons_mk (Below.trod laidOut (by kernel_rfl) (of_decide_eq_true (by kernel_rfl)) k0 hb lt0) (trodAll_cons_mk (Below.trod laidOut (by kernel_rfl) (of_decide_eq_true (by kernel_rfl)) k1 hb lt1) trodAll_mk0)), rfl, hb.frame _, fun h => by cases h⟩
theorem ov_name : Try.pinned.checked.prog.funcNamed Rows.fnExactNextOfRow.func = some 3 := by kernel_rfl
theorem ov_lo : laidOutB Try.pinned.checked.prog = true := by kernel_rfl
theorem ov_ip : (Rows.fnExactNextOfRow.inPlace == Try.pinned.checked.prog.inPlace 3) = true := by kernel_rfl
theorem ov_un : (Rows.fnExactNextOfRow.unfollowed == Try.pinned.checked.prog.unfollowed 3) = true := by kernel_rfl
theorem ov_re : (Rows.fnExactNextOfRow.recurses == Try.pinned.checked.prog.recurses 3) = true := by kernel_rfl
theorem ov_na : (Rows.fnExactNextOfRow.named == Try.pinned.checked.prog.varsNamed 3) = true := by kernel_rfl
theorem ov_closed : joinedFacts Try.pinned.checked.prog 3 Try.f3 Rows.fnExactNextOfSpec Rows.fnExactNextOfRow = true := by
  unfold joinedFacts
  rw [ov_lo, ov_ip, ov_un, ov_re, ov_na]
  kernel_rfl
theorem ov_inst : Try.f3.isInstance Try.pinned.checked.prog Rows.fnExactNextOfRow.origin Rows.fnExactNextOfRow.targs := of_decide_eq_true (by kernel_rfl)
theorem ov_wrap : Try.f3.isWrapper Try.pinned.checked.prog Rows.fnExactNextOfRow.wrapper Rows.fnExactNextOfRow.mainSum := by unfold Func.isWrapper; first | (rw [if_pos (by decide +kernel)]; kernel_rfl) | (rw [if_neg (by decide +kernel)]; exact ⟨rfl, rfl⟩)
theorem over : Rows.fnExactNextOfRow.holds Try.pinned (OpenSpec.ofChange Rows.fnExactNextOfSpec) :=
  OpenClaim.holds_of_wide 3 Try.f3 rfl rfl rfl rfl rfl rfl rfl ⟨rfl, rfl, rfl, rfl, rfl⟩ rfl rfl rfl rfl rfl ov_name Try.func3 ov_closed ov_inst ov_wrap
    (fun os started H enc _ => lifted os started H enc)
theorem proved : Rows.FnExactNextOfSaid := over
#print axioms proved
end Go.Proofs.Ytnhagmjknfiphab.fnExactNextOf
