/- Proved: for every two values of the type Program, every list of lists of integers and every integer the law FnExactKillsOf returns true and leaves everything as it was: KillsOf answers as its model does, and its answer owns its memory. No condition. -/
import Derived.Test.YtnhagmjknfiphaaKmLawKillsOf
import Derived.ProofKit
import Derived.OpenShut
import Derived.ShutString
import Derived.ChangeOld
import Derived.Below
import Derived.SliceStrings
namespace Go.Proofs.Ytnhagmjknfiphaa.fnExactKillsOf
open Go.ChangeShapes Go.WideShapes Go.ChangeAt Go.RowKit
open Go.ChangeMaps (open_string shut_string)
theorem own : ownKnob Try.prog.godebug = none := by kernel_rfl
theorem laidOut : laidOutB Try.prog = true := by kernel_rfl
set_option maxRecDepth 100000 in
theorem lifted (os : Os) (started : os.Started) (H : Type) (enc : TypeId × Value → H) :
    ReturnsInHanded {} Try.checked os 5 .any (Rows.fnExactKillsOfSpec.pre6 enc Try.prog Try.f5 Rows.fnExactKillsOfRow.domain false) (Rows.fnExactKillsOfSpec.post enc Try.prog Try.f5 false true false false) := by
  refine returnsInHanded_of_change (C := Try.checked) own started (by kernel_rfl) Try.func5
    (ChangeSpec.witness6 (enc := enc) (C := Try.checked) false ⟨#[], #[.agg #[.int .i64 0, .int .i64 0, .int .i64 0, .slice none 0 0], .agg #[.int .i64 0, .int .i64 0, .int .i64 0, .slice none 0 0], .slice none 0 0, .int .i64 0], []⟩ 8 (by kernel_rfl) (by kernel_rfl) (by kernel_rfl) (by kernel_rfl)) ?_
  intro W base args ds gs before hval0 hW hcnd _
  have hval : ∀ (j : Nat) t v, Try.f5.params[j]? = some t → args[j]? = some v → Value.okWide Try.prog W .any base t v := hval0
  have hW' := hW
  obtain ⟨p, q, hA0, hV, rfl, hfz, hnd⟩ := hW
  have hA : DataW.TrodAll enc Try.prog W 0 (fun _ => true) true Try.f5.params.toList args.toList ds p := hA0
  rw [Try.params5] at hA hval
  obtain ⟨v0, vs0, d0, ds0, p0, q0, hargs, rfl, rfl, h0, r0⟩ := trodAll_cons hA
  obtain ⟨v1, vs1, d1, ds1, p1, q1, rfl, rfl, rfl, h1, r1⟩ := trodAll_cons r0
  obtain ⟨v2, vs2, d2, ds2, p2, q2, rfl, rfl, rfl, h2, r2⟩ := trodAll_cons r1
  obtain ⟨v3, vs3, d3, ds3, p3, q3, rfl, rfl, rfl, h3, r3⟩ := trodAll_cons r2
  obtain ⟨rfl, rfl, rfl⟩ := trodAll_nil r3
  obtain rfl : args = #[v0, v1, v2, v3] := by cases args; simp_all
  obtain ⟨rfl, rfl⟩ := trodVars_none hV
  have k0 := h0
  have lt0 : ∀ x ∈ p0, x.block < W.heap.size := by obtain ⟨m, hm⟩ := k0; exact DataW.trod_lt m _ _ _ hm
  have k1 := h1
  have lt1 : ∀ x ∈ p1, x.block < W.heap.size := by obtain ⟨m, hm⟩ := k1; exact DataW.trod_lt m _ _ _ hm
  have k2 := h2
  have lt2 : ∀ x ∈ p2, x.block < W.heap.size := by obtain ⟨m, hm⟩ := k2; exact DataW.trod_lt m _ _ _ hm
  have k3 := h3
  have lt3 : ∀ x ∈ p3, x.block < W.heap.size := by obtain ⟨m, hm⟩ := k3; exact DataW.trod_lt m _ _ _ hm
  obtain ⟨vw0, vm0, vi0, L0, s0, rfl, is0, ok0⟩ := open_Program (hval 0 24 v0 rfl rfl) k0
  obtain ⟨vw1, vm1, vi1, L1, s1, rfl, is1, ok1⟩ := open_Program (hval 1 24 v1 rfl rfl) k1
  obtain ⟨L2, is2, ok2, l2⟩ := open_IntSS (hval 2 40 v2 rfl rfl) k2
  obtain ⟨a3, rfl, -, -, w3⟩ := open_int Try.underlying3 (hval 3 3 v3 rfl rfl) k3
  clear hA0 hval0
  refine (law_FnExactKillsOf vw0 vm0 vi0 L0 s0 vw1 vm1 vi1 L1 s1 L2 v2 a3 W is0 ok0 is1 ok1 is2 ok2 l2).mono fun e W' ⟨he, hb⟩ => ?_
  subst he
  exact ⟨_, rfl, _, _, _, [], _, [], hW', trodAll_mk1 (shut_bool Try.underlying4 _), (trodAll_cons_mk (Below.trod laidOut (by kernel_rfl) (of_decide_eq_true (by kernel_rfl)) k0 hb lt0) (trodAll_cons_mk (Below.trod laidOut (by kernel_rfl) (of_decide_eq_true (by kernel_rfl)) k1 hb lt1) (trodAll_cons_mk (Below.trod laidOut (by kernel_rfl) (of_decide_eq_true (by kernel_rfl)) k2 hb lt2) (trodAll_cons_mk (Below.trod laidOut (by kernel_rfl) (of_decide_eq_true (by kernel_rfl)) k3 hb lt3) trodAll_mk0)))), rfl, hb.frame _, fun h => by cases h⟩
theorem ov_name : Try.pinned.checked.prog.funcNamed Rows.fnExactKillsOfRow.func = some 5 := by kernel_rfl
theorem ov_lo : laidOutB Try.pinned.checked.prog = true := by kernel_rfl
theorem ov_ip : (Rows.fnExactKillsOfRow.inPlace == Try.pinned.checked.prog.inPlace 5) = true := by kernel_rfl
theorem ov_un : (Rows.fnExactKillsOfRow.unfollowed == Try.pinned.checked.prog.unfollowed 5) = true := by kernel_rfl
theorem ov_re : (Rows.fnExactKillsOfRow.recurses == Try.pinned.checked.prog.recurses 5) = true := by kernel_rfl
theorem ov_na : (Rows.fnExactKillsOfRow.named == Try.pinned.checked.prog.varsNamed 5) = true := by kernel_rfl
theorem ov_closed : joinedFacts Try.pinned.checked.prog 5 Try.f5 Rows.fnExactKillsOfSpec Rows.fnExactKillsOfRow = true := by
  unfold joinedFacts
  rw [ov_lo, ov_ip, ov_un, ov_re, ov_na]
  kernel_rfl
theorem ov_inst : Try.f5.isInstance Try.pinned.checked.prog Rows.fnExactKillsOfRow.origin Rows.fnExactKillsOfRow.targs := of_decide_eq_true (by kernel_rfl)
theorem ov_wrap : Try.f5.isWrapper Try.pinned.checked.prog Rows.fnExactKillsOfRow.wrapper Rows.fnExactKillsOfRow.mainSum := by unfold Func.isWrapper; first | (rw [if_pos (by decide +kernel)]; kernel_rfl) | (rw [if_neg (by decide +kernel)]; exact ⟨rfl, rfl⟩)
theorem over : Rows.fnExactKillsOfRow.holds Try.pinned (OpenSpec.ofChange Rows.fnExactKillsOfSpec) :=
  OpenClaim.holds_of_wide 5 Try.f5 rfl rfl rfl rfl rfl rfl rfl ⟨rfl, rfl, rfl, rfl, rfl⟩ rfl rfl rfl rfl rfl ov_name Try.func5 ov_closed ov_inst ov_wrap
    (fun os started H enc _ => lifted os started H enc)
theorem proved : Rows.FnExactKillsOfSaid := over
#print axioms proved
end Go.Proofs.Ytnhagmjknfiphaa.fnExactKillsOf
