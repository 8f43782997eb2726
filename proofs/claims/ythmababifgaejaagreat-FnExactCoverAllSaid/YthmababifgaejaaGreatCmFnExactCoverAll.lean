/- Proved: for every value of the type Program, every list of lists of integers and every integer the law FnExactCoverAll returns true and leaves everything as it was: CoverAll answers as its model does, and its answer owns its memory. No condition. -/
import Derived.Test.YthmababifgaejaaGreatCmLawCoverAll
import Derived.ProofKit
import Derived.OpenShut
import Derived.ShutString
import Derived.ChangeOld
import Derived.Below
import Derived.SliceStrings
namespace Go.Proofs.YthmababifgaejaaGreat.fnExactCoverAll
open Go.ChangeShapes Go.WideShapes Go.ChangeAt Go.RowKit
open Go.ChangeMaps (open_string shut_string)
theorem own : ownKnob Tryz.prog.godebug = none := by kernel_rfl
theorem laidOut : laidOutB Tryz.prog = true := by kernel_rfl
set_option maxRecDepth 100000 in
theorem lifted (os : Os) (started : os.Started) (H : Type) (enc : TypeId × Value → H) :
    ReturnsInHanded {} Tryz.checked os 3 .any (Rows.fnExactCoverAllSpec.pre6 enc Tryz.prog Tryz.f3 Rows.fnExactCoverAllRow.domain false) (Rows.fnExactCoverAllSpec.post enc Tryz.prog Tryz.f3 false true false false) := by
  refine returnsInHanded_of_change (C := Tryz.checked) own started (by kernel_rfl) Tryz.func3
    (ChangeSpec.witness6 (enc := enc) (C := Tryz.checked) false ⟨#[], #[.agg #[.int .i64 0, .int .i64 0, .int .i64 0, .slice none 0 0], .slice none 0 0, .int .i64 0], []⟩ 8 (by kernel_rfl) (by kernel_rfl) (by kernel_rfl) (by kernel_rfl)) ?_
  intro W base args ds gs before hval0 hW hcnd _
  have hval : ∀ (j : Nat) t v, Tryz.f3.params[j]? = some t → args[j]? = some v → Value.okWide Tryz.prog W .any base t v := hval0
  have hW' := hW
  obtain ⟨p, q, hA0, hV, rfl, hfz, hnd⟩ := hW
  have hA : DataW.TrodAll enc Tryz.prog W 0 (fun _ => true) true Tryz.f3.params.toList args.toList ds p := hA0
  rw [Tryz.params3] at hA hval
  obtain ⟨v0, vs0, d0, ds0, p0, q0, hargs, rfl, rfl, h0, r0⟩ := trodAll_cons hA
  obtain ⟨v1, vs1, d1, ds1, p1, q1, rfl, rfl, rfl, h1, r1⟩ := trodAll_cons r0
  obtain ⟨v2, vs2, d2, ds2, p2, q2, rfl, rfl, rfl, h2, r2⟩ := trodAll_cons r1
  obtain ⟨rfl, rfl, rfl⟩ := trodAll_nil r2
  obtain rfl : args = #[v0, v1, v2] := by cases args; simp_all
  obtain ⟨rfl, rfl⟩ := trodVars_none hV
  have k0 := h0
  have lt0 : ∀ x ∈ p0, x.block < W.heap.size := by obtain ⟨m, hm⟩ := k0; exact DataW.trod_lt m _ _ _ hm
  have k1 := h1
  have lt1 : ∀ x ∈ p1, x.block < W.heap.size := by obtain ⟨m, hm⟩ := k1; exact DataW.trod_lt m _ _ _ hm
  have k2 := h2
  have lt2 : ∀ x ∈ p2, x.block < W.heap.size := by obtain ⟨m, hm⟩ := k2; exact DataW.trod_lt m _ _ _ hm
  obtain ⟨vw0, vm0, vi0, L0, s0, rfl, is0, ok0⟩ := open_Program (hval 0 24 v0 rfl rfl) k0
  obtain ⟨L1, is1, ok1, l1⟩ := open_IntSS (hval 1 25 v1 rfl rfl) k1
  obtain ⟨a2, rfl, -, -, w2⟩ := open_int Tryz.underlying3 (hval 2 3 v2 rfl rfl) k2
  clear hA0 hval0
  refine (law_FnExactCoverAll vw0 vm0 vi0 L0 s0 L1 v1 a2 W is0 ok0 is1 ok1 l1).mono fun e W' ⟨he, hb⟩ => ?_
  subst he
  exact ⟨_, rfl, _, _, _, [], _, [], hW', trodAll_mk1 (shut_bool Tryz.underlying4 _), (trodAll_cons_mk (Below.trod laidOut (by kernel_rfl) (of_decide_eq_true (by kernel_rfl)) k0 hb lt0) (trodAll_cons_mk (Below.trod laidOut (by kernel_rfl) (of_decide_eq_true (by kernel_rfl)) k1 hb lt1) (trodAll_cons_mk (Below.trod laidOut (by kernel_rfl) (of_decide_eq_true (by kernel_rfl)) k2 hb lt2) trodAll_mk0))), rfl, hb.frame _, fun h => by cases h⟩
theorem ov_name : Tryz.pinned.checked.prog.funcNamed Rows.fnExactCoverAllRow.func = some 3 := by kernel_rfl
theorem ov_lo : laidOutB Tryz.pinned.checked.prog = true := by kernel_rfl
theorem ov_ip : (Rows.fnExactCoverAllRow.inPlace == Tryz.pinned.checked.prog.inPlace 3) = true := by kernel_rfl
theorem ov_un : (Rows.fnExactCoverAllRow.unfollowed == Tryz.pinned.checked.prog.unfollowed 3) = true := by kernel_rfl
theorem ov_re : (Rows.fnExactCoverAllRow.recurses == Tryz.pinned.checked.prog.recurses 3) = true := by kernel_rfl
theorem ov_na : (Rows.fnExactCoverAllRow.named == Tryz.pinned.checked.prog.varsNamed 3) = true := by kernel_rfl
theorem ov_closed : joinedFacts Tryz.pinned.checked.prog 3 Tryz.f3 Rows.fnExactCoverAllSpec Rows.fnExactCoverAllRow = true := by
  unfold joinedFacts
  rw [ov_lo, ov_ip, ov_un, ov_re, ov_na]
  kernel_rfl
theorem ov_inst : Tryz.f3.isInstance Tryz.pinned.checked.prog Rows.fnExactCoverAllRow.origin Rows.fnExactCoverAllRow.targs := of_decide_eq_true (by kernel_rfl)
theorem ov_wrap : Tryz.f3.isWrapper Tryz.pinned.checked.prog Rows.fnExactCoverAllRow.wrapper Rows.fnExactCoverAllRow.mainSum := by unfold Func.isWrapper; first | (rw [if_pos (by decide +kernel)]; kernel_rfl) | (rw [if_neg (by decide +kernel)]; exact ⟨rfl, rfl⟩)
theorem over : Rows.fnExactCoverAllRow.holds Tryz.pinned (OpenSpec.ofChange Rows.fnExactCoverAllSpec) :=
  OpenClaim.holds_of_wide 3 Tryz.f3 rfl rfl rfl rfl rfl rfl rfl ⟨rfl, rfl, rfl, rfl, rfl⟩ rfl rfl rfl rfl rfl ov_name Tryz.func3 ov_closed ov_inst ov_wrap
    (fun os started H enc _ => lifted os started H enc)
theorem proved : Rows.FnExactCoverAllSaid := over
#print axioms proved
end Go.Proofs.YthmababifgaejaaGreat.fnExactCoverAll
