/- Proved: for every input the law FnExactWidenWord returns true and leaves everything as it was: WidenWord answers as its model does, for all integers. No condition. -/
import Derived.Test.YtoiakdhmdkcibabRows
import Derived.WalkKit
import Derived.ProofKit
import Derived.OpenShut
namespace Go.Proofs.Ytoiakdhmdkcibab.fnExactWidenWord
open Go.ChangeShapes Go.WideShapes Go.ChangeAt Go.RowKit
set_option linter.unusedVariables false      -- a walk need not use every 'w<i>' (that an integer argument fits its kind)

theorem own : ownKnob Try.prog.godebug = none := by kernel_rfl

theorem pw (w : Int) (h1 : 1 ≤ w) (h2 : w ≤ 16) : 2 ≤ (2 : Int) ^ w.toNat ∧ (2 : Int) ^ w.toNat ≤ 65536 := by
  have : w = 1 ∨ w = 2 ∨ w = 3 ∨ w = 4 ∨ w = 5 ∨ w = 6 ∨ w = 7 ∨ w = 8 ∨ w = 9 ∨ w = 10 ∨ w = 11 ∨ w = 12 ∨ w = 13 ∨ w = 14 ∨ w = 15 ∨ w = 16 := by omega
  rcases this with h | h | h | h | h | h | h | h | h | h | h | h | h | h | h | h <;> subst h <;> decide
theorem ok_cases (w a : Int) : w < 1 ∨ (1 ≤ w ∧ 16 < w) ∨ (1 ≤ w ∧ w ≤ 16 ∧ a < 0) ∨ (1 ≤ w ∧ w ≤ 16 ∧ 0 ≤ a ∧ 2 ^ w.toNat - 1 < a) ∨ (1 ≤ w ∧ w ≤ 16 ∧ 0 ≤ a ∧ a ≤ 2 ^ w.toNat - 1) := by
  by_cases h : 1 ≤ w
  · by_cases h' : w ≤ 16
    · obtain ⟨q1, q2⟩ := pw w h h'
      omega
    · omega
  · omega
theorem high_bit (w a : Int) (h1 : 1 ≤ w) (h2 : w ≤ 16) (h3 : 0 ≤ a) (h4 : a ≤ 2 ^ w.toNat - 1) : ((a / 2 ^ (w.toNat - 1) == 0) = true ∧ (a / 2 ^ (w.toNat - 1) == 1) = false) ∨ ((a / 2 ^ (w.toNat - 1) == 0) = false ∧ (a / 2 ^ (w.toNat - 1) == 1) = true) := by
  have e : (2 : Int) ^ w.toNat = 2 * 2 ^ (w.toNat - 1) := by
    have : w.toNat = (w.toNat - 1) + 1 := by omega
    rw [this, Int.pow_succ]; simp; omega
  have hp : 0 < (2 : Int) ^ (w.toNat - 1) := Int.pow_pos (by decide)
  rw [e] at h4
  generalize (2 : Int) ^ (w.toNat - 1) = p at *
  have hd : a / p = 0 ∨ a / p = 1 := by
    have q1 : 0 ≤ a / p := Int.ediv_nonneg h3 (by omega)
    have q2 : a / p < 2 := Int.ediv_lt_of_lt_mul hp (by omega)
    omega
  rcases hd with h | h <;> rw [h] <;> simp

/-! ### STEP 1: THE WALK: the Go text returns true. 'Grown w w'': the world has at most new blocks (Derived/RowKit3.lean). Part the cases AHEAD of 'go_enter' where a test parts the walk; take each callee by a contract of your own. -/
set_option maxHeartbeats 2000000 in
theorem walk (a0 : Int) (a1 : Int) (a2 : Int) (a3 : Bool) (w0 : (Lit.int .i64 a0).wf = true) (w1 : (Lit.int .i64 a1).wf = true) (w2 : (Lit.int .i64 a2).wf = true) (w : World) :
    Calls Try.prog 7 #[.int .i64 a0, .int .i64 a1, .int .i64 a2, .bool a3] w fun e w' => e = .returned (.bool true) ∧ Grown w w' := by
  obtain ⟨hn1, hn2⟩ := bounds_i64 w2
  rcases ok_cases a0 a1 with h1 | ⟨h1, h2⟩ | ⟨h1, h2, h3⟩ | ⟨h1, h2, h3, h4⟩ | ⟨h1, h2, h3, h4⟩
  · go_enter Try.func7, Try.ntmps7
    go_wp2
    all_goals go_ret
    all_goals exact ⟨rfl, Grown.refl _⟩
  · have hx : decide (a0 ≤ 16) = false := by simp; omega
    go_enter Try.func7, Try.ntmps7
    go_wp2
    all_goals go_ret
    all_goals exact ⟨rfl, Grown.refl _⟩
  · obtain ⟨hp1, hp2⟩ := pw a0 h1 h2
    go_enter Try.func7, Try.ntmps7
    go_wp2
    all_goals go_ret
    all_goals exact ⟨rfl, Grown.refl _⟩
  · obtain ⟨hp1, hp2⟩ := pw a0 h1 h2
    have hx : decide (a1 ≤ 2 ^ a0.toNat - 1) = false := by simp; omega
    go_enter Try.func7, Try.ntmps7
    go_wp2
    all_goals go_ret
    all_goals exact ⟨rfl, Grown.refl _⟩
  · obtain ⟨hp1, hp2⟩ := pw a0 h1 h2
    by_cases h5 : a2 < a0
    · by_cases h6 : 1 ≤ a2
      · have h7 : a2 ≤ 16 := by omega
        go_enter Try.func7, Try.ntmps7
        go_wp2
        all_goals go_ret
        all_goals exact ⟨rfl, Grown.refl _⟩
      · have hx : decide (1 ≤ a2) = false := by simp; omega
        go_enter Try.func7, Try.ntmps7
        go_wp2
        all_goals go_ret
        all_goals exact ⟨rfl, Grown.refl _⟩
    · have h5' : a0 ≤ a2 := by omega
      have h6 : 1 ≤ a2 := by omega
      clear h5
      by_cases h7 : a2 ≤ 16
      · obtain ⟨hq1, hq2⟩ := pw a2 h6 h7
        cases a3
        · go_enter Try.func7, Try.ntmps7
          go_wp2
          all_goals go_ret
          all_goals exact ⟨rfl, Grown.refl _⟩
        · rcases high_bit a0 a1 h1 h2 h3 h4 with ⟨hb0, hb1⟩ | ⟨hb0, hb1⟩
          · go_enter Try.func7, Try.ntmps7
            go_wp2
            all_goals go_ret
            all_goals exact ⟨rfl, Grown.refl _⟩
          · go_enter Try.func7, Try.ntmps7
            go_wp2
            all_goals go_ret
            all_goals exact ⟨rfl, Grown.refl _⟩
      · have h7' : 16 < a2 := by omega
        have hx : decide (a2 ≤ 16) = false := by simp; omega
        clear h7
        go_enter Try.func7, Try.ntmps7
        go_wp2
        all_goals go_ret
        all_goals exact ⟨rfl, Grown.refl _⟩

/-! ### THE ROW's STEP: WRITTEN OUT: LEAVE IT -/
set_option maxRecDepth 100000 in
theorem lifted (os : Os) (started : os.Started) (H : Type) (enc : TypeId × Value → H) :
    ReturnsInHanded {} Try.checked os 7 .any (Rows.fnExactWidenWordSpec.pre6 enc Try.prog Try.f7 Rows.fnExactWidenWordRow.domain false) (Rows.fnExactWidenWordSpec.post enc Try.prog Try.f7 false true false false) := by
  refine returnsInHanded_of_change (C := Try.checked) own started (by kernel_rfl) Try.func7
    (ChangeSpec.witness6 (enc := enc) (C := Try.checked) false ⟨#[], #[.int .i64 0, .int .i64 0, .int .i64 0, .bool false], []⟩ 8 (by kernel_rfl) (by kernel_rfl) (by kernel_rfl) (by kernel_rfl)) ?_
  intro W base args ds gs before hval0 hW hcnd _
  have hval : ∀ (j : Nat) t v, Try.f7.params[j]? = some t → args[j]? = some v → Value.okWide Try.prog W .any base t v := hval0
  have hW' := hW
  obtain ⟨p, q, hA0, hV, rfl, hfz, hnd⟩ := hW
  have hA : DataW.TrodAll enc Try.prog W 0 (fun _ => true) true Try.f7.params.toList args.toList ds p := hA0
  rw [Try.params7] at hA hval
  obtain ⟨v0, vs0, d0, ds0, p0, q0, hargs, rfl, rfl, h0, r0⟩ := trodAll_cons hA
  obtain ⟨v1, vs1, d1, ds1, p1, q1, rfl, rfl, rfl, h1, r1⟩ := trodAll_cons r0
  obtain ⟨v2, vs2, d2, ds2, p2, q2, rfl, rfl, rfl, h2, r2⟩ := trodAll_cons r1
  obtain ⟨v3, vs3, d3, ds3, p3, q3, rfl, rfl, rfl, h3, r3⟩ := trodAll_cons r2
  obtain ⟨rfl, rfl, rfl⟩ := trodAll_nil r3
  obtain rfl : args = #[v0, v1, v2, v3] := by cases args; simp_all
  obtain ⟨rfl, rfl⟩ := trodVars_none hV
  obtain ⟨a0, rfl, rfl, rfl, w0⟩ := open_int Try.underlying3 (hval 0 3 v0 rfl rfl) h0
  obtain ⟨a1, rfl, rfl, rfl, w1⟩ := open_int Try.underlying3 (hval 1 3 v1 rfl rfl) h1
  obtain ⟨a2, rfl, rfl, rfl, w2⟩ := open_int Try.underlying3 (hval 2 3 v2 rfl rfl) h2
  obtain ⟨a3, rfl, rfl, rfl⟩ := open_bool Try.underlying4 (hval 3 4 v3 rfl rfl) h3
  clear hA0 hval0
  simp only [List.append_nil] at hW'
  refine (walk a0 a1 a2 a3 w0 w1 w2 W).mono fun e W' ⟨he, hg⟩ => ?_
  subst he
  exact ⟨_, rfl, post_of_same (pa := []) (pv := []) hW' (fun _ _ _ => (trodAll_cons_mk (shut_bool Try.underlying4 _) trodAll_mk0)) (fun sp _ => (trodAll_cons_mk (shut_int Try.underlying3 w0) (trodAll_cons_mk (shut_int Try.underlying3 w1) (trodAll_cons_mk (shut_int Try.underlying3 w2) (trodAll_cons_mk (shut_bool Try.underlying4 _) trodAll_mk0))))) (fun _ _ => rfl) rfl
    (hg.frame _) hg.2.1 (ok_one (by kernel_rfl) rfl (okWide_bool_mk Try.underlying4 _))⟩

theorem over : Rows.fnExactWidenWordRow.holds Try.pinned (OpenSpec.ofChange Rows.fnExactWidenWordSpec) :=
  OpenClaim.holds_of_wide 7 Try.f7 rfl rfl rfl rfl rfl rfl rfl ⟨rfl, rfl, rfl, rfl, rfl⟩ rfl rfl rfl rfl rfl (by kernel_rfl) Try.func7 (by kernel_rfl)
    (of_decide_eq_true (by kernel_rfl)) (by unfold Func.isWrapper; first | (rw [if_pos (by decide +kernel)]; kernel_rfl) | (rw [if_neg (by decide +kernel)]; exact ⟨rfl, rfl⟩))
    (fun os started H enc _ => lifted os started H enc)

/-- ████ THE STATEMENT ████ -/
theorem proved : Rows.FnExactWidenWordSaid :=
  over
#print axioms proved
end Go.Proofs.Ytoiakdhmdkcibab.fnExactWidenWord
