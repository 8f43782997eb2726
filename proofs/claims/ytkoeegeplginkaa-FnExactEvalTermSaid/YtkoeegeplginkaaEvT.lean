/- What EvalTerm and its model return. No condition. -/
import Derived.Test.YtkoeegeplginkaaEvS
import Derived.Test.YtkoeegeplginkaaCheck
import Derived.Test.YtkoeegeplginkaaTermOk
namespace Go.Proofs.Ytkoeegeplginkaa
open Go.ChangeShapes Go.WideShapes Go.ChangeAt Go.RowKit
open ValueR (all costs)
open Classical in
/-- what EvalTerm returns -/
noncomputable def etV (V : List ValueR) (op wd n : Int) (nm : ByteArray) (k : Fo) : Option Int := if (accOne op wd n nm k 0 []).isSome = true ∧ vlB V = true then evOne V op wd n nm k else none
theorem acc_ok {op wd n : Int} {nm : ByteArray} {k : Fo} (h : (accOne op wd n nm k 0 []).isSome = true) : fitB op wd n nm k.ws = true ∧ k.allB = true := by
  rw [accOne_eq] at h
  by_cases hc : 1 + k.nodes ≤ 240 ∧ (fitB op wd n nm k.ws && k.allB) = true
  · simpa using hc.2
  · rw [if_neg hc] at h; simp at h
theorem vl_ok {V : List ValueR} (h : vlB V = true) : VlOk V := by
  by_cases hv : VlOk V
  · exact hv
  · rw [vlB_false hv] at h; cases h
theorem et_no {V : List ValueR} {op wd n : Int} {nm : ByteArray} {k : Fo} (h : (accOne op wd n nm k 0 []).isSome = false ∨ vlB V = false) : etV V op wd n nm k = none := by
  unfold etV
  rw [if_neg]
  rintro ⟨h1, h2⟩
  rcases h with h | h
  · rw [h] at h1; cases h1
  · rw [h] at h2; cases h2
set_option maxRecDepth 100000 in
set_option maxHeartbeats 2000000 in
theorem i_evterm (k : Fo) (op wd n : Int) (nm : ByteArray) (s v : Value) (V : List ValueR) (w : World) (his : (k.cs 32).Is w 0 5 k.len s) (hv : Cs.Shows w 0 3 v V.length (all V)) (hnm : nm.size ≤ 1048576) (hk : k.cost ≤ 1048576) (hV : ValueR.costs V ≤ 1048576) :
    Calls Try.prog 20 #[.agg #[.int .i64 op, .int .i64 wd, .int .i64 n, .string nm, s], v] w fun e w' => e = .returned (evV (etV V op wd n nm k)) ∧ Below w.heap.size w w' := by
  have hvl := ValueR.len_le V
  have hvs : ∀ r ∈ V, r.f0.size ≤ 1048576 := fun r hr => by
    obtain ⟨j, hj, rfl⟩ := List.getElem_of_mem hr
    have := ValueR.cost_lt V j hj
    unfold ValueR.cost at this
    omega
  have hkn := k.nodes_le
  have KT := Lib.hid (fun W (hb : Below w.heap.size w W) => i_termok k op wd n nm s W (his.below hb) hnm hk)
  have KV := Lib.hid (fun W (hb : Below w.heap.size w W) => i_valuesOk V v W (hv.below hb) (by omega) hvs)
  have KE := Lib.hid (fun W (hb : Below w.heap.size w W) (h1 : (accOne op wd n nm k 0 []).isSome = true) (h2 : vlB V = true) => i_eval_any V (vl_ok h2) k op wd n nm s v W (his.below hb) (hv.below hb) (acc_ok h1).1 (acc_ok h1).2 (by omega))
  obtain ⟨_, ⟨_, q, cap, rfl, _⟩, _⟩ := his
  obtain ⟨_, qv, cv, rfl, _⟩ := hv
  clear hvs hvl hkn
  by_cases h1 : (accOne op wd n nm k 0 []).isSome = true
  · rw [h1] at KT
    by_cases h2 : vlB V = true
    · rw [h2] at KV
      have HE := Lib.hid (show etV V op wd n nm k = evOne V op wd n nm k by unfold etV; rw [if_pos ⟨h1, h2⟩])
      have KE1 := Lib.hid (fun W hb => KE.out W hb h1 h2)
      obtain ⟨X, B, hXB⟩ : ∃ X B, evV (evOne V op wd n nm k) = .tuple #[.int .i64 X, .bool B] := ⟨_, _, rfl⟩
      rw [hXB] at KE1
      have HX := Lib.hid hXB
      clear KE h1 h2 hXB
      go_enter Try.func20, Try.ntmps20
      go_wp2_with fail
      refine (KT.out _ ((Below.refl _ _).alloc (Nat.le_refl _) _)).mono ?_
      rintro e w1 ⟨rfl, hb1⟩
      have B1 := Lib.hid (((Below.refl w.heap.size w).alloc (Nat.le_refl _) (.cells #[.int .i64 op, .int .i64 wd, .int .i64 n, .string nm, .slice q k.len cap] 32)).trans (hb1.mono (by simp)))
      have X1 := Lib.hid ((cell5_alloc w 32 (.int .i64 op) (.int .i64 wd) (.int .i64 n) (.string nm) (.slice q k.len cap)).below hb1)
      clear hb1
      obtain ⟨x0, x1, x2, x3, x4⟩ := X1.out
      go_wp2_with fail
      clear x0 x1 x2 x3 x4
      refine (KV.out _ B1.out).mono ?_
      rintro e w2 ⟨rfl, hb2⟩
      have B2 := Lib.hid (B1.out.trans (hb2.mono B1.out.size))
      obtain ⟨x0, x1, x2, x3, x4⟩ := X1.out.below hb2
      clear hb2
      go_wp2_with fail
      clear x0 x1 x2 x3 x4
      refine (KE1.out _ B2.out).mono ?_
      rintro e w3 ⟨rfl, hb3⟩
      have B3 := Lib.hid (B2.out.trans (hb3.mono B2.out.size))
      clear hb3
      go_wp2
      go_ret2
      exact ⟨by rw [HE.out, HX.out] <;> rfl, B3.out⟩
    · have h2 : vlB V = false := by simpa using h2
      rw [h2] at KV
      have HE := Lib.hid (et_no (op := op) (wd := wd) (n := n) (nm := nm) (k := k) (.inr h2))
      clear KE h1 h2
      go_enter Try.func20, Try.ntmps20
      go_wp2_with fail
      refine (KT.out _ ((Below.refl _ _).alloc (Nat.le_refl _) _)).mono ?_
      rintro e w1 ⟨rfl, hb1⟩
      have B1 := Lib.hid (((Below.refl w.heap.size w).alloc (Nat.le_refl _) (.cells #[.int .i64 op, .int .i64 wd, .int .i64 n, .string nm, .slice q k.len cap] 32)).trans (hb1.mono (by simp)))
      clear hb1
      go_wp2_with fail
      refine (KV.out _ B1.out).mono ?_
      rintro e w2 ⟨rfl, hb2⟩
      have B2 := Lib.hid (B1.out.trans (hb2.mono B1.out.size))
      clear hb2
      go_wp2
      go_ret2
      exact ⟨by rw [HE.out] <;> rfl, B2.out⟩
  · have h1 : (accOne op wd n nm k 0 []).isSome = false := by simpa using h1
    rw [h1] at KT
    have HE := Lib.hid (et_no (V := V) (.inl h1))
    clear KE h1
    go_enter Try.func20, Try.ntmps20
    go_wp2_with fail
    refine (KT.out _ ((Below.refl _ _).alloc (Nat.le_refl _) _)).mono ?_
    rintro e w1 ⟨rfl, hb1⟩
    have B1 := Lib.hid (((Below.refl w.heap.size w).alloc (Nat.le_refl _) (.cells #[.int .i64 op, .int .i64 wd, .int .i64 n, .string nm, .slice q k.len cap] 32)).trans (hb1.mono (by simp)))
    clear hb1
    go_wp2
    go_ret2
    exact ⟨by rw [HE.out] <;> rfl, B1.out⟩
set_option maxRecDepth 100000 in
set_option maxHeartbeats 2000000 in
theorem s_evterm (k : Fo) (op wd n : Int) (nm : ByteArray) (s v : Value) (V : List ValueR) (w : World) (his : (k.cs 32).Is w 0 5 k.len s) (hv : Cs.Shows w 0 3 v V.length (all V)) (hnm : nm.size ≤ 1048576) (hk : k.cost ≤ 1048576) (hV : ValueR.costs V ≤ 1048576) :
    Calls Try.prog 17 #[.agg #[.int .i64 op, .int .i64 wd, .int .i64 n, .string nm, s], v] w fun e w' => e = .returned (evV (etV V op wd n nm k)) ∧ Below w.heap.size w w' := by
  have hvl := ValueR.len_le V
  have hvs : ∀ r ∈ V, r.f0.size ≤ 1048576 := fun r hr => by
    obtain ⟨j, hj, rfl⟩ := List.getElem_of_mem hr
    have := ValueR.cost_lt V j hj
    unfold ValueR.cost at this
    omega
  have hkn := k.nodes_le
  have KT := Lib.hid (fun W (hb : Below w.heap.size w W) => s_termok k op wd n nm s W (his.below hb) hnm hk)
  have KV := Lib.hid (fun W (hb : Below w.heap.size w W) => s_valuesOk V v W (hv.below hb) (by omega) hvs)
  have KE := Lib.hid (fun W (hb : Below w.heap.size w W) (h1 : (accOne op wd n nm k 0 []).isSome = true) (h2 : vlB V = true) => s_eval_any V (vl_ok h2) k op wd n nm s v W (his.below hb) (hv.below hb) (acc_ok h1).1 (acc_ok h1).2 (by omega))
  obtain ⟨_, ⟨_, q, cap, rfl, _⟩, _⟩ := his
  obtain ⟨_, qv, cv, rfl, _⟩ := hv
  clear hvs hvl hkn
  by_cases h1 : (accOne op wd n nm k 0 []).isSome = true
  · rw [h1] at KT
    by_cases h2 : vlB V = true
    · rw [h2] at KV
      have HE := Lib.hid (show etV V op wd n nm k = evOne V op wd n nm k by unfold etV; rw [if_pos ⟨h1, h2⟩])
      have KE1 := Lib.hid (fun W hb => KE.out W hb h1 h2)
      obtain ⟨X, B, hXB⟩ : ∃ X B, evV (evOne V op wd n nm k) = .tuple #[.int .i64 X, .bool B] := ⟨_, _, rfl⟩
      rw [hXB] at KE1
      have HX := Lib.hid hXB
      clear KE h1 h2 hXB
      go_enter Try.func17, Try.ntmps17
      go_wp2_with fail
      refine (KT.out _ ((Below.refl _ _).alloc (Nat.le_refl _) _)).mono ?_
      rintro e w1 ⟨rfl, hb1⟩
      have B1 := Lib.hid (((Below.refl w.heap.size w).alloc (Nat.le_refl _) (.cells #[.int .i64 op, .int .i64 wd, .int .i64 n, .string nm, .slice q k.len cap] 32)).trans (hb1.mono (by simp)))
      have X1 := Lib.hid ((cell5_alloc w 32 (.int .i64 op) (.int .i64 wd) (.int .i64 n) (.string nm) (.slice q k.len cap)).below hb1)
      clear hb1
      obtain ⟨x0, x1, x2, x3, x4⟩ := X1.out
      go_wp2_with fail
      clear x0 x1 x2 x3 x4
      refine (KV.out _ B1.out).mono ?_
      rintro e w2 ⟨rfl, hb2⟩
      have B2 := Lib.hid (B1.out.trans (hb2.mono B1.out.size))
      obtain ⟨x0, x1, x2, x3, x4⟩ := X1.out.below hb2
      clear hb2
      go_wp2_with fail
      clear x0 x1 x2 x3 x4
      refine (KE1.out _ B2.out).mono ?_
      rintro e w3 ⟨rfl, hb3⟩
      have B3 := Lib.hid (B2.out.trans (hb3.mono B2.out.size))
      clear hb3
      go_wp2
      go_ret2
      exact ⟨by rw [HE.out, HX.out] <;> rfl, B3.out⟩
    · have h2 : vlB V = false := by simpa using h2
      rw [h2] at KV
      have HE := Lib.hid (et_no (op := op) (wd := wd) (n := n) (nm := nm) (k := k) (.inr h2))
      clear KE h1 h2
      go_enter Try.func17, Try.ntmps17
      go_wp2_with fail
      refine (KT.out _ ((Below.refl _ _).alloc (Nat.le_refl _) _)).mono ?_
      rintro e w1 ⟨rfl, hb1⟩
      have B1 := Lib.hid (((Below.refl w.heap.size w).alloc (Nat.le_refl _) (.cells #[.int .i64 op, .int .i64 wd, .int .i64 n, .string nm, .slice q k.len cap] 32)).trans (hb1.mono (by simp)))
      clear hb1
      go_wp2_with fail
      refine (KV.out _ B1.out).mono ?_
      rintro e w2 ⟨rfl, hb2⟩
      have B2 := Lib.hid (B1.out.trans (hb2.mono B1.out.size))
      clear hb2
      go_wp2
      go_ret2
      exact ⟨by rw [HE.out] <;> rfl, B2.out⟩
  · have h1 : (accOne op wd n nm k 0 []).isSome = false := by simpa using h1
    rw [h1] at KT
    have HE := Lib.hid (et_no (V := V) (.inl h1))
    clear KE h1
    go_enter Try.func17, Try.ntmps17
    go_wp2_with fail
    refine (KT.out _ ((Below.refl _ _).alloc (Nat.le_refl _) _)).mono ?_
    rintro e w1 ⟨rfl, hb1⟩
    have B1 := Lib.hid (((Below.refl w.heap.size w).alloc (Nat.le_refl _) (.cells #[.int .i64 op, .int .i64 wd, .int .i64 n, .string nm, .slice q k.len cap] 32)).trans (hb1.mono (by simp)))
    clear hb1
    go_wp2
    go_ret2
    exact ⟨by rw [HE.out] <;> rfl, B1.out⟩
end Go.Proofs.Ytkoeegeplginkaa
