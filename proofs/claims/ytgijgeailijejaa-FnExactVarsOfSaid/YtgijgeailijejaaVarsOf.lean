/- The specification's VarsOf. -/
import Derived.Test.YtgijgeailijejaaTermOk
namespace Go.Proofs.Ytgijgeailijejaa
open Go.ChangeShapes Go.WideShapes Go.ChangeAt Go.RowKit
open ValueR (all costs)
theorem acc_le : ∀ (F : Fo) (c : Nat) (V : List ValueR) (p : Nat × List ValueR), F.acc c V = some p → V.length ≤ c → c ≤ 240 → p.2.length ≤ p.1 ∧ p.1 ≤ 240
  | .nil, c, V, p, h, h1, h2 => by
    simp only [Fo.acc, Option.some.injEq] at h
    subst h
    exact ⟨h1, h2⟩
  | .cons op wd n nm k r, c, V, p, h, h1, h2 => by
    unfold Fo.acc at h
    rw [Option.bind_eq_some_iff] at h
    obtain ⟨q, hq, hr⟩ := h
    have hq2 : q.2.length ≤ q.1 ∧ q.1 ≤ 240 := by
      split at hq
      · rename_i hc
        split at hq
        · rw [Option.map_eq_some_iff] at hq
          obtain ⟨V', hV', rfl⟩ := hq
          have := addV_len hV'
          exact ⟨by show V'.length ≤ c + 1; omega, hc.1⟩
        · exact acc_le k _ _ _ hq (by omega) hc.1
      · cases hq
    exact acc_le r _ _ _ hr hq2.1 hq2.2
theorem accOne_le (op wd n : Int) (nm : ByteArray) (k : Fo) (p : Nat × List ValueR) (h : accOne op wd n nm k 0 [] = some p) : p.2.length ≤ p.1 ∧ p.1 ≤ 240 := by
  refine acc_le (.cons op wd n nm k .nil) 0 [] p ?_ (by simp) (by omega)
  unfold Fo.acc
  have e : (if 0 + 1 ≤ 240 ∧ fitB op wd n nm k.ws = true then (if op = 22 then (addV [] nm wd).map (fun V' => (0 + 1, V')) else k.acc (0 + 1) []) else none) = some p := h
  rw [e]
  rfl
theorem varsAll_len (op wd n : Int) (nm : ByteArray) (k : Fo) : (varsAll op wd n nm k).length ≤ 240 := by
  unfold varsAll
  cases h : accOne op wd n nm k 0 [] with
  | none => simp
  | some p => have := accOne_le op wd n nm k p h; show p.2.length ≤ 240; omega
def VsEnd (w : World) (V : List ValueR) (e : Ending) (w' : World) : Prop := Below w.heap.size w w' ∧ ∃ q cap, e = .returned (.slice q V.length cap) ∧ Cs.Shows w' 0 3 (.slice q V.length cap) V.length (all V)
set_option maxRecDepth 100000 in
set_option maxHeartbeats 2000000 in
theorem s_varsof (k : Fo) (op wd n : Int) (nm : ByteArray) (s : Value) (w : World) (his : (k.cs 29).Is w 0 5 k.len s) (hnm : nm.size ≤ 1048576) (hk : k.cost ≤ 1048576) :
    Calls Try.prog 21 #[.agg #[.int .i64 op, .int .i64 wd, .int .i64 n, .string nm, s]] w (VsEnd w (varsAll op wd n nm k)) := by
  have hkn := k.nodes_le
  have HIS := Lib.hid his
  obtain ⟨_, ⟨_, q, cap, rfl, _⟩, _⟩ := his
  obtain ⟨W1, hW1⟩ : ∃ W1, W1 = w.alloc (.cells #[.int .i64 op, .int .i64 wd, .int .i64 n, .string nm, .slice q k.len cap] 29) := ⟨_, rfl⟩
  have HB1 : Hid (Below w.heap.size w W1) := Lib.hid (by rw [hW1]; exact (Below.refl _ _).alloc (Nat.le_refl _) _)
  have X1 : Hid (Cell5 W1 w.heap.size (.int .i64 op) (.int .i64 wd) (.int .i64 n) (.string nm) (.slice q k.len cap)) := Lib.hid (by rw [hW1]; exact cell5_alloc _ _ _ _ _ _ _)
  have hs1 := HB1.out.size
  have ST := Lib.hid (s_termok k op wd n nm _ W1 (HIS.out.below HB1.out) hnm hk)
  have VR := Lib.hid (fun W (hW : Below w.heap.size w W) => vars_any k op wd n nm _ [] none 0 W (HIS.out.below hW) ⟨rfl, none, 0, rfl, Nat.le_refl _, by decide, fun _ => rfl, fun a h => by cases h⟩ (by simp; omega))
  have HE := Lib.hid (accOne_eq op wd n nm k)
  have HV : Hid (varsAll op wd n nm k = match accOne op wd n nm k 0 [] with | some p => p.2 | none => []) := Lib.hid rfl
  obtain ⟨V, hV⟩ : ∃ V, varsAll op wd n nm k = V := ⟨_, rfl⟩
  obtain ⟨res, hres⟩ : ∃ res, accOne op wd n nm k 0 [] = res := ⟨_, rfl⟩
  rw [hV] at HV ⊢
  rw [hres] at HE ST HV
  clear hV hres
  go_enter Try.func21, Try.ntmps21
  go_wp2_with fail
  rw [← hW1]
  clear hW1
  refine ST.out.mono ?_
  rintro e w2 ⟨rfl, hb2⟩
  have HB2 := Lib.hid (HB1.out.trans (hb2.mono hs1))
  have hs2 := HB2.out.size
  obtain ⟨x0, x1, x2, x3, x4⟩ := X1.out.below hb2
  clear hb2
  cases res with
  | none =>
    have hv : V = [] := HV.out
    have HV2 := Lib.hid hv
    clear hv
    go_wp2
    go_ret
    refine ⟨HB2.out, none, 0, ?_, ?_⟩
    · rw [HV2.out]; rfl
    · rw [HV2.out]; exact ⟨rfl, none, 0, rfl, Nat.le_refl _, by decide, fun _ => rfl, fun a h => by cases h⟩
  | some p =>
    have hp : varsOne op wd nm k [] = some V := by
      have h1 := HE.out
      have h2 : V = p.2 := HV.out
      split at h1
      · cases hv : varsOne op wd nm k [] with
        | none => rw [hv] at h1; cases h1
        | some V' => rw [hv] at h1; cases h1; rw [h2]
      · cases h1
    unfold VrEnd at VR
    rw [hp] at VR
    dsimp only at VR
    clear hp HV HE
    go_wp2_with (go_at_call 52; refine (VR.out _ HB2.out).mono ?_; rintro e w4 ⟨hb4, q4, c4, rfl, hs4⟩)
    go_ret
    exact ⟨HB2.out.trans (hb4.mono hs2), q4, c4, rfl, hs4⟩
end Go.Proofs.Ytgijgeailijejaa
