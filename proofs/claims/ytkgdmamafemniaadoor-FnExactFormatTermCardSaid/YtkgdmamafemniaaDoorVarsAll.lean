/- l02Vars, whole. -/
import Derived.Test.YtkgdmamafemniaaDoorVarsAdd
namespace Go.Proofs.YtkgdmamafemniaaDoor
open Go.ChangeShapes Go.WideShapes Go.ChangeAt Go.RowKit
open ValueR (all costs)
def VarsC (k : Fo) : Prop := ∀ (op wd n : Int) (nm : ByteArray) (s : Value) (V : List ValueR) (q : Option Addr) (cap : Nat) (w : World), (k.cs 29).Is w 0 5 k.len s → Cs.Shows w 0 3 (.slice q V.length cap) V.length (all V) → V.length + k.nodes ≤ 1048576 →
  Calls Tryd.prog 35 #[.agg #[.int .i64 op, .int .i64 wd, .int .i64 n, .string nm, s], .slice q V.length cap] w (VrEnd w (varsOne op wd nm k V))
theorem vars_len : ∀ (F : Fo) (V V' : List ValueR), F.vars V = some V' → V'.length ≤ V.length + F.nodes
  | .nil, V, V', h => by cases h; exact Nat.le_refl _
  | .cons op wd n nm k r, V, V', h => by
    unfold Fo.vars at h
    obtain ⟨V1, h1, h2⟩ := Option.bind_eq_some_iff.1 h
    have h3 := vars_len r V1 V' h2
    simp only [Fo.nodes]
    split at h1
    · have := addV_len h1; omega
    · have := vars_len k V V1 h1; omega
theorem varsOne_len {op wd : Int} {nm : ByteArray} {k : Fo} {V V' : List ValueR} (h : varsOne op wd nm k V = some V') : V'.length ≤ V.length + (1 + k.nodes) := by
  unfold varsOne at h
  split at h
  · have := addV_len h; omega
  · have := vars_len k V V' h; omega
set_option maxRecDepth 100000 in
set_option maxHeartbeats 4000000 in
theorem vars_loop (F : Fo) (hF : F.AllK VarsC) : VarsC F := by
  intro op0 wd0 n0 nm0 v V q cap w hv hl hn
  have hFl := F.len_le
  have hFb : F.len ≤ 1048576 := by omega
  by_cases h22 : op0 = 22
  · subst h22
    have e : varsOne 22 wd0 nm0 F V = addV V nm0 wd0 := rfl
    rw [e]
    exact vars_add V wd0 n0 nm0 v F q cap w hv hl (by omega)
  · have e : varsOne op0 wd0 nm0 F V = F.vars V := by unfold varsOne; rw [if_neg h22]
    rw [e]
    have h22b : ((op0 : Int) == 22) = false := by simpa using h22
    have HV := Lib.hid hv
    have HL := Lib.hid hl
    rcases Fo.is_cases hv with ⟨h0, q1, cap1, rfl⟩ | ⟨hpos, b, o, cap1, ys, rfl, _, _, _, hbl, hvs, hr⟩
    · have hnil : F = .nil := by cases F with | nil => rfl | cons => simp [Fo.len] at h0
      subst hnil
      clear hF hv hl h0 e h22
      go_enter Tryd.func35, Tryd.ntmps35
      go_wp2
      refine wp_loop_rounds 1 ?_
      rw [rounds_succ]
      go_wp2
      go_ret2
      exact vr_some ((Below.refl _ _).alloc (Nat.le_refl _) _) rfl rfl (HL.out.below ((Below.refl _ _).alloc (Nat.le_refl _) _))
    · have HI := Lib.hid (fun j (hj : j < F.len) => Fo.nth F hvs hr j hj)
      have HK := Lib.hid hF
      have HD := Lib.hid F.drop_all
      have HD0 := Lib.hid F.drop_zero
      obtain ⟨res, hres⟩ : ∃ res, F.vars V = res := ⟨_, rfl⟩
      have HR := Lib.hid hres
      rw [hres]
      clear hF hv hl hvs hr e h22 hres
      go_enter Tryd.func35, Tryd.ntmps35
      go_wp2
      go_loopw [1, 75] (fun l i wr => ∃ (j : Nat) (Vj : List ValueR) (qj : Option Addr) (cj : Nat), j ≤ F.len ∧ i = .int .i64 j ∧ l = .slice qj Vj.length cj ∧ (F.drop j).vars Vj = res ∧ Cs.Shows wr 0 3 (.slice qj Vj.length cj) Vj.length (all Vj) ∧ Below w.heap.size w wr ∧ Vj.length + (F.drop j).nodes ≤ 1048576) (fun _ i _ => F.len - (intOf i).toNat)
      case atStart => exact ⟨0, V, q, cap, Nat.zero_le _, rfl, rfl, by rw [HD0.out]; exact HR.out, HL.out.below ((Below.refl _ _).alloc (Nat.le_refl _) _), (Below.refl _ _).alloc (Nat.le_refl _) _, by rw [HD0.out]; omega⟩
      case round =>
        obtain ⟨j, Vj, qj, cj, hj, rfl, rfl, hacc, hsh, hb, hbd⟩ := hrel
        by_cases hjn : j < F.len
        · obtain ⟨op, wd, n, nm, k, v, hat, his, hrr⟩ := HI.out j hjn
          rw [vars_drop F j hat] at hacc
          obtain ⟨hn1, hn2⟩ := Fo.at_nodes F j hat
          have hk := Fo.at_allK F j hat HK.out
          have his := his.below hb
          have hrr := rangeAt_below hb hrr
          have HIS := Lib.hid his
          obtain ⟨_, ⟨_, q', cap2, rfl, _⟩, _⟩ := his
          have c0 : wr.cell? ⟨b, o + j * 5, none⟩ = some (.int .i64 op) := hrr 0 _ rfl
          have c1 : wr.cell? ⟨b, o + j * 5 + 1, none⟩ = some (.int .i64 wd) := hrr 1 _ rfl
          have c2 : wr.cell? ⟨b, o + j * 5 + 2, none⟩ = some (.int .i64 n) := hrr 2 _ rfl
          have c3 : wr.cell? ⟨b, o + j * 5 + 3, none⟩ = some (.string nm) := hrr 3 _ rfl
          have c4 : wr.cell? ⟨b, o + j * 5 + 4, none⟩ = some (.slice q' k.len cap2) := hrr 4 _ rfl
          have SO := Lib.hid (fun W (hW : Below wr.heap.size wr W) => hk op wd n nm _ Vj qj cj W (HIS.out.below hW) (hsh.below hW) (by omega))
          unfold VrEnd at SO
          have HB := Lib.hid hb
          have hsz := hb.size
          have hki : (j : Int) < (F.len : Int) := by omega
          have HLEN := Lib.hid (fun V' (h : varsOne op wd nm k Vj = some V') => varsOne_len h)
          have HN := Lib.hid (And.intro hbd hn1)
          clear hb hrr hat hk hn1 hn2 HIS HI hsh hbd
          cases ho : varsOne op wd nm k Vj with
          | none =>
            rw [ho] at SO hacc
            dsimp only at SO
            have HRN : Hid (res = none) := Lib.hid hacc.symm
            clear hacc ho
            go_wp2_with (go_at_call 35; refine (SO.out _ ((Below.refl _ _).alloc (Nat.le_refl _) _)).mono ?_; rintro e w3 ⟨hb3, vx, rfl⟩)
            go_ret2
            exact vr_none (HB.out.trans (((Below.refl wr.heap.size wr).alloc (Nat.le_refl _) _ |>.trans (hb3.mono (by simp))).mono hsz)) HRN.out rfl
          | some V' =>
            have HL' := Lib.hid (HLEN.out V' ho)
            rw [ho] at SO hacc
            dsimp only at SO
            have HRN : Hid ((F.drop (j + 1)).vars V' = res) := Lib.hid hacc
            clear hacc ho
            go_wp2_with (go_at_call 35; refine (SO.out _ ((Below.refl _ _).alloc (Nat.le_refl _) _)).mono ?_; rintro e w3 ⟨hb3, q3, c3, rfl, hs3⟩)
            go_roundw
            case rel => exact ⟨j + 1, V', q3, c3, by omega, by go_num, rfl, HRN.out, hs3, HB.out.trans (((Below.refl wr.heap.size wr).alloc (Nat.le_refl _) _ |>.trans (hb3.mono (by simp))).mono hsz), by have := HN.out; have := HL'.out; omega⟩
            case measure => simp [intOf]; omega
        · have ej : j = F.len := by omega
          have HA : Hid (res = some Vj) := Lib.hid (by rw [← hacc, ej, HD.out]; rfl)
          have HB := Lib.hid hb
          have HS := Lib.hid hsh
          have hnj : ¬ ((j : Int) < (F.len : Int)) := by omega
          clear hb hsh hacc hbd ej
          go_wp2
          go_ret2
          exact vr_some HB.out HA.out rfl HS.out
theorem vars_any : ∀ F : Fo, VarsC F := Fo.every vars_loop
end Go.Proofs.YtkgdmamafemniaaDoor
