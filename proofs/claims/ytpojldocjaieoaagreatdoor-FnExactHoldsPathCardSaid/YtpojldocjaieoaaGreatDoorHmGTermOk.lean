/- l02Node, whole: whether a node and all below it fit. The specification's TermOk and VarsOf, and that they say what the program's check says. The model of lists of terms of one width that are valid. No condition. What the specification's l06Terms returns. No condition. -/
import Derived.Test.YtpojldocjaieoaaGreatDoorHmGNode
import Derived.Test.YtpojldocjaieoaaGreatDoorHmNodeA
import Derived.Test.YtpojldocjaieoaaGreatDoorHmNodeD
import Derived.Test.YtpojldocjaieoaaGreatDoorHmGFits
import Derived.Test.YtpojldocjaieoaaGreatDoorHmGAdd
import Derived.Test.YtpojldocjaieoaaGreatDoorHmGAddVar
namespace Go.Proofs.YtpojldocjaieoaaGreatDoor
open Go.ChangeShapes Go.WideShapes Go.ChangeAt Go.RowKit
theorem node_loop (F : Fo) (hF : F.AllK NodeC) : NodeC F := by
  intro op wd n nm s w his hsz hcost
  have bad : fitB op wd n nm F.ws = false → (fitB op wd n nm F.ws && F.allB) = false := fun h => by rw [h, Bool.false_and]
  cases hw : wdB wd with
  | false =>
    rw [bad (by unfold fitB; rw [hw]; simp)]
    exact nd_bad_w op wd n nm s F w his hw
  | true =>
    cases hne : nm.toList.isEmpty with
    | false =>
      by_cases h22 : op = 22
      · subst h22
        by_cases hn : n = 0
        · subst hn; exact nd_g4 wd nm s F hF w his hsz hcost hw hne
        · rw [bad (by unfold fitB; simp [hn])]
          exact nd_bad_n2 wd n nm s F w his hw hne hn
      · rw [bad (by unfold fitB; rw [hne]; simp [h22])]
        exact nd_bad_nm op wd n nm s F w his hw hne h22
    | true =>
      obtain rfl := empty_of hne
      by_cases hn : n = 0
      · subst hn
        rcases op_casesT op with rfl | rfl | rfl | ⟨h1, h2⟩ | ⟨h1, h2⟩ | rfl | rfl | rfl | rfl | rfl | rfl | h
        · exact nd_c0 wd s F hF w his hcost hw
        · exact nd_c12 1 wd s F hF w his hcost hw (by omega) (by omega)
        · exact nd_c12 2 wd s F hF w his hcost hw (by omega) (by omega)
        · exact nd_c3 op wd s F hF w his hcost hw h1 h2
        · exact nd_c14 op wd s F hF w his hcost hw h1 h2
        · exact nd_c17 wd s F hF w his hcost hw
        · exact nd_c18 wd s F hF w his hcost hw
        · exact nd_c19 wd s F hF w his hcost hw
        · exact nd_c20 20 wd s F hF w his hcost hw (by omega) (by omega)
        · exact nd_c20 21 wd s F hF w his hcost hw (by omega) (by omega)
        · exact nd_c22 wd s F hF w his hcost hw
        · exact nd_no op wd s F hF w his hcost hw h
      · by_cases h0 : op = 0
        · subst h0; exact nd_g2 wd n s F hF w his hcost hw hn
        · by_cases h19 : op = 19
          · subst h19; exact nd_g3 wd n s F hF w his hcost hw hn
          · rw [bad (by unfold fitB; simp [hn, h0, h19])]
            exact nd_bad_n op wd n s F w his hw hn h0 h19
theorem node_any : ∀ F : Fo, NodeC F := Fo.every node_loop
end Go.Proofs.YtpojldocjaieoaaGreatDoor
namespace Go.Proofs.YtpojldocjaieoaaGreatDoor
open Go.ChangeShapes Go.WideShapes Go.ChangeAt Go.RowKit
open ValueR (all costs)
theorem fit_22_nil {wd n : Int} {nm : ByteArray} {k : Fo} (h : fitB 22 wd n nm k.ws = true) : k = .nil := by
  by_cases hl : (k.ws.length : Int) = kc 22
  · rw [kc_22, k.ws_len] at hl
    cases k with
    | nil => rfl
    | cons => simp [Fo.len] at hl; omega
  · rw [fit_mis hl] at h; cases h
theorem acc_eq : ∀ (F : Fo) (c : Nat) (V : List ValueR), c ≤ 240 → F.acc c V = if c + F.nodes ≤ 240 ∧ F.allB = true then (F.vars V).map (fun V' => (c + F.nodes, V')) else none
  | .nil, c, V, hc => by simp [Fo.acc, Fo.nodes, Fo.allB, Fo.vars, hc]
  | .cons op wd n nm k r, c, V, hc => by
    unfold Fo.acc Fo.vars
    simp only [Fo.nodes, Fo.allB, Bool.and_eq_true]
    by_cases h1 : c + 1 ≤ 240 ∧ fitB op wd n nm k.ws = true
    · rw [if_pos h1]
      by_cases h22 : op = 22
      · subst h22
        obtain rfl := fit_22_nil h1.2
        rw [if_pos rfl, if_pos rfl]
        cases ha : addV V nm wd with
        | none => simp
        | some V1 =>
          simp only [Option.map_some, Option.bind_some]
          rw [acc_eq r (c + 1) V1 h1.1]
          simp only [Fo.nodes, Fo.allB, h1.2, true_and, Nat.add_zero]
          rw [show c + 1 + r.nodes = c + (1 + r.nodes) by omega]
      · rw [if_neg h22, if_neg h22, acc_eq k (c + 1) V h1.1]
        by_cases h2 : c + 1 + k.nodes ≤ 240 ∧ k.allB = true
        · rw [if_pos h2]
          cases ha : k.vars V with
          | none => simp
          | some V1 =>
            simp only [Option.map_some, Option.bind_some]
            rw [acc_eq r (c + 1 + k.nodes) V1 h2.1]
            simp only [h1.2, h2.2, true_and]
            rw [show c + 1 + k.nodes + r.nodes = c + (1 + k.nodes + r.nodes) by omega]
        · rw [if_neg h2, if_neg (fun h => h2 ⟨by omega, h.2.1.2⟩)]
          rfl
    · rw [if_neg h1, if_neg (fun h => h1 ⟨by omega, h.2.1.1⟩)]
      rfl
theorem accOne_eq (op wd n : Int) (nm : ByteArray) (k : Fo) : accOne op wd n nm k 0 [] = if 1 + k.nodes ≤ 240 ∧ (fitB op wd n nm k.ws && k.allB) = true then (varsOne op wd nm k []).map (fun V' => (1 + k.nodes, V')) else none := by
  unfold accOne varsOne
  simp only [Bool.and_eq_true]
  by_cases h1 : 0 + 1 ≤ 240 ∧ fitB op wd n nm k.ws = true
  · rw [if_pos h1]
    by_cases h22 : op = 22
    · subst h22
      obtain rfl := fit_22_nil h1.2
      rw [if_pos rfl, if_pos rfl]
      simp [Fo.nodes, Fo.allB, h1.2]
    · rw [if_neg h22, if_neg h22, acc_eq k (0 + 1) [] (by omega)]
      simp only [h1.2, true_and, Nat.zero_add]
  · rw [if_neg h1, if_neg (fun h => h1 ⟨by omega, h.2.1⟩)]
set_option maxRecDepth 100000 in
set_option maxHeartbeats 2000000 in
theorem s_termok (k : Fo) (op wd n : Int) (nm : ByteArray) (s : Value) (w : World) (his : (k.cs 69).Is w 0 5 k.len s) (hnm : nm.size ≤ 1048576) (hk : k.cost ≤ 1048576) :
    Calls Tryz.prog 69 #[.agg #[.int .i64 op, .int .i64 wd, .int .i64 n, .string nm, s]] w fun e w' => e = .returned (.bool (accOne op wd n nm k 0 []).isSome) ∧ Below w.heap.size w w' := by
  have hkn := k.nodes_le
  have HIS := Lib.hid his
  obtain ⟨_, ⟨_, q, cap, rfl, _⟩, _⟩ := his
  obtain ⟨W1, hW1⟩ : ∃ W1, W1 = (w.alloc (.cells #[.int .i64 op, .int .i64 wd, .int .i64 n, .string nm, .slice q k.len cap] 69)).alloc (.cells #[.int .i64 240] 3) := ⟨_, rfl⟩
  have HB1 : Hid (Below w.heap.size w W1) := Lib.hid (by rw [hW1]; exact ((Below.refl _ _).alloc (Nat.le_refl _) _).alloc (by simp) _)
  have HC1 : Hid (Cnt (w.heap.size + 1) ((240 : Nat) : Int) W1) := Lib.hid (by
    rw [hW1]
    have := heap_alloc_new (w.alloc (.cells #[.int .i64 op, .int .i64 wd, .int .i64 n, .string nm, .slice q k.len cap] 69)) (.cells #[.int .i64 240] 3)
    unfold Cnt
    simpa using this)
  have X1 : Hid (Cell5 W1 w.heap.size (.int .i64 op) (.int .i64 wd) (.int .i64 n) (.string nm) (.slice q k.len cap)) := Lib.hid (by
    rw [hW1]
    exact (cell5_alloc _ _ _ _ _ _ _).below ((Below.refl _ _).alloc (Nat.le_refl _) _))
  have hsW : w.heap.size < W1.heap.size := by rw [hW1]; simp; omega
  have FW := Lib.hid (few_any k w op wd n nm _ (w.heap.size + 1) 240 W1 HIS.out HB1.out HC1.out (by omega) (Nat.le_refl _))
  have ND := Lib.hid (fun W (hW : Below w.heap.size w W) => node_any k op wd n nm _ W (HIS.out.below hW) hnm hk)
  have VR := Lib.hid (fun W (hW : Below w.heap.size w W) => vars_any k op wd n nm _ [] none 0 W (HIS.out.below hW) ⟨rfl, none, 0, rfl, Nat.le_refl _, by decide, fun _ => rfl, fun a h => by cases h⟩ (by simp; omega))
  have HE := Lib.hid (accOne_eq op wd n nm k)
  obtain ⟨res, hres⟩ : ∃ res, accOne op wd n nm k 0 [] = res := ⟨_, rfl⟩
  rw [hres] at HE ⊢
  clear hres
  go_enter Tryz.func69, Tryz.ntmps69
  go_wp2_with fail
  rw [← hW1]
  clear hW1
  refine FW.out.mono ?_
  rintro e w2 ⟨rfl, hb2, _, hap2⟩
  have HB2 := Lib.hid hb2
  have X2 : Hid (Cell5 w2 w.heap.size (.int .i64 op) (.int .i64 wd) (.int .i64 n) (.string nm) (.slice q k.len cap)) := Lib.hid (by
    obtain ⟨a0, a1, a2, a3, a4⟩ := X1.out
    have e : ∀ o, w2.cell? ⟨w.heap.size, o, none⟩ = W1.cell? ⟨w.heap.size, o, none⟩ := fun o => by
      unfold World.cell?
      rw [hap2.block w.heap.size hsW (by simp)]
    exact ⟨(e 0).trans a0, (e 1).trans a1, (e 2).trans a2, (e 3).trans a3, (e 4).trans a4⟩)
  have hs2 := hb2.size
  clear hb2 hap2
  obtain ⟨x0, x1, x2, x3, x4⟩ := X2.out
  by_cases hf : 1 + k.nodes ≤ 240
  · have hfd : decide (1 + k.nodes ≤ 240) = true := decide_eq_true hf
    rw [hfd]
    go_wp2_with fail
    refine (ND.out w2 HB2.out).mono ?_
    rintro e w3 ⟨rfl, hb3⟩
    have HB3 := Lib.hid (HB2.out.trans (hb3.mono hs2))
    have X3 := Lib.hid (X2.out.below hb3)
    have hs3 := HB3.out.size
    clear hb3 x0 x1 x2 x3 x4
    obtain ⟨x0, x1, x2, x3, x4⟩ := X3.out
    cases hg : (fitB op wd n nm k.ws && k.allB) with
    | false =>
      have HR : Hid (res = none) := Lib.hid (by rw [HE.out, if_neg (fun h => by rw [hg] at h; cases h.2)])
      clear hg hfd hf
      go_wp2
      go_ret
      exact ⟨by rw [HR.out]; rfl, HB3.out⟩
    | true =>
      have HR : Hid (res = (varsOne op wd nm k []).map (fun V' => (1 + k.nodes, V'))) := Lib.hid (by rw [HE.out, if_pos ⟨hf, hg⟩])
      clear hg hfd hf
      unfold VrEnd at VR
      cases hv : varsOne op wd nm k [] with
      | none =>
        rw [hv] at VR HR
        dsimp only at VR
        clear hv
        go_wp2_with (go_at_call 92; refine (VR.out _ HB3.out).mono ?_; rintro e w4 ⟨hb4, vx, rfl⟩)
        go_ret
        exact ⟨by rw [HR.out]; rfl, HB3.out.trans (hb4.mono hs3)⟩
      | some V' =>
        rw [hv] at VR HR
        dsimp only at VR
        clear hv
        go_wp2_with (go_at_call 92; refine (VR.out _ HB3.out).mono ?_; rintro e w4 ⟨hb4, q4, c4, rfl, _⟩)
        go_ret
        exact ⟨by rw [HR.out]; rfl, HB3.out.trans (hb4.mono hs3)⟩
  · have hfd : decide (1 + k.nodes ≤ 240) = false := decide_eq_false hf
    have HR : Hid (res = none) := Lib.hid (by rw [HE.out, if_neg (fun h => hf h.1)])
    rw [hfd]
    clear hfd hf
    go_wp2
    go_ret
    exact ⟨by rw [HR.out]; rfl, HB2.out⟩
end Go.Proofs.YtpojldocjaieoaaGreatDoor
namespace Go.Proofs.YtpojldocjaieoaaGreatDoor
open Go.ChangeShapes Go.WideShapes Go.ChangeAt Go.RowKit
/-- one term is valid -/
noncomputable def tkB (op wd n : Int) (nm : ByteArray) (k : Fo) : Bool := (accOne op wd n nm k 0 []).isSome
/-- all terms are valid and have a width -/
noncomputable def tmB : Fo → Int → Bool
  | .nil, _ => true
  | .cons op wd n nm k r, w => (decide (wd = w) && tkB op wd n nm k) && tmB r w
theorem tm_take : ∀ (F : Fo) (j : Nat) {op wd n w : Int} {nm : ByteArray} {k : Fo}, F.At j op wd n nm k → tmB (F.take (j + 1)) w = (tmB (F.take j) w && (decide (wd = w) && tkB op wd n nm k))
  | .nil, _, _, _, _, _, _, _, h => h.elim
  | .cons _ _ _ _ _ _, 0, _, _, _, _, _, _, ⟨rfl, rfl, rfl, rfl, rfl⟩ => by simp [Fo.take, Fo.take_zero, tmB]
  | .cons _ _ _ _ _ r, j + 1, _, _, _, _, _, _, h => by
    simp only [Fo.take, tmB]
    rw [tm_take r j h, ← Bool.and_assoc]
theorem tm_bad : ∀ (F : Fo) (j : Nat) {op wd n w : Int} {nm : ByteArray} {k : Fo}, F.At j op wd n nm k → (decide (wd = w) && tkB op wd n nm k) = false → tmB F w = false
  | .nil, _, _, _, _, _, _, _, h, _ => h.elim
  | .cons _ _ _ _ _ _, 0, _, _, _, _, _, _, ⟨rfl, rfl, rfl, rfl, rfl⟩, hb => by simp only [tmB, hb, Bool.false_and]
  | .cons _ _ _ _ _ r, j + 1, _, _, _, _, _, _, h, hb => by
    simp only [tmB, tm_bad r j h hb, Bool.and_false]
theorem tm_zero (F : Fo) (w : Int) : tmB (F.take 0) w = true := by rw [Fo.take_zero]; rfl
/-- what a node at an index costs -/
theorem at_cost : ∀ (F : Fo) (j : Nat) {op wd n : Int} {nm : ByteArray} {k : Fo}, F.At j op wd n nm k → nm.size + k.cost ≤ F.cost
  | .nil, _, _, _, _, _, _, h => h.elim
  | .cons _ _ _ _ _ r, 0, _, _, _, _, _, ⟨rfl, rfl, rfl, rfl, rfl⟩ => by simp only [Fo.cost]; omega
  | .cons _ _ _ _ _ r, j + 1, _, _, _, _, _, h => by have := at_cost r j h; simp only [Fo.cost]; omega
end Go.Proofs.YtpojldocjaieoaaGreatDoor
namespace Go.Proofs.YtpojldocjaieoaaGreatDoor
open Go.ChangeShapes Go.WideShapes Go.ChangeAt Go.RowKit
set_option maxRecDepth 100000 in
set_option maxHeartbeats 4000000 in
theorem s_terms (F : Fo) (vw : Int) (v : Value) (w : World) (hv : (F.cs 69).Is w 0 5 F.len v) (hc : F.cost ≤ 1048576) :
    Calls Tryz.prog 47 #[v, .int .i64 vw] w fun e w' => e = .returned (.bool (tmB F vw)) ∧ Below w.heap.size w w' := by
  have hml : maxLen = 9223372036854775807 := rfl
  have hFn := F.nodes_le
  have hFl := F.len_le
  rcases Fo.is_cases hv with ⟨h0, q, cap, rfl⟩ | ⟨hpos, b, o, cap, ys, rfl, hc1, hc2, _, hbl, hvs, hr⟩
  · have hF : F = .nil := by cases F with | nil => rfl | cons => simp [Fo.len] at h0
    subst hF
    clear hv h0 hc hFn hFl
    go_enter Tryz.func47, Tryz.ntmps47
    go_wp2
    refine wp_loop_rounds 1 ?_
    rw [rounds_succ]
    go_wp2
    go_ret
    exact ⟨rfl, Below.refl _ _⟩
  · have HI := Lib.hid (fun j (hj : j < F.len) => Fo.nth F hvs hr j hj)
    have HC := Lib.hid hc
    clear hv hvs hr
    go_enter Tryz.func47, Tryz.ntmps47
    go_wp2
    go_loopw [9] (fun i wr => ∃ j : Nat, j ≤ F.len ∧ i = .int .i64 j ∧ tmB (F.take j) vw = true ∧ Below w.heap.size w wr) (fun i _ => F.len - (intOf i).toNat)
    case atStart => exact ⟨0, Nat.zero_le _, rfl, tm_zero F vw, Below.refl _ _⟩
    case round =>
      obtain ⟨j, hj, rfl, ht, hb⟩ := hrel
      have HT := Lib.hid ht
      have HB := Lib.hid hb
      have hsr := hb.size
      by_cases hjn : j < F.len
      · obtain ⟨op, wd, n, nm, k, sv, hat, his, hrr⟩ := HI.out j hjn
        have hcst := at_cost F j hat
        have HTT := Lib.hid (tm_take F j (w := vw) hat)
        have HTB := Lib.hid (tm_bad F j (w := vw) hat)
        have hrr := rangeAt_below hb hrr
        have c0 : wr.cell? ⟨b, o + j * 5, none⟩ = some (.int .i64 op) := hrr 0 _ rfl
        have c1 : wr.cell? ⟨b, o + j * 5 + 1, none⟩ = some (.int .i64 wd) := hrr 1 _ rfl
        have c2 : wr.cell? ⟨b, o + j * 5 + 2, none⟩ = some (.int .i64 n) := hrr 2 _ rfl
        have c3 : wr.cell? ⟨b, o + j * 5 + 3, none⟩ = some (.string nm) := hrr 3 _ rfl
        have c4 : wr.cell? ⟨b, o + j * 5 + 4, none⟩ = some sv := hrr 4 _ rfl
        have hji : (j : Int) < (F.len : Int) := by omega
        have HIS := Lib.hid his
        have hbw : b < wr.heap.size := by omega
        clear his hat hrr ht hb
        obtain ⟨_, ⟨_, sq, sc, rfl, _⟩, _⟩ := HIS.out
        obtain ⟨w1, hw1⟩ : ∃ W, W = wr.alloc (.cells #[.int .i64 op, .int .i64 wd, .int .i64 n, .string nm, .slice sq k.len sc] 69) := ⟨_, rfl⟩
        have hb1 : Below wr.heap.size wr w1 := by rw [hw1]; exact (Below.refl _ _).alloc (Nat.le_refl _) _
        have HB1 := Lib.hid (HB.out.trans (hb1.mono hsr))
        have XB1 := Lib.hid (show w1.heap[wr.heap.size]? = some (.cells #[.int .i64 op, .int .i64 wd, .int .i64 n, .string nm, .slice sq k.len sc] 69 (0, 0)) by rw [hw1]; exact heap_alloc_new _ _)
        have KT := Lib.hid (s_termok k op wd n nm (.slice sq k.len sc) w1 (HIS.out.below HB1.out) (by omega) (by omega))
        have hs1 := HB1.out.size
        clear hb1
        go_wp2_with fail
        rw [← hw1]
        clear hw1 c0 c1 c2 c3 c4
        refine KT.out.mono ?_
        rintro e w2 ⟨rfl, hb2⟩
        have HB2 := Lib.hid (HB1.out.trans (hb2.mono hs1))
        have XB2 := Lib.hid ((hb2.block wr.heap.size ((Array.getElem?_eq_some_iff.1 XB1.out).1)).trans XB1.out)
        clear hb2
        obtain ⟨d1, hd1⟩ : ∃ d, (accOne op wd n nm k 0 []).isSome = d := ⟨_, rfl⟩
        unfold tkB at HTT HTB
        rw [hd1] at HTT HTB ⊢
        clear hd1
        have y1 : w2.cell? ⟨wr.heap.size, 1, none⟩ = some (.int .i64 wd) := cell_of_row w2 wr.heap.size 1 _ _ _ XB2.out
        cases d1
        case false =>
          have HV := Lib.hid (HTB.out (by simp))
          go_wp2
          go_ret
          rw [HV.out]
          exact ⟨rfl, HB2.out⟩
        case true =>
          by_cases hwd : wd = vw
          case neg =>
            have HV := Lib.hid (HTB.out (by rw [decide_eq_false hwd]; rfl))
            have hne : (wd == vw) = false := by simpa using hwd
            go_wp2
            go_ret
            rw [HV.out]
            exact ⟨rfl, HB2.out⟩
          case pos =>
            have HN := Lib.hid (show tmB (F.take (j + 1)) vw = true by rw [HTT.out, HT.out, decide_eq_true hwd]; rfl)
            clear HTT HTB
            subst hwd
            go_wp2
            go_roundw
            case rel => exact ⟨j + 1, by omega, by go_num, HN.out, HB2.out⟩
            case measure => simp [intOf]; omega
      · have ej : j = F.len := by omega
        have hji : ¬ ((j : Int) < (F.len : Int)) := by omega
        have HV := Lib.hid (show tmB F vw = true by rw [← F.take_all, ← ej]; exact HT.out)
        go_wp2
        go_ret
        rw [HV.out]
        exact ⟨rfl, HB.out⟩
end Go.Proofs.YtpojldocjaieoaaGreatDoor
