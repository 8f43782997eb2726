/- What the specification's CompareTerms returns. No condition. -/
import Derived.Test.YtimjkgciakbolaaCmpT
import Derived.Test.YtimjkgciakbolaaReg
namespace Go.Proofs.Ytimjkgciakbolaa
open Go.ChangeShapes Go.WideShapes Go.ChangeAt Go.RowKit
theorem len_drop : ∀ (F : Fo) (j : Nat), (F.drop j).len = F.len - j
  | F, 0 => by rw [Fo.drop_zero]; rfl
  | .nil, j + 1 => by show Fo.nil.len = _; simp [Fo.len]
  | .cons _ _ _ _ _ r, j + 1 => by show (r.drop j).len = _; rw [len_drop r j]; simp only [Fo.len]; omega
theorem cmpN_1 {op wd n op' wd' n' : Int} {nm nm' : ByteArray} (h1 : sgn op op' ≠ 0) : cmpN op wd n nm op' wd' n' nm' = sgn op op' := by unfold cmpN; rw [if_pos h1]
theorem cmpN_2 {op wd n op' wd' n' : Int} {nm nm' : ByteArray} (h1 : sgn op op' = 0) (h2 : sgn wd wd' ≠ 0) : cmpN op wd n nm op' wd' n' nm' = sgn wd wd' := by unfold cmpN; rw [if_neg (fun h => h h1), if_pos h2]
theorem cmpN_3 {op wd n op' wd' n' : Int} {nm nm' : ByteArray} (h1 : sgn op op' = 0) (h2 : sgn wd wd' = 0) (h3 : sgn n n' ≠ 0) : cmpN op wd n nm op' wd' n' nm' = sgn n n' := by unfold cmpN; rw [if_neg (fun h => h h1), if_neg (fun h => h h2), if_pos h3]
theorem cmpN_4 {op wd n op' wd' n' : Int} {nm nm' : ByteArray} (h1 : sgn op op' = 0) (h2 : sgn wd wd' = 0) (h3 : sgn n n' = 0) : cmpN op wd n nm op' wd' n' nm' = cmpS nm nm' := by unfold cmpN; rw [if_neg (fun h => h h1), if_neg (fun h => h h2), if_neg (fun h => h h3)]
theorem cmpOne_n {op wd n op' wd' n' c : Int} {nm nm' : ByteArray} {k k' : Fo} (h : cmpN op wd n nm op' wd' n' nm' = c) (h0 : c ≠ 0) : cmpOne op wd n nm k op' wd' n' nm' k' = c := by unfold cmpOne; rw [if_pos (by rw [h]; exact h0), h]
theorem kid_at {F : Fo} {w : World} {q : Option Addr} {cap : Nat} (h : (F.cs 28).Is w 0 5 F.len (.slice q F.len cap)) (j : Nat) (hj : j < F.len) :
    ∃ b o, q = some ⟨b, o, none⟩ ∧ ∃ op wd n nm k v, F.At j op wd n nm k ∧ (k.cs 28).Is w 0 5 k.len v ∧ w.rangeAt b (o + j * 5) [.int .i64 op, .int .i64 wd, .int .i64 n, .string nm, v] := by
  rcases Fo.is_cases h with ⟨h0, _⟩ | ⟨_, b, o, cap', ys, e, _, _, _, _, hvs, hr⟩
  · omega
  · injection e with e1 e2 e3
    exact ⟨b, o, e1, Fo.nth F hvs hr j hj⟩
def CmS (F : Fo) : Prop := ∀ (G : Fo) (op wd n op' wd' n' : Int) (nm nm' : ByteArray) (s s' : Value) (w : World), (F.cs 28).Is w 0 5 F.len s → (G.cs 28).Is w 0 5 G.len s' → F.cost ≤ 1048576 → G.cost ≤ 1048576 →
  Calls Try.prog 15 #[.agg #[.int .i64 op, .int .i64 wd, .int .i64 n, .string nm, s], .agg #[.int .i64 op', .int .i64 wd', .int .i64 n', .string nm', s']] w fun e w' => e = .returned (.int .i64 (cmpOne op wd n nm F op' wd' n' nm' G)) ∧ Below w.heap.size w w'
set_option maxRecDepth 100000 in
set_option maxHeartbeats 4000000 in
theorem s_cmp_loop (F : Fo) (hF : F.AllK CmS) : CmS F := by
  intro G op wd n op' wd' n' nm nm' s s' w his his' hc hc'
  have hml : maxLen = 9223372036854775807 := rfl
  have hfl : F.len ≤ 1048576 := by have := F.cost_eq; omega
  have hgl : G.len ≤ 1048576 := by have := G.cost_eq; omega
  have HIS := Lib.hid his
  have HIS2 := Lib.hid his'
  have HK := Lib.hid hF
  obtain ⟨_, ⟨_, q, cap, rfl, _⟩, _⟩ := his
  obtain ⟨_, ⟨_, q', cap', rfl, _⟩, _⟩ := his'
  clear hF
  obtain ⟨R, hR⟩ : ∃ R, cmpOne op wd n nm F op' wd' n' nm' G = R := ⟨_, rfl⟩
  have HR := Lib.hid hR
  rw [hR]
  clear hR
  go_enter Try.func15, Try.ntmps15
  have X1 := Lib.hid ((cell5_alloc w 28 (.int .i64 op) (.int .i64 wd) (.int .i64 n) (.string nm) (.slice q F.len cap)).below ((Below.refl _ _).alloc (Nat.le_refl _) (.cells #[.int .i64 op', .int .i64 wd', .int .i64 n', .string nm', .slice q' G.len cap'] 28)))
  have X2 := Lib.hid (cell5_alloc (w.alloc (.cells #[.int .i64 op, .int .i64 wd, .int .i64 n, .string nm, .slice q F.len cap] 28)) 28 (.int .i64 op') (.int .i64 wd') (.int .i64 n') (.string nm') (.slice q' G.len cap'))
  have B1 := Lib.hid (((Below.refl w.heap.size w).alloc (Nat.le_refl _) (.cells #[.int .i64 op, .int .i64 wd, .int .i64 n, .string nm, .slice q F.len cap] 28)).alloc (by simp) (.cells #[.int .i64 op', .int .i64 wd', .int .i64 n', .string nm', .slice q' G.len cap'] 28))
  obtain ⟨w1, hw1⟩ : ∃ w1, w1 = (w.alloc (.cells #[.int .i64 op, .int .i64 wd, .int .i64 n, .string nm, .slice q F.len cap] 28)).alloc (.cells #[.int .i64 op', .int .i64 wd', .int .i64 n', .string nm', .slice q' G.len cap'] 28) := ⟨_, rfl⟩
  have hs1 : w1.heap.size = w.heap.size + 2 := by rw [hw1]; simp
  have hsz0 : (w.alloc (.cells #[.int .i64 op, .int .i64 wd, .int .i64 n, .string nm, .slice q F.len cap] 28)).heap.size = w.heap.size + 1 := by simp
  rw [hsz0] at X2
  rw [← hw1] at X1 X2 B1
  clear hsz0
  go_wp2
  rw [← hw1]
  clear hw1
  have HCW := Lib.hid ((Below.refl w1.heap.size w1).drew)
  refine region_c (fun W => Below w1.heap.size w1 W) (by kernel_rfl) ?_
  refine take_c (i := 0) (v := .pointer (some ⟨w.heap.size, 0, none⟩)) rfl (by kernel_rfl) (by kernel_rfl) (by kernel_rfl) (fun _ _ _ h => h) HCW.out rfl (fun W hW => ?_) ?_
  · go_simp
    all_goals (first | omega | (simp; omega))
  refine take_c (i := 1) (v := .int .i64 op) rfl (by kernel_rfl) (by kernel_rfl) (by kernel_rfl) (fun _ _ _ h => h) HCW.out rfl (fun W hW => ?_) ?_
  · obtain ⟨x0, x1, x2, x3, x4⟩ := X1.out.below hW
    go_simp
    all_goals (first | omega | (simp; omega))
  refine take_c (i := 2) (v := .pointer (some ⟨w.heap.size + 1, 0, none⟩)) rfl (by kernel_rfl) (by kernel_rfl) (by kernel_rfl) (fun _ _ _ h => h) HCW.out rfl (fun W hW => ?_) ?_
  · go_simp
    all_goals (first | omega | (simp; omega))
  refine take_c (i := 3) (v := .int .i64 op') rfl (by kernel_rfl) (by kernel_rfl) (by kernel_rfl) (fun _ _ _ h => h) HCW.out rfl (fun W hW => ?_) ?_
  · obtain ⟨x0, x1, x2, x3, x4⟩ := X2.out.below hW
    go_simp
    all_goals (first | omega | (simp; omega))
  refine take_k (i := 4) (v := .int .i64 (sgn op op')) rfl (by kernel_rfl) (by kernel_rfl) (by kernel_rfl) (fun _ _ _ h => h) HCW.out rfl (fun W hW => ⟨_, _, ?_, s_sign op op' W⟩) ?_
  · go_simp
    all_goals (first | omega | (simp; omega))
  refine take_c (i := 5) (v := .pointer (some ⟨w.heap.size, 1, none⟩)) rfl (by kernel_rfl) (by kernel_rfl) (by kernel_rfl) (fun _ _ _ h => h) HCW.out rfl (fun W hW => ?_) ?_
  · go_simp
    all_goals (first | omega | (simp; omega))
  refine take_c (i := 6) (v := .int .i64 wd) rfl (by kernel_rfl) (by kernel_rfl) (by kernel_rfl) (fun _ _ _ h => h) HCW.out rfl (fun W hW => ?_) ?_
  · obtain ⟨x0, x1, x2, x3, x4⟩ := X1.out.below hW
    go_simp
    all_goals (first | omega | (simp; omega))
  refine take_c (i := 7) (v := .pointer (some ⟨w.heap.size + 1, 1, none⟩)) rfl (by kernel_rfl) (by kernel_rfl) (by kernel_rfl) (fun _ _ _ h => h) HCW.out rfl (fun W hW => ?_) ?_
  · go_simp
    all_goals (first | omega | (simp; omega))
  refine take_c (i := 8) (v := .int .i64 wd') rfl (by kernel_rfl) (by kernel_rfl) (by kernel_rfl) (fun _ _ _ h => h) HCW.out rfl (fun W hW => ?_) ?_
  · obtain ⟨x0, x1, x2, x3, x4⟩ := X2.out.below hW
    go_simp
    all_goals (first | omega | (simp; omega))
  refine take_k (i := 9) (v := .int .i64 (sgn wd wd')) rfl (by kernel_rfl) (by kernel_rfl) (by kernel_rfl) (fun _ _ _ h => h) HCW.out rfl (fun W hW => ⟨_, _, ?_, s_sign wd wd' W⟩) ?_
  · go_simp
    all_goals (first | omega | (simp; omega))
  refine take_c (i := 10) (v := .pointer (some ⟨w.heap.size, 2, none⟩)) rfl (by kernel_rfl) (by kernel_rfl) (by kernel_rfl) (fun _ _ _ h => h) HCW.out rfl (fun W hW => ?_) ?_
  · go_simp
    all_goals (first | omega | (simp; omega))
  refine take_c (i := 11) (v := .int .i64 n) rfl (by kernel_rfl) (by kernel_rfl) (by kernel_rfl) (fun _ _ _ h => h) HCW.out rfl (fun W hW => ?_) ?_
  · obtain ⟨x0, x1, x2, x3, x4⟩ := X1.out.below hW
    go_simp
    all_goals (first | omega | (simp; omega))
  refine take_c (i := 12) (v := .pointer (some ⟨w.heap.size + 1, 2, none⟩)) rfl (by kernel_rfl) (by kernel_rfl) (by kernel_rfl) (fun _ _ _ h => h) HCW.out rfl (fun W hW => ?_) ?_
  · go_simp
    all_goals (first | omega | (simp; omega))
  refine take_c (i := 13) (v := .int .i64 n') rfl (by kernel_rfl) (by kernel_rfl) (by kernel_rfl) (fun _ _ _ h => h) HCW.out rfl (fun W hW => ?_) ?_
  · obtain ⟨x0, x1, x2, x3, x4⟩ := X2.out.below hW
    go_simp
    all_goals (first | omega | (simp; omega))
  refine take_k (i := 14) (v := .int .i64 (sgn n n')) rfl (by kernel_rfl) (by kernel_rfl) (by kernel_rfl) (fun _ _ _ h => h) HCW.out rfl (fun W hW => ⟨_, _, ?_, s_sign n n' W⟩) ?_
  · go_simp
    all_goals (first | omega | (simp; omega))
  refine take_c (i := 17) (v := .int .i64 0) rfl (by kernel_rfl) (by kernel_rfl) (by kernel_rfl) (fun _ _ _ h => h) HCW.out rfl (fun W hW => ?_) ?_
  · obtain ⟨x0, x1, x2, x3, x4⟩ := X1.out.below hW
    go_simp
    all_goals (first | omega | (simp; omega))
  refine one_c (i := 15) (by kernel_rfl) (op_list rfl ?_)
  go_wp2
  obtain ⟨w2, hw2⟩ : ∃ w2, w2 = (w1.alloc (.cells #[.int .i64 (sgn op op'), .int .i64 (sgn wd wd'), .int .i64 (sgn n n')] 3)).drew := ⟨_, rfl⟩
  rw [← hw2]
  have HL : Hid (∀ (i : Nat) v, #[Value.int .i64 (sgn op op'), .int .i64 (sgn wd wd'), .int .i64 (sgn n n')][i]? = some v → w2.cell? ⟨w.heap.size + 2, i, none⟩ = some v) := Lib.hid (by
    intro i v h
    rw [hw2, ← hs1]
    exact (cell_of_row _ w1.heap.size i _ 3 (0, 0) (heap_alloc_new w1 (.cells #[.int .i64 (sgn op op'), .int .i64 (sgn wd wd'), .int .i64 (sgn n n')] 3))).trans h)
  replace HCW : Hid (Below w1.heap.size w1 w2) := Lib.hid (by rw [hw2]; exact ((Below.refl _ _).alloc (Nat.le_refl _) _).drew)
  clear hw2
  refine ⟨HCW.out, ?_⟩
  refine take_c (i := 16) (v := .int .i64 3) rfl (by kernel_rfl) (by kernel_rfl) (by kernel_rfl) (fun _ _ _ h => h) HCW.out rfl (fun W hW => ?_) ?_
  · go_simp
    all_goals (first | omega | (simp; omega))
  refine done_c (by kernel_rfl) ?_ _
  have l0 := HL.out 0 _ rfl
  have l1 := HL.out 1 _ rfl
  have l2 := HL.out 2 _ rfl
  clear HL
  go_wp2
  by_cases h1 : sgn op op' ≠ 0
  · have e1 : (sgn op op' == 0) = false := by simpa using h1
    have HV := Lib.hid (show R = sgn op op' from (HR.out.symm.trans (cmpOne_n (cmpN_1 h1) h1)))
    clear HR HK HIS HIS2
    refine wp_loop_rounds 1 ?_
    rw [rounds_succ]
    go_wp2
    go_ret
    exact ⟨by rw [HV.out]; rfl, B1.out.trans (HCW.out.mono B1.out.size)⟩
  have h1 : sgn op op' = 0 := by simpa using h1
  by_cases h2 : sgn wd wd' ≠ 0
  · have e1 : (sgn wd wd' == 0) = false := by simpa using h2
    have HV := Lib.hid (show R = sgn wd wd' from (HR.out.symm.trans (cmpOne_n (cmpN_2 h1 h2) h2)))
    rw [h1] at l0
    clear HR HK HIS HIS2
    refine wp_loop_rounds 2 ?_
    rw [rounds_succ]
    go_wp2
    rw [rounds_succ]
    go_wp2
    go_ret
    exact ⟨by rw [HV.out]; rfl, B1.out.trans (HCW.out.mono B1.out.size)⟩
  have h2 : sgn wd wd' = 0 := by simpa using h2
  by_cases h3 : sgn n n' ≠ 0
  · have e1 : (sgn n n' == 0) = false := by simpa using h3
    have HV := Lib.hid (show R = sgn n n' from (HR.out.symm.trans (cmpOne_n (cmpN_3 h1 h2 h3) h3)))
    rw [h1] at l0
    rw [h2] at l1
    clear HR HK HIS HIS2
    refine wp_loop_rounds 3 ?_
    rw [rounds_succ]
    go_wp2
    rw [rounds_succ]
    go_wp2
    rw [rounds_succ]
    go_wp2
    go_ret
    exact ⟨by rw [HV.out]; rfl, B1.out.trans (HCW.out.mono B1.out.size)⟩
  have h3 : sgn n n' = 0 := by simpa using h3
  have HR1 := Lib.hid (show R = if cmpS nm nm' ≠ 0 then cmpS nm nm' else F.cmp G by rw [← HR.out]; unfold cmpOne; rw [cmpN_4 h1 h2 h3])
  rw [h1] at l0
  rw [h2] at l1
  rw [h3] at l2
  clear HR h1 h2 h3
  obtain ⟨y0, y1, y2, y3, y4⟩ := X1.out.below HCW.out
  obtain ⟨z0, z1, z2, z3, z4⟩ := X2.out.below HCW.out
  have HB2 := Lib.hid (B1.out.trans (HCW.out.mono B1.out.size))
  refine wp_loop_rounds 4 ?_
  rw [rounds_succ]
  go_wp2
  rw [rounds_succ]
  go_wp2
  rw [rounds_succ]
  go_wp2
  rw [rounds_succ]
  rcases cmp_cases nm nm' with ⟨k1, k2, k3⟩ | ⟨rfl, k2, k3⟩ | ⟨k0, k2, k3, k1⟩
  · have e1 : (nm.toList == nm'.toList) = false := by simpa using fun e => k3 (ba_ext e)
    have HV := Lib.hid (show R = -1 by rw [HR1.out, k2, if_pos (by omega)])
    clear HR1 HK HIS HIS2 k2 k3
    go_wp2
    go_ret
    exact ⟨by rw [HV.out]; rfl, HB2.out⟩
  rotate_left
  · have e1 : (nm.toList == nm'.toList) = false := by simpa using fun e => k3 (ba_ext e)
    have HV := Lib.hid (show R = 1 by rw [HR1.out, k2, if_pos (by omega)])
    clear HR1 HK HIS HIS2 k2 k3 k0
    go_wp2
    go_ret
    exact ⟨by rw [HV.out]; rfl, HB2.out⟩
  have e1 : (nm.toList == nm.toList) = true := by simp
  have HV := Lib.hid (show R = F.cmp G by rw [HR1.out, k2]; rfl)
  clear HR1 k2 k3
  have HFK := Lib.hid (fun j (hj : j < F.len) => kid_at HIS.out j hj)
  have HGK := Lib.hid (fun j (hj : j < G.len) => kid_at HIS2.out j hj)
  have HCF := Lib.hid (fun j op wd n nm k (h : F.At j op wd n nm k) => show k.cost ≤ 1048576 by have := Fo.at_paid F j h; have := F.cost_eq; omega)
  have HCG := Lib.hid (fun j op wd n nm k (h : G.At j op wd n nm k) => show k.cost ≤ 1048576 by have := Fo.at_paid G j h; have := G.cost_eq; omega)
  clear HIS HIS2
  go_wp2
  clear l0 l1 l2 y0 y1 y2 y3 y4 z0 z1 z2 z3 z4 e1
  go_loopw [48] (fun i wr => ∃ (j : Nat), j ≤ F.len ∧ j ≤ G.len ∧ i = .int .i64 j ∧ F.cmp G = (F.drop j).cmp (G.drop j) ∧ Below w.heap.size w wr ∧ Below w1.heap.size w1 wr) (fun i _ => F.len - (intOf i).toNat)
  case atStart => exact ⟨0, Nat.zero_le _, Nat.zero_le _, rfl, by rw [Fo.drop_zero, Fo.drop_zero], HB2.out, HCW.out⟩
  case round =>
    obtain ⟨j, hj, hjg, rfl, hcmp, hb, hb1⟩ := hrel
    have HB := Lib.hid hb
    have HBW := Lib.hid hb1
    have HCM := Lib.hid hcmp
    have hsz := hb1.size
    have hlt : w.heap.size + 1 < wr.heap.size := by omega
    obtain ⟨z0, z1, z2, z3, z4⟩ := X2.out.below hb1
    clear hb hb1 hcmp
    by_cases hjn : j < F.len
    · obtain ⟨b, o, rfl, op0, wd0, n0, nm0, k, u, hat, his, hrr⟩ := HFK.out j hjn
      have hk := Fo.at_allK F j hat HK.out
      have hrr := rangeAt_below HB.out hrr
      have HISK := Lib.hid his
      obtain ⟨_, ⟨_, q0, cap0, rfl, _⟩, _⟩ := his
      have c0 : wr.cell? ⟨b, o + j * 5, none⟩ = some (.int .i64 op0) := hrr 0 _ rfl
      have c1 : wr.cell? ⟨b, o + j * 5 + 1, none⟩ = some (.int .i64 wd0) := hrr 1 _ rfl
      have c2 : wr.cell? ⟨b, o + j * 5 + 2, none⟩ = some (.int .i64 n0) := hrr 2 _ rfl
      have c3 : wr.cell? ⟨b, o + j * 5 + 3, none⟩ = some (.string nm0) := hrr 3 _ rfl
      have c4 : wr.cell? ⟨b, o + j * 5 + 4, none⟩ = some (.slice q0 k.len cap0) := hrr 4 _ rfl
      have hki : (j : Int) < (F.len : Int) := by omega
      clear hrr
      by_cases hjq : j = G.len
      · have eq1 : ((j : Int) == (G.len : Int)) = true := by simp; omega
        have HV1 := Lib.hid (show R = 1 by
          rw [HV.out, HCM.out, hjq, drop_past G G.len (Nat.le_refl _), ← hjq, Fo.drop_at F j hat]; rfl)
        clear hat hk HISK HFK HGK HK hjq
        go_wp2
        go_ret
        exact ⟨by rw [HV1.out]; rfl, HB.out.alloc HB.out.size _⟩
      · have eq1 : ((j : Int) == (G.len : Int)) = false := by simp; omega
        obtain ⟨b', o', rfl, op1, wd1, n1, nm1, k1, u1, hat1, his1, hrr1⟩ := HGK.out j (by omega)
        have hrr1 := rangeAt_below HB.out hrr1
        have HISK1 := Lib.hid his1
        obtain ⟨_, ⟨_, q1, cap1, rfl, _⟩, _⟩ := his1
        have hkg : (j : Int) < (G.len : Int) := by omega
        have SO := Lib.hid (fun W (hW : Below w.heap.size w W) => hk k1 op0 wd0 n0 op1 wd1 n1 nm0 nm1 _ _ W (HISK.out.below hW) (HISK1.out.below hW) (HCF.out _ _ _ _ _ _ hat) (HCG.out _ _ _ _ _ _ hat1))
        have HNX := Lib.hid (HV.out.trans (HCM.out.trans (cmp_at hat hat1)))
        clear hat hat1 hk HISK HISK1 HFK HGK HK HCM hjq
        go_wp2
        obtain ⟨w3, hw3⟩ : ∃ w3, w3 = wr.alloc (.cells #[.int .i64 op0, .int .i64 wd0, .int .i64 n0, .string nm0, .slice q0 k.len cap0] 28) := ⟨_, rfl⟩
        have HB3 : Hid (Below w.heap.size w w3) := Lib.hid (by rw [hw3]; exact HB.out.alloc HB.out.size _)
        have HBR : Hid (Below wr.heap.size wr w3) := Lib.hid (by rw [hw3]; exact (Below.refl _ _).alloc (Nat.le_refl _) _)
        have HBW3 : Hid (Below w1.heap.size w1 w3) := Lib.hid (by rw [hw3]; exact HBW.out.alloc HBW.out.size _)
        have X3 : Cell5 w3 wr.heap.size (.int .i64 op0) (.int .i64 wd0) (.int .i64 n0) (.string nm0) (.slice q0 k.len cap0) := by rw [hw3]; exact cell5_alloc _ _ _ _ _ _ _
        rw [← hw3]
        clear hw3 c0 c1 c2 c3 c4 z0 z1 z2 z3 z4
        have hrr1 := rangeAt_below HBR.out hrr1
        have d0 : w3.cell? ⟨b', o' + j * 5, none⟩ = some (.int .i64 op1) := hrr1 0 _ rfl
        have d1 : w3.cell? ⟨b', o' + j * 5 + 1, none⟩ = some (.int .i64 wd1) := hrr1 1 _ rfl
        have d2 : w3.cell? ⟨b', o' + j * 5 + 2, none⟩ = some (.int .i64 n1) := hrr1 2 _ rfl
        have d3 : w3.cell? ⟨b', o' + j * 5 + 3, none⟩ = some (.string nm1) := hrr1 3 _ rfl
        have d4 : w3.cell? ⟨b', o' + j * 5 + 4, none⟩ = some (.slice q1 k1.len cap1) := hrr1 4 _ rfl
        clear hrr1
        obtain ⟨y0, y1, y2, y3, y4⟩ := X3
        obtain ⟨z0, z1, z2, z3, z4⟩ := X2.out.below HBW3.out
        go_still_tail 6, (by kernel_rfl)
        generalize cmpOne op0 wd0 n0 nm0 k op1 wd1 n1 nm1 k1 = C at *
        go_wp2_with fail
        refine (SO.out _ HB3.out.drew).mono ?_
        rintro e w4 ⟨rfl, hb4⟩
        have HB4 := Lib.hid (HB3.out.drew.trans (hb4.mono HB3.out.drew.size))
        have HBW4 := Lib.hid (HBW3.out.drew.trans (hb4.mono HBW3.out.drew.size))
        clear hb4 d0 d1 d2 d3 d4 y0 y1 y2 y3 y4 z0 z1 z2 z3 z4
        by_cases hC : C ≠ 0
        · have eC : (C == 0) = false := by simpa using hC
          have HV1 := Lib.hid (show R = C by rw [HNX.out, if_pos hC])
          go_wp2
          go_ret
          exact ⟨by rw [HV1.out]; rfl, HB4.out⟩
        · obtain rfl : C = 0 := by simpa using hC
          have HV1 := Lib.hid (HNX.out.trans (if_neg hC))
          clear hC
          go_wp2
          go_roundw
          case rel => exact ⟨j + 1, by omega, by omega, by go_num, HV.out.symm.trans HV1.out, HB4.out, HBW4.out⟩
          case measure => simp [intOf]; omega
    · have ej : j = F.len := by omega
      have hnj : ¬ ((j : Int) < (F.len : Int)) := by omega
      have HV1 := Lib.hid (show R = sgn F.len G.len by
        rw [HV.out, HCM.out, ej, drop_past F F.len (Nat.le_refl _), cmp_nil, len_drop]
        unfold sgn
        by_cases hg : (F.len : Int) < (G.len : Int)
        · rw [if_pos (by omega), if_pos hg]
        · rw [if_neg (by omega), if_neg (by omega), if_neg hg, if_neg (by omega)])
      have KS := Lib.hid (fun W => s_sign F.len G.len W)
      obtain ⟨y0, y1, y2, y3, y4⟩ := X1.out.below HBW.out
      clear ej HCM
      go_wp2_with fail
      refine (KS.out _).mono ?_
      rintro e w4 ⟨rfl, rfl⟩
      go_wp2
      go_ret
      exact ⟨by rw [HV1.out]; rfl, HB.out⟩
theorem s_cmp_any : ∀ F : Fo, CmS F := Fo.every s_cmp_loop
end Go.Proofs.Ytimjkgciakbolaa
