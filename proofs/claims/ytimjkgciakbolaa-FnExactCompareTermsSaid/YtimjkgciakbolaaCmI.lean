/- What the program's compareNodes returns. No condition. -/
import Derived.Test.YtimjkgciakbolaaCmS
namespace Go.Proofs.Ytimjkgciakbolaa
open Go.ChangeShapes Go.WideShapes Go.ChangeAt Go.RowKit
/-- the first that is not 0 -/
def orV (c0 c1 c2 c3 : Int) : Int := if c0 ≠ 0 then c0 else if c1 ≠ 0 then c1 else if c2 ≠ 0 then c2 else c3
set_option maxRecDepth 100000 in
theorem i_or (b : Nat) (c0 c1 c2 c3 : Int) (w : World) (l0 : w.cell? ⟨b, 0, none⟩ = some (.int .i64 c0)) (l1 : w.cell? ⟨b, 1, none⟩ = some (.int .i64 c1)) (l2 : w.cell? ⟨b, 2, none⟩ = some (.int .i64 c2)) (l3 : w.cell? ⟨b, 3, none⟩ = some (.int .i64 c3)) :
    Calls Try.prog 78 #[.slice (some ⟨b, 0, none⟩) 4 4] w fun e w' => e = .returned (.int .i64 (orV c0 c1 c2 c3)) ∧ w = w' := by
  by_cases h0 : c0 ≠ 0
  · have e0 : (c0 == 0) = false := by simpa using h0
    have HV := Lib.hid (show orV c0 c1 c2 c3 = c0 by unfold orV; rw [if_pos h0])
    go_enter Try.func78, Try.ntmps78
    go_wp2
    refine wp_loop_rounds 1 ?_
    rw [rounds_succ]
    go_wp2
    go_ret
    exact ⟨by rw [HV.out]; rfl, rfl⟩
  have h0 : c0 = 0 := by simpa using h0
  rw [h0] at l0
  by_cases h1 : c1 ≠ 0
  · have e1 : (c1 == 0) = false := by simpa using h1
    have HV := Lib.hid (show orV c0 c1 c2 c3 = c1 by unfold orV; rw [if_neg (fun h => h h0), if_pos h1])
    go_enter Try.func78, Try.ntmps78
    go_wp2
    refine wp_loop_rounds 2 ?_
    rw [rounds_succ]
    go_wp2
    rw [rounds_succ]
    go_wp2
    go_ret
    exact ⟨by rw [HV.out]; rfl, rfl⟩
  have h1 : c1 = 0 := by simpa using h1
  rw [h1] at l1
  by_cases h2 : c2 ≠ 0
  · have e2 : (c2 == 0) = false := by simpa using h2
    have HV := Lib.hid (show orV c0 c1 c2 c3 = c2 by unfold orV; rw [if_neg (fun h => h h0), if_neg (fun h => h h1), if_pos h2])
    go_enter Try.func78, Try.ntmps78
    go_wp2
    refine wp_loop_rounds 3 ?_
    rw [rounds_succ]
    go_wp2
    rw [rounds_succ]
    go_wp2
    rw [rounds_succ]
    go_wp2
    go_ret
    exact ⟨by rw [HV.out]; rfl, rfl⟩
  have h2 : c2 = 0 := by simpa using h2
  rw [h2] at l2
  by_cases h3 : c3 ≠ 0
  · have e3 : (c3 == 0) = false := by simpa using h3
    have HV := Lib.hid (show orV c0 c1 c2 c3 = c3 by unfold orV; rw [if_neg (fun h => h h0), if_neg (fun h => h h1), if_neg (fun h => h h2)])
    go_enter Try.func78, Try.ntmps78
    go_wp2
    refine wp_loop_rounds 4 ?_
    rw [rounds_succ]
    go_wp2
    rw [rounds_succ]
    go_wp2
    rw [rounds_succ]
    go_wp2
    rw [rounds_succ]
    go_wp2
    go_ret
    exact ⟨by rw [HV.out]; rfl, rfl⟩
  have h3 : c3 = 0 := by simpa using h3
  rw [h3] at l3
  have HV := Lib.hid (show orV c0 c1 c2 c3 = 0 by unfold orV; rw [if_neg (fun h => h h0), if_neg (fun h => h h1), if_neg (fun h => h h2), h3])
  go_enter Try.func78, Try.ntmps78
  go_wp2
  refine wp_loop_rounds 5 ?_
  rw [rounds_succ]
  go_wp2
  rw [rounds_succ]
  go_wp2
  rw [rounds_succ]
  go_wp2
  rw [rounds_succ]
  go_wp2
  rw [rounds_succ]
  go_wp2
  go_ret
  exact ⟨by rw [HV.out]; rfl, rfl⟩
set_option maxRecDepth 100000 in
set_option maxHeartbeats 4000000 in
theorem i_nodes (op wd n op' wd' n' : Int) (nm nm' : ByteArray) (s s' : Value) (w : World) (hs : ∃ q m c, s = .slice q m c) (hs' : ∃ q m c, s' = .slice q m c) :
    Calls Try.prog 47 #[.agg #[.int .i64 op, .int .i64 wd, .int .i64 n, .string nm, s], .agg #[.int .i64 op', .int .i64 wd', .int .i64 n', .string nm', s']] w fun e w' => e = .returned (.int .i64 (cmpN op wd n nm op' wd' n' nm')) ∧ Below w.heap.size w w' := by
  obtain ⟨q, m, cap, rfl⟩ := hs
  obtain ⟨q', m', cap', rfl⟩ := hs'
  have HV := Lib.hid (show orV (sgn op op') (sgn wd wd') (sgn n n') (cmpS nm nm') = cmpN op wd n nm op' wd' n' nm' from rfl)
  go_enter Try.func47, Try.ntmps47
  have X1 := Lib.hid ((cell5_alloc w 28 (.int .i64 op) (.int .i64 wd) (.int .i64 n) (.string nm) (.slice q m cap)).below ((Below.refl _ _).alloc (Nat.le_refl _) (.cells #[.int .i64 op', .int .i64 wd', .int .i64 n', .string nm', .slice q' m' cap'] 28)))
  have X2 := Lib.hid (cell5_alloc (w.alloc (.cells #[.int .i64 op, .int .i64 wd, .int .i64 n, .string nm, .slice q m cap] 28)) 28 (.int .i64 op') (.int .i64 wd') (.int .i64 n') (.string nm') (.slice q' m' cap'))
  have B1 := Lib.hid (((Below.refl w.heap.size w).alloc (Nat.le_refl _) (.cells #[.int .i64 op, .int .i64 wd, .int .i64 n, .string nm, .slice q m cap] 28)).alloc (by simp) (.cells #[.int .i64 op', .int .i64 wd', .int .i64 n', .string nm', .slice q' m' cap'] 28))
  obtain ⟨w1, hw1⟩ : ∃ w1, w1 = (w.alloc (.cells #[.int .i64 op, .int .i64 wd, .int .i64 n, .string nm, .slice q m cap] 28)).alloc (.cells #[.int .i64 op', .int .i64 wd', .int .i64 n', .string nm', .slice q' m' cap'] 28) := ⟨_, rfl⟩
  have hs1 : w1.heap.size = w.heap.size + 2 := by rw [hw1]; simp
  have hsz0 : (w.alloc (.cells #[.int .i64 op, .int .i64 wd, .int .i64 n, .string nm, .slice q m cap] 28)).heap.size = w.heap.size + 1 := by simp
  rw [hsz0] at X2
  rw [← hw1] at X1 X2 B1
  clear hsz0
  go_wp2
  rw [← hw1]
  clear hw1
  have HCW := Lib.hid ((Below.refl w1.heap.size w1).drew)
  refine region_c (fun W => Below w1.heap.size w1 W) (by kernel_rfl) ?_
  refine take_c (i := 0) (v := .pointer (some ⟨w.heap.size, 0, none⟩)) rfl (by kernel_rfl) (by kernel_rfl) (by kernel_rfl) (fun _ _ _ h => h) HCW.out rfl (fun W hW => ?_) ?_
  · go_simp
    all_goals (first | omega | (simp; omega))
  refine take_c (i := 1) (v := .int .i64 op) rfl (by kernel_rfl) (by kernel_rfl) (by kernel_rfl) (fun _ _ _ h => h) HCW.out rfl (fun W hW => ?_) ?_
  · obtain ⟨x0, x1, x2, x3, x4⟩ := X1.out.below hW
    go_simp
    all_goals (first | omega | (simp; omega))
  refine take_c (i := 2) (v := .pointer (some ⟨w.heap.size + 1, 0, none⟩)) rfl (by kernel_rfl) (by kernel_rfl) (by kernel_rfl) (fun _ _ _ h => h) HCW.out rfl (fun W hW => ?_) ?_
  · go_simp
    all_goals (first | omega | (simp; omega))
  refine take_c (i := 3) (v := .int .i64 op') rfl (by kernel_rfl) (by kernel_rfl) (by kernel_rfl) (fun _ _ _ h => h) HCW.out rfl (fun W hW => ?_) ?_
  · obtain ⟨x0, x1, x2, x3, x4⟩ := X2.out.below hW
    go_simp
    all_goals (first | omega | (simp; omega))
  refine take_k (i := 4) (v := .int .i64 (sgn op op')) rfl (by kernel_rfl) (by kernel_rfl) (by kernel_rfl) (fun _ _ _ h => h) HCW.out rfl (fun W hW => ⟨_, _, ?_, i_sign op op' W⟩) ?_
  · go_simp
    all_goals (first | omega | (simp; omega))
  refine take_c (i := 5) (v := .pointer (some ⟨w.heap.size, 1, none⟩)) rfl (by kernel_rfl) (by kernel_rfl) (by kernel_rfl) (fun _ _ _ h => h) HCW.out rfl (fun W hW => ?_) ?_
  · go_simp
    all_goals (first | omega | (simp; omega))
  refine take_c (i := 6) (v := .int .i64 wd) rfl (by kernel_rfl) (by kernel_rfl) (by kernel_rfl) (fun _ _ _ h => h) HCW.out rfl (fun W hW => ?_) ?_
  · obtain ⟨x0, x1, x2, x3, x4⟩ := X1.out.below hW
    go_simp
    all_goals (first | omega | (simp; omega))
  refine take_c (i := 7) (v := .pointer (some ⟨w.heap.size + 1, 1, none⟩)) rfl (by kernel_rfl) (by kernel_rfl) (by kernel_rfl) (fun _ _ _ h => h) HCW.out rfl (fun W hW => ?_) ?_
  · go_simp
    all_goals (first | omega | (simp; omega))
  refine take_c (i := 8) (v := .int .i64 wd') rfl (by kernel_rfl) (by kernel_rfl) (by kernel_rfl) (fun _ _ _ h => h) HCW.out rfl (fun W hW => ?_) ?_
  · obtain ⟨x0, x1, x2, x3, x4⟩ := X2.out.below hW
    go_simp
    all_goals (first | omega | (simp; omega))
  refine take_k (i := 9) (v := .int .i64 (sgn wd wd')) rfl (by kernel_rfl) (by kernel_rfl) (by kernel_rfl) (fun _ _ _ h => h) HCW.out rfl (fun W hW => ⟨_, _, ?_, i_sign wd wd' W⟩) ?_
  · go_simp
    all_goals (first | omega | (simp; omega))
  refine take_c (i := 10) (v := .pointer (some ⟨w.heap.size, 2, none⟩)) rfl (by kernel_rfl) (by kernel_rfl) (by kernel_rfl) (fun _ _ _ h => h) HCW.out rfl (fun W hW => ?_) ?_
  · go_simp
    all_goals (first | omega | (simp; omega))
  refine take_c (i := 11) (v := .int .i64 n) rfl (by kernel_rfl) (by kernel_rfl) (by kernel_rfl) (fun _ _ _ h => h) HCW.out rfl (fun W hW => ?_) ?_
  · obtain ⟨x0, x1, x2, x3, x4⟩ := X1.out.below hW
    go_simp
    all_goals (first | omega | (simp; omega))
  refine take_c (i := 12) (v := .pointer (some ⟨w.heap.size + 1, 2, none⟩)) rfl (by kernel_rfl) (by kernel_rfl) (by kernel_rfl) (fun _ _ _ h => h) HCW.out rfl (fun W hW => ?_) ?_
  · go_simp
    all_goals (first | omega | (simp; omega))
  refine take_c (i := 13) (v := .int .i64 n') rfl (by kernel_rfl) (by kernel_rfl) (by kernel_rfl) (fun _ _ _ h => h) HCW.out rfl (fun W hW => ?_) ?_
  · obtain ⟨x0, x1, x2, x3, x4⟩ := X2.out.below hW
    go_simp
    all_goals (first | omega | (simp; omega))
  refine take_k (i := 14) (v := .int .i64 (sgn n n')) rfl (by kernel_rfl) (by kernel_rfl) (by kernel_rfl) (fun _ _ _ h => h) HCW.out rfl (fun W hW => ⟨_, _, ?_, i_sign n n' W⟩) ?_
  · go_simp
    all_goals (first | omega | (simp; omega))
  refine take_c (i := 15) (v := .pointer (some ⟨w.heap.size, 3, none⟩)) rfl (by kernel_rfl) (by kernel_rfl) (by kernel_rfl) (fun _ _ _ h => h) HCW.out rfl (fun W hW => ?_) ?_
  · go_simp
    all_goals (first | omega | (simp; omega))
  refine take_c (i := 16) (v := .string nm) rfl (by kernel_rfl) (by kernel_rfl) (by kernel_rfl) (fun _ _ _ h => h) HCW.out rfl (fun W hW => ?_) ?_
  · obtain ⟨x0, x1, x2, x3, x4⟩ := X1.out.below hW
    go_simp
    all_goals (first | omega | (simp; omega))
  refine take_c (i := 17) (v := .pointer (some ⟨w.heap.size + 1, 3, none⟩)) rfl (by kernel_rfl) (by kernel_rfl) (by kernel_rfl) (fun _ _ _ h => h) HCW.out rfl (fun W hW => ?_) ?_
  · go_simp
    all_goals (first | omega | (simp; omega))
  refine take_c (i := 18) (v := .string nm') rfl (by kernel_rfl) (by kernel_rfl) (by kernel_rfl) (fun _ _ _ h => h) HCW.out rfl (fun W hW => ?_) ?_
  · obtain ⟨x0, x1, x2, x3, x4⟩ := X2.out.below hW
    go_simp
    all_goals (first | omega | (simp; omega))
  refine take_k (i := 19) (v := .int .i64 (cmpS nm nm')) rfl (by kernel_rfl) (by kernel_rfl) (by kernel_rfl) (fun _ _ _ h => h) HCW.out rfl (fun W hW => ⟨_, _, ?_, cmp_string nm nm' W⟩) ?_
  · go_simp
    all_goals (first | omega | (simp; omega))
  refine one_c (i := 20) (by kernel_rfl) (op_list rfl ?_)
  go_wp2
  obtain ⟨w2, hw2⟩ : ∃ w2, w2 = (w1.alloc (.cells #[.int .i64 (sgn op op'), .int .i64 (sgn wd wd'), .int .i64 (sgn n n'), .int .i64 (cmpS nm nm')] 3)).drew := ⟨_, rfl⟩
  rw [← hw2]
  have HL : Hid (∀ (i : Nat) v, #[Value.int .i64 (sgn op op'), .int .i64 (sgn wd wd'), .int .i64 (sgn n n'), .int .i64 (cmpS nm nm')][i]? = some v → w2.cell? ⟨w.heap.size + 2, i, none⟩ = some v) := Lib.hid (by
    intro i v h
    rw [hw2, ← hs1]
    exact (cell_of_row _ w1.heap.size i _ 3 (0, 0) (heap_alloc_new w1 (.cells #[.int .i64 (sgn op op'), .int .i64 (sgn wd wd'), .int .i64 (sgn n n'), .int .i64 (cmpS nm nm')] 3))).trans h)
  replace HCW : Hid (Below w1.heap.size w1 w2) := Lib.hid (by rw [hw2]; exact ((Below.refl _ _).alloc (Nat.le_refl _) _).drew)
  clear hw2
  refine ⟨HCW.out, ?_⟩
  have KO := Lib.hid (i_or (w.heap.size + 2) _ _ _ _ w2 (HL.out 0 _ rfl) (HL.out 1 _ rfl) (HL.out 2 _ rfl) (HL.out 3 _ rfl))
  rw [HV.out] at KO
  clear HL HV
  refine one_c (i := 21) (by kernel_rfl) (op_list rfl ?_)
  go_wp2_with fail
  refine KO.out.mono ?_
  rintro e w3 ⟨rfl, rfl⟩
  go_wp2
  refine ⟨HCW.out, ?_⟩
  refine take_c (i := 22) (v := .int .i64 (cmpN op wd n nm op' wd' n' nm')) rfl (by kernel_rfl) (by kernel_rfl) (by kernel_rfl) (fun _ _ _ h => h) HCW.out rfl (fun W hW => ?_) ?_
  · go_simp
    all_goals (first | omega | (simp; omega))
  refine done_c (by kernel_rfl) ?_ _
  go_wp2
  go_ret
  exact ⟨rfl, B1.out.trans (HCW.out.mono B1.out.size)⟩
end Go.Proofs.Ytimjkgciakbolaa
