/- What the specification's AndOf, OrOf, XorOf and IfOf return. No condition. -/
import Derived.Test.YtimjkgciakbolabGtU
import Derived.Test.YtimjkgciakbolabGtC
namespace Go.Proofs.Ytimjkgciakbolab
open Go.ChangeShapes Go.WideShapes Go.ChangeAt Go.RowKit
set_option maxRecDepth 100000 in
set_option maxHeartbeats 2000000 in
theorem s_AndOf (I : Int) (L : List GateR) (s : Value) (a0 a1 : Int) (w : World) (hs : Cs.Shows w 0 2 s L.length (GateR.all L)) (hI : -9223372036854775808 ≤ I ∧ I ≤ 9223372036854775807) (hok : ∀ r ∈ L, r.Ok) (hl : L.length ≤ maxLen) :
    Calls Try.prog 14 #[.agg #[.int .i64 I, s], .int .i64 a0, .int .i64 a1] w (BtEnd I (btV I L [a0, a1] (andN I ⟨L, false⟩ a0 a1)) w) := by
  have HS := Lib.hid hs
  have KC := Lib.hid (fun W (hb : Below w.heap.size w W) => s_cc I L s W (hs.below hb) hI hok hl)
  have KN := Lib.hid (fun W (hb : Below w.heap.size w W) h => s_new I L s W (hs.below hb) h)
  have KLI := Lib.hid (fun W (hb : Below w.heap.size w W) h1 h2 v (hv : Cs.Shows W 0 1 v 2 (IntL.all [a0, a1])) => s_lits4 I L s [a0, a1] v W (hs.below hb) h1 h2 hv (by simp))
  obtain ⟨_, q, cap, rfl, _⟩ := hs
  obtain ⟨o, ho⟩ : ∃ o, btV I L [a0, a1] (andN I ⟨L, false⟩ a0 a1) = o := ⟨_, rfl⟩
  rw [ho]
  have HO := Lib.hid ho
  clear ho
  have HB1 := Lib.hid (((Below.refl w.heap.size w).alloc (Nat.le_refl _) (.cells #[.int .i64 I, .slice q L.length cap] 29)).alloc (by simp) (.cells #[.int .i64 0, .slice none 0 0] 29))
  have HX := Lib.hid ((((Below.refl _ _).alloc (Nat.le_refl _) (.cells #[.int .i64 0, .slice none 0 0] 29)).block w.heap.size (by simp)).trans (heap_alloc_new w (.cells #[.int .i64 I, .slice q L.length cap] 29)))
  have HR := Lib.hid (heap_alloc_new (w.alloc (.cells #[.int .i64 I, .slice q L.length cap] 29)) (.cells #[.int .i64 0, .slice none 0 0] 29))
  obtain ⟨w1, hw1⟩ : ∃ w1, w1 = (w.alloc (.cells #[.int .i64 I, .slice q L.length cap] 29)).alloc (.cells #[.int .i64 0, .slice none 0 0] 29) := ⟨_, rfl⟩
  have hs1 : w1.heap.size = w.heap.size + 2 := by rw [hw1]; simp
  rw [show (w.alloc (.cells #[.int .i64 I, .slice q L.length cap] 29)).heap.size = w.heap.size + 1 by simp] at HR
  rw [← hw1] at HB1 HX HR
  go_enter Try.func14, Try.ntmps14
  go_wp2_with fail
  rw [← hw1]
  clear hw1
  refine (KC.out _ HB1.out).mono ?_
  rintro e w2 ⟨rfl, hb2⟩
  have HB2 := Lib.hid (HB1.out.trans (hb2.mono (by omega)))
  have HX2 := Lib.hid ((hb2.block w.heap.size (by omega)).trans HX.out)
  have HR2 := Lib.hid ((hb2.block (w.heap.size + 1) (by omega)).trans HR.out)
  have hs2 := hb2.size
  clear hb2 HX HR HB1
  obtain ⟨vc, hvc⟩ : ∃ vc, ccB I L = vc := ⟨_, rfl⟩
  have HVC := Lib.hid hvc
  rw [hvc]
  clear hvc
  cases vc with
  | false =>
    have HV := Lib.hid (show o = none by rw [← HO.out]; unfold btV; rw [if_neg (by rw [HVC.out]; simp)])
    obtain ⟨r0, r1, s0, s1⟩ := cell2_at HR2.out
    go_wp2
    refine bodyPost_ret (v := .tuple #[.agg #[.int .i64 0, .slice none 0 0], .int .i64 0, .bool false]) (by simp [results, Try.results14, go_sem, r0, r1, s0, s1]) rfl ?_
    exact bt_none HV.out ((HB2.out.setCell (Nat.le_succ _) _).setCell (Nat.le_succ _) _)
  | true =>
    obtain ⟨hi0, hi1, hl3, _⟩ := cc_of HVC.out
    obtain ⟨x0, x1, _, _⟩ := cell2_at HX2.out
    have hxl : w.heap.size < w2.heap.size := by omega
    have hrl : w.heap.size + 1 < w2.heap.size := by omega
    have HBL := Lib.hid ((Below.refl w2.heap.size w2).alloc (Nat.le_refl _) (.cells #[.int .i64 a0, .int .i64 a1] 3))
    have HLS : Hid (Cs.Shows (w2.alloc (.cells #[.int .i64 a0, .int .i64 a1] 3)) 0 1 (.slice (some ⟨w2.heap.size, 0, none⟩) 2 2) 2 (IntL.all [a0, a1])) := Lib.hid (by
      refine ⟨rfl, _, 2, rfl, Nat.le_refl _, by unfold maxLen; omega, (fun h => by cases h), fun x hx => ?_⟩
      cases hx
      exact ⟨Nat.zero_le _, fun _ => rfl, fun i u hu => by
        rw [Nat.zero_add, cell_of_row _ _ _ _ _ _ (heap_alloc_new w2 _)]
        rw [IntL.all_map] at hu
        simpa using hu⟩)
    obtain ⟨w3, hw3⟩ : ∃ w3, w3 = w2.alloc (.cells #[.int .i64 a0, .int .i64 a1] 3) := ⟨_, rfl⟩
    have hs3 : w3.heap.size = w2.heap.size + 1 := by rw [hw3]; simp
    rw [← hw3] at HBL HLS
    have HB3 := Lib.hid (HB2.out.trans (HBL.out.mono (by omega)))
    go_wp2_with fail
    rw [← hw3]
    clear hw3 x0 x1
    refine (KLI.out _ HB3.out ⟨hi0, hi1⟩ hl3 _ HLS.out).mono ?_
    rintro e w4 ⟨rfl, hb4⟩
    have HB4 := Lib.hid (HB3.out.trans (hb4.mono (by omega)))
    have HX4 := Lib.hid ((hb4.block w.heap.size (by omega)).trans ((HBL.out.block w.heap.size (by omega)).trans HX2.out))
    have HR4 := Lib.hid ((hb4.block (w.heap.size + 1) (by omega)).trans ((HBL.out.block (w.heap.size + 1) (by omega)).trans HR2.out))
    have hs4 := hb4.size
    clear hb4 HBL HLS HB3 HX2 HR2 HB2
    obtain ⟨vl, hvl⟩ : ∃ vl, litsB (1 + I + L.length) [a0, a1] = vl := ⟨_, rfl⟩
    have HVL := Lib.hid hvl
    rw [hvl]
    clear hvl
    obtain ⟨r0, r1, s0, s1⟩ := cell2_at HR4.out
    cases vl with
    | false =>
      have HV := Lib.hid (show o = none by rw [← HO.out]; unfold btV; rw [if_neg (by rw [HVL.out]; simp)])
      go_wp2
      refine bodyPost_ret (v := .tuple #[.agg #[.int .i64 0, .slice none 0 0], .int .i64 0, .bool false]) (by simp [results, Try.results14, go_sem, r0, r1, s0, s1]) rfl ?_
      exact bt_none HV.out ((HB4.out.setCell (Nat.le_succ _) _).setCell (Nat.le_succ _) _)
    | true =>
      obtain ⟨l0, l1⟩ := lits2 HVL.out
      have KA := Lib.hid (fun b0 bp W h => s_and b0 bp I ⟨L, false⟩ a0 a1 W h ⟨hi0, hi1, hl3, hok⟩ l0 l1)
      generalize andN I ⟨L, false⟩ a0 a1 = r at *
      obtain ⟨x0, x1, _, _⟩ := cell2_at HX4.out
      clear l0 l1 r0 r1 s0 s1
      go_wp2_with fail
      clear x0 x1
      refine (KN.out _ HB4.out hl3).mono ?_
      rintro e w5 ⟨bp, rfl, hn5, hb5⟩
      have HB5 := Lib.hid (HB4.out.trans (hb5.mono (by omega)))
      have HR5 := Lib.hid ((hb5.block (w.heap.size + 1) (by omega)).trans HR4.out)
      have hs5 := hb5.size
      have KA5 := Lib.hid (KA.out _ _ _ hn5)
      unfold MsEnd at KA5
      clear hb5 hn5 HR4 HX4 HB4 KA
      go_wp2_with fail
      refine KA5.out.mono ?_
      rintro e w6 ⟨rfl, hn6, hb6⟩
      have HB6 := Lib.hid (HB5.out.trans (hb6.mono (by omega)))
      have HR6 := Lib.hid ((hb6.block (w.heap.size + 1) (by omega)).trans HR5.out)
      have hs6 := hb6.size
      have KO := Lib.hid (s_out _ bp I r.1 r.2 w6 hn6)
      clear hb6 hn6 HR5 HB5 KA5
      go_wp2_with fail
      refine KO.out.mono ?_
      rintro e w7 ⟨hb7, ⟨hf, rfl⟩ | ⟨hf, q7, c7, rfl, ho7⟩⟩
      · have HV := Lib.hid (show o = none by rw [← HO.out]; unfold btV; rw [if_neg (by rw [hf]; simp)])
        have HB7 := Lib.hid (HB6.out.trans (hb7.mono (by omega)))
        obtain ⟨r0, r1, s0, s1⟩ := cell2_at ((hb7.block (w.heap.size + 1) (by omega)).trans HR6.out)
        clear hb7 hf
        go_wp2
        refine bodyPost_ret (v := .tuple #[.agg #[.int .i64 0, .slice none 0 0], .int .i64 0, .bool false]) (by simp [results, Try.results14, go_sem, r0, r1, s0, s1]) rfl ?_
        exact bt_none HV.out ((HB7.out.setCell (Nat.le_succ _) _).setCell (Nat.le_succ _) _)
      · have HV := Lib.hid (show o = some (r.1.gs, r.2) by rw [← HO.out]; unfold btV; rw [if_pos ⟨HVC.out, HVL.out, hf⟩])
        have HB7 := Lib.hid (HB6.out.trans (hb7.mono (by omega)))
        have HO7 := Lib.hid ho7
        obtain ⟨r0, r1, s0, s1⟩ := cell2_at ((hb7.block (w.heap.size + 1) (by omega)).trans HR6.out)
        clear hb7 hf ho7
        generalize hn7 : r.1.gs.length = n7 at *
        go_wp2
        refine bodyPost_ret (v := .tuple #[.agg #[.int .i64 I, .slice q7 n7 c7], .int .i64 r.2, .bool true]) (by simp [results, Try.results14, go_sem, r0, r1, s0, s1]) rfl ?_
        have HO8 : World.ownsRow ((w7.setCell ⟨w.heap.size + 1, 0, none⟩ (.int .i64 I)).setCell ⟨w.heap.size + 1, 1, none⟩ (.slice q7 n7 c7)) w.heap.size 48 2 (.slice q7 n7 c7) n7 (GateR.all r.1.gs) := own_base (own_same HO7.out (fun k hk => by
          have := (own_lt HO7.out hk).1
          have hne : k ≠ w.heap.size + 1 := by omega
          exact (heap_setCell_other _ _ _ _ hne).trans (heap_setCell_other _ _ _ _ hne))) (by omega)
        subst hn7
        exact bt_some HV.out ((HB7.out.setCell (Nat.le_succ _) _).setCell (Nat.le_succ _) _) HO8
theorem len_AndOf (I : Int) (L : List GateR) (a0 a1 : Int) (hok : ∀ r ∈ L, r.Ok) : (btL (btV I L [a0, a1] (andN I ⟨L, false⟩ a0 a1))).length ≤ 360 := by
  unfold btV
  split
  · rename_i h
    obtain ⟨hc, hv, _⟩ := h
    obtain ⟨hi0, hi1, hl, _⟩ := cc_of hc
    obtain ⟨l0, l1⟩ := lits2 hv
    exact (and_ok (N := ⟨L, false⟩) ⟨hi0, hi1, hl, hok⟩ l0 l1).1.2.2.1
  · exact Nat.zero_le _
set_option maxRecDepth 100000 in
set_option maxHeartbeats 2000000 in
theorem s_OrOf (I : Int) (L : List GateR) (s : Value) (a0 a1 : Int) (w : World) (hs : Cs.Shows w 0 2 s L.length (GateR.all L)) (hI : -9223372036854775808 ≤ I ∧ I ≤ 9223372036854775807) (hok : ∀ r ∈ L, r.Ok) (hl : L.length ≤ maxLen) :
    Calls Try.prog 18 #[.agg #[.int .i64 I, s], .int .i64 a0, .int .i64 a1] w (BtEnd I (btV I L [a0, a1] (orN I ⟨L, false⟩ a0 a1)) w) := by
  have HS := Lib.hid hs
  have KC := Lib.hid (fun W (hb : Below w.heap.size w W) => s_cc I L s W (hs.below hb) hI hok hl)
  have KN := Lib.hid (fun W (hb : Below w.heap.size w W) h => s_new I L s W (hs.below hb) h)
  have KLI := Lib.hid (fun W (hb : Below w.heap.size w W) h1 h2 v (hv : Cs.Shows W 0 1 v 2 (IntL.all [a0, a1])) => s_lits4 I L s [a0, a1] v W (hs.below hb) h1 h2 hv (by simp))
  obtain ⟨_, q, cap, rfl, _⟩ := hs
  obtain ⟨o, ho⟩ : ∃ o, btV I L [a0, a1] (orN I ⟨L, false⟩ a0 a1) = o := ⟨_, rfl⟩
  rw [ho]
  have HO := Lib.hid ho
  clear ho
  have HB1 := Lib.hid (((Below.refl w.heap.size w).alloc (Nat.le_refl _) (.cells #[.int .i64 I, .slice q L.length cap] 29)).alloc (by simp) (.cells #[.int .i64 0, .slice none 0 0] 29))
  have HX := Lib.hid ((((Below.refl _ _).alloc (Nat.le_refl _) (.cells #[.int .i64 0, .slice none 0 0] 29)).block w.heap.size (by simp)).trans (heap_alloc_new w (.cells #[.int .i64 I, .slice q L.length cap] 29)))
  have HR := Lib.hid (heap_alloc_new (w.alloc (.cells #[.int .i64 I, .slice q L.length cap] 29)) (.cells #[.int .i64 0, .slice none 0 0] 29))
  obtain ⟨w1, hw1⟩ : ∃ w1, w1 = (w.alloc (.cells #[.int .i64 I, .slice q L.length cap] 29)).alloc (.cells #[.int .i64 0, .slice none 0 0] 29) := ⟨_, rfl⟩
  have hs1 : w1.heap.size = w.heap.size + 2 := by rw [hw1]; simp
  rw [show (w.alloc (.cells #[.int .i64 I, .slice q L.length cap] 29)).heap.size = w.heap.size + 1 by simp] at HR
  rw [← hw1] at HB1 HX HR
  go_enter Try.func18, Try.ntmps18
  go_wp2_with fail
  rw [← hw1]
  clear hw1
  refine (KC.out _ HB1.out).mono ?_
  rintro e w2 ⟨rfl, hb2⟩
  have HB2 := Lib.hid (HB1.out.trans (hb2.mono (by omega)))
  have HX2 := Lib.hid ((hb2.block w.heap.size (by omega)).trans HX.out)
  have HR2 := Lib.hid ((hb2.block (w.heap.size + 1) (by omega)).trans HR.out)
  have hs2 := hb2.size
  clear hb2 HX HR HB1
  obtain ⟨vc, hvc⟩ : ∃ vc, ccB I L = vc := ⟨_, rfl⟩
  have HVC := Lib.hid hvc
  rw [hvc]
  clear hvc
  cases vc with
  | false =>
    have HV := Lib.hid (show o = none by rw [← HO.out]; unfold btV; rw [if_neg (by rw [HVC.out]; simp)])
    obtain ⟨r0, r1, s0, s1⟩ := cell2_at HR2.out
    go_wp2
    refine bodyPost_ret (v := .tuple #[.agg #[.int .i64 0, .slice none 0 0], .int .i64 0, .bool false]) (by simp [results, Try.results18, go_sem, r0, r1, s0, s1]) rfl ?_
    exact bt_none HV.out ((HB2.out.setCell (Nat.le_succ _) _).setCell (Nat.le_succ _) _)
  | true =>
    obtain ⟨hi0, hi1, hl3, _⟩ := cc_of HVC.out
    obtain ⟨x0, x1, _, _⟩ := cell2_at HX2.out
    have hxl : w.heap.size < w2.heap.size := by omega
    have hrl : w.heap.size + 1 < w2.heap.size := by omega
    have HBL := Lib.hid ((Below.refl w2.heap.size w2).alloc (Nat.le_refl _) (.cells #[.int .i64 a0, .int .i64 a1] 3))
    have HLS : Hid (Cs.Shows (w2.alloc (.cells #[.int .i64 a0, .int .i64 a1] 3)) 0 1 (.slice (some ⟨w2.heap.size, 0, none⟩) 2 2) 2 (IntL.all [a0, a1])) := Lib.hid (by
      refine ⟨rfl, _, 2, rfl, Nat.le_refl _, by unfold maxLen; omega, (fun h => by cases h), fun x hx => ?_⟩
      cases hx
      exact ⟨Nat.zero_le _, fun _ => rfl, fun i u hu => by
        rw [Nat.zero_add, cell_of_row _ _ _ _ _ _ (heap_alloc_new w2 _)]
        rw [IntL.all_map] at hu
        simpa using hu⟩)
    obtain ⟨w3, hw3⟩ : ∃ w3, w3 = w2.alloc (.cells #[.int .i64 a0, .int .i64 a1] 3) := ⟨_, rfl⟩
    have hs3 : w3.heap.size = w2.heap.size + 1 := by rw [hw3]; simp
    rw [← hw3] at HBL HLS
    have HB3 := Lib.hid (HB2.out.trans (HBL.out.mono (by omega)))
    go_wp2_with fail
    rw [← hw3]
    clear hw3 x0 x1
    refine (KLI.out _ HB3.out ⟨hi0, hi1⟩ hl3 _ HLS.out).mono ?_
    rintro e w4 ⟨rfl, hb4⟩
    have HB4 := Lib.hid (HB3.out.trans (hb4.mono (by omega)))
    have HX4 := Lib.hid ((hb4.block w.heap.size (by omega)).trans ((HBL.out.block w.heap.size (by omega)).trans HX2.out))
    have HR4 := Lib.hid ((hb4.block (w.heap.size + 1) (by omega)).trans ((HBL.out.block (w.heap.size + 1) (by omega)).trans HR2.out))
    have hs4 := hb4.size
    clear hb4 HBL HLS HB3 HX2 HR2 HB2
    obtain ⟨vl, hvl⟩ : ∃ vl, litsB (1 + I + L.length) [a0, a1] = vl := ⟨_, rfl⟩
    have HVL := Lib.hid hvl
    rw [hvl]
    clear hvl
    obtain ⟨r0, r1, s0, s1⟩ := cell2_at HR4.out
    cases vl with
    | false =>
      have HV := Lib.hid (show o = none by rw [← HO.out]; unfold btV; rw [if_neg (by rw [HVL.out]; simp)])
      go_wp2
      refine bodyPost_ret (v := .tuple #[.agg #[.int .i64 0, .slice none 0 0], .int .i64 0, .bool false]) (by simp [results, Try.results18, go_sem, r0, r1, s0, s1]) rfl ?_
      exact bt_none HV.out ((HB4.out.setCell (Nat.le_succ _) _).setCell (Nat.le_succ _) _)
    | true =>
      obtain ⟨l0, l1⟩ := lits2 HVL.out
      have KA := Lib.hid (fun b0 bp W h => s_or' b0 bp I ⟨L, false⟩ a0 a1 W h ⟨hi0, hi1, hl3, hok⟩ l0 l1)
      generalize orN I ⟨L, false⟩ a0 a1 = r at *
      obtain ⟨x0, x1, _, _⟩ := cell2_at HX4.out
      clear l0 l1 r0 r1 s0 s1
      go_wp2_with fail
      clear x0 x1
      refine (KN.out _ HB4.out hl3).mono ?_
      rintro e w5 ⟨bp, rfl, hn5, hb5⟩
      have HB5 := Lib.hid (HB4.out.trans (hb5.mono (by omega)))
      have HR5 := Lib.hid ((hb5.block (w.heap.size + 1) (by omega)).trans HR4.out)
      have hs5 := hb5.size
      have KA5 := Lib.hid (KA.out _ _ _ hn5)
      unfold MsEnd at KA5
      clear hb5 hn5 HR4 HX4 HB4 KA
      go_wp2_with fail
      refine KA5.out.mono ?_
      rintro e w6 ⟨rfl, hn6, hb6⟩
      have HB6 := Lib.hid (HB5.out.trans (hb6.mono (by omega)))
      have HR6 := Lib.hid ((hb6.block (w.heap.size + 1) (by omega)).trans HR5.out)
      have hs6 := hb6.size
      have KO := Lib.hid (s_out _ bp I r.1 r.2 w6 hn6)
      clear hb6 hn6 HR5 HB5 KA5
      go_wp2_with fail
      refine KO.out.mono ?_
      rintro e w7 ⟨hb7, ⟨hf, rfl⟩ | ⟨hf, q7, c7, rfl, ho7⟩⟩
      · have HV := Lib.hid (show o = none by rw [← HO.out]; unfold btV; rw [if_neg (by rw [hf]; simp)])
        have HB7 := Lib.hid (HB6.out.trans (hb7.mono (by omega)))
        obtain ⟨r0, r1, s0, s1⟩ := cell2_at ((hb7.block (w.heap.size + 1) (by omega)).trans HR6.out)
        clear hb7 hf
        go_wp2
        refine bodyPost_ret (v := .tuple #[.agg #[.int .i64 0, .slice none 0 0], .int .i64 0, .bool false]) (by simp [results, Try.results18, go_sem, r0, r1, s0, s1]) rfl ?_
        exact bt_none HV.out ((HB7.out.setCell (Nat.le_succ _) _).setCell (Nat.le_succ _) _)
      · have HV := Lib.hid (show o = some (r.1.gs, r.2) by rw [← HO.out]; unfold btV; rw [if_pos ⟨HVC.out, HVL.out, hf⟩])
        have HB7 := Lib.hid (HB6.out.trans (hb7.mono (by omega)))
        have HO7 := Lib.hid ho7
        obtain ⟨r0, r1, s0, s1⟩ := cell2_at ((hb7.block (w.heap.size + 1) (by omega)).trans HR6.out)
        clear hb7 hf ho7
        generalize hn7 : r.1.gs.length = n7 at *
        go_wp2
        refine bodyPost_ret (v := .tuple #[.agg #[.int .i64 I, .slice q7 n7 c7], .int .i64 r.2, .bool true]) (by simp [results, Try.results18, go_sem, r0, r1, s0, s1]) rfl ?_
        have HO8 : World.ownsRow ((w7.setCell ⟨w.heap.size + 1, 0, none⟩ (.int .i64 I)).setCell ⟨w.heap.size + 1, 1, none⟩ (.slice q7 n7 c7)) w.heap.size 48 2 (.slice q7 n7 c7) n7 (GateR.all r.1.gs) := own_base (own_same HO7.out (fun k hk => by
          have := (own_lt HO7.out hk).1
          have hne : k ≠ w.heap.size + 1 := by omega
          exact (heap_setCell_other _ _ _ _ hne).trans (heap_setCell_other _ _ _ _ hne))) (by omega)
        subst hn7
        exact bt_some HV.out ((HB7.out.setCell (Nat.le_succ _) _).setCell (Nat.le_succ _) _) HO8
theorem len_OrOf (I : Int) (L : List GateR) (a0 a1 : Int) (hok : ∀ r ∈ L, r.Ok) : (btL (btV I L [a0, a1] (orN I ⟨L, false⟩ a0 a1))).length ≤ 360 := by
  unfold btV
  split
  · rename_i h
    obtain ⟨hc, hv, _⟩ := h
    obtain ⟨hi0, hi1, hl, _⟩ := cc_of hc
    obtain ⟨l0, l1⟩ := lits2 hv
    exact (or_ok (N := ⟨L, false⟩) ⟨hi0, hi1, hl, hok⟩ l0 l1).1.2.2.1
  · exact Nat.zero_le _
set_option maxRecDepth 100000 in
set_option maxHeartbeats 2000000 in
theorem s_XorOf (I : Int) (L : List GateR) (s : Value) (a0 a1 : Int) (w : World) (hs : Cs.Shows w 0 2 s L.length (GateR.all L)) (hI : -9223372036854775808 ≤ I ∧ I ≤ 9223372036854775807) (hok : ∀ r ∈ L, r.Ok) (hl : L.length ≤ maxLen) :
    Calls Try.prog 20 #[.agg #[.int .i64 I, s], .int .i64 a0, .int .i64 a1] w (BtEnd I (btV I L [a0, a1] (xorN I ⟨L, false⟩ a0 a1)) w) := by
  have HS := Lib.hid hs
  have KC := Lib.hid (fun W (hb : Below w.heap.size w W) => s_cc I L s W (hs.below hb) hI hok hl)
  have KN := Lib.hid (fun W (hb : Below w.heap.size w W) h => s_new I L s W (hs.below hb) h)
  have KLI := Lib.hid (fun W (hb : Below w.heap.size w W) h1 h2 v (hv : Cs.Shows W 0 1 v 2 (IntL.all [a0, a1])) => s_lits4 I L s [a0, a1] v W (hs.below hb) h1 h2 hv (by simp))
  obtain ⟨_, q, cap, rfl, _⟩ := hs
  obtain ⟨o, ho⟩ : ∃ o, btV I L [a0, a1] (xorN I ⟨L, false⟩ a0 a1) = o := ⟨_, rfl⟩
  rw [ho]
  have HO := Lib.hid ho
  clear ho
  have HB1 := Lib.hid (((Below.refl w.heap.size w).alloc (Nat.le_refl _) (.cells #[.int .i64 I, .slice q L.length cap] 29)).alloc (by simp) (.cells #[.int .i64 0, .slice none 0 0] 29))
  have HX := Lib.hid ((((Below.refl _ _).alloc (Nat.le_refl _) (.cells #[.int .i64 0, .slice none 0 0] 29)).block w.heap.size (by simp)).trans (heap_alloc_new w (.cells #[.int .i64 I, .slice q L.length cap] 29)))
  have HR := Lib.hid (heap_alloc_new (w.alloc (.cells #[.int .i64 I, .slice q L.length cap] 29)) (.cells #[.int .i64 0, .slice none 0 0] 29))
  obtain ⟨w1, hw1⟩ : ∃ w1, w1 = (w.alloc (.cells #[.int .i64 I, .slice q L.length cap] 29)).alloc (.cells #[.int .i64 0, .slice none 0 0] 29) := ⟨_, rfl⟩
  have hs1 : w1.heap.size = w.heap.size + 2 := by rw [hw1]; simp
  rw [show (w.alloc (.cells #[.int .i64 I, .slice q L.length cap] 29)).heap.size = w.heap.size + 1 by simp] at HR
  rw [← hw1] at HB1 HX HR
  go_enter Try.func20, Try.ntmps20
  go_wp2_with fail
  rw [← hw1]
  clear hw1
  refine (KC.out _ HB1.out).mono ?_
  rintro e w2 ⟨rfl, hb2⟩
  have HB2 := Lib.hid (HB1.out.trans (hb2.mono (by omega)))
  have HX2 := Lib.hid ((hb2.block w.heap.size (by omega)).trans HX.out)
  have HR2 := Lib.hid ((hb2.block (w.heap.size + 1) (by omega)).trans HR.out)
  have hs2 := hb2.size
  clear hb2 HX HR HB1
  obtain ⟨vc, hvc⟩ : ∃ vc, ccB I L = vc := ⟨_, rfl⟩
  have HVC := Lib.hid hvc
  rw [hvc]
  clear hvc
  cases vc with
  | false =>
    have HV := Lib.hid (show o = none by rw [← HO.out]; unfold btV; rw [if_neg (by rw [HVC.out]; simp)])
    obtain ⟨r0, r1, s0, s1⟩ := cell2_at HR2.out
    go_wp2
    refine bodyPost_ret (v := .tuple #[.agg #[.int .i64 0, .slice none 0 0], .int .i64 0, .bool false]) (by simp [results, Try.results20, go_sem, r0, r1, s0, s1]) rfl ?_
    exact bt_none HV.out ((HB2.out.setCell (Nat.le_succ _) _).setCell (Nat.le_succ _) _)
  | true =>
    obtain ⟨hi0, hi1, hl3, _⟩ := cc_of HVC.out
    obtain ⟨x0, x1, _, _⟩ := cell2_at HX2.out
    have hxl : w.heap.size < w2.heap.size := by omega
    have hrl : w.heap.size + 1 < w2.heap.size := by omega
    have HBL := Lib.hid ((Below.refl w2.heap.size w2).alloc (Nat.le_refl _) (.cells #[.int .i64 a0, .int .i64 a1] 3))
    have HLS : Hid (Cs.Shows (w2.alloc (.cells #[.int .i64 a0, .int .i64 a1] 3)) 0 1 (.slice (some ⟨w2.heap.size, 0, none⟩) 2 2) 2 (IntL.all [a0, a1])) := Lib.hid (by
      refine ⟨rfl, _, 2, rfl, Nat.le_refl _, by unfold maxLen; omega, (fun h => by cases h), fun x hx => ?_⟩
      cases hx
      exact ⟨Nat.zero_le _, fun _ => rfl, fun i u hu => by
        rw [Nat.zero_add, cell_of_row _ _ _ _ _ _ (heap_alloc_new w2 _)]
        rw [IntL.all_map] at hu
        simpa using hu⟩)
    obtain ⟨w3, hw3⟩ : ∃ w3, w3 = w2.alloc (.cells #[.int .i64 a0, .int .i64 a1] 3) := ⟨_, rfl⟩
    have hs3 : w3.heap.size = w2.heap.size + 1 := by rw [hw3]; simp
    rw [← hw3] at HBL HLS
    have HB3 := Lib.hid (HB2.out.trans (HBL.out.mono (by omega)))
    go_wp2_with fail
    rw [← hw3]
    clear hw3 x0 x1
    refine (KLI.out _ HB3.out ⟨hi0, hi1⟩ hl3 _ HLS.out).mono ?_
    rintro e w4 ⟨rfl, hb4⟩
    have HB4 := Lib.hid (HB3.out.trans (hb4.mono (by omega)))
    have HX4 := Lib.hid ((hb4.block w.heap.size (by omega)).trans ((HBL.out.block w.heap.size (by omega)).trans HX2.out))
    have HR4 := Lib.hid ((hb4.block (w.heap.size + 1) (by omega)).trans ((HBL.out.block (w.heap.size + 1) (by omega)).trans HR2.out))
    have hs4 := hb4.size
    clear hb4 HBL HLS HB3 HX2 HR2 HB2
    obtain ⟨vl, hvl⟩ : ∃ vl, litsB (1 + I + L.length) [a0, a1] = vl := ⟨_, rfl⟩
    have HVL := Lib.hid hvl
    rw [hvl]
    clear hvl
    obtain ⟨r0, r1, s0, s1⟩ := cell2_at HR4.out
    cases vl with
    | false =>
      have HV := Lib.hid (show o = none by rw [← HO.out]; unfold btV; rw [if_neg (by rw [HVL.out]; simp)])
      go_wp2
      refine bodyPost_ret (v := .tuple #[.agg #[.int .i64 0, .slice none 0 0], .int .i64 0, .bool false]) (by simp [results, Try.results20, go_sem, r0, r1, s0, s1]) rfl ?_
      exact bt_none HV.out ((HB4.out.setCell (Nat.le_succ _) _).setCell (Nat.le_succ _) _)
    | true =>
      obtain ⟨l0, l1⟩ := lits2 HVL.out
      have KA := Lib.hid (fun b0 bp W h => s_xor b0 bp I ⟨L, false⟩ a0 a1 W h ⟨hi0, hi1, hl3, hok⟩ l0 l1)
      generalize xorN I ⟨L, false⟩ a0 a1 = r at *
      obtain ⟨x0, x1, _, _⟩ := cell2_at HX4.out
      clear l0 l1 r0 r1 s0 s1
      go_wp2_with fail
      clear x0 x1
      refine (KN.out _ HB4.out hl3).mono ?_
      rintro e w5 ⟨bp, rfl, hn5, hb5⟩
      have HB5 := Lib.hid (HB4.out.trans (hb5.mono (by omega)))
      have HR5 := Lib.hid ((hb5.block (w.heap.size + 1) (by omega)).trans HR4.out)
      have hs5 := hb5.size
      have KA5 := Lib.hid (KA.out _ _ _ hn5)
      unfold MsEnd at KA5
      clear hb5 hn5 HR4 HX4 HB4 KA
      go_wp2_with fail
      refine KA5.out.mono ?_
      rintro e w6 ⟨rfl, hn6, hb6⟩
      have HB6 := Lib.hid (HB5.out.trans (hb6.mono (by omega)))
      have HR6 := Lib.hid ((hb6.block (w.heap.size + 1) (by omega)).trans HR5.out)
      have hs6 := hb6.size
      have KO := Lib.hid (s_out _ bp I r.1 r.2 w6 hn6)
      clear hb6 hn6 HR5 HB5 KA5
      go_wp2_with fail
      refine KO.out.mono ?_
      rintro e w7 ⟨hb7, ⟨hf, rfl⟩ | ⟨hf, q7, c7, rfl, ho7⟩⟩
      · have HV := Lib.hid (show o = none by rw [← HO.out]; unfold btV; rw [if_neg (by rw [hf]; simp)])
        have HB7 := Lib.hid (HB6.out.trans (hb7.mono (by omega)))
        obtain ⟨r0, r1, s0, s1⟩ := cell2_at ((hb7.block (w.heap.size + 1) (by omega)).trans HR6.out)
        clear hb7 hf
        go_wp2
        refine bodyPost_ret (v := .tuple #[.agg #[.int .i64 0, .slice none 0 0], .int .i64 0, .bool false]) (by simp [results, Try.results20, go_sem, r0, r1, s0, s1]) rfl ?_
        exact bt_none HV.out ((HB7.out.setCell (Nat.le_succ _) _).setCell (Nat.le_succ _) _)
      · have HV := Lib.hid (show o = some (r.1.gs, r.2) by rw [← HO.out]; unfold btV; rw [if_pos ⟨HVC.out, HVL.out, hf⟩])
        have HB7 := Lib.hid (HB6.out.trans (hb7.mono (by omega)))
        have HO7 := Lib.hid ho7
        obtain ⟨r0, r1, s0, s1⟩ := cell2_at ((hb7.block (w.heap.size + 1) (by omega)).trans HR6.out)
        clear hb7 hf ho7
        generalize hn7 : r.1.gs.length = n7 at *
        go_wp2
        refine bodyPost_ret (v := .tuple #[.agg #[.int .i64 I, .slice q7 n7 c7], .int .i64 r.2, .bool true]) (by simp [results, Try.results20, go_sem, r0, r1, s0, s1]) rfl ?_
        have HO8 : World.ownsRow ((w7.setCell ⟨w.heap.size + 1, 0, none⟩ (.int .i64 I)).setCell ⟨w.heap.size + 1, 1, none⟩ (.slice q7 n7 c7)) w.heap.size 48 2 (.slice q7 n7 c7) n7 (GateR.all r.1.gs) := own_base (own_same HO7.out (fun k hk => by
          have := (own_lt HO7.out hk).1
          have hne : k ≠ w.heap.size + 1 := by omega
          exact (heap_setCell_other _ _ _ _ hne).trans (heap_setCell_other _ _ _ _ hne))) (by omega)
        subst hn7
        exact bt_some HV.out ((HB7.out.setCell (Nat.le_succ _) _).setCell (Nat.le_succ _) _) HO8
theorem len_XorOf (I : Int) (L : List GateR) (a0 a1 : Int) (hok : ∀ r ∈ L, r.Ok) : (btL (btV I L [a0, a1] (xorN I ⟨L, false⟩ a0 a1))).length ≤ 360 := by
  unfold btV
  split
  · rename_i h
    obtain ⟨hc, hv, _⟩ := h
    obtain ⟨hi0, hi1, hl, _⟩ := cc_of hc
    obtain ⟨l0, l1⟩ := lits2 hv
    exact (xor_ok (N := ⟨L, false⟩) ⟨hi0, hi1, hl, hok⟩ l0 l1).1.2.2.1
  · exact Nat.zero_le _
set_option maxRecDepth 100000 in
set_option maxHeartbeats 2000000 in
theorem s_IfOf (I : Int) (L : List GateR) (s : Value) (a0 a1 a2 : Int) (w : World) (hs : Cs.Shows w 0 2 s L.length (GateR.all L)) (hI : -9223372036854775808 ≤ I ∧ I ≤ 9223372036854775807) (hok : ∀ r ∈ L, r.Ok) (hl : L.length ≤ maxLen) :
    Calls Try.prog 22 #[.agg #[.int .i64 I, s], .int .i64 a0, .int .i64 a1, .int .i64 a2] w (BtEnd I (btV I L [a0, a1, a2] (ifN I ⟨L, false⟩ a0 a1 a2)) w) := by
  have HS := Lib.hid hs
  have KC := Lib.hid (fun W (hb : Below w.heap.size w W) => s_cc I L s W (hs.below hb) hI hok hl)
  have KN := Lib.hid (fun W (hb : Below w.heap.size w W) h => s_new I L s W (hs.below hb) h)
  have KLI := Lib.hid (fun W (hb : Below w.heap.size w W) h1 h2 v (hv : Cs.Shows W 0 1 v 3 (IntL.all [a0, a1, a2])) => s_lits4 I L s [a0, a1, a2] v W (hs.below hb) h1 h2 hv (by simp))
  obtain ⟨_, q, cap, rfl, _⟩ := hs
  obtain ⟨o, ho⟩ : ∃ o, btV I L [a0, a1, a2] (ifN I ⟨L, false⟩ a0 a1 a2) = o := ⟨_, rfl⟩
  rw [ho]
  have HO := Lib.hid ho
  clear ho
  have HB1 := Lib.hid (((Below.refl w.heap.size w).alloc (Nat.le_refl _) (.cells #[.int .i64 I, .slice q L.length cap] 29)).alloc (by simp) (.cells #[.int .i64 0, .slice none 0 0] 29))
  have HX := Lib.hid ((((Below.refl _ _).alloc (Nat.le_refl _) (.cells #[.int .i64 0, .slice none 0 0] 29)).block w.heap.size (by simp)).trans (heap_alloc_new w (.cells #[.int .i64 I, .slice q L.length cap] 29)))
  have HR := Lib.hid (heap_alloc_new (w.alloc (.cells #[.int .i64 I, .slice q L.length cap] 29)) (.cells #[.int .i64 0, .slice none 0 0] 29))
  obtain ⟨w1, hw1⟩ : ∃ w1, w1 = (w.alloc (.cells #[.int .i64 I, .slice q L.length cap] 29)).alloc (.cells #[.int .i64 0, .slice none 0 0] 29) := ⟨_, rfl⟩
  have hs1 : w1.heap.size = w.heap.size + 2 := by rw [hw1]; simp
  rw [show (w.alloc (.cells #[.int .i64 I, .slice q L.length cap] 29)).heap.size = w.heap.size + 1 by simp] at HR
  rw [← hw1] at HB1 HX HR
  go_enter Try.func22, Try.ntmps22
  go_wp2_with fail
  rw [← hw1]
  clear hw1
  refine (KC.out _ HB1.out).mono ?_
  rintro e w2 ⟨rfl, hb2⟩
  have HB2 := Lib.hid (HB1.out.trans (hb2.mono (by omega)))
  have HX2 := Lib.hid ((hb2.block w.heap.size (by omega)).trans HX.out)
  have HR2 := Lib.hid ((hb2.block (w.heap.size + 1) (by omega)).trans HR.out)
  have hs2 := hb2.size
  clear hb2 HX HR HB1
  obtain ⟨vc, hvc⟩ : ∃ vc, ccB I L = vc := ⟨_, rfl⟩
  have HVC := Lib.hid hvc
  rw [hvc]
  clear hvc
  cases vc with
  | false =>
    have HV := Lib.hid (show o = none by rw [← HO.out]; unfold btV; rw [if_neg (by rw [HVC.out]; simp)])
    obtain ⟨r0, r1, s0, s1⟩ := cell2_at HR2.out
    go_wp2
    refine bodyPost_ret (v := .tuple #[.agg #[.int .i64 0, .slice none 0 0], .int .i64 0, .bool false]) (by simp [results, Try.results22, go_sem, r0, r1, s0, s1]) rfl ?_
    exact bt_none HV.out ((HB2.out.setCell (Nat.le_succ _) _).setCell (Nat.le_succ _) _)
  | true =>
    obtain ⟨hi0, hi1, hl3, _⟩ := cc_of HVC.out
    obtain ⟨x0, x1, _, _⟩ := cell2_at HX2.out
    have hxl : w.heap.size < w2.heap.size := by omega
    have hrl : w.heap.size + 1 < w2.heap.size := by omega
    have HBL := Lib.hid ((Below.refl w2.heap.size w2).alloc (Nat.le_refl _) (.cells #[.int .i64 a0, .int .i64 a1, .int .i64 a2] 3))
    have HLS : Hid (Cs.Shows (w2.alloc (.cells #[.int .i64 a0, .int .i64 a1, .int .i64 a2] 3)) 0 1 (.slice (some ⟨w2.heap.size, 0, none⟩) 3 3) 3 (IntL.all [a0, a1, a2])) := Lib.hid (by
      refine ⟨rfl, _, 3, rfl, Nat.le_refl _, by unfold maxLen; omega, (fun h => by cases h), fun x hx => ?_⟩
      cases hx
      exact ⟨Nat.zero_le _, fun _ => rfl, fun i u hu => by
        rw [Nat.zero_add, cell_of_row _ _ _ _ _ _ (heap_alloc_new w2 _)]
        rw [IntL.all_map] at hu
        simpa using hu⟩)
    obtain ⟨w3, hw3⟩ : ∃ w3, w3 = w2.alloc (.cells #[.int .i64 a0, .int .i64 a1, .int .i64 a2] 3) := ⟨_, rfl⟩
    have hs3 : w3.heap.size = w2.heap.size + 1 := by rw [hw3]; simp
    rw [← hw3] at HBL HLS
    have HB3 := Lib.hid (HB2.out.trans (HBL.out.mono (by omega)))
    go_wp2_with fail
    rw [← hw3]
    clear hw3 x0 x1
    refine (KLI.out _ HB3.out ⟨hi0, hi1⟩ hl3 _ HLS.out).mono ?_
    rintro e w4 ⟨rfl, hb4⟩
    have HB4 := Lib.hid (HB3.out.trans (hb4.mono (by omega)))
    have HX4 := Lib.hid ((hb4.block w.heap.size (by omega)).trans ((HBL.out.block w.heap.size (by omega)).trans HX2.out))
    have HR4 := Lib.hid ((hb4.block (w.heap.size + 1) (by omega)).trans ((HBL.out.block (w.heap.size + 1) (by omega)).trans HR2.out))
    have hs4 := hb4.size
    clear hb4 HBL HLS HB3 HX2 HR2 HB2
    obtain ⟨vl, hvl⟩ : ∃ vl, litsB (1 + I + L.length) [a0, a1, a2] = vl := ⟨_, rfl⟩
    have HVL := Lib.hid hvl
    rw [hvl]
    clear hvl
    obtain ⟨r0, r1, s0, s1⟩ := cell2_at HR4.out
    cases vl with
    | false =>
      have HV := Lib.hid (show o = none by rw [← HO.out]; unfold btV; rw [if_neg (by rw [HVL.out]; simp)])
      go_wp2
      refine bodyPost_ret (v := .tuple #[.agg #[.int .i64 0, .slice none 0 0], .int .i64 0, .bool false]) (by simp [results, Try.results22, go_sem, r0, r1, s0, s1]) rfl ?_
      exact bt_none HV.out ((HB4.out.setCell (Nat.le_succ _) _).setCell (Nat.le_succ _) _)
    | true =>
      obtain ⟨l0, l1, l2⟩ := lits3 HVL.out
      have KA := Lib.hid (fun b0 bp W h => s_if b0 bp I ⟨L, false⟩ a0 a1 a2 W h ⟨hi0, hi1, hl3, hok⟩ l0 l1 l2)
      generalize ifN I ⟨L, false⟩ a0 a1 a2 = r at *
      obtain ⟨x0, x1, _, _⟩ := cell2_at HX4.out
      clear l0 l1 l2 r0 r1 s0 s1
      go_wp2_with fail
      clear x0 x1
      refine (KN.out _ HB4.out hl3).mono ?_
      rintro e w5 ⟨bp, rfl, hn5, hb5⟩
      have HB5 := Lib.hid (HB4.out.trans (hb5.mono (by omega)))
      have HR5 := Lib.hid ((hb5.block (w.heap.size + 1) (by omega)).trans HR4.out)
      have hs5 := hb5.size
      have KA5 := Lib.hid (KA.out _ _ _ hn5)
      unfold MsEnd at KA5
      clear hb5 hn5 HR4 HX4 HB4 KA
      go_wp2_with fail
      refine KA5.out.mono ?_
      rintro e w6 ⟨rfl, hn6, hb6⟩
      have HB6 := Lib.hid (HB5.out.trans (hb6.mono (by omega)))
      have HR6 := Lib.hid ((hb6.block (w.heap.size + 1) (by omega)).trans HR5.out)
      have hs6 := hb6.size
      have KO := Lib.hid (s_out _ bp I r.1 r.2 w6 hn6)
      clear hb6 hn6 HR5 HB5 KA5
      go_wp2_with fail
      refine KO.out.mono ?_
      rintro e w7 ⟨hb7, ⟨hf, rfl⟩ | ⟨hf, q7, c7, rfl, ho7⟩⟩
      · have HV := Lib.hid (show o = none by rw [← HO.out]; unfold btV; rw [if_neg (by rw [hf]; simp)])
        have HB7 := Lib.hid (HB6.out.trans (hb7.mono (by omega)))
        obtain ⟨r0, r1, s0, s1⟩ := cell2_at ((hb7.block (w.heap.size + 1) (by omega)).trans HR6.out)
        clear hb7 hf
        go_wp2
        refine bodyPost_ret (v := .tuple #[.agg #[.int .i64 0, .slice none 0 0], .int .i64 0, .bool false]) (by simp [results, Try.results22, go_sem, r0, r1, s0, s1]) rfl ?_
        exact bt_none HV.out ((HB7.out.setCell (Nat.le_succ _) _).setCell (Nat.le_succ _) _)
      · have HV := Lib.hid (show o = some (r.1.gs, r.2) by rw [← HO.out]; unfold btV; rw [if_pos ⟨HVC.out, HVL.out, hf⟩])
        have HB7 := Lib.hid (HB6.out.trans (hb7.mono (by omega)))
        have HO7 := Lib.hid ho7
        obtain ⟨r0, r1, s0, s1⟩ := cell2_at ((hb7.block (w.heap.size + 1) (by omega)).trans HR6.out)
        clear hb7 hf ho7
        generalize hn7 : r.1.gs.length = n7 at *
        go_wp2
        refine bodyPost_ret (v := .tuple #[.agg #[.int .i64 I, .slice q7 n7 c7], .int .i64 r.2, .bool true]) (by simp [results, Try.results22, go_sem, r0, r1, s0, s1]) rfl ?_
        have HO8 : World.ownsRow ((w7.setCell ⟨w.heap.size + 1, 0, none⟩ (.int .i64 I)).setCell ⟨w.heap.size + 1, 1, none⟩ (.slice q7 n7 c7)) w.heap.size 48 2 (.slice q7 n7 c7) n7 (GateR.all r.1.gs) := own_base (own_same HO7.out (fun k hk => by
          have := (own_lt HO7.out hk).1
          have hne : k ≠ w.heap.size + 1 := by omega
          exact (heap_setCell_other _ _ _ _ hne).trans (heap_setCell_other _ _ _ _ hne))) (by omega)
        subst hn7
        exact bt_some HV.out ((HB7.out.setCell (Nat.le_succ _) _).setCell (Nat.le_succ _) _) HO8
theorem len_IfOf (I : Int) (L : List GateR) (a0 a1 a2 : Int) (hok : ∀ r ∈ L, r.Ok) : (btL (btV I L [a0, a1, a2] (ifN I ⟨L, false⟩ a0 a1 a2))).length ≤ 360 := by
  unfold btV
  split
  · rename_i h
    obtain ⟨hc, hv, _⟩ := h
    obtain ⟨hi0, hi1, hl, _⟩ := cc_of hc
    obtain ⟨l0, l1, l2⟩ := lits3 hv
    exact (if_ok (N := ⟨L, false⟩) ⟨hi0, hi1, hl, hok⟩ l0 l1 l2).1.2.2.1
  · exact Nat.zero_le _
end Go.Proofs.Ytimjkgciakbolab
