/- What the program's AndOf, OrOf, XorOf and IfOf return. No condition. -/
import Derived.Test.YtimjkgciakbolabGtB
namespace Go.Proofs.Ytimjkgciakbolab
open Go.ChangeShapes Go.WideShapes Go.ChangeAt Go.RowKit
theorem lits2 {I : Int} {L : List GateR} {a0 a1 : Int} (h : litsB (1 + I + L.length) [a0, a1] = true) : LitN I ⟨L, false⟩ a0 ∧ LitN I ⟨L, false⟩ a1 := by
  unfold litsB litB at h
  simp only [List.all_cons, List.all_nil, Bool.and_true, Bool.and_eq_true, decide_eq_true_eq] at h
  exact ⟨⟨h.1.1, by show -(1 + I + (L.length : Int)) ≤ a0; omega, h.1.2.2⟩, ⟨h.2.1, by show -(1 + I + (L.length : Int)) ≤ a1; omega, h.2.2.2⟩⟩
theorem lits3 {I : Int} {L : List GateR} {a0 a1 a2 : Int} (h : litsB (1 + I + L.length) [a0, a1, a2] = true) : LitN I ⟨L, false⟩ a0 ∧ LitN I ⟨L, false⟩ a1 ∧ LitN I ⟨L, false⟩ a2 := by
  unfold litsB litB at h
  simp only [List.all_cons, List.all_nil, Bool.and_true, Bool.and_eq_true, decide_eq_true_eq] at h
  exact ⟨⟨h.1.1, by show -(1 + I + (L.length : Int)) ≤ a0; omega, h.1.2.2⟩, ⟨h.2.1.1, by show -(1 + I + (L.length : Int)) ≤ a1; omega, h.2.1.2.2⟩, ⟨h.2.2.1, by show -(1 + I + (L.length : Int)) ≤ a2; omega, h.2.2.2.2⟩⟩
theorem cf_AndOf (a : Array Value) (W : World) : (callFunc 41 a).run Try.prog W = .ok (.enter 41 a) W := by kernel_rfl
set_option maxRecDepth 100000 in
theorem k_AndOf (I : Int) (L : List GateR) (a0 a1 : Int) (p0 p1 : Nat) (w : World) (c0 : w.cell? ⟨p0, 0, none⟩ = some (.int .i64 a0)) (c1 : w.cell? ⟨p1, 0, none⟩ = some (.int .i64 a1)) (hok : ∀ r ∈ L, r.Ok) :
    ∀ b0 B bp W, Below w.heap.size w W → Bu b0 B bp I ⟨L, false⟩ W → ccB I L = true → litsB (1 + I + L.length) [a0, a1] = true → Calls Try.prog 41 (#[.pointer (some ⟨bp, 0, none⟩)] ++ #[.pointer (some ⟨p0, 0, none⟩), .pointer (some ⟨p1, 0, none⟩)]) W (MkEnd b0 B bp I (andN I ⟨L, false⟩ a0 a1) W) := by
  intro b0 B bp W hb hbu hc hv
  obtain ⟨hi0, hi1, hl, _⟩ := cc_of hc
  obtain ⟨l0, l1⟩ := lits2 hv
  have K := Lib.hid (i_and b0 B bp I ⟨L, false⟩ a0 a1 W hbu ⟨hi0, hi1, hl, hok⟩ l0 l1)
  have d0 := (hb.cell (p := ⟨p0, 0, none⟩) (World.block_lt_of_cell? _ _ c0)).trans c0
  have d1 := (hb.cell (p := ⟨p1, 0, none⟩) (World.block_lt_of_cell? _ _ c1)).trans c1
  generalize andN I ⟨L, false⟩ a0 a1 = r at *
  unfold MkEnd at *
  clear hv hc l0 l1 hbu c0 c1
  show Calls Try.prog 41 #[.pointer (some ⟨bp, 0, none⟩), .pointer (some ⟨p0, 0, none⟩), .pointer (some ⟨p1, 0, none⟩)] W _
  go_enter Try.func41, Try.ntmps41
  go_wp2_with (go_at_call 42; refine K.out.mono ?_; rintro e w2 ⟨rfl, hbu2, hb2⟩)
  go_ret
  exact ⟨rfl, hbu2, hb2⟩
set_option maxRecDepth 100000 in
set_option maxHeartbeats 1000000 in
theorem i_AndOf (I : Int) (L : List GateR) (s : Value) (a0 a1 : Int) (w : World) (hs : Cs.Shows w 0 2 s L.length (GateR.all L)) (hI : -9223372036854775808 ≤ I ∧ I ≤ 9223372036854775807) (hok : ∀ r ∈ L, r.Ok) (hl : L.length ≤ maxLen) :
    Calls Try.prog 15 #[.agg #[.int .i64 I, s], .int .i64 a0, .int .i64 a1] w (BtEnd I (btV I L [a0, a1] (andN I ⟨L, false⟩ a0 a1)) w) := by
  have HS := Lib.hid hs
  obtain ⟨_, q, cap, rfl, _⟩ := hs
  obtain ⟨w1, hw1⟩ : ∃ w1, w1 = w.alloc (.cells #[.int .i64 I, .slice q L.length cap] 29) := ⟨_, rfl⟩
  obtain ⟨w2, hw2⟩ : ∃ w2, w2 = w1.alloc (.cells #[.int .i64 a0] 3) := ⟨_, rfl⟩
  obtain ⟨w3, hw3⟩ : ∃ w3, w3 = w2.alloc (.cells #[.int .i64 a1] 3) := ⟨_, rfl⟩
  obtain ⟨w4, hw4⟩ : ∃ w4, w4 = w3.alloc (.cells #[.int .i64 0, .slice none 0 0] 29) := ⟨_, rfl⟩
  obtain ⟨w5, hw5⟩ : ∃ w5, w5 = w4.alloc (.cells #[.int .i64 a0, .int .i64 a1] 3) := ⟨_, rfl⟩
  have s1 : w1.heap.size = w.heap.size + 1 := by rw [hw1]; simp
  have s2 : w2.heap.size = w.heap.size + 2 := by rw [hw2]; simp [s1]
  have s3 : w3.heap.size = w.heap.size + 3 := by rw [hw3]; simp [s2]
  have s4 : w4.heap.size = w.heap.size + 4 := by rw [hw4]; simp [s3]
  have s5 : w5.heap.size = w.heap.size + 5 := by rw [hw5]; simp [s4]
  have n1 : w1.heap[w.heap.size]? = some (.cells #[.int .i64 I, .slice q L.length cap] 29 (0, 0)) := by rw [hw1]; exact heap_alloc_new _ _
  have n2 : w2.heap[w.heap.size + 1]? = some (.cells #[.int .i64 a0] 3 (0, 0)) := by rw [hw2, ← s1]; exact heap_alloc_new _ _
  have n3 : w3.heap[w.heap.size + 2]? = some (.cells #[.int .i64 a1] 3 (0, 0)) := by rw [hw3, ← s2]; exact heap_alloc_new _ _
  have n4 : w4.heap[w.heap.size + 3]? = some (.cells #[.int .i64 0, .slice none 0 0] 29 (0, 0)) := by rw [hw4, ← s3]; exact heap_alloc_new _ _
  have n5 : w5.heap[w.heap.size + 4]? = some (.cells #[.int .i64 a0, .int .i64 a1] 3 (0, 0)) := by rw [hw5, ← s4]; exact heap_alloc_new _ _
  have b2 : Below w1.heap.size w1 w2 := by rw [hw2]; exact (Below.refl _ _).alloc (Nat.le_refl _) _
  have b3 : Below w2.heap.size w2 w3 := by rw [hw3]; exact (Below.refl _ _).alloc (Nat.le_refl _) _
  have b4 : Below w3.heap.size w3 w4 := by rw [hw4]; exact (Below.refl _ _).alloc (Nat.le_refl _) _
  have b5 : Below w4.heap.size w4 w5 := by rw [hw5]; exact (Below.refl _ _).alloc (Nat.le_refl _) _
  have HB5 : Hid (Below w.heap.size w w5) := Lib.hid (by
    have b1 : Below w.heap.size w w1 := by rw [hw1]; exact (Below.refl _ _).alloc (Nat.le_refl _) _
    exact b1.trans ((b2.trans ((b3.trans ((b4.trans (b5.mono (by omega))).mono (by omega))).mono (by omega))).mono (by omega)))
  have HR5 := Lib.hid ((b5.block _ (by omega)).trans n4)
  have H0 := ((b5.block _ (by omega)).trans ((b4.block _ (by omega)).trans ((b3.block _ (by omega)).trans n2)))
  have H1 := ((b5.block _ (by omega)).trans ((b4.block _ (by omega)).trans n3))
  have HLS : Hid (Cs.Shows w5 0 1 (.slice (some ⟨w.heap.size + 4, 0, none⟩) 2 2) 2 (IntL.all [a0, a1])) := Lib.hid (by
    refine ⟨rfl, _, 2, rfl, Nat.le_refl _, by unfold maxLen; omega, (fun h => by cases h), fun x hx => ?_⟩
    cases hx
    exact ⟨Nat.zero_le _, fun _ => rfl, fun i u hu => by
      rw [Nat.zero_add, cell_of_row _ _ _ _ _ _ n5]
      rw [IntL.all_map] at hu
      simpa using hu⟩)
  have KB := Lib.hid (i_built 41 cf_AndOf #[.pointer (some ⟨w.heap.size + 1, 0, none⟩), .pointer (some ⟨w.heap.size + 2, 0, none⟩)] (andN I ⟨L, false⟩ a0 a1) I L (.slice q L.length cap) [a0, a1] (.slice (some ⟨w.heap.size + 4, 0, none⟩) 2 2) w5 (HS.out.below HB5.out) hI hok hl HLS.out (by simp) (k_AndOf I L a0 a1 _ _ w5 (cell_of_row _ _ 0 _ _ _ H0) (cell_of_row _ _ 0 _ _ _ H1) hok))
  obtain ⟨o, ho⟩ : ∃ o, btV I L [a0, a1] (andN I ⟨L, false⟩ a0 a1) = o := ⟨_, rfl⟩
  rw [ho] at KB ⊢
  unfold BtEnd at KB
  clear ho H0 H1 b2 b3 b4 b5 n1 n2 n3 n4 n5 HS HLS hok hI hl
  go_enter Try.func15, Try.ntmps15
  go_wp2_with fail
  rw [← hw1, ← hw2, ← hw3, ← hw4, ← hw5]
  clear hw1 hw2 hw3 hw4 hw5
  refine KB.out.mono ?_
  rintro e w6 ⟨hb6, q6, c6, rfl, ho6⟩
  have HR6 := (hb6.block (w.heap.size + 3) (by omega)).trans HR5.out
  have HB6 := Lib.hid (HB5.out.trans (hb6.mono (by omega)))
  have HO6 := Lib.hid ho6
  have r0 : w6.cell? ⟨w.heap.size + 1 + 1 + 1, 0, none⟩ = some (.int .i64 0) := cell_of_row w6 _ 0 _ _ _ HR6
  have r1 : w6.cell? ⟨w.heap.size + 1 + 1 + 1, 1, none⟩ = some (.slice none 0 0) := cell_of_row w6 _ 1 _ _ _ HR6
  have f0 : w6.frozen? ⟨w.heap.size + 1 + 1 + 1, 0, none⟩ = false := frozen_of_row w6 _ 0 _ _ HR6
  have f1 : w6.frozen? ⟨w.heap.size + 1 + 1 + 1, 1, none⟩ = false := frozen_of_row w6 _ 1 _ _ HR6
  have HO7 : Hid (World.ownsRow ((w6.setCell ⟨w.heap.size + 1 + 1 + 1, 0, none⟩ (.int .i64 (btI I o))).setCell ⟨w.heap.size + 1 + 1 + 1, 1, none⟩ (.slice q6 (btL o).length c6)) w.heap.size 48 2 (.slice q6 (btL o).length c6) (btL o).length (GateR.all (btL o))) := Lib.hid (own_base (own_same HO6.out (fun k hk => by
    have := (own_lt HO6.out hk).1
    have hne : k ≠ w.heap.size + 1 + 1 + 1 := by omega
    exact (heap_setCell_other _ _ _ _ hne).trans (heap_setCell_other _ _ _ _ hne))) (by omega))
  unfold BtEnd
  clear hb6 ho6 HR6 HR5 HO6 KB HB5
  generalize hn6 : (btL o).length = n6 at *
  generalize hi6 : btI I o = i6 at *
  generalize hx6 : btX o = x6 at *
  go_wp2
  refine bodyPost_ret (v := .tuple #[.agg #[.int .i64 i6, .slice q6 n6 c6], .int .i64 x6, .bool o.isSome]) (by simp [results, Try.results15, go_sem, r0, r1]) rfl ?_
  subst hn6 hi6 hx6
  exact ⟨(HB6.out.setCell (by show w.heap.size ≤ w.heap.size + 1 + 1 + 1; omega) _).setCell (by show w.heap.size ≤ w.heap.size + 1 + 1 + 1; omega) _, q6, c6, rfl, HO7.out⟩
theorem cf_OrOf (a : Array Value) (W : World) : (callFunc 46 a).run Try.prog W = .ok (.enter 46 a) W := by kernel_rfl
set_option maxRecDepth 100000 in
theorem k_OrOf (I : Int) (L : List GateR) (a0 a1 : Int) (p0 p1 : Nat) (w : World) (c0 : w.cell? ⟨p0, 0, none⟩ = some (.int .i64 a0)) (c1 : w.cell? ⟨p1, 0, none⟩ = some (.int .i64 a1)) (hok : ∀ r ∈ L, r.Ok) :
    ∀ b0 B bp W, Below w.heap.size w W → Bu b0 B bp I ⟨L, false⟩ W → ccB I L = true → litsB (1 + I + L.length) [a0, a1] = true → Calls Try.prog 46 (#[.pointer (some ⟨bp, 0, none⟩)] ++ #[.pointer (some ⟨p0, 0, none⟩), .pointer (some ⟨p1, 0, none⟩)]) W (MkEnd b0 B bp I (orN I ⟨L, false⟩ a0 a1) W) := by
  intro b0 B bp W hb hbu hc hv
  obtain ⟨hi0, hi1, hl, _⟩ := cc_of hc
  obtain ⟨l0, l1⟩ := lits2 hv
  have K := Lib.hid (i_or' b0 B bp I ⟨L, false⟩ a0 a1 W hbu ⟨hi0, hi1, hl, hok⟩ l0 l1)
  have d0 := (hb.cell (p := ⟨p0, 0, none⟩) (World.block_lt_of_cell? _ _ c0)).trans c0
  have d1 := (hb.cell (p := ⟨p1, 0, none⟩) (World.block_lt_of_cell? _ _ c1)).trans c1
  generalize orN I ⟨L, false⟩ a0 a1 = r at *
  unfold MkEnd at *
  clear hv hc l0 l1 hbu c0 c1
  show Calls Try.prog 46 #[.pointer (some ⟨bp, 0, none⟩), .pointer (some ⟨p0, 0, none⟩), .pointer (some ⟨p1, 0, none⟩)] W _
  go_enter Try.func46, Try.ntmps46
  go_wp2_with (go_at_call 47; refine K.out.mono ?_; rintro e w2 ⟨rfl, hbu2, hb2⟩)
  go_ret
  exact ⟨rfl, hbu2, hb2⟩
set_option maxRecDepth 100000 in
set_option maxHeartbeats 1000000 in
theorem i_OrOf (I : Int) (L : List GateR) (s : Value) (a0 a1 : Int) (w : World) (hs : Cs.Shows w 0 2 s L.length (GateR.all L)) (hI : -9223372036854775808 ≤ I ∧ I ≤ 9223372036854775807) (hok : ∀ r ∈ L, r.Ok) (hl : L.length ≤ maxLen) :
    Calls Try.prog 19 #[.agg #[.int .i64 I, s], .int .i64 a0, .int .i64 a1] w (BtEnd I (btV I L [a0, a1] (orN I ⟨L, false⟩ a0 a1)) w) := by
  have HS := Lib.hid hs
  obtain ⟨_, q, cap, rfl, _⟩ := hs
  obtain ⟨w1, hw1⟩ : ∃ w1, w1 = w.alloc (.cells #[.int .i64 I, .slice q L.length cap] 29) := ⟨_, rfl⟩
  obtain ⟨w2, hw2⟩ : ∃ w2, w2 = w1.alloc (.cells #[.int .i64 a0] 3) := ⟨_, rfl⟩
  obtain ⟨w3, hw3⟩ : ∃ w3, w3 = w2.alloc (.cells #[.int .i64 a1] 3) := ⟨_, rfl⟩
  obtain ⟨w4, hw4⟩ : ∃ w4, w4 = w3.alloc (.cells #[.int .i64 0, .slice none 0 0] 29) := ⟨_, rfl⟩
  obtain ⟨w5, hw5⟩ : ∃ w5, w5 = w4.alloc (.cells #[.int .i64 a0, .int .i64 a1] 3) := ⟨_, rfl⟩
  have s1 : w1.heap.size = w.heap.size + 1 := by rw [hw1]; simp
  have s2 : w2.heap.size = w.heap.size + 2 := by rw [hw2]; simp [s1]
  have s3 : w3.heap.size = w.heap.size + 3 := by rw [hw3]; simp [s2]
  have s4 : w4.heap.size = w.heap.size + 4 := by rw [hw4]; simp [s3]
  have s5 : w5.heap.size = w.heap.size + 5 := by rw [hw5]; simp [s4]
  have n1 : w1.heap[w.heap.size]? = some (.cells #[.int .i64 I, .slice q L.length cap] 29 (0, 0)) := by rw [hw1]; exact heap_alloc_new _ _
  have n2 : w2.heap[w.heap.size + 1]? = some (.cells #[.int .i64 a0] 3 (0, 0)) := by rw [hw2, ← s1]; exact heap_alloc_new _ _
  have n3 : w3.heap[w.heap.size + 2]? = some (.cells #[.int .i64 a1] 3 (0, 0)) := by rw [hw3, ← s2]; exact heap_alloc_new _ _
  have n4 : w4.heap[w.heap.size + 3]? = some (.cells #[.int .i64 0, .slice none 0 0] 29 (0, 0)) := by rw [hw4, ← s3]; exact heap_alloc_new _ _
  have n5 : w5.heap[w.heap.size + 4]? = some (.cells #[.int .i64 a0, .int .i64 a1] 3 (0, 0)) := by rw [hw5, ← s4]; exact heap_alloc_new _ _
  have b2 : Below w1.heap.size w1 w2 := by rw [hw2]; exact (Below.refl _ _).alloc (Nat.le_refl _) _
  have b3 : Below w2.heap.size w2 w3 := by rw [hw3]; exact (Below.refl _ _).alloc (Nat.le_refl _) _
  have b4 : Below w3.heap.size w3 w4 := by rw [hw4]; exact (Below.refl _ _).alloc (Nat.le_refl _) _
  have b5 : Below w4.heap.size w4 w5 := by rw [hw5]; exact (Below.refl _ _).alloc (Nat.le_refl _) _
  have HB5 : Hid (Below w.heap.size w w5) := Lib.hid (by
    have b1 : Below w.heap.size w w1 := by rw [hw1]; exact (Below.refl _ _).alloc (Nat.le_refl _) _
    exact b1.trans ((b2.trans ((b3.trans ((b4.trans (b5.mono (by omega))).mono (by omega))).mono (by omega))).mono (by omega)))
  have HR5 := Lib.hid ((b5.block _ (by omega)).trans n4)
  have H0 := ((b5.block _ (by omega)).trans ((b4.block _ (by omega)).trans ((b3.block _ (by omega)).trans n2)))
  have H1 := ((b5.block _ (by omega)).trans ((b4.block _ (by omega)).trans n3))
  have HLS : Hid (Cs.Shows w5 0 1 (.slice (some ⟨w.heap.size + 4, 0, none⟩) 2 2) 2 (IntL.all [a0, a1])) := Lib.hid (by
    refine ⟨rfl, _, 2, rfl, Nat.le_refl _, by unfold maxLen; omega, (fun h => by cases h), fun x hx => ?_⟩
    cases hx
    exact ⟨Nat.zero_le _, fun _ => rfl, fun i u hu => by
      rw [Nat.zero_add, cell_of_row _ _ _ _ _ _ n5]
      rw [IntL.all_map] at hu
      simpa using hu⟩)
  have KB := Lib.hid (i_built 46 cf_OrOf #[.pointer (some ⟨w.heap.size + 1, 0, none⟩), .pointer (some ⟨w.heap.size + 2, 0, none⟩)] (orN I ⟨L, false⟩ a0 a1) I L (.slice q L.length cap) [a0, a1] (.slice (some ⟨w.heap.size + 4, 0, none⟩) 2 2) w5 (HS.out.below HB5.out) hI hok hl HLS.out (by simp) (k_OrOf I L a0 a1 _ _ w5 (cell_of_row _ _ 0 _ _ _ H0) (cell_of_row _ _ 0 _ _ _ H1) hok))
  obtain ⟨o, ho⟩ : ∃ o, btV I L [a0, a1] (orN I ⟨L, false⟩ a0 a1) = o := ⟨_, rfl⟩
  rw [ho] at KB ⊢
  unfold BtEnd at KB
  clear ho H0 H1 b2 b3 b4 b5 n1 n2 n3 n4 n5 HS HLS hok hI hl
  go_enter Try.func19, Try.ntmps19
  go_wp2_with fail
  rw [← hw1, ← hw2, ← hw3, ← hw4, ← hw5]
  clear hw1 hw2 hw3 hw4 hw5
  refine KB.out.mono ?_
  rintro e w6 ⟨hb6, q6, c6, rfl, ho6⟩
  have HR6 := (hb6.block (w.heap.size + 3) (by omega)).trans HR5.out
  have HB6 := Lib.hid (HB5.out.trans (hb6.mono (by omega)))
  have HO6 := Lib.hid ho6
  have r0 : w6.cell? ⟨w.heap.size + 1 + 1 + 1, 0, none⟩ = some (.int .i64 0) := cell_of_row w6 _ 0 _ _ _ HR6
  have r1 : w6.cell? ⟨w.heap.size + 1 + 1 + 1, 1, none⟩ = some (.slice none 0 0) := cell_of_row w6 _ 1 _ _ _ HR6
  have f0 : w6.frozen? ⟨w.heap.size + 1 + 1 + 1, 0, none⟩ = false := frozen_of_row w6 _ 0 _ _ HR6
  have f1 : w6.frozen? ⟨w.heap.size + 1 + 1 + 1, 1, none⟩ = false := frozen_of_row w6 _ 1 _ _ HR6
  have HO7 : Hid (World.ownsRow ((w6.setCell ⟨w.heap.size + 1 + 1 + 1, 0, none⟩ (.int .i64 (btI I o))).setCell ⟨w.heap.size + 1 + 1 + 1, 1, none⟩ (.slice q6 (btL o).length c6)) w.heap.size 48 2 (.slice q6 (btL o).length c6) (btL o).length (GateR.all (btL o))) := Lib.hid (own_base (own_same HO6.out (fun k hk => by
    have := (own_lt HO6.out hk).1
    have hne : k ≠ w.heap.size + 1 + 1 + 1 := by omega
    exact (heap_setCell_other _ _ _ _ hne).trans (heap_setCell_other _ _ _ _ hne))) (by omega))
  unfold BtEnd
  clear hb6 ho6 HR6 HR5 HO6 KB HB5
  generalize hn6 : (btL o).length = n6 at *
  generalize hi6 : btI I o = i6 at *
  generalize hx6 : btX o = x6 at *
  go_wp2
  refine bodyPost_ret (v := .tuple #[.agg #[.int .i64 i6, .slice q6 n6 c6], .int .i64 x6, .bool o.isSome]) (by simp [results, Try.results19, go_sem, r0, r1]) rfl ?_
  subst hn6 hi6 hx6
  exact ⟨(HB6.out.setCell (by show w.heap.size ≤ w.heap.size + 1 + 1 + 1; omega) _).setCell (by show w.heap.size ≤ w.heap.size + 1 + 1 + 1; omega) _, q6, c6, rfl, HO7.out⟩
theorem cf_XorOf (a : Array Value) (W : World) : (callFunc 49 a).run Try.prog W = .ok (.enter 49 a) W := by kernel_rfl
set_option maxRecDepth 100000 in
theorem k_XorOf (I : Int) (L : List GateR) (a0 a1 : Int) (p0 p1 : Nat) (w : World) (c0 : w.cell? ⟨p0, 0, none⟩ = some (.int .i64 a0)) (c1 : w.cell? ⟨p1, 0, none⟩ = some (.int .i64 a1)) (hok : ∀ r ∈ L, r.Ok) :
    ∀ b0 B bp W, Below w.heap.size w W → Bu b0 B bp I ⟨L, false⟩ W → ccB I L = true → litsB (1 + I + L.length) [a0, a1] = true → Calls Try.prog 49 (#[.pointer (some ⟨bp, 0, none⟩)] ++ #[.pointer (some ⟨p0, 0, none⟩), .pointer (some ⟨p1, 0, none⟩)]) W (MkEnd b0 B bp I (xorN I ⟨L, false⟩ a0 a1) W) := by
  intro b0 B bp W hb hbu hc hv
  obtain ⟨hi0, hi1, hl, _⟩ := cc_of hc
  obtain ⟨l0, l1⟩ := lits2 hv
  have K := Lib.hid (i_xor b0 B bp I ⟨L, false⟩ a0 a1 W hbu ⟨hi0, hi1, hl, hok⟩ l0 l1)
  have d0 := (hb.cell (p := ⟨p0, 0, none⟩) (World.block_lt_of_cell? _ _ c0)).trans c0
  have d1 := (hb.cell (p := ⟨p1, 0, none⟩) (World.block_lt_of_cell? _ _ c1)).trans c1
  generalize xorN I ⟨L, false⟩ a0 a1 = r at *
  unfold MkEnd at *
  clear hv hc l0 l1 hbu c0 c1
  show Calls Try.prog 49 #[.pointer (some ⟨bp, 0, none⟩), .pointer (some ⟨p0, 0, none⟩), .pointer (some ⟨p1, 0, none⟩)] W _
  go_enter Try.func49, Try.ntmps49
  go_wp2_with (go_at_call 50; refine K.out.mono ?_; rintro e w2 ⟨rfl, hbu2, hb2⟩)
  go_ret
  exact ⟨rfl, hbu2, hb2⟩
set_option maxRecDepth 100000 in
set_option maxHeartbeats 1000000 in
theorem i_XorOf (I : Int) (L : List GateR) (s : Value) (a0 a1 : Int) (w : World) (hs : Cs.Shows w 0 2 s L.length (GateR.all L)) (hI : -9223372036854775808 ≤ I ∧ I ≤ 9223372036854775807) (hok : ∀ r ∈ L, r.Ok) (hl : L.length ≤ maxLen) :
    Calls Try.prog 21 #[.agg #[.int .i64 I, s], .int .i64 a0, .int .i64 a1] w (BtEnd I (btV I L [a0, a1] (xorN I ⟨L, false⟩ a0 a1)) w) := by
  have HS := Lib.hid hs
  obtain ⟨_, q, cap, rfl, _⟩ := hs
  obtain ⟨w1, hw1⟩ : ∃ w1, w1 = w.alloc (.cells #[.int .i64 I, .slice q L.length cap] 29) := ⟨_, rfl⟩
  obtain ⟨w2, hw2⟩ : ∃ w2, w2 = w1.alloc (.cells #[.int .i64 a0] 3) := ⟨_, rfl⟩
  obtain ⟨w3, hw3⟩ : ∃ w3, w3 = w2.alloc (.cells #[.int .i64 a1] 3) := ⟨_, rfl⟩
  obtain ⟨w4, hw4⟩ : ∃ w4, w4 = w3.alloc (.cells #[.int .i64 0, .slice none 0 0] 29) := ⟨_, rfl⟩
  obtain ⟨w5, hw5⟩ : ∃ w5, w5 = w4.alloc (.cells #[.int .i64 a0, .int .i64 a1] 3) := ⟨_, rfl⟩
  have s1 : w1.heap.size = w.heap.size + 1 := by rw [hw1]; simp
  have s2 : w2.heap.size = w.heap.size + 2 := by rw [hw2]; simp [s1]
  have s3 : w3.heap.size = w.heap.size + 3 := by rw [hw3]; simp [s2]
  have s4 : w4.heap.size = w.heap.size + 4 := by rw [hw4]; simp [s3]
  have s5 : w5.heap.size = w.heap.size + 5 := by rw [hw5]; simp [s4]
  have n1 : w1.heap[w.heap.size]? = some (.cells #[.int .i64 I, .slice q L.length cap] 29 (0, 0)) := by rw [hw1]; exact heap_alloc_new _ _
  have n2 : w2.heap[w.heap.size + 1]? = some (.cells #[.int .i64 a0] 3 (0, 0)) := by rw [hw2, ← s1]; exact heap_alloc_new _ _
  have n3 : w3.heap[w.heap.size + 2]? = some (.cells #[.int .i64 a1] 3 (0, 0)) := by rw [hw3, ← s2]; exact heap_alloc_new _ _
  have n4 : w4.heap[w.heap.size + 3]? = some (.cells #[.int .i64 0, .slice none 0 0] 29 (0, 0)) := by rw [hw4, ← s3]; exact heap_alloc_new _ _
  have n5 : w5.heap[w.heap.size + 4]? = some (.cells #[.int .i64 a0, .int .i64 a1] 3 (0, 0)) := by rw [hw5, ← s4]; exact heap_alloc_new _ _
  have b2 : Below w1.heap.size w1 w2 := by rw [hw2]; exact (Below.refl _ _).alloc (Nat.le_refl _) _
  have b3 : Below w2.heap.size w2 w3 := by rw [hw3]; exact (Below.refl _ _).alloc (Nat.le_refl _) _
  have b4 : Below w3.heap.size w3 w4 := by rw [hw4]; exact (Below.refl _ _).alloc (Nat.le_refl _) _
  have b5 : Below w4.heap.size w4 w5 := by rw [hw5]; exact (Below.refl _ _).alloc (Nat.le_refl _) _
  have HB5 : Hid (Below w.heap.size w w5) := Lib.hid (by
    have b1 : Below w.heap.size w w1 := by rw [hw1]; exact (Below.refl _ _).alloc (Nat.le_refl _) _
    exact b1.trans ((b2.trans ((b3.trans ((b4.trans (b5.mono (by omega))).mono (by omega))).mono (by omega))).mono (by omega)))
  have HR5 := Lib.hid ((b5.block _ (by omega)).trans n4)
  have H0 := ((b5.block _ (by omega)).trans ((b4.block _ (by omega)).trans ((b3.block _ (by omega)).trans n2)))
  have H1 := ((b5.block _ (by omega)).trans ((b4.block _ (by omega)).trans n3))
  have HLS : Hid (Cs.Shows w5 0 1 (.slice (some ⟨w.heap.size + 4, 0, none⟩) 2 2) 2 (IntL.all [a0, a1])) := Lib.hid (by
    refine ⟨rfl, _, 2, rfl, Nat.le_refl _, by unfold maxLen; omega, (fun h => by cases h), fun x hx => ?_⟩
    cases hx
    exact ⟨Nat.zero_le _, fun _ => rfl, fun i u hu => by
      rw [Nat.zero_add, cell_of_row _ _ _ _ _ _ n5]
      rw [IntL.all_map] at hu
      simpa using hu⟩)
  have KB := Lib.hid (i_built 49 cf_XorOf #[.pointer (some ⟨w.heap.size + 1, 0, none⟩), .pointer (some ⟨w.heap.size + 2, 0, none⟩)] (xorN I ⟨L, false⟩ a0 a1) I L (.slice q L.length cap) [a0, a1] (.slice (some ⟨w.heap.size + 4, 0, none⟩) 2 2) w5 (HS.out.below HB5.out) hI hok hl HLS.out (by simp) (k_XorOf I L a0 a1 _ _ w5 (cell_of_row _ _ 0 _ _ _ H0) (cell_of_row _ _ 0 _ _ _ H1) hok))
  obtain ⟨o, ho⟩ : ∃ o, btV I L [a0, a1] (xorN I ⟨L, false⟩ a0 a1) = o := ⟨_, rfl⟩
  rw [ho] at KB ⊢
  unfold BtEnd at KB
  clear ho H0 H1 b2 b3 b4 b5 n1 n2 n3 n4 n5 HS HLS hok hI hl
  go_enter Try.func21, Try.ntmps21
  go_wp2_with fail
  rw [← hw1, ← hw2, ← hw3, ← hw4, ← hw5]
  clear hw1 hw2 hw3 hw4 hw5
  refine KB.out.mono ?_
  rintro e w6 ⟨hb6, q6, c6, rfl, ho6⟩
  have HR6 := (hb6.block (w.heap.size + 3) (by omega)).trans HR5.out
  have HB6 := Lib.hid (HB5.out.trans (hb6.mono (by omega)))
  have HO6 := Lib.hid ho6
  have r0 : w6.cell? ⟨w.heap.size + 1 + 1 + 1, 0, none⟩ = some (.int .i64 0) := cell_of_row w6 _ 0 _ _ _ HR6
  have r1 : w6.cell? ⟨w.heap.size + 1 + 1 + 1, 1, none⟩ = some (.slice none 0 0) := cell_of_row w6 _ 1 _ _ _ HR6
  have f0 : w6.frozen? ⟨w.heap.size + 1 + 1 + 1, 0, none⟩ = false := frozen_of_row w6 _ 0 _ _ HR6
  have f1 : w6.frozen? ⟨w.heap.size + 1 + 1 + 1, 1, none⟩ = false := frozen_of_row w6 _ 1 _ _ HR6
  have HO7 : Hid (World.ownsRow ((w6.setCell ⟨w.heap.size + 1 + 1 + 1, 0, none⟩ (.int .i64 (btI I o))).setCell ⟨w.heap.size + 1 + 1 + 1, 1, none⟩ (.slice q6 (btL o).length c6)) w.heap.size 48 2 (.slice q6 (btL o).length c6) (btL o).length (GateR.all (btL o))) := Lib.hid (own_base (own_same HO6.out (fun k hk => by
    have := (own_lt HO6.out hk).1
    have hne : k ≠ w.heap.size + 1 + 1 + 1 := by omega
    exact (heap_setCell_other _ _ _ _ hne).trans (heap_setCell_other _ _ _ _ hne))) (by omega))
  unfold BtEnd
  clear hb6 ho6 HR6 HR5 HO6 KB HB5
  generalize hn6 : (btL o).length = n6 at *
  generalize hi6 : btI I o = i6 at *
  generalize hx6 : btX o = x6 at *
  go_wp2
  refine bodyPost_ret (v := .tuple #[.agg #[.int .i64 i6, .slice q6 n6 c6], .int .i64 x6, .bool o.isSome]) (by simp [results, Try.results21, go_sem, r0, r1]) rfl ?_
  subst hn6 hi6 hx6
  exact ⟨(HB6.out.setCell (by show w.heap.size ≤ w.heap.size + 1 + 1 + 1; omega) _).setCell (by show w.heap.size ≤ w.heap.size + 1 + 1 + 1; omega) _, q6, c6, rfl, HO7.out⟩
theorem cf_IfOf (a : Array Value) (W : World) : (callFunc 52 a).run Try.prog W = .ok (.enter 52 a) W := by kernel_rfl
set_option maxRecDepth 100000 in
theorem k_IfOf (I : Int) (L : List GateR) (a0 a1 a2 : Int) (p0 p1 p2 : Nat) (w : World) (c0 : w.cell? ⟨p0, 0, none⟩ = some (.int .i64 a0)) (c1 : w.cell? ⟨p1, 0, none⟩ = some (.int .i64 a1)) (c2 : w.cell? ⟨p2, 0, none⟩ = some (.int .i64 a2)) (hok : ∀ r ∈ L, r.Ok) :
    ∀ b0 B bp W, Below w.heap.size w W → Bu b0 B bp I ⟨L, false⟩ W → ccB I L = true → litsB (1 + I + L.length) [a0, a1, a2] = true → Calls Try.prog 52 (#[.pointer (some ⟨bp, 0, none⟩)] ++ #[.pointer (some ⟨p0, 0, none⟩), .pointer (some ⟨p1, 0, none⟩), .pointer (some ⟨p2, 0, none⟩)]) W (MkEnd b0 B bp I (ifN I ⟨L, false⟩ a0 a1 a2) W) := by
  intro b0 B bp W hb hbu hc hv
  obtain ⟨hi0, hi1, hl, _⟩ := cc_of hc
  obtain ⟨l0, l1, l2⟩ := lits3 hv
  have K := Lib.hid (i_choose b0 B bp I ⟨L, false⟩ a0 a1 a2 W hbu ⟨hi0, hi1, hl, hok⟩ l0 l1 l2)
  have d0 := (hb.cell (p := ⟨p0, 0, none⟩) (World.block_lt_of_cell? _ _ c0)).trans c0
  have d1 := (hb.cell (p := ⟨p1, 0, none⟩) (World.block_lt_of_cell? _ _ c1)).trans c1
  have d2 := (hb.cell (p := ⟨p2, 0, none⟩) (World.block_lt_of_cell? _ _ c2)).trans c2
  generalize ifN I ⟨L, false⟩ a0 a1 a2 = r at *
  unfold MkEnd at *
  clear hv hc l0 l1 l2 hbu c0 c1 c2
  show Calls Try.prog 52 #[.pointer (some ⟨bp, 0, none⟩), .pointer (some ⟨p0, 0, none⟩), .pointer (some ⟨p1, 0, none⟩), .pointer (some ⟨p2, 0, none⟩)] W _
  go_enter Try.func52, Try.ntmps52
  go_wp2_with (go_at_call 53; refine K.out.mono ?_; rintro e w2 ⟨rfl, hbu2, hb2⟩)
  go_ret
  exact ⟨rfl, hbu2, hb2⟩
set_option maxRecDepth 100000 in
set_option maxHeartbeats 1000000 in
theorem i_IfOf (I : Int) (L : List GateR) (s : Value) (a0 a1 a2 : Int) (w : World) (hs : Cs.Shows w 0 2 s L.length (GateR.all L)) (hI : -9223372036854775808 ≤ I ∧ I ≤ 9223372036854775807) (hok : ∀ r ∈ L, r.Ok) (hl : L.length ≤ maxLen) :
    Calls Try.prog 23 #[.agg #[.int .i64 I, s], .int .i64 a0, .int .i64 a1, .int .i64 a2] w (BtEnd I (btV I L [a0, a1, a2] (ifN I ⟨L, false⟩ a0 a1 a2)) w) := by
  have HS := Lib.hid hs
  obtain ⟨_, q, cap, rfl, _⟩ := hs
  obtain ⟨w1, hw1⟩ : ∃ w1, w1 = w.alloc (.cells #[.int .i64 I, .slice q L.length cap] 29) := ⟨_, rfl⟩
  obtain ⟨w2, hw2⟩ : ∃ w2, w2 = w1.alloc (.cells #[.int .i64 a0] 3) := ⟨_, rfl⟩
  obtain ⟨w3, hw3⟩ : ∃ w3, w3 = w2.alloc (.cells #[.int .i64 a1] 3) := ⟨_, rfl⟩
  obtain ⟨w4, hw4⟩ : ∃ w4, w4 = w3.alloc (.cells #[.int .i64 a2] 3) := ⟨_, rfl⟩
  obtain ⟨w5, hw5⟩ : ∃ w5, w5 = w4.alloc (.cells #[.int .i64 0, .slice none 0 0] 29) := ⟨_, rfl⟩
  obtain ⟨w6, hw6⟩ : ∃ w6, w6 = w5.alloc (.cells #[.int .i64 a0, .int .i64 a1, .int .i64 a2] 3) := ⟨_, rfl⟩
  have s1 : w1.heap.size = w.heap.size + 1 := by rw [hw1]; simp
  have s2 : w2.heap.size = w.heap.size + 2 := by rw [hw2]; simp [s1]
  have s3 : w3.heap.size = w.heap.size + 3 := by rw [hw3]; simp [s2]
  have s4 : w4.heap.size = w.heap.size + 4 := by rw [hw4]; simp [s3]
  have s5 : w5.heap.size = w.heap.size + 5 := by rw [hw5]; simp [s4]
  have s6 : w6.heap.size = w.heap.size + 6 := by rw [hw6]; simp [s5]
  have n1 : w1.heap[w.heap.size]? = some (.cells #[.int .i64 I, .slice q L.length cap] 29 (0, 0)) := by rw [hw1]; exact heap_alloc_new _ _
  have n2 : w2.heap[w.heap.size + 1]? = some (.cells #[.int .i64 a0] 3 (0, 0)) := by rw [hw2, ← s1]; exact heap_alloc_new _ _
  have n3 : w3.heap[w.heap.size + 2]? = some (.cells #[.int .i64 a1] 3 (0, 0)) := by rw [hw3, ← s2]; exact heap_alloc_new _ _
  have n4 : w4.heap[w.heap.size + 3]? = some (.cells #[.int .i64 a2] 3 (0, 0)) := by rw [hw4, ← s3]; exact heap_alloc_new _ _
  have n5 : w5.heap[w.heap.size + 4]? = some (.cells #[.int .i64 0, .slice none 0 0] 29 (0, 0)) := by rw [hw5, ← s4]; exact heap_alloc_new _ _
  have n6 : w6.heap[w.heap.size + 5]? = some (.cells #[.int .i64 a0, .int .i64 a1, .int .i64 a2] 3 (0, 0)) := by rw [hw6, ← s5]; exact heap_alloc_new _ _
  have b2 : Below w1.heap.size w1 w2 := by rw [hw2]; exact (Below.refl _ _).alloc (Nat.le_refl _) _
  have b3 : Below w2.heap.size w2 w3 := by rw [hw3]; exact (Below.refl _ _).alloc (Nat.le_refl _) _
  have b4 : Below w3.heap.size w3 w4 := by rw [hw4]; exact (Below.refl _ _).alloc (Nat.le_refl _) _
  have b5 : Below w4.heap.size w4 w5 := by rw [hw5]; exact (Below.refl _ _).alloc (Nat.le_refl _) _
  have b6 : Below w5.heap.size w5 w6 := by rw [hw6]; exact (Below.refl _ _).alloc (Nat.le_refl _) _
  have HB5 : Hid (Below w.heap.size w w6) := Lib.hid (by
    have b1 : Below w.heap.size w w1 := by rw [hw1]; exact (Below.refl _ _).alloc (Nat.le_refl _) _
    exact b1.trans ((b2.trans ((b3.trans ((b4.trans ((b5.trans (b6.mono (by omega))).mono (by omega))).mono (by omega))).mono (by omega))).mono (by omega)))
  have HR5 := Lib.hid ((b6.block _ (by omega)).trans n5)
  have H0 := ((b6.block _ (by omega)).trans ((b5.block _ (by omega)).trans ((b4.block _ (by omega)).trans ((b3.block _ (by omega)).trans n2))))
  have H1 := ((b6.block _ (by omega)).trans ((b5.block _ (by omega)).trans ((b4.block _ (by omega)).trans n3)))
  have H2 := ((b6.block _ (by omega)).trans ((b5.block _ (by omega)).trans n4))
  have HLS : Hid (Cs.Shows w6 0 1 (.slice (some ⟨w.heap.size + 5, 0, none⟩) 3 3) 3 (IntL.all [a0, a1, a2])) := Lib.hid (by
    refine ⟨rfl, _, 3, rfl, Nat.le_refl _, by unfold maxLen; omega, (fun h => by cases h), fun x hx => ?_⟩
    cases hx
    exact ⟨Nat.zero_le _, fun _ => rfl, fun i u hu => by
      rw [Nat.zero_add, cell_of_row _ _ _ _ _ _ n6]
      rw [IntL.all_map] at hu
      simpa using hu⟩)
  have KB := Lib.hid (i_built 52 cf_IfOf #[.pointer (some ⟨w.heap.size + 1, 0, none⟩), .pointer (some ⟨w.heap.size + 2, 0, none⟩), .pointer (some ⟨w.heap.size + 3, 0, none⟩)] (ifN I ⟨L, false⟩ a0 a1 a2) I L (.slice q L.length cap) [a0, a1, a2] (.slice (some ⟨w.heap.size + 5, 0, none⟩) 3 3) w6 (HS.out.below HB5.out) hI hok hl HLS.out (by simp) (k_IfOf I L a0 a1 a2 _ _ _ w6 (cell_of_row _ _ 0 _ _ _ H0) (cell_of_row _ _ 0 _ _ _ H1) (cell_of_row _ _ 0 _ _ _ H2) hok))
  obtain ⟨o, ho⟩ : ∃ o, btV I L [a0, a1, a2] (ifN I ⟨L, false⟩ a0 a1 a2) = o := ⟨_, rfl⟩
  rw [ho] at KB ⊢
  unfold BtEnd at KB
  clear ho H0 H1 H2 b2 b3 b4 b5 b6 n1 n2 n3 n4 n5 n6 HS HLS hok hI hl
  go_enter Try.func23, Try.ntmps23
  go_wp2_with fail
  rw [← hw1, ← hw2, ← hw3, ← hw4, ← hw5, ← hw6]
  clear hw1 hw2 hw3 hw4 hw5 hw6
  refine KB.out.mono ?_
  rintro e w6 ⟨hb6, q6, c6, rfl, ho6⟩
  have HR6 := (hb6.block (w.heap.size + 4) (by omega)).trans HR5.out
  have HB6 := Lib.hid (HB5.out.trans (hb6.mono (by omega)))
  have HO6 := Lib.hid ho6
  have r0 : w6.cell? ⟨w.heap.size + 1 + 1 + 1 + 1, 0, none⟩ = some (.int .i64 0) := cell_of_row w6 _ 0 _ _ _ HR6
  have r1 : w6.cell? ⟨w.heap.size + 1 + 1 + 1 + 1, 1, none⟩ = some (.slice none 0 0) := cell_of_row w6 _ 1 _ _ _ HR6
  have f0 : w6.frozen? ⟨w.heap.size + 1 + 1 + 1 + 1, 0, none⟩ = false := frozen_of_row w6 _ 0 _ _ HR6
  have f1 : w6.frozen? ⟨w.heap.size + 1 + 1 + 1 + 1, 1, none⟩ = false := frozen_of_row w6 _ 1 _ _ HR6
  have HO7 : Hid (World.ownsRow ((w6.setCell ⟨w.heap.size + 1 + 1 + 1 + 1, 0, none⟩ (.int .i64 (btI I o))).setCell ⟨w.heap.size + 1 + 1 + 1 + 1, 1, none⟩ (.slice q6 (btL o).length c6)) w.heap.size 48 2 (.slice q6 (btL o).length c6) (btL o).length (GateR.all (btL o))) := Lib.hid (own_base (own_same HO6.out (fun k hk => by
    have := (own_lt HO6.out hk).1
    have hne : k ≠ w.heap.size + 1 + 1 + 1 + 1 := by omega
    exact (heap_setCell_other _ _ _ _ hne).trans (heap_setCell_other _ _ _ _ hne))) (by omega))
  unfold BtEnd
  clear hb6 ho6 HR6 HR5 HO6 KB HB5
  generalize hn6 : (btL o).length = n6 at *
  generalize hi6 : btI I o = i6 at *
  generalize hx6 : btX o = x6 at *
  go_wp2
  refine bodyPost_ret (v := .tuple #[.agg #[.int .i64 i6, .slice q6 n6 c6], .int .i64 x6, .bool o.isSome]) (by simp [results, Try.results23, go_sem, r0, r1]) rfl ?_
  subst hn6 hi6 hx6
  exact ⟨(HB6.out.setCell (by show w.heap.size ≤ w.heap.size + 1 + 1 + 1 + 1; omega) _).setCell (by show w.heap.size ≤ w.heap.size + 1 + 1 + 1 + 1; omega) _, q6, c6, rfl, HO7.out⟩
end Go.Proofs.Ytimjkgciakbolab
