/- The marks that the laws write into a state: markState. No condition. -/
import Derived.Test.YtnhagmjknfiphaaCmGStR
import Derived.Test.YtnhagmjknfiphaaCmGMkProg
namespace Go.Proofs.Ytnhagmjknfiphaa
open Go.ChangeShapes Go.WideShapes Go.ChangeAt Go.RowKit
/-- its slices own their rows, which bear marks from a number on -/
def StM (w : World) (base : Nat) (x : StR) (k : Nat) (r m s o : Value) : Prop := w.ownsRow base 3 1 r x.R.length (IntL.all (IntL.mkrs x.R k)) ∧ w.ownsRow base 3 1 m x.M.length (IntL.all (IntL.mkrs x.M (k + x.R.length))) ∧ w.ownsRow base 3 1 s x.S.length (IntL.all (IntL.mkrs x.S (k + x.R.length + x.M.length))) ∧ w.ownsRow base 3 1 o x.O.length (IntL.all (IntL.mkrs x.O (k + x.R.length + x.M.length + x.S.length))) ∧ (r.ownBlock.toList ++ m.ownBlock.toList ++ s.ownBlock.toList ++ o.ownBlock.toList).Nodup
theorem StM.lt {w : World} {base : Nat} {x : StR} {k : Nat} {r m s o : Value} (h : StM w base x k r m s o) {g : Nat} (hg : g ∈ StB r m s o) : base ≤ g ∧ g < w.heap.size := by
  unfold StB at hg
  simp only [List.mem_append] at hg
  rcases hg with ((hg | hg) | hg) | hg
  · exact own_lt h.1 hg
  · exact own_lt h.2.1 hg
  · exact own_lt h.2.2.1 hg
  · exact own_lt h.2.2.2.1 hg
theorem StM.keep {w w' : World} {base : Nat} {x : StR} {k : Nat} {r m s o : Value} (h : StM w base x k r m s o) (hb : Below w.heap.size w w') : StM w' base x k r m s o := ⟨own_keep h.1 hb, own_keep h.2.1 hb, own_keep h.2.2.1 hb, own_keep h.2.2.2.1 hb, h.2.2.2.2⟩
theorem StM.same {w w' : World} {base : Nat} {x : StR} {k : Nat} {r m s o : Value} (h : StM w base x k r m s o) (hs : ∀ g ∈ StB r m s o, w'.heap[g]? = w.heap[g]?) : StM w' base x k r m s o :=
  ⟨own_same h.1 (fun g hg => hs g (by unfold StB; simp only [List.mem_append]; exact .inl (.inl (.inl hg)))), own_same h.2.1 (fun g hg => hs g (by unfold StB; simp only [List.mem_append]; exact .inl (.inl (.inr hg)))), own_same h.2.2.1 (fun g hg => hs g (by unfold StB; simp only [List.mem_append]; exact .inl (.inr hg))), own_same h.2.2.2.1 (fun g hg => hs g (by unfold StB; simp only [List.mem_append]; exact .inr hg)), h.2.2.2.2⟩
theorem StM.shows {w : World} {base : Nat} {x : StR} {k : Nat} {r m s o : Value} (h : StM w base x k r m s o) : Cs.Shows w 0 1 r x.R.length (IntL.all (IntL.mkrs x.R k)) ∧ Cs.Shows w 0 1 m x.M.length (IntL.all (IntL.mkrs x.M (k + x.R.length))) ∧ Cs.Shows w 0 1 s x.S.length (IntL.all (IntL.mkrs x.S (k + x.R.length + x.M.length))) ∧ Cs.Shows w 0 1 o x.O.length (IntL.all (IntL.mkrs x.O (k + x.R.length + x.M.length + x.S.length))) := ⟨(Cs.shows_of_owns h.1).down (Nat.zero_le _), (Cs.shows_of_owns h.2.1).down (Nat.zero_le _), (Cs.shows_of_owns h.2.2.1).down (Nat.zero_le _), (Cs.shows_of_owns h.2.2.2.1).down (Nat.zero_le _)⟩
theorem StO.drew {w : World} {base : Nat} {x : StR} {r m s o : Value} (h : StO w base x r m s o) : StO w.drew base x r m s o := h.same (fun _ _ => rfl)
theorem StM.drew {w : World} {base : Nat} {x : StR} {k : Nat} {r m s o : Value} (h : StM w base x k r m s o) : StM w.drew base x k r m s o := h.same (fun _ _ => rfl)
theorem nd4 {a b c d : List Nat} (h : (a ++ b ++ c ++ d).Nodup) : (∀ g ∈ a, g ∉ b ∧ g ∉ c ∧ g ∉ d) ∧ (∀ g ∈ b, g ∉ c ∧ g ∉ d) ∧ (∀ g ∈ c, g ∉ d) := by
  rw [List.nodup_append] at h
  obtain ⟨h, -, h3⟩ := h
  rw [List.nodup_append] at h
  obtain ⟨h, -, h2⟩ := h
  rw [List.nodup_append] at h
  obtain ⟨-, -, h1⟩ := h
  refine ⟨fun g hg => ⟨fun hb => h1 g hg g hb rfl, fun hb => h2 g (by simp [hg]) g hb rfl, fun hb => h3 g (by simp [hg]) g hb rfl⟩, fun g hg => ⟨fun hb => h2 g (by simp [hg]) g hb rfl, fun hb => h3 g (by simp [hg]) g hb rfl⟩, fun g hg hb => h3 g (by simp [hg]) g hb rfl⟩
set_option maxRecDepth 100000 in
set_option maxHeartbeats 4000000 in
theorem mark_State (x : StR) (r m s o : Value) (k base : Nat) (w : World) (ho : StO w base x r m s o) (h1 : 1 ≤ k) (hk : k + x.cost ≤ 1000000000000) :
    Calls Try.prog 29 #[.agg #[.int .i64 x.pc, r, m, s, .int .i64 x.inn, o, .int .i64 x.cd, .int .i64 x.st], .int .i64 k] w fun e w' => e = .returned (.int .i64 ((k + x.cost : Nat) : Int)) ∧ StM w' base x k r m s o ∧ Apart (StB r m s o) w w' := by
  have hx : x.cost = x.R.length + x.M.length + x.S.length + x.O.length := rfl
  obtain ⟨or, om, os, oo, hnd⟩ := ho
  obtain ⟨nr, nm, ns⟩ := nd4 hnd
  have HND := Lib.hid hnd
  have M0 := Lib.hid (fun W (h : W.ownsRow base 3 1 r x.R.length (IntL.all x.R)) => mark_Int x.R r k base W h (by omega) (by omega))
  have M1 := Lib.hid (fun W (h : W.ownsRow base 3 1 m x.M.length (IntL.all x.M)) => mark_Int x.M m (k + x.R.length) base W h (by omega) (by omega))
  have M2 := Lib.hid (fun W (h : W.ownsRow base 3 1 s x.S.length (IntL.all x.S)) => mark_Int x.S s (k + x.R.length + x.M.length) base W h (by omega) (by omega))
  have M3 := Lib.hid (fun W (h : W.ownsRow base 3 1 o x.O.length (IntL.all x.O)) => mark_Int x.O o (k + x.R.length + x.M.length + x.S.length) base W h (by omega) (by omega))
  unfold MarkIntEnd at M0 M1 M2 M3
  have E3 : k + x.cost = (k + x.R.length + x.M.length + x.S.length + x.O.length) := by omega
  have LT := Lib.hid (fun g (hg : g ∈ StB r m s o) => StO.lt (⟨or, om, os, oo, hnd⟩ : StO w base x r m s o) hg)
  have SB : Hid (StB r m s o = r.ownBlock.toList ++ m.ownBlock.toList ++ s.ownBlock.toList ++ o.ownBlock.toList) := Lib.hid rfl
  have Or0 := Lib.hid (or.alloc (.cells #[.int .i64 x.pc, r, m, s, .int .i64 x.inn, o, .int .i64 x.cd, .int .i64 x.st] 47))
  have Om0 := Lib.hid (om.alloc (.cells #[.int .i64 x.pc, r, m, s, .int .i64 x.inn, o, .int .i64 x.cd, .int .i64 x.st] 47))
  have Os0 := Lib.hid (os.alloc (.cells #[.int .i64 x.pc, r, m, s, .int .i64 x.inn, o, .int .i64 x.cd, .int .i64 x.st] 47))
  have Oo0 := Lib.hid (oo.alloc (.cells #[.int .i64 x.pc, r, m, s, .int .i64 x.inn, o, .int .i64 x.cd, .int .i64 x.st] 47))
  have HA0 := Lib.hid (Apart.of_below (bs := StB r m s o) ((Below.refl w.heap.size w).alloc (Nat.le_refl _) (.cells #[.int .i64 x.pc, r, m, s, .int .i64 x.inn, o, .int .i64 x.cd, .int .i64 x.st] 47)))
  have X0 := Lib.hid (heap_alloc_new w (.cells #[.int .i64 x.pc, r, m, s, .int .i64 x.inn, o, .int .i64 x.cd, .int .i64 x.st] 47))
  obtain ⟨w0, hw0⟩ : ∃ w0, w0 = w.alloc (.cells #[.int .i64 x.pc, r, m, s, .int .i64 x.inn, o, .int .i64 x.cd, .int .i64 x.st] 47) := ⟨_, rfl⟩
  have hs0 : w0.heap.size = w.heap.size + 1 := by rw [hw0]; simp
  rw [← hw0] at Or0 Om0 Os0 Oo0 HA0 X0
  clear or om os oo hnd
  obtain ⟨x0, x1, x2, x3, x4, x5, x6, x7⟩ := cell8_row X0.out
  rw [hw0] at x0 x1 x2 x3 x4 x5 x6 x7
  obtain ⟨z0, hz0⟩ : ∃ z : Int, z = k := ⟨_, rfl⟩
  obtain ⟨z1, hz1⟩ : ∃ z : Int, z = (((k + x.R.length) : Nat) : Int) := ⟨_, rfl⟩
  obtain ⟨z2, hz2⟩ : ∃ z : Int, z = (((k + x.R.length + x.M.length) : Nat) : Int) := ⟨_, rfl⟩
  obtain ⟨z3, hz3⟩ : ∃ z : Int, z = (((k + x.R.length + x.M.length + x.S.length) : Nat) : Int) := ⟨_, rfl⟩
  obtain ⟨z4, hz4⟩ : ∃ z : Int, z = (((k + x.R.length + x.M.length + x.S.length + x.O.length) : Nat) : Int) := ⟨_, rfl⟩
  rw [show ((k + x.cost : Nat) : Int) = z4 by rw [hz4, E3], ← hz0]
  rw [← hz0, show ((k + x.R.length : Nat) : Int) = z1 by rw [hz1]] at M0
  rw [← hz1, show (((k + x.R.length) + x.M.length : Nat) : Int) = z2 by rw [hz2]] at M1
  rw [← hz2, show (((k + x.R.length + x.M.length) + x.S.length : Nat) : Int) = z3 by rw [hz3]] at M2
  rw [← hz3, show (((k + x.R.length + x.M.length + x.S.length) + x.O.length : Nat) : Int) = z4 by rw [hz4]] at M3
  clear hz0 hz1 hz2 hz3 hz4 hk E3 hx
  go_enter Try.func29, Try.ntmps29
  go_wp2_with fail
  rw [← hw0]
  clear hw0 x0 x1 x2 x3 x4 x5 x6 x7
  have N0 := Lib.hid (M0.out w0 Or0.out)
  refine N0.out.mono ?_
  rintro e w1 ⟨rfl, hh, hap⟩
  have HA1 := Lib.hid (HA0.out.trans (hap.mono (fun g hg => by rw [SB.out]; simp [hg])))
  have X1 := Lib.hid ((hap.block w.heap.size (Array.getElem?_eq_some_iff.1 X0.out).1 (fun hm => by have := (LT.out w.heap.size (by rw [SB.out]; simp [hm])).2; omega)).trans X0.out)
  have Or1 := Lib.hid hh
  have Om1 := Lib.hid (own_same Om0.out (fun g hg => hap.block g (own_lt Om0.out hg).2 (fun hm => (nr g hm).1 hg)))
  have Os1 := Lib.hid (own_same Os0.out (fun g hg => hap.block g (own_lt Os0.out hg).2 (fun hm => (nr g hm).2.1 hg)))
  have Oo1 := Lib.hid (own_same Oo0.out (fun g hg => hap.block g (own_lt Oo0.out hg).2 (fun hm => (nr g hm).2.2 hg)))
  clear hh hap N0
  obtain ⟨x0, x1, x2, x3, x4, x5, x6, x7⟩ := cell8_row X1.out
  go_wp2_with fail
  clear x0 x1 x2 x3 x4 x5 x6 x7
  have N1 := Lib.hid (M1.out w1 Om1.out)
  refine N1.out.mono ?_
  rintro e w2 ⟨rfl, hh, hap⟩
  have HA2 := Lib.hid (HA1.out.trans (hap.mono (fun g hg => by rw [SB.out]; simp [hg])))
  have X2 := Lib.hid ((hap.block w.heap.size (Array.getElem?_eq_some_iff.1 X1.out).1 (fun hm => by have := (LT.out w.heap.size (by rw [SB.out]; simp [hm])).2; omega)).trans X1.out)
  have Om2 := Lib.hid hh
  have Or2 := Lib.hid (own_same Or1.out (fun g hg => hap.block g (own_lt Or1.out hg).2 (fun hm => (nr g hg).1 hm)))
  have Os2 := Lib.hid (own_same Os1.out (fun g hg => hap.block g (own_lt Os1.out hg).2 (fun hm => (nm g hm).1 hg)))
  have Oo2 := Lib.hid (own_same Oo1.out (fun g hg => hap.block g (own_lt Oo1.out hg).2 (fun hm => (nm g hm).2 hg)))
  clear hh hap N1
  obtain ⟨x0, x1, x2, x3, x4, x5, x6, x7⟩ := cell8_row X2.out
  go_wp2_with fail
  clear x0 x1 x2 x3 x4 x5 x6 x7
  have N2 := Lib.hid (M2.out w2 Os2.out)
  refine N2.out.mono ?_
  rintro e w3 ⟨rfl, hh, hap⟩
  have HA3 := Lib.hid (HA2.out.trans (hap.mono (fun g hg => by rw [SB.out]; simp [hg])))
  have X3 := Lib.hid ((hap.block w.heap.size (Array.getElem?_eq_some_iff.1 X2.out).1 (fun hm => by have := (LT.out w.heap.size (by rw [SB.out]; simp [hm])).2; omega)).trans X2.out)
  have Os3 := Lib.hid hh
  have Or3 := Lib.hid (own_same Or2.out (fun g hg => hap.block g (own_lt Or2.out hg).2 (fun hm => (nr g hg).2.1 hm)))
  have Om3 := Lib.hid (own_same Om2.out (fun g hg => hap.block g (own_lt Om2.out hg).2 (fun hm => (nm g hg).1 hm)))
  have Oo3 := Lib.hid (own_same Oo2.out (fun g hg => hap.block g (own_lt Oo2.out hg).2 (fun hm => ns g hm hg)))
  clear hh hap N2
  obtain ⟨x0, x1, x2, x3, x4, x5, x6, x7⟩ := cell8_row X3.out
  go_wp2_with fail
  clear x0 x1 x2 x3 x4 x5 x6 x7
  have N3 := Lib.hid (M3.out w3 Oo3.out)
  refine N3.out.mono ?_
  rintro e w4 ⟨rfl, hh, hap⟩
  have HA4 := Lib.hid (HA3.out.trans (hap.mono (fun g hg => by rw [SB.out]; simp [hg])))
  have X4 := Lib.hid ((hap.block w.heap.size (Array.getElem?_eq_some_iff.1 X3.out).1 (fun hm => by have := (LT.out w.heap.size (by rw [SB.out]; simp [hm])).2; omega)).trans X3.out)
  have Oo4 := Lib.hid hh
  have Or4 := Lib.hid (own_same Or3.out (fun g hg => hap.block g (own_lt Or3.out hg).2 (fun hm => (nr g hg).2.2 hm)))
  have Om4 := Lib.hid (own_same Om3.out (fun g hg => hap.block g (own_lt Om3.out hg).2 (fun hm => (nm g hg).2 hm)))
  have Os4 := Lib.hid (own_same Os3.out (fun g hg => hap.block g (own_lt Os3.out hg).2 (fun hm => ns g hg hm)))
  clear hh hap N3
  obtain ⟨x0, x1, x2, x3, x4, x5, x6, x7⟩ := cell8_row X4.out
  go_wp2
  go_ret
  exact ⟨rfl, ⟨Or4.out, Om4.out, Os4.out, Oo4.out, HND.out⟩, HA4.out⟩
end Go.Proofs.Ytnhagmjknfiphaa
