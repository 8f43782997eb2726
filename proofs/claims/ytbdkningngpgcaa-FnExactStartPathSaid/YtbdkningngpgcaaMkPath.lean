/- The marks that the laws write into a path: markPath. No condition. -/
import Derived.Test.YtbdkningngpgcaaPath
import Derived.Test.YtbdkningngpgcaaMkT
import Derived.Test.YtbdkningngpgcaaMkInt
namespace Go.Proofs.Ytbdkningngpgcaa
open Go.ChangeShapes Go.WideShapes Go.ChangeAt Go.RowKit
namespace PaR
def marks (x : PaR) : Nat := 4 * x.R.nodes + 4 * x.M.nodes + x.S.length + 4 * x.O.nodes + 4 * x.C.nodes + x.U.length
def mkd (x : PaR) (k : Nat) : PaR := { x with R := x.R.mkF k, M := x.M.mkF (k + 4 * x.R.nodes), S := IntL.mkrs x.S (k + 4 * x.R.nodes + 4 * x.M.nodes), O := x.O.mkF (k + 4 * x.R.nodes + 4 * x.M.nodes + x.S.length), C := x.C.mkF (k + 4 * x.R.nodes + 4 * x.M.nodes + x.S.length + 4 * x.O.nodes), U := IntL.mkrs x.U (k + 4 * x.R.nodes + 4 * x.M.nodes + x.S.length + 4 * x.O.nodes + 4 * x.C.nodes) }
end PaR
theorem nd6 {a b c d e f : List Nat} (h : (a ++ (b ++ (c ++ (d ++ (e ++ (f)))))).Nodup) : (a.Nodup ∧ ∀ g ∈ a, g ∉ b ∧ g ∉ c ∧ g ∉ d ∧ g ∉ e ∧ g ∉ f) ∧ (b.Nodup ∧ ∀ g ∈ b, g ∉ c ∧ g ∉ d ∧ g ∉ e ∧ g ∉ f) ∧ (c.Nodup ∧ ∀ g ∈ c, g ∉ d ∧ g ∉ e ∧ g ∉ f) ∧ (d.Nodup ∧ ∀ g ∈ d, g ∉ e ∧ g ∉ f) ∧ (e.Nodup ∧ ∀ g ∈ e, g ∉ f) ∧ f.Nodup := by
  rw [List.nodup_append] at h
  obtain ⟨n0, h, d0⟩ := h
  rw [List.nodup_append] at h
  obtain ⟨n1, h, d1⟩ := h
  rw [List.nodup_append] at h
  obtain ⟨n2, h, d2⟩ := h
  rw [List.nodup_append] at h
  obtain ⟨n3, h, d3⟩ := h
  rw [List.nodup_append] at h
  obtain ⟨n4, h, d4⟩ := h
  exact ⟨⟨n0, fun g hm => ⟨fun hg => d0 g hm g (List.mem_append_left _ hg) rfl, fun hg => d0 g hm g (List.mem_append_right _ (List.mem_append_left _ hg)) rfl, fun hg => d0 g hm g (List.mem_append_right _ (List.mem_append_right _ (List.mem_append_left _ hg))) rfl, fun hg => d0 g hm g (List.mem_append_right _ (List.mem_append_right _ (List.mem_append_right _ (List.mem_append_left _ hg)))) rfl, fun hg => d0 g hm g (List.mem_append_right _ (List.mem_append_right _ (List.mem_append_right _ (List.mem_append_right _ (hg))))) rfl⟩⟩, ⟨n1, fun g hm => ⟨fun hg => d1 g hm g (List.mem_append_left _ hg) rfl, fun hg => d1 g hm g (List.mem_append_right _ (List.mem_append_left _ hg)) rfl, fun hg => d1 g hm g (List.mem_append_right _ (List.mem_append_right _ (List.mem_append_left _ hg))) rfl, fun hg => d1 g hm g (List.mem_append_right _ (List.mem_append_right _ (List.mem_append_right _ (hg)))) rfl⟩⟩, ⟨n2, fun g hm => ⟨fun hg => d2 g hm g (List.mem_append_left _ hg) rfl, fun hg => d2 g hm g (List.mem_append_right _ (List.mem_append_left _ hg)) rfl, fun hg => d2 g hm g (List.mem_append_right _ (List.mem_append_right _ (hg))) rfl⟩⟩, ⟨n3, fun g hm => ⟨fun hg => d3 g hm g (List.mem_append_left _ hg) rfl, fun hg => d3 g hm g (List.mem_append_right _ (hg)) rfl⟩⟩, ⟨n4, fun g hm => fun hg => d4 g hm g hg rfl⟩, h⟩
set_option maxRecDepth 100000 in
set_option maxHeartbeats 8000000 in
theorem mark_Path (x : PaR) (r m s o c u : Value) (k base : Nat) (B : List Nat) (w : World) (ho : PaO w base x r m s o c u B) (h1 : 1 ≤ k) (hk : k + x.marks ≤ 1000000000000) :
    Calls Try.prog 40 #[.agg #[.int .i64 x.pc, r, m, s, .int .i64 x.inn, o, .int .i64 x.cd, .int .i64 x.st, c, u], .int .i64 k] w fun e w' => e = .returned (.int .i64 ((k + x.marks : Nat) : Int)) ∧ PaO w' base (x.mkd k) r m s o c u B ∧ Apart B w w' := by
  have hx : x.marks = 4 * x.R.nodes + 4 * x.M.nodes + x.S.length + 4 * x.O.nodes + 4 * x.C.nodes + x.U.length := rfl
  have LT := Lib.hid ho.lt
  obtain ⟨br, bm, bo, bc, or, om, os, oo, oc, ou, hB, hN⟩ := ho
  rw [hB] at hN
  obtain ⟨e0, e1, e2, e3, e4, e5⟩ := nd6 hN
  have M0 := Lib.hid (fun W (h : (x.R.cs 87).Has W base 87 5 x.R.len r br) => mark_any x.R r k base br W h e0.1 (by omega) (by omega))
  have M1 := Lib.hid (fun W (h : (x.M.cs 87).Has W base 87 5 x.M.len m bm) => mark_any x.M m (k + 4 * x.R.nodes) base bm W h e1.1 (by omega) (by omega))
  have M2 := Lib.hid (fun W (h : W.ownsRow base 3 1 s x.S.length (IntL.all x.S)) => mark_Int x.S s (k + 4 * x.R.nodes + 4 * x.M.nodes) base W h (by omega) (by omega))
  have M3 := Lib.hid (fun W (h : (x.O.cs 87).Has W base 87 5 x.O.len o bo) => mark_any x.O o (k + 4 * x.R.nodes + 4 * x.M.nodes + x.S.length) base bo W h e3.1 (by omega) (by omega))
  have M4 := Lib.hid (fun W (h : (x.C.cs 87).Has W base 87 5 x.C.len c bc) => mark_any x.C c (k + 4 * x.R.nodes + 4 * x.M.nodes + x.S.length + 4 * x.O.nodes) base bc W h e4.1 (by omega) (by omega))
  have M5 := Lib.hid (fun W (h : W.ownsRow base 3 1 u x.U.length (IntL.all x.U)) => mark_Int x.U u (k + 4 * x.R.nodes + 4 * x.M.nodes + x.S.length + 4 * x.O.nodes + 4 * x.C.nodes) base W h (by omega) (by omega))
  unfold MarkIntEnd at M2 M5
  unfold MarkEnd at M0 M1 M3 M4
  have EE : k + x.marks = (k + 4 * x.R.nodes + 4 * x.M.nodes + x.S.length + 4 * x.O.nodes + 4 * x.C.nodes + x.U.length) := by omega
  have hb0 : Below w.heap.size w (w.alloc (.cells #[.int .i64 x.pc, r, m, s, .int .i64 x.inn, o, .int .i64 x.cd, .int .i64 x.st, c, u] 58)) := (Below.refl w.heap.size w).alloc (Nat.le_refl _) _
  have Or0 := Lib.hid (or.below hb0)
  have Om0 := Lib.hid (om.below hb0)
  have Os0 := Lib.hid (own_keep os hb0)
  have Oo0 := Lib.hid (oo.below hb0)
  have Oc0 := Lib.hid (oc.below hb0)
  have Ou0 := Lib.hid (own_keep ou hb0)
  have HA0 := Lib.hid (Apart.of_below (bs := B) hb0)
  have X0 := Lib.hid (heap_alloc_new w (.cells #[.int .i64 x.pc, r, m, s, .int .i64 x.inn, o, .int .i64 x.cd, .int .i64 x.st, c, u] 58))
  obtain ⟨w0, hw0⟩ : ∃ w0, w0 = w.alloc (.cells #[.int .i64 x.pc, r, m, s, .int .i64 x.inn, o, .int .i64 x.cd, .int .i64 x.st, c, u] 58) := ⟨_, rfl⟩
  rw [← hw0] at Or0 Om0 Os0 Oo0 Oc0 Ou0 HA0 X0
  clear or om os oo oc ou hb0
  have HBB := Lib.hid hB
  have HNN := Lib.hid hN
  clear hB hN
  obtain ⟨x0, x1, x2, x3, x4, x5, x6, x7, x8, x9⟩ := cell10_row X0.out
  rw [hw0] at x0 x1 x2 x3 x4 x5 x6 x7 x8 x9
  obtain ⟨z0, hz0⟩ : ∃ z : Int, z = k := ⟨_, rfl⟩
  obtain ⟨z1, hz1⟩ : ∃ z : Int, z = (((k + 4 * x.R.nodes) : Nat) : Int) := ⟨_, rfl⟩
  obtain ⟨z2, hz2⟩ : ∃ z : Int, z = (((k + 4 * x.R.nodes + 4 * x.M.nodes) : Nat) : Int) := ⟨_, rfl⟩
  obtain ⟨z3, hz3⟩ : ∃ z : Int, z = (((k + 4 * x.R.nodes + 4 * x.M.nodes + x.S.length) : Nat) : Int) := ⟨_, rfl⟩
  obtain ⟨z4, hz4⟩ : ∃ z : Int, z = (((k + 4 * x.R.nodes + 4 * x.M.nodes + x.S.length + 4 * x.O.nodes) : Nat) : Int) := ⟨_, rfl⟩
  obtain ⟨z5, hz5⟩ : ∃ z : Int, z = (((k + 4 * x.R.nodes + 4 * x.M.nodes + x.S.length + 4 * x.O.nodes + 4 * x.C.nodes) : Nat) : Int) := ⟨_, rfl⟩
  obtain ⟨z6, hz6⟩ : ∃ z : Int, z = (((k + 4 * x.R.nodes + 4 * x.M.nodes + x.S.length + 4 * x.O.nodes + 4 * x.C.nodes + x.U.length) : Nat) : Int) := ⟨_, rfl⟩
  rw [show ((k + x.marks : Nat) : Int) = z6 by rw [hz6, EE], ← hz0]
  rw [← hz0, show ((k + 4 * x.R.nodes : Nat) : Int) = z1 by rw [hz1]] at M0
  rw [← hz1, show (((k + 4 * x.R.nodes) + 4 * x.M.nodes : Nat) : Int) = z2 by rw [hz2]] at M1
  rw [← hz2, show (((k + 4 * x.R.nodes + 4 * x.M.nodes) + x.S.length : Nat) : Int) = z3 by rw [hz3]] at M2
  rw [← hz3, show (((k + 4 * x.R.nodes + 4 * x.M.nodes + x.S.length) + 4 * x.O.nodes : Nat) : Int) = z4 by rw [hz4]] at M3
  rw [← hz4, show (((k + 4 * x.R.nodes + 4 * x.M.nodes + x.S.length + 4 * x.O.nodes) + 4 * x.C.nodes : Nat) : Int) = z5 by rw [hz5]] at M4
  rw [← hz5, show (((k + 4 * x.R.nodes + 4 * x.M.nodes + x.S.length + 4 * x.O.nodes + 4 * x.C.nodes) + x.U.length : Nat) : Int) = z6 by rw [hz6]] at M5
  clear hz0 hz1 hz2 hz3 hz4 hz5 hz6 hk EE hx
  go_enter Try.func40, Try.ntmps40
  go_wp2_with fail
  rw [← hw0]
  clear hw0 x0 x1 x2 x3 x4 x5 x6 x7 x8 x9
  have N0 := Lib.hid (M0.out w0 Or0.out)
  refine N0.out.mono ?_
  rintro e w1 ⟨rfl, hh, hap⟩
  have HA1 := Lib.hid (HA0.out.trans (hap.mono (fun g hg => by rw [HBB.out]; exact List.mem_append_left _ hg)))
  have X1 := Lib.hid ((hap.block w.heap.size (Array.getElem?_eq_some_iff.1 X0.out).1 (fun hg => by have := (LT.out w.heap.size (by rw [HBB.out]; exact List.mem_append_left _ hg)).2; omega)).trans X0.out)
  have Or1 := Lib.hid hh
  have Om1 := Lib.hid (Om0.out.same (fun g hg => hap.block g (Om0.out.lt g hg).2 (fun hm => (e0.2 g hm).1 hg)))
  have Os1 := Lib.hid (own_same Os0.out (fun g hg => hap.block g (own_lt Os0.out hg).2 (fun hm => (e0.2 g hm).2.1 hg)))
  have Oo1 := Lib.hid (Oo0.out.same (fun g hg => hap.block g (Oo0.out.lt g hg).2 (fun hm => (e0.2 g hm).2.2.1 hg)))
  have Oc1 := Lib.hid (Oc0.out.same (fun g hg => hap.block g (Oc0.out.lt g hg).2 (fun hm => (e0.2 g hm).2.2.2.1 hg)))
  have Ou1 := Lib.hid (own_same Ou0.out (fun g hg => hap.block g (own_lt Ou0.out hg).2 (fun hm => (e0.2 g hm).2.2.2.2 hg)))
  clear hh hap N0
  obtain ⟨x0, x1, x2, x3, x4, x5, x6, x7, x8, x9⟩ := cell10_row X1.out
  go_wp2_with fail
  clear x0 x1 x2 x3 x4 x5 x6 x7 x8 x9
  have N1 := Lib.hid (M1.out w1 Om1.out)
  refine N1.out.mono ?_
  rintro e w2 ⟨rfl, hh, hap⟩
  have HA2 := Lib.hid (HA1.out.trans (hap.mono (fun g hg => by rw [HBB.out]; exact List.mem_append_right _ (List.mem_append_left _ hg))))
  have X2 := Lib.hid ((hap.block w.heap.size (Array.getElem?_eq_some_iff.1 X1.out).1 (fun hg => by have := (LT.out w.heap.size (by rw [HBB.out]; exact List.mem_append_right _ (List.mem_append_left _ hg))).2; omega)).trans X1.out)
  have Om2 := Lib.hid hh
  have Or2 := Lib.hid (Or1.out.same (fun g hg => hap.block g (Or1.out.lt g hg).2 (fun hm => (e0.2 g hg).1 hm)))
  have Os2 := Lib.hid (own_same Os1.out (fun g hg => hap.block g (own_lt Os1.out hg).2 (fun hm => (e1.2 g hm).1 hg)))
  have Oo2 := Lib.hid (Oo1.out.same (fun g hg => hap.block g (Oo1.out.lt g hg).2 (fun hm => (e1.2 g hm).2.1 hg)))
  have Oc2 := Lib.hid (Oc1.out.same (fun g hg => hap.block g (Oc1.out.lt g hg).2 (fun hm => (e1.2 g hm).2.2.1 hg)))
  have Ou2 := Lib.hid (own_same Ou1.out (fun g hg => hap.block g (own_lt Ou1.out hg).2 (fun hm => (e1.2 g hm).2.2.2 hg)))
  clear hh hap N1
  obtain ⟨x0, x1, x2, x3, x4, x5, x6, x7, x8, x9⟩ := cell10_row X2.out
  go_wp2_with fail
  clear x0 x1 x2 x3 x4 x5 x6 x7 x8 x9
  have N2 := Lib.hid (M2.out w2 Os2.out)
  refine N2.out.mono ?_
  rintro e w3 ⟨rfl, hh, hap⟩
  have HA3 := Lib.hid (HA2.out.trans (hap.mono (fun g hg => by rw [HBB.out]; exact List.mem_append_right _ (List.mem_append_right _ (List.mem_append_left _ hg)))))
  have X3 := Lib.hid ((hap.block w.heap.size (Array.getElem?_eq_some_iff.1 X2.out).1 (fun hg => by have := (LT.out w.heap.size (by rw [HBB.out]; exact List.mem_append_right _ (List.mem_append_right _ (List.mem_append_left _ hg)))).2; omega)).trans X2.out)
  have Os3 := Lib.hid hh
  have Or3 := Lib.hid (Or2.out.same (fun g hg => hap.block g (Or2.out.lt g hg).2 (fun hm => (e0.2 g hg).2.1 hm)))
  have Om3 := Lib.hid (Om2.out.same (fun g hg => hap.block g (Om2.out.lt g hg).2 (fun hm => (e1.2 g hg).1 hm)))
  have Oo3 := Lib.hid (Oo2.out.same (fun g hg => hap.block g (Oo2.out.lt g hg).2 (fun hm => (e2.2 g hm).1 hg)))
  have Oc3 := Lib.hid (Oc2.out.same (fun g hg => hap.block g (Oc2.out.lt g hg).2 (fun hm => (e2.2 g hm).2.1 hg)))
  have Ou3 := Lib.hid (own_same Ou2.out (fun g hg => hap.block g (own_lt Ou2.out hg).2 (fun hm => (e2.2 g hm).2.2 hg)))
  clear hh hap N2
  obtain ⟨x0, x1, x2, x3, x4, x5, x6, x7, x8, x9⟩ := cell10_row X3.out
  go_wp2_with fail
  clear x0 x1 x2 x3 x4 x5 x6 x7 x8 x9
  have N3 := Lib.hid (M3.out w3 Oo3.out)
  refine N3.out.mono ?_
  rintro e w4 ⟨rfl, hh, hap⟩
  have HA4 := Lib.hid (HA3.out.trans (hap.mono (fun g hg => by rw [HBB.out]; exact List.mem_append_right _ (List.mem_append_right _ (List.mem_append_right _ (List.mem_append_left _ hg))))))
  have X4 := Lib.hid ((hap.block w.heap.size (Array.getElem?_eq_some_iff.1 X3.out).1 (fun hg => by have := (LT.out w.heap.size (by rw [HBB.out]; exact List.mem_append_right _ (List.mem_append_right _ (List.mem_append_right _ (List.mem_append_left _ hg))))).2; omega)).trans X3.out)
  have Oo4 := Lib.hid hh
  have Or4 := Lib.hid (Or3.out.same (fun g hg => hap.block g (Or3.out.lt g hg).2 (fun hm => (e0.2 g hg).2.2.1 hm)))
  have Om4 := Lib.hid (Om3.out.same (fun g hg => hap.block g (Om3.out.lt g hg).2 (fun hm => (e1.2 g hg).2.1 hm)))
  have Os4 := Lib.hid (own_same Os3.out (fun g hg => hap.block g (own_lt Os3.out hg).2 (fun hm => (e2.2 g hg).1 hm)))
  have Oc4 := Lib.hid (Oc3.out.same (fun g hg => hap.block g (Oc3.out.lt g hg).2 (fun hm => (e3.2 g hm).1 hg)))
  have Ou4 := Lib.hid (own_same Ou3.out (fun g hg => hap.block g (own_lt Ou3.out hg).2 (fun hm => (e3.2 g hm).2 hg)))
  clear hh hap N3
  obtain ⟨x0, x1, x2, x3, x4, x5, x6, x7, x8, x9⟩ := cell10_row X4.out
  go_wp2_with fail
  clear x0 x1 x2 x3 x4 x5 x6 x7 x8 x9
  have N4 := Lib.hid (M4.out w4 Oc4.out)
  refine N4.out.mono ?_
  rintro e w5 ⟨rfl, hh, hap⟩
  have HA5 := Lib.hid (HA4.out.trans (hap.mono (fun g hg => by rw [HBB.out]; exact List.mem_append_right _ (List.mem_append_right _ (List.mem_append_right _ (List.mem_append_right _ (List.mem_append_left _ hg)))))))
  have X5 := Lib.hid ((hap.block w.heap.size (Array.getElem?_eq_some_iff.1 X4.out).1 (fun hg => by have := (LT.out w.heap.size (by rw [HBB.out]; exact List.mem_append_right _ (List.mem_append_right _ (List.mem_append_right _ (List.mem_append_right _ (List.mem_append_left _ hg)))))).2; omega)).trans X4.out)
  have Oc5 := Lib.hid hh
  have Or5 := Lib.hid (Or4.out.same (fun g hg => hap.block g (Or4.out.lt g hg).2 (fun hm => (e0.2 g hg).2.2.2.1 hm)))
  have Om5 := Lib.hid (Om4.out.same (fun g hg => hap.block g (Om4.out.lt g hg).2 (fun hm => (e1.2 g hg).2.2.1 hm)))
  have Os5 := Lib.hid (own_same Os4.out (fun g hg => hap.block g (own_lt Os4.out hg).2 (fun hm => (e2.2 g hg).2.1 hm)))
  have Oo5 := Lib.hid (Oo4.out.same (fun g hg => hap.block g (Oo4.out.lt g hg).2 (fun hm => (e3.2 g hg).1 hm)))
  have Ou5 := Lib.hid (own_same Ou4.out (fun g hg => hap.block g (own_lt Ou4.out hg).2 (fun hm => e4.2 g hm hg)))
  clear hh hap N4
  obtain ⟨x0, x1, x2, x3, x4, x5, x6, x7, x8, x9⟩ := cell10_row X5.out
  go_wp2_with fail
  clear x0 x1 x2 x3 x4 x5 x6 x7 x8 x9
  have N5 := Lib.hid (M5.out w5 Ou5.out)
  refine N5.out.mono ?_
  rintro e w6 ⟨rfl, hh, hap⟩
  have HA6 := Lib.hid (HA5.out.trans (hap.mono (fun g hg => by rw [HBB.out]; exact List.mem_append_right _ (List.mem_append_right _ (List.mem_append_right _ (List.mem_append_right _ (List.mem_append_right _ (hg))))))))
  have X6 := Lib.hid ((hap.block w.heap.size (Array.getElem?_eq_some_iff.1 X5.out).1 (fun hg => by have := (LT.out w.heap.size (by rw [HBB.out]; exact List.mem_append_right _ (List.mem_append_right _ (List.mem_append_right _ (List.mem_append_right _ (List.mem_append_right _ (hg))))))).2; omega)).trans X5.out)
  have Ou6 := Lib.hid hh
  have Or6 := Lib.hid (Or5.out.same (fun g hg => hap.block g (Or5.out.lt g hg).2 (fun hm => (e0.2 g hg).2.2.2.2 hm)))
  have Om6 := Lib.hid (Om5.out.same (fun g hg => hap.block g (Om5.out.lt g hg).2 (fun hm => (e1.2 g hg).2.2.2 hm)))
  have Os6 := Lib.hid (own_same Os5.out (fun g hg => hap.block g (own_lt Os5.out hg).2 (fun hm => (e2.2 g hg).2.2 hm)))
  have Oo6 := Lib.hid (Oo5.out.same (fun g hg => hap.block g (Oo5.out.lt g hg).2 (fun hm => (e3.2 g hg).2 hm)))
  have Oc6 := Lib.hid (Oc5.out.same (fun g hg => hap.block g (Oc5.out.lt g hg).2 (fun hm => e4.2 g hg hm)))
  clear hh hap N5
  obtain ⟨x0, x1, x2, x3, x4, x5, x6, x7, x8, x9⟩ := cell10_row X6.out
  go_wp2
  go_ret
  refine ⟨rfl, ⟨br, bm, bo, bc, ?_, ?_, ?_, ?_, ?_, ?_, HBB.out, by rw [HBB.out]; exact HNN.out⟩, HA6.out⟩
  · show ((x.mkd k).R.cs 87).Has _ _ _ _ (x.mkd k).R.len _ _
    have e : (x.mkd k).R.len = x.R.len := Fo.mkF_len _ _
    rw [e]
    exact Or6.out
  · show ((x.mkd k).M.cs 87).Has _ _ _ _ (x.mkd k).M.len _ _
    have e : (x.mkd k).M.len = x.M.len := Fo.mkF_len _ _
    rw [e]
    exact Om6.out
  · have e : (x.mkd k).S.length = x.S.length := markL_len _ _ _ _
    rw [e]
    exact Os6.out
  · show ((x.mkd k).O.cs 87).Has _ _ _ _ (x.mkd k).O.len _ _
    have e : (x.mkd k).O.len = x.O.len := Fo.mkF_len _ _
    rw [e]
    exact Oo6.out
  · show ((x.mkd k).C.cs 87).Has _ _ _ _ (x.mkd k).C.len _ _
    have e : (x.mkd k).C.len = x.C.len := Fo.mkF_len _ _
    rw [e]
    exact Oc6.out
  · have e : (x.mkd k).U.length = x.U.length := markL_len _ _ _ _
    rw [e]
    exact Ou6.out
end Go.Proofs.Ytbdkningngpgcaa
