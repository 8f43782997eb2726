/- The program's builder of circuits: lineOf, and, or, xor, choose. No condition. -/
import Derived.Test.YtimjkgciakbolabGtN
namespace Go.Proofs.Ytimjkgciakbolab
open Go.ChangeShapes Go.WideShapes Go.ChangeAt Go.RowKit
/-- what a call leaves that makes a literal -/
def MkEnd (b0 B bp : Nat) (I : Int) (r : Net × Int) (w : World) (e : Ending) (w' : World) : Prop := e = .returned (.int .i64 r.2) ∧ Bu b0 B bp I r.1 w' ∧ Below b0 w w'
theorem Bu.b0 {b0 B bp : Nat} {I : Int} {N : Net} {w : World} (h : Bu b0 B bp I N w) : b0 ≤ w.heap.size := by
  obtain ⟨_, _, _, _, _, _, h4, _, h6, _, h8⟩ := h
  omega
theorem Bu.setFull {b0 B bp : Nat} {I : Int} {N : Net} {w : World} (h : Bu b0 B bp I N w) : Bu b0 B bp I ⟨N.gs, true⟩ (w.setCell ⟨bp, 3, none⟩ (.bool true)) := by
  obtain ⟨q, cap, m, h1, h2, h3, h4, h5, h6, h7, h8⟩ := h
  have hm : m ≠ bp := fun e => by
    obtain ⟨D, ⟨es, clock, hb, _⟩, _⟩ := h3
    rw [e, h1] at hb
    cases hb
  have hoth : ∀ k, k ≠ bp → (w.setCell ⟨bp, 3, none⟩ (.bool true)).heap[k]? = w.heap[k]? := fun k hk => heap_setCell_other _ _ _ _ hk
  exact ⟨q, cap, m, heap_setCell_same w bp 3 _ _ _ h1, own_same h2 (fun k hk => hoth k (fun e => by have := (own_lt h2 hk).1; omega)), h3.same (hoth m hm), h4, h5, h6, h7, by simp [World.setCell]; exact h8⟩
set_option maxRecDepth 100000 in
set_option maxHeartbeats 1000000 in
theorem i_lineOf (b0 B bp : Nat) (I : Int) (N : Net) (g : GateR) (w : World) (hbu : Bu b0 B bp I N w) (ho : N.Ok I) (hg : g.Ok) :
    Calls Try.prog 64 #[.pointer (some ⟨bp, 0, none⟩), .agg #[.int .i64 g.f0, .int .i64 g.f1]] w (MkEnd b0 B bp I (putN I N g) w) := by
  obtain ⟨a, d⟩ := g
  obtain ⟨hI0, hI1, hl, _⟩ := ho
  have HG := Lib.hid hg
  have HBU := Lib.hid hbu
  have HB1 := Lib.hid ((Below.refl w.heap.size w).alloc (Nat.le_refl _) (.cells #[.int .i64 a, .int .i64 d] 48))
  have HX := Lib.hid (below_two (B := w.heap.size + 1) (heap_alloc_new w (.cells #[.int .i64 a, .int .i64 d] 48)) (by omega))
  have hb0 := hbu.b0
  obtain ⟨W, hW⟩ : ∃ W, W = w.alloc (.cells #[.int .i64 a, .int .i64 d] 48) := ⟨_, rfl⟩
  have hsW : W.heap.size = w.heap.size + 1 := by rw [hW]; simp
  rw [← hW] at HB1 HX
  have HBW := Lib.hid (hbu.keep HB1.out)
  obtain ⟨q, cap, m, ⟨c0, c1, c2, c3⟩, _, hmp, hlt, _⟩ := HBW.out.cells
  obtain ⟨x0, x1⟩ := HX.out W (Below.refl _ _)
  have hlk := fun n => (hmp.same (w' := W.drewN n) rfl).look (g := ⟨a, d⟩) hg
  have HLZ := Lib.hid (lineG_zero (L := N.gs) (g := ⟨a, d⟩) hI0)
  clear hbu hg
  go_enter Try.func64, Try.ntmps64
  go_wp2_with fail
  rw [← hW]
  clear hW
  cases hh : hasG ⟨a, d⟩ N.gs with
  | true =>
    have hz : (lineG I N.gs ⟨a, d⟩ == 0) = false := by
      rw [beq_eq_false_iff_ne]
      intro e
      rw [HLZ.out, hh] at e
      cases e
    have HP := Lib.hid (show putN I N ⟨a, d⟩ = (N, lineG I N.gs ⟨a, d⟩) by unfold putN; rw [if_pos hh])
    clear hmp HLZ hh
    generalize lineG I N.gs ⟨a, d⟩ = ln at *
    go_wp2
    go_quiet (fail)
    go_wp2
    go_quiet (fail)
    go_wp2
    go_ret
    exact ⟨by rw [HP.out] <;> rfl, by rw [HP.out]; exact HBW.out.keep (below_drewN (below_drewN (Below.refl _ _) _) _), below_drewN (below_drewN (HB1.out.mono hb0) _) _⟩
  | false =>
    have hz : (lineG I N.gs ⟨a, d⟩ == 0) = true := by
      rw [beq_iff_eq]
      exact HLZ.out.2 hh
    have HH := Lib.hid hh
    clear hmp HLZ hh
    generalize lineG I N.gs ⟨a, d⟩ = ln at *
    by_cases hf : N.gs.length = 360
    · have HP := Lib.hid (show putN I N ⟨a, d⟩ = (⟨N.gs, true⟩, -1) by unfold putN; rw [if_neg (by rw [HH.out]; simp), if_pos (by omega)])
      have hfe : ((N.gs.length : Int) == 360) = true := by rw [beq_iff_eq]; omega
      generalize hn : N.gs.length = n at *
      go_wp2
      go_quiet (fail)
      have HB2 := Lib.hid (HBW.out.same nq)
      have HBB := Lib.hid (below_drewN (HB1.out.mono hb0) nq)
      clear c0 c1 c2 c3 x0 x1 hlk HBW HB1 HX
      generalize W.drewN nq = W2 at *
      obtain ⟨q2, cap2, m2, ⟨c0, c1, c2, c3⟩, ⟨_, f3⟩, _, hlt2, _⟩ := HB2.out.cells
      rw [hn] at c1
      have hbb : b0 ≤ bp := by
        obtain ⟨_, _, _, _, _, _, h4, _⟩ := HB2.out
        exact h4
      go_wp2
      go_ret
      exact ⟨by rw [HP.out] <;> rfl, by rw [HP.out]; exact HB2.out.setFull, HBB.out.setCell hbb _⟩
    · have HP := Lib.hid (show putN I N ⟨a, d⟩ = (⟨N.gs ++ [⟨a, d⟩], N.full⟩, I + 2 + N.gs.length) by unfold putN; rw [if_neg (by rw [HH.out]; simp), if_neg (by omega)])
      have hfe : ((N.gs.length : Int) == 360) = false := by rw [beq_eq_false_iff_ne]; omega
      have KP := Lib.hid (fun W (h : Below w.heap.size w W) => i_put b0 B bp I N ⟨a, d⟩ w W HBU.out h ⟨hI0, hI1⟩ (by omega) HG.out HH.out)
      have hLN := lineG_snoc I N.gs ⟨a, d⟩ ⟨a, d⟩ HH.out
      rw [if_pos (eqG_iff.2 rfl)] at hLN
      have HLN := Lib.hid hLN
      clear hLN
      go_wp2
      go_quiet (fail)
      have HB2 := Lib.hid (HBW.out.same nq)
      have HBB := Lib.hid (below_drewN HB1.out nq)
      have HX2 := Lib.hid (HX.out _ (below_drewN (Below.refl _ W) nq))
      have hs2 : (W.drewN nq).heap.size = w.heap.size + 1 := hsW
      clear c0 c1 c2 c3 x0 x1 hlk HBW HB1 HX
      generalize W.drewN nq = W2 at *
      obtain ⟨q2, cap2, m2, ⟨c0, c1, c2, c3⟩, _, _, hlt2, _⟩ := HB2.out.cells
      obtain ⟨x0, x1⟩ := HX2.out
      go_wp2_with (go_at_call 58; refine (KP.out _ HBB.out).mono ?_; rintro e W3 ⟨rfl, hbu3, hb3, hk3⟩)
      have HX3 := Lib.hid (hk3 w.heap.size (Nat.le_refl _) (by omega))
      have HBU3 := Lib.hid hbu3
      have HB3 := Lib.hid ((HBB.out.mono hb0).trans hb3)
      have hsz3 := hb3.size
      clear c0 c1 c2 c3 x0 x1 hbu3 hb3 hk3 KP
      obtain ⟨q2, cap2, m2, ⟨c0, c1, c2, c3⟩, _, hmp3, hlt3, _⟩ := HBU3.out.cells
      have x0 : W3.cell? ⟨w.heap.size, 0, none⟩ = some (.int .i64 a) := by
        have h := HX2.out.1
        simpa only [World.cell?, HX3.out] using h
      have x1 : W3.cell? ⟨w.heap.size, 1, none⟩ = some (.int .i64 d) := by
        have h := HX2.out.2
        simpa only [World.cell?, HX3.out] using h
      have hlk := fun n => (hmp3.same (w' := W3.drewN n) rfl).look (g := ⟨a, d⟩) HG.out
      simp only [HLN.out] at hlk
      clear hmp3
      go_wp2
      go_quiet (fail)
      go_wp2
      go_ret
      exact ⟨by rw [HP.out] <;> rfl, by rw [HP.out]; exact HBU3.out.same _, below_drewN HB3.out _⟩
set_option maxRecDepth 100000 in
set_option maxHeartbeats 1000000 in
theorem i_and (b0 B bp : Nat) (I : Int) (N : Net) (x y : Int) (w : World) (hbu : Bu b0 B bp I N w) (ho : N.Ok I) (hx : LitN I N x) (hy : LitN I N y) :
    Calls Try.prog 42 #[.pointer (some ⟨bp, 0, none⟩), .int .i64 x, .int .i64 y] w (MkEnd b0 B bp I (andN I N x y) w) := by
  have sx := hx.small ho
  have sy := hy.small ho
  have KL := Lib.hid (fun g hg => i_lineOf b0 B bp I N g w hbu ho hg)
  have KV := Lib.hid (fun z (h : -9223372036854775807 ≤ z ∧ z ≤ 9223372036854775807) W => i_varof z h W)
  have HBU := Lib.hid hbu
  obtain ⟨r, hr⟩ : ∃ r, andN I N x y = r := ⟨_, rfl⟩
  rw [hr]
  have HR := Lib.hid hr
  clear hbu hx hy ho hr
  by_cases h1 : x = -1 ∨ y = -1 ∨ x = -y
  · have HP := Lib.hid (show r = (N, -1) by rw [← HR.out]; unfold andN; rw [if_pos h1])
    clear HR
    by_cases g1 : x = -1
    · have e1 : (x == -1) = true := by simpa using g1
      go_enter Try.func42, Try.ntmps42
      go_wp2
      go_ret
      exact ⟨by rw [HP.out] <;> rfl, by rw [HP.out]; exact HBU.out, Below.refl _ _⟩
    · have e1 : (x == -1) = false := by simpa using g1
      by_cases g2 : y = -1
      · have e2 : (y == -1) = true := by simpa using g2
        go_enter Try.func42, Try.ntmps42
        go_wp2
        go_ret
        exact ⟨by rw [HP.out] <;> rfl, by rw [HP.out]; exact HBU.out, Below.refl _ _⟩
      · have e2 : (y == -1) = false := by simpa using g2
        have e3 : (x == -y) = true := by rw [beq_iff_eq]; omega
        go_enter Try.func42, Try.ntmps42
        go_wp2
        go_ret
        exact ⟨by rw [HP.out] <;> rfl, by rw [HP.out]; exact HBU.out, Below.refl _ _⟩
  · have e1 : (x == -1) = false := by rw [beq_eq_false_iff_ne]; omega
    have e2 : (y == -1) = false := by rw [beq_eq_false_iff_ne]; omega
    have e3 : (x == -y) = false := by rw [beq_eq_false_iff_ne]; omega
    by_cases h2 : x = 1
    · have HP := Lib.hid (show r = (N, y) by rw [← HR.out]; unfold andN; rw [if_neg h1, if_pos h2])
      have e4 : (x == 1) = true := by simpa using h2
      clear HR h1 h2
      go_enter Try.func42, Try.ntmps42
      go_wp2
      go_ret
      exact ⟨by rw [HP.out] <;> rfl, by rw [HP.out]; exact HBU.out, Below.refl _ _⟩
    · have e4 : (x == 1) = false := by simpa using h2
      by_cases h3 : y = 1 ∨ x = y
      · have HP := Lib.hid (show r = (N, x) by rw [← HR.out]; unfold andN; rw [if_neg h1, if_neg h2, if_pos h3])
        clear HR
        by_cases g5 : y = 1
        · have e5 : (y == 1) = true := by simpa using g5
          clear h1 h2 h3 g5
          go_enter Try.func42, Try.ntmps42
          go_wp2
          go_ret
          exact ⟨by rw [HP.out] <;> rfl, by rw [HP.out]; exact HBU.out, Below.refl _ _⟩
        · have e5 : (y == 1) = false := by simpa using g5
          have e6 : (x == y) = true := by rw [beq_iff_eq]; omega
          clear h1 h2 h3 g5
          go_enter Try.func42, Try.ntmps42
          go_wp2
          go_ret
          exact ⟨by rw [HP.out] <;> rfl, by rw [HP.out]; exact HBU.out, Below.refl _ _⟩
      · have e5 : (y == 1) = false := by rw [beq_eq_false_iff_ne]; omega
        have e6 : (x == y) = false := by rw [beq_eq_false_iff_ne]; omega
        by_cases h4 : iabs y < iabs x
        · have HP := Lib.hid (show r = putN I N ⟨y, x⟩ by rw [← HR.out]; unfold andN; rw [if_neg h1, if_neg h2, if_neg h3, if_pos h4])
          have e7 : decide (iabs y < iabs x) = true := by simpa using h4
          have K1 := Lib.hid (KL.out ⟨y, x⟩ ⟨⟨by show -9223372036854775808 ≤ y; omega, by show y ≤ 9223372036854775807; omega⟩, ⟨by show -9223372036854775808 ≤ x; omega, by show x ≤ 9223372036854775807; omega⟩⟩)
          clear HR h1 h2 h3 KL
          go_enter Try.func42, Try.ntmps42
          go_wp2_with (first | (go_at_call 55; refine (KV.out _ (by omega) _).mono ?_; rintro e w1 ⟨rfl, rfl⟩) | (go_at_call 64; refine K1.out.mono ?_; rintro e w2 ⟨rfl, hbu2, hb2⟩))
          go_ret
          exact ⟨by rw [HP.out] <;> rfl, by rw [HP.out]; exact hbu2, hb2⟩
        · have HP := Lib.hid (show r = putN I N ⟨x, y⟩ by rw [← HR.out]; unfold andN; rw [if_neg h1, if_neg h2, if_neg h3, if_neg h4])
          have e7 : decide (iabs y < iabs x) = false := by simpa using h4
          have K1 := Lib.hid (KL.out ⟨x, y⟩ ⟨⟨by show -9223372036854775808 ≤ x; omega, by show x ≤ 9223372036854775807; omega⟩, ⟨by show -9223372036854775808 ≤ y; omega, by show y ≤ 9223372036854775807; omega⟩⟩)
          clear HR h1 h2 h3 KL
          go_enter Try.func42, Try.ntmps42
          go_wp2_with (first | (go_at_call 55; refine (KV.out _ (by omega) _).mono ?_; rintro e w1 ⟨rfl, rfl⟩) | (go_at_call 64; refine K1.out.mono ?_; rintro e w2 ⟨rfl, hbu2, hb2⟩))
          go_ret
          exact ⟨by rw [HP.out] <;> rfl, by rw [HP.out]; exact hbu2, hb2⟩
set_option maxRecDepth 100000 in
theorem i_or' (b0 B bp : Nat) (I : Int) (N : Net) (x y : Int) (w : World) (hbu : Bu b0 B bp I N w) (ho : N.Ok I) (hx : LitN I N x) (hy : LitN I N y) :
    Calls Try.prog 47 #[.pointer (some ⟨bp, 0, none⟩), .int .i64 x, .int .i64 y] w (MkEnd b0 B bp I (orN I N x y) w) := by
  have sx := hx.small ho
  have sy := hy.small ho
  have K := Lib.hid (i_and b0 B bp I N (-x) (-y) w hbu ho hx.neg hy.neg)
  obtain ⟨ok1, ok2, _⟩ := and_ok ho hx.neg hy.neg
  have sr := ok2.small ok1
  unfold orN
  generalize andN I N (-x) (-y) = r at *
  obtain ⟨N1, v⟩ := r
  simp only at sr
  unfold MkEnd at *
  clear ok1 ok2 hbu hx hy ho
  go_enter Try.func47, Try.ntmps47
  go_wp2_with (go_at_call 42; refine K.out.mono ?_; rintro e w2 ⟨rfl, hbu2, hb2⟩)
  go_ret
  exact ⟨rfl, hbu2, hb2⟩
set_option maxRecDepth 100000 in
theorem i_xor (b0 B bp : Nat) (I : Int) (N : Net) (x y : Int) (w : World) (hbu : Bu b0 B bp I N w) (ho : N.Ok I) (hx : LitN I N x) (hy : LitN I N y) :
    Calls Try.prog 50 #[.pointer (some ⟨bp, 0, none⟩), .int .i64 x, .int .i64 y] w (MkEnd b0 B bp I (xorN I N x y) w) := by
  have sx := hx.small ho
  have sy := hy.small ho
  have K1 := Lib.hid (i_and b0 B bp I N x (-y) w hbu ho hx hy.neg)
  obtain ⟨a1, a2, a3⟩ := and_ok ho hx hy.neg
  unfold xorN
  generalize andN I N x (-y) = r at *
  obtain ⟨N1, v1⟩ := r
  have K2 := Lib.hid (fun W h => i_and b0 B bp I N1 (-x) y W h a1 (hx.mono a3).neg (hy.mono a3))
  obtain ⟨b1, b2, b3⟩ := and_ok a1 (hx.mono a3).neg (hy.mono a3)
  simp only at b1 b2 b3 a2
  generalize andN I N1 (-x) y = r2 at *
  obtain ⟨N2, v2⟩ := r2
  have K3 := Lib.hid (fun W h => i_or' b0 B bp I N2 v1 v2 W h b1 (a2.mono b3) b2)
  simp only
  generalize orN I N2 v1 v2 = r3 at *
  obtain ⟨N3, v3⟩ := r3
  unfold MkEnd at *
  clear a1 a2 a3 b1 b2 b3 hbu hx hy ho
  go_enter Try.func50, Try.ntmps50
  go_wp2_with fail
  refine K1.out.mono ?_
  rintro e w1 ⟨rfl, hbu1, hb1⟩
  have KK2 := Lib.hid (K2.out _ hbu1)
  clear hbu1
  go_wp2_with fail
  refine KK2.out.mono ?_
  rintro e w2 ⟨rfl, hbu2, hb2⟩
  have KK3 := Lib.hid (K3.out _ hbu2)
  have HB := Lib.hid (hb1.trans hb2)
  clear hbu2 hb1 hb2
  go_wp2_with fail
  refine KK3.out.mono ?_
  rintro e w3 ⟨rfl, hbu3, hb3⟩
  have HB3 := Lib.hid (HB.out.trans hb3)
  have HU3 := Lib.hid hbu3
  clear hbu3 hb3
  go_wp2
  go_ret
  exact ⟨rfl, HU3.out, HB3.out⟩
set_option maxRecDepth 100000 in
theorem i_choose (b0 B bp : Nat) (I : Int) (N : Net) (s x y : Int) (w : World) (hbu : Bu b0 B bp I N w) (ho : N.Ok I) (hs : LitN I N s) (hx : LitN I N x) (hy : LitN I N y) :
    Calls Try.prog 53 #[.pointer (some ⟨bp, 0, none⟩), .int .i64 s, .int .i64 x, .int .i64 y] w (MkEnd b0 B bp I (ifN I N s x y) w) := by
  have ss := hs.small ho
  have K1 := Lib.hid (i_and b0 B bp I N s x w hbu ho hs hx)
  obtain ⟨a1, a2, a3⟩ := and_ok ho hs hx
  unfold ifN
  generalize andN I N s x = r at *
  obtain ⟨N1, v1⟩ := r
  have K2 := Lib.hid (fun W h => i_and b0 B bp I N1 (-s) y W h a1 (hs.mono a3).neg (hy.mono a3))
  obtain ⟨b1, b2, b3⟩ := and_ok a1 (hs.mono a3).neg (hy.mono a3)
  simp only at b1 b2 b3 a2
  generalize andN I N1 (-s) y = r2 at *
  obtain ⟨N2, v2⟩ := r2
  have K3 := Lib.hid (fun W h => i_or' b0 B bp I N2 v1 v2 W h b1 (a2.mono b3) b2)
  simp only
  generalize orN I N2 v1 v2 = r3 at *
  obtain ⟨N3, v3⟩ := r3
  unfold MkEnd at *
  clear a1 a2 a3 b1 b2 b3 hbu hx hy ho hs
  go_enter Try.func53, Try.ntmps53
  go_wp2_with fail
  refine K1.out.mono ?_
  rintro e w1 ⟨rfl, hbu1, hb1⟩
  have KK2 := Lib.hid (K2.out _ hbu1)
  clear hbu1
  go_wp2_with fail
  refine KK2.out.mono ?_
  rintro e w2 ⟨rfl, hbu2, hb2⟩
  have KK3 := Lib.hid (K3.out _ hbu2)
  have HB := Lib.hid (hb1.trans hb2)
  clear hbu2 hb1 hb2
  go_wp2_with fail
  refine KK3.out.mono ?_
  rintro e w3 ⟨rfl, hbu3, hb3⟩
  have HB3 := Lib.hid (HB.out.trans hb3)
  have HU3 := Lib.hid hbu3
  clear hbu3 hb3
  go_wp2
  go_ret
  exact ⟨rfl, HU3.out, HB3.out⟩
end Go.Proofs.Ytimjkgciakbolab
