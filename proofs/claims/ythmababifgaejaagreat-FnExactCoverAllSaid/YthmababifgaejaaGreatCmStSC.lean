/- What the specification's l05Step returns. No condition. What the specification's l05Step returns. No condition. -/
import Derived.Test.YthmababifgaejaaGreatCmGStO
import Derived.Test.YthmababifgaejaaGreatCmGUn1
import Derived.Test.YthmababifgaejaaGreatCmGReg
import Derived.Test.YthmababifgaejaaGreatCmProgram
import Derived.Deep.CutRange
namespace Go.Proofs.YthmababifgaejaaGreat
open Go.ChangeShapes Go.WideShapes Go.ChangeAt Go.RowKit
set_option maxRecDepth 100000 in
set_option maxHeartbeats 16000000 in
theorem s_stepC (vw vm vi : Int) (L : List InsR) (pc : Int) (R M S : List Int) (inn : Int) (O : List Int) (cd st : Int) (I : List Int) (sL r m s o li : Value) (base : Nat) (w : World) (hp : prB vw vm vi L = true) (hG : Gd vw vm vi L.length ⟨pc, R, M, S, inn, O, cd, st⟩) (hI : (I.length : Int) = vi ∧ ∀ y ∈ I, IsW vw y) (hs : Cs.Shows w 0 4 sL L.length (InsR.all L)) (hli : Cs.Shows w 0 1 li I.length (IntL.all I)) (ho : StO w base ⟨pc, R, M, S, inn, O, cd, st⟩ r m s o) (hbase : base ≤ w.heap.size) (hcd : ¬ (cd ≠ 0 ∨ st = 400)) (hpl : ¬ pc = L.length) (hsel : 9 ≤ (L.getD pc.toNat ⟨0, 0, 0, 0⟩).f0 ∧ (L.getD pc.toNat ⟨0, 0, 0, 0⟩).f0 ≤ 11) :
    Calls Tryz.prog 33 #[.agg #[.int .i64 vw, .int .i64 vm, .int .i64 vi, sL], .agg #[.int .i64 pc, r, m, s, .int .i64 inn, o, .int .i64 cd, .int .i64 st], li] w (SqEnd r m s o base (stepV vw vm vi L I ⟨pc, R, M, S, inn, O, cd, st⟩) w) := by
  obtain ⟨XR, hXR⟩ : ∃ X, stepV vw vm vi L I ⟨pc, R, M, S, inn, O, cd, st⟩ = X := ⟨_, rfl⟩
  rw [hXR]
  have hml : maxLen = 9223372036854775807 := rfl
  obtain ⟨⟨hw2, hw8, hm1, hm6, _, hi0, hi3, hl1, hl40⟩, hins⟩ := pr_in hp
  have HINS := Lib.hid hins
  have hR : R.length = 4 := hG.hR
  have hM : (M.length : Int) = vm := hG.hM
  have hS3 : S.length ≤ 3 := hG.hS
  have hO6 : O.length ≤ 6 := hG.hO
  have hpc : 0 ≤ pc ∧ pc ≤ L.length := hG.pc
  have hinn : 0 ≤ inn ∧ inn ≤ vi := hG.inn
  have hst : 0 ≤ st ∧ st ≤ 400 := hG.st
  have HG := Lib.hid hG
  have HI := Lib.hid hI
  obtain ⟨gr, rc, rfl⟩ : ∃ g c, r = .slice (some ⟨g, 0, none⟩) 4 c := by have := own_some ho.1 (show 0 < R.length by omega); rw [show (StR.mk pc R M S inn O cd st).R.length = 4 from hR] at this; exact this
  obtain ⟨gm, mc, rfl⟩ := own_some ho.2.1 (show 0 < M.length by omega)
  obtain ⟨sq, sc, rfl⟩ := own_slice ho.2.2.1
  obtain ⟨oq, oc, rfl⟩ := own_slice ho.2.2.2.1
  have HS := Lib.hid hs
  have HLI := Lib.hid hli
  obtain ⟨_, q, cap, rfl, _⟩ := hs
  obtain ⟨_, iq, ic, rfl, _⟩ := hli
  have hgr : gr < w.heap.size := (ho.lt (g := gr) (by simp [StB, Value.ownBlock])).2
  have hgm : gm < w.heap.size := (ho.lt (g := gm) (by simp [StB, Value.ownBlock])).2
  have HR : Hid (∀ j, (h : j < L.length) → ∃ b o, q = some ⟨b, o, none⟩ ∧ b < w.heap.size ∧ ∀ W, Below w.heap.size w W → W.cell? ⟨b, o + j * 4, none⟩ = some (.int .i64 L[j].f0) ∧ W.cell? ⟨b, o + j * 4 + 1, none⟩ = some (.int .i64 L[j].f1) ∧ W.cell? ⟨b, o + j * 4 + 2, none⟩ = some (.int .i64 L[j].f2) ∧ W.cell? ⟨b, o + j * 4 + 3, none⟩ = some (.int .i64 L[j].f3)) := Lib.hid (fun j h => by
    rcases Cs.shows_cases HS.out with ⟨h0, _⟩ | ⟨_, b, o, c, hq, _, _, hbl, hr⟩
    · omega
    · injection hq with e1 e2 e3
      refine ⟨b, o, e1, hbl, fun W hW => ?_⟩
      have hh := flat_nth InsR.cells 4 (fun _ => rfl) L j h (rangeAt_below hW hr)
      exact ⟨hh 0 _ rfl, hh 1 _ rfl, hh 2 _ rfl, hh 3 _ rfl⟩)
  have HIN : Hid (∀ j, (h : j < I.length) → ∃ b o, iq = some ⟨b, o, none⟩ ∧ b < w.heap.size ∧ ∀ W, Below w.heap.size w W → W.cell? ⟨b, o + j, none⟩ = some (.int .i64 I[j])) := Lib.hid (fun j h => by
    rcases Cs.shows_cases HLI.out with ⟨h0, _⟩ | ⟨_, b, o, c, hq, _, _, hbl, hr⟩
    · omega
    · injection hq with e1 e2 e3
      refine ⟨b, o, e1, hbl, fun W hW => ?_⟩
      have hh := rangeAt_below hW hr j (.int .i64 I[j]) (by rw [IntL.all_map, List.getElem?_map, List.getElem?_eq_getElem h]; rfl)
      exact hh)
  obtain ⟨w0, hw0⟩ : ∃ w0, w0 = ((w.alloc (.cells #[.int .i64 vw, .int .i64 vm, .int .i64 vi, .slice q L.length cap] 32)).alloc (.cells #[.int .i64 pc, .slice (some ⟨gr, 0, none⟩) 4 rc, .slice (some ⟨gm, 0, none⟩) M.length mc, .slice sq S.length sc, .int .i64 inn, .slice oq O.length oc, .int .i64 cd, .int .i64 st] 52)).alloc (.cells #[.int .i64 0, .slice none 0 0, .slice none 0 0, .slice none 0 0, .int .i64 0, .slice none 0 0, .int .i64 0, .int .i64 0] 52) := ⟨_, rfl⟩
  have HB0 : Hid (Below w.heap.size w w0) := Lib.hid (by rw [hw0]; exact (((Below.refl _ _).alloc (Nat.le_refl _) _).alloc (by simp) _).alloc (by simp; omega) _)
  have hs0 : w0.heap.size = w.heap.size + 3 := by rw [hw0]; simp
  have X0 : Hid (Cell4 w0 w.heap.size (.int .i64 vw) (.int .i64 vm) (.int .i64 vi) (.slice q L.length cap)) := Lib.hid (by rw [hw0]; exact (cell4_alloc w 32 _ _ _ _).below (((Below.refl _ _).alloc (Nat.le_refl _) _).alloc (by simp) _))
  have XR0 : Hid (w0.heap[w.heap.size]? = some (.cells #[.int .i64 vw, .int .i64 vm, .int .i64 vi, .slice q L.length cap] 32 (0, 0))) := Lib.hid (by
    rw [hw0, heap_alloc_old _ _ (by simp; omega), heap_alloc_old _ _ (by simp)]
    exact heap_alloc_new _ _)
  have S0 : Hid (w0.heap[w.heap.size + 1]? = some (.cells #[.int .i64 pc, .slice (some ⟨gr, 0, none⟩) 4 rc, .slice (some ⟨gm, 0, none⟩) M.length mc, .slice sq S.length sc, .int .i64 inn, .slice oq O.length oc, .int .i64 cd, .int .i64 st] 52 (0, 0))) := Lib.hid (by
    rw [hw0, heap_alloc_old _ _ (by simp), ← show (w.alloc (.cells #[.int .i64 vw, .int .i64 vm, .int .i64 vi, .slice q L.length cap] 32)).heap.size = w.heap.size + 1 by simp]
    exact heap_alloc_new _ _)
  have Z0 : Hid (w0.heap[w.heap.size + 2]? = some (.cells #[.int .i64 0, .slice none 0 0, .slice none 0 0, .slice none 0 0, .int .i64 0, .slice none 0 0, .int .i64 0, .int .i64 0] 52 (0, 0))) := Lib.hid (by
    rw [hw0, ← show ((w.alloc (.cells #[.int .i64 vw, .int .i64 vm, .int .i64 vi, .slice q L.length cap] 32)).alloc (.cells #[.int .i64 pc, .slice (some ⟨gr, 0, none⟩) 4 rc, .slice (some ⟨gm, 0, none⟩) M.length mc, .slice sq S.length sc, .int .i64 inn, .slice oq O.length oc, .int .i64 cd, .int .i64 st] 52)).heap.size = w.heap.size + 2 by simp]
    exact heap_alloc_new _ _)
  have O0 := Lib.hid (ho.keep HB0.out)
  have HMV := Lib.hid hM
  clear ho hG hins hp hM hI
  · have hcd0 : cd = 0 := by by_cases h : cd = 0; exact h; exact absurd (.inl h) hcd
    have hst4 : ¬ st = 400 := fun h => hcd (.inr h)
    have hq : (cd != 0) = false := by simpa using hcd0
    have hq2 : (st == 400) = false := by simpa using hst4
    · obtain ⟨k, hk, hpk, hLk⟩ := getD_ins (L := L) hpc.1 (by omega)
      obtain ⟨b, o', hqe, hbl, hcells⟩ := HR.out k hk
      subst hqe
      have hik := HINS.out k hk
      obtain ⟨op, a, b', c, hLe⟩ : ∃ op a b c, L[k] = (⟨op, a, b, c⟩ : InsR) := ⟨_, _, _, _, rfl⟩
      rw [hLe] at hcells hik hLk
      simp only at hcells
      rw [hLk] at hsel
      simp only at hsel
      obtain ⟨c0, c1, c2, c3⟩ := hcells w0 HB0.out
      have hq3 : (pc == (L.length : Int)) = false := by simpa using hpl
      have hkl : (k : Int) < (L.length : Int) := by omega
      have KW := Lib.hid (fun W h1 h2 => s_why vw vm vi L.length (some ⟨b, o', none⟩) L.length cap ⟨pc, R, M, S, inn, O, 0, st + 1⟩ gr rc (some ⟨gm, 0, none⟩) M.length mc sq oq sc oc op a b' c W hR h1 h2 hik)
      obtain ⟨V, hV⟩ : ∃ V, whyV vm vi ⟨pc, R, M, S, inn, O, 0, st + 1⟩ ⟨op, a, b', c⟩ = V := ⟨_, rfl⟩
      rw [hV] at KW
      have hstep : stepV vw vm vi L I ⟨pc, R, M, S, inn, O, cd, st⟩ = if V ≠ 0 then ⟨pc, R, M, S, inn, O, V, st + 1⟩ else (doX vw I ⟨pc, R, M, S, inn, O, 0, st + 1⟩ (pc + 1) ⟨op, a, b', c⟩).goto (doN ⟨pc, R, M, S, inn, O, 0, st + 1⟩ (pc + 1) ⟨op, a, b', c⟩) := by
        have hwv : whyV vm vi ⟨pc, R, M, S, inn, O, cd, st⟩ ⟨op, a, b', c⟩ = V := hV
        unfold stepV
        rw [if_neg hcd, if_neg hpl]
        show (if whyV vm vi ⟨pc, R, M, S, inn, O, cd, st⟩ (L.getD pc.toNat ⟨0, 0, 0, 0⟩) ≠ 0 then _ else _) = _
        rw [hLk, hwv, hcd0]
        rfl
      have HV := Lib.hid (hXR.symm.trans hstep)
      clear hstep hXR hcd hpl hLe hLk
      subst hcd0 hpk
      obtain ⟨x0, x1, x2, x3⟩ := X0.out
      obtain ⟨d0, d1, d2, d3, d4, d5, d6, d7⟩ := cell8_row S0.out
      rw [hw0] at x0 x1 x2 x3 d0 d1 d2 d3 d4 d5 d6 d7
      go_enter Tryz.func33, Tryz.ntmps33
      go_upto_region 6 with fail
      rw [← hw0]
      clear hw0 x0 x1 x2 x3 d0 d1 d2 d3 d4 d5 d6 d7
      have hst1 : st + 1 ≤ 401 := by omega
      obtain ⟨x0, x1, x2, x3⟩ := X0.out
      obtain ⟨d0, d1, d2, d3, d4, d5, d6, d7⟩ := cell8_row S0.out
      obtain ⟨f0, f1, f2, f3, f4, f5, f6, f7⟩ := froz8_row S0.out
      have hzb : b < w0.heap.size := by omega
      have hz0 : w.heap.size < w0.heap.size := by omega
      have hz1 : w.heap.size + 1 < w0.heap.size := by omega
      have hz2 : w.heap.size + 1 < w0.heap.size + 1 := by omega
      go_upto_region 8 with fail
      clear x0 x1 x2 x3 d0 d1 d2 d3 d4 d5 d6 d7 f0 f1 f2 f3 f4 f5 f6 f7 c0 c1 c2 c3
      obtain ⟨w1, hw1⟩ : ∃ V, V = (w0.setCell ⟨w.heap.size + 1, 7, none⟩ (.int .i64 (st + 1))).alloc (.cells #[.int .i64 op, .int .i64 a, .int .i64 b', .int .i64 c] 55) := ⟨_, rfl⟩
      have hs1 : w1.heap.size = w.heap.size + 4 := by rw [hw1]; simp; omega
      have BS := Lib.hid (show Below w.heap.size w w1 by rw [hw1]; exact (HB0.out.setCell (by simp) _).alloc (by simp; omega) _)
      have XR1 := Lib.hid (show w1.heap[w.heap.size]? = some (.cells #[.int .i64 vw, .int .i64 vm, .int .i64 vi, .slice (some ⟨b, o', none⟩) L.length cap] 32 (0, 0)) by rw [hw1, heap_alloc_old _ _ (by simp; omega), heap_setCell_other _ _ _ _ (by simp)]; exact XR0.out)
      have SR1 := Lib.hid (show w1.heap[w.heap.size + 1]? = some (.cells #[.int .i64 (k : Int), .slice (some ⟨gr, 0, none⟩) 4 rc, .slice (some ⟨gm, 0, none⟩) M.length mc, .slice sq S.length sc, .int .i64 inn, .slice oq O.length oc, .int .i64 0, .int .i64 (st + 1)] 52 (0, 0)) by rw [hw1, heap_alloc_old _ _ (by simp; omega)]; exact heap_setCell_same w0 _ 7 _ _ _ S0.out)
      have ZR1 := Lib.hid (show w1.heap[w.heap.size + 2]? = some (.cells #[.int .i64 0, .slice none 0 0, .slice none 0 0, .slice none 0 0, .int .i64 0, .slice none 0 0, .int .i64 0, .int .i64 0] 52 (0, 0)) by rw [hw1, heap_alloc_old _ _ (by simp; omega), heap_setCell_other _ _ _ _ (by simp)]; exact Z0.out)
      have IR1 := Lib.hid (show w1.heap[w.heap.size + 3]? = some (.cells #[.int .i64 op, .int .i64 a, .int .i64 b', .int .i64 c] 55 (0, 0)) by rw [hw1, ← hs0, ← show (w0.setCell ⟨w.heap.size + 1, 7, none⟩ (.int .i64 (st + 1))).heap.size = w0.heap.size by simp]; exact heap_alloc_new _ _)
      have O1 : Hid (StO w1 base ⟨(k : Int), R, M, S, inn, O, 0, st + 1⟩ _ _ _ _) := Lib.hid (by rw [hw1]; exact ((O0.out.aside (O0.out.off (T := 52) (by decide) S0.out) 7 _).like rfl rfl rfl rfl).keep ((Below.refl _ _).alloc (Nat.le_refl _) _))
      rw [← hw1]
      clear hw1
      obtain ⟨x0, x1, x2, x3⟩ := cell4_row XR1.out
      obtain ⟨i0, i1, i2, i3⟩ := cell4_row IR1.out
      obtain ⟨d0, d1, d2, d3, d4, d5, d6, d7⟩ := cell8_row SR1.out
      go_wp2_with fail
      clear x0 x1 x2 x3 i0 i1 i2 i3 d0 d1 d2 d3 d4 d5 d6 d7
      refine (KW.out _ (by omega) (fun j hj => (own_cell (n := 4) (by have h := O1.out.1; rw [show (StR.mk (k : Int) R M S inn O 0 (st + 1)).R.length = 4 from hR] at h; exact h) hR j hj).1)).mono ?_
      rintro e w2 ⟨rfl, hb⟩
      have hs2 := hb.size
      have B2 := Lib.hid (BS.out.trans (hb.mono BS.out.size))
      have XR2 := Lib.hid ((hb.block w.heap.size (by omega)).trans XR1.out)
      have SR2 := Lib.hid ((hb.block (w.heap.size + 1) (by omega)).trans SR1.out)
      have ZR2 := Lib.hid ((hb.block (w.heap.size + 2) (by omega)).trans ZR1.out)
      have IR2 := Lib.hid ((hb.block (w.heap.size + 3) (by omega)).trans IR1.out)
      have O2 := Lib.hid (O1.out.keep hb)
      clear hb
      obtain ⟨d0, d1, d2, d3, d4, d5, d6, d7⟩ := cell8_row SR2.out
      obtain ⟨f0, f1, f2, f3, f4, f5, f6, f7⟩ := froz8_row SR2.out
      by_cases hV0 : V = 0
      case neg =>
        have HX : Hid (XR = ⟨(k : Int), R, M, S, inn, O, V, st + 1⟩) := Lib.hid (by rw [HV.out, if_pos hV0])
        have hqv : (V != 0) = true := by simpa using hV0
        clear hV0 hV
        go_upto_region 10 with fail
        clear d0 d1 d2 d3 d4 d5 d6 d7 f0 f1 f2 f3 f4 f5 f6 f7
        obtain ⟨w3, hw3⟩ : ∃ V', V' = w2.setCell ⟨w.heap.size + 1, 6, none⟩ (.int .i64 V) := ⟨_, rfl⟩
        have SA := Lib.hid (show w3.heap[w.heap.size + 1]? = some (.cells #[.int .i64 (k : Int), .slice (some ⟨gr, 0, none⟩) 4 rc, .slice (some ⟨gm, 0, none⟩) M.length mc, .slice sq S.length sc, .int .i64 inn, .slice oq O.length oc, .int .i64 V, .int .i64 (st + 1)] 52 (0, 0)) by rw [hw3]; exact heap_setCell_same w2 _ 6 _ _ _ SR2.out)
        have ZA := Lib.hid (show w3.heap[w.heap.size + 2]? = some (.cells #[.int .i64 0, .slice none 0 0, .slice none 0 0, .slice none 0 0, .int .i64 0, .slice none 0 0, .int .i64 0, .int .i64 0] 52 (0, 0)) by rw [hw3, heap_setCell_other _ _ _ _ (by simp)]; exact ZR2.out)
        have BA := Lib.hid (show Apart (StB (.slice (some ⟨gr, 0, none⟩) 4 rc) (.slice (some ⟨gm, 0, none⟩) M.length mc) (.slice sq S.length sc) (.slice oq O.length oc)) w w3 by rw [hw3]; exact (Apart.of_below B2.out).above (p := ⟨w.heap.size + 1, 6, none⟩) (by simp) _)
        have OA : Hid (StO w3 base ⟨(k : Int), R, M, S, inn, O, V, st + 1⟩ _ _ _ _) := Lib.hid (by rw [hw3]; exact (O2.out.aside (O2.out.off (T := 52) (by decide) SR2.out) 6 _).like rfl rfl rfl rfl)
        rw [← hw3]
        clear hw3
        have SR := Lib.hid (SA.out)
        have ZR := Lib.hid (ZA.out)
        have BB := Lib.hid (BA.out)
        have OO := Lib.hid (OA.out)
        obtain ⟨d0, d1, d2, d3, d4, d5, d6, d7⟩ := cell8_row SR.out
        obtain ⟨g0, g1, g2, g3, g4, g5, g6, g7⟩ := cell8_row ZR.out
        obtain ⟨f0, f1, f2, f3, f4, f5, f6, f7⟩ := froz8_row ZR.out
        go_wp2
        obtain ⟨WE, hWE⟩ : ∃ W9, W9 = ((((((((w3.setCell ⟨w.heap.size + 2, 0, none⟩ (.int .i64 (k : Int))).setCell ⟨w.heap.size + 2, 1, none⟩ (.slice (some ⟨gr, 0, none⟩) 4 rc)).setCell ⟨w.heap.size + 2, 2, none⟩ (.slice (some ⟨gm, 0, none⟩) M.length mc)).setCell ⟨w.heap.size + 2, 3, none⟩ (.slice sq S.length sc)).setCell ⟨w.heap.size + 2, 4, none⟩ (.int .i64 inn)).setCell ⟨w.heap.size + 2, 5, none⟩ (.slice oq O.length oc)).setCell ⟨w.heap.size + 2, 6, none⟩ (.int .i64 V)).setCell ⟨w.heap.size + 2, 7, none⟩ (.int .i64 (st + 1))) := ⟨_, rfl⟩
        have D2 := Lib.hid (show WE.heap[w.heap.size + 2]? = some (.cells #[.int .i64 (k : Int), .slice (some ⟨gr, 0, none⟩) 4 rc, .slice (some ⟨gm, 0, none⟩) M.length mc, .slice sq S.length sc, .int .i64 inn, .slice oq O.length oc, .int .i64 V, .int .i64 (st + 1)] 52 (0, 0)) by rw [hWE]; exact set8_row ZR.out _ _ _ _ _ _ _ _)
        have BE := Lib.hid (show Apart _ w WE by rw [hWE]; exact set8_apart BB.out (by omega) _ _ _ _ _ _ _ _)
        have OE := Lib.hid (show StO WE base _ _ _ _ _ by rw [hWE]; exact OO.out.set8 (OO.out.off (T := 52) (by decide) ZR.out) _ _ _ _ _ _ _ _)
        rw [← hWE]
        clear hWE d0 d1 d2 d3 d4 d5 d6 d7 g0 g1 g2 g3 g4 g5 g6 g7
        obtain ⟨d0, d1, d2, d3, d4, d5, d6, d7⟩ := cell8_row D2.out
        refine bodyPost_ret (v := .agg #[.int .i64 (k : Int), .slice (some ⟨gr, 0, none⟩) 4 rc, .slice (some ⟨gm, 0, none⟩) M.length mc, .slice sq S.length sc, .int .i64 inn, .slice oq O.length oc, .int .i64 V, .int .i64 (st + 1)]) (by simp [results, Tryz.results33, go_sem, d0, d1, d2, d3, d4, d5, d6, d7]) rfl ?_
        rw [HX.out]
        exact ⟨_, _, _, _, rfl, OE.out, BE.out, fun g hg => .inl hg⟩
      case pos =>
        subst hV0
        have HDO := Lib.hid (show XR = (doX vw I ⟨(k : Int), R, M, S, inn, O, 0, st + 1⟩ ((k : Int) + 1) ⟨op, a, b', c⟩).goto (doN ⟨(k : Int), R, M, S, inn, O, 0, st + 1⟩ ((k : Int) + 1) ⟨op, a, b', c⟩) by rw [HV.out, if_neg (by simp)])
        have hqv : ((0 : Int) != 0) = false := rfl
        have hk41 : (k : Int) + 1 ≤ 41 := by omega
        go_upto_region 12 with fail
        clear d0 d1 d2 d3 d4 d5 d6 d7 f0 f1 f2 f3 f4 f5 f6 f7 hqv HV
        obtain ⟨w3, hw3⟩ : ∃ V', V' = (w2.setCell ⟨w.heap.size + 1, 6, none⟩ (.int .i64 0)).setCell ⟨w.heap.size + 1, 0, none⟩ (.int .i64 ((k : Int) + 1)) := ⟨_, rfl⟩
        have hs3 : w.heap.size + 4 ≤ w3.heap.size := by rw [hw3]; simp; omega
        have SR3 := Lib.hid (show w3.heap[w.heap.size + 1]? = some (.cells #[.int .i64 ((k : Int) + 1), .slice (some ⟨gr, 0, none⟩) 4 rc, .slice (some ⟨gm, 0, none⟩) M.length mc, .slice sq S.length sc, .int .i64 inn, .slice oq O.length oc, .int .i64 0, .int .i64 (st + 1)] 52 (0, 0)) by rw [hw3]; exact heap_setCell_same _ _ 0 _ _ _ (heap_setCell_same w2 _ 6 _ _ _ SR2.out))
        have ZR3 := Lib.hid (show w3.heap[w.heap.size + 2]? = some (.cells #[.int .i64 0, .slice none 0 0, .slice none 0 0, .slice none 0 0, .int .i64 0, .slice none 0 0, .int .i64 0, .int .i64 0] 52 (0, 0)) by rw [hw3, heap_setCell_other _ _ _ _ (by simp), heap_setCell_other _ _ _ _ (by simp)]; exact ZR2.out)
        have XR3 := Lib.hid (show w3.heap[w.heap.size]? = some (.cells #[.int .i64 vw, .int .i64 vm, .int .i64 vi, .slice (some ⟨b, o', none⟩) L.length cap] 32 (0, 0)) by rw [hw3, heap_setCell_other _ _ _ _ (by simp), heap_setCell_other _ _ _ _ (by simp)]; exact XR2.out)
        have IR3 := Lib.hid (show w3.heap[w.heap.size + 3]? = some (.cells #[.int .i64 op, .int .i64 a, .int .i64 b', .int .i64 c] 55 (0, 0)) by rw [hw3, heap_setCell_other _ _ _ _ (by simp), heap_setCell_other _ _ _ _ (by simp)]; exact IR2.out)
        have BC3 := Lib.hid (show Below w.heap.size w w3 by rw [hw3]; exact (B2.out.setCell (by simp) _).setCell (by simp) _)
        have BB3 := Lib.hid (show Apart (StB (.slice (some ⟨gr, 0, none⟩) 4 rc) (.slice (some ⟨gm, 0, none⟩) M.length mc) (.slice sq S.length sc) (.slice oq O.length oc)) w w3 from Apart.of_below BC3.out)
        have O3 : Hid (StO w3 base ⟨(k : Int) + 1, R, M, S, inn, O, 0, st + 1⟩ _ _ _ _) := Lib.hid (by rw [hw3]; exact ((O2.out.aside (O2.out.off (T := 52) (by decide) SR2.out) 6 _).aside (O2.out.off (T := 52) (by decide) SR2.out) 0 _).like rfl rfl rfl rfl)
        rw [← hw3]
        clear hw3 SR2 ZR2 XR2 IR2 O2 SR1 ZR1 XR1 IR1 O1 S0 Z0 O0 XR0
        have OR3 : Hid (w3.ownsRow base 3 1 (.slice (some ⟨gr, 0, none⟩) 4 rc) 4 (IntL.all R)) := Lib.hid (by have h := O3.out.1; rw [show (StR.mk ((k : Int) + 1) R M S inn O 0 (st + 1)).R.length = 4 from hR] at h; exact h)
        have HCR := Lib.hid (fun j (hj : j < 4) => own_cell OR3.out hR j (by omega))
        have hgr3 : gr < w3.heap.size := by omega
        have hgm3 : gm < w3.heap.size := by omega
        obtain ⟨hop, hA, hB, hC⟩ := ins_parts hik
        simp only at hop hA hB hC
        obtain ⟨i0, i1, i2, i3⟩ := cell4_row IR3.out
        rcases op_cases op with rfl | rfl | rfl | rfl | rfl | rfl | rfl | rfl | rfl | rfl | rfl | rfl | rfl | rfl | hbad
        case inr.inr.inr.inr.inr.inr.inr.inr.inr.inr.inr.inr.inr.inr => omega
        · omega
        · omega
        · omega
        · omega
        · omega
        · omega
        · omega
        · omega
        · -- 9
          obtain ⟨x0, x1, x2, x3⟩ := cell4_row XR3.out
          obtain ⟨d0, d1, d2, d3, d4, d5, d6, d7⟩ := cell8_row SR3.out
          obtain ⟨s0, s1, s2, s3, s4, s5, s6, s7⟩ := froz8_row SR3.out
          go_upto_region 42 with fail
          clear x0 x1 x2 x3 d0 d1 d2 d3 d4 d5 d6 d7 s0 s1 s2 s3 s4 s5 s6 s7 i0 i1 i2 i3
          have HX : Hid (XR = ⟨b', R, M, S, inn, O, 0, st + 1⟩) := Lib.hid (by rw [HDO.out]; rfl)
          obtain ⟨w4, hw4⟩ : ∃ W9, W9 = w3.setCell ⟨w.heap.size + 1, 0, none⟩ (.int .i64 b') := ⟨_, rfl⟩
          have SA := Lib.hid (show w4.heap[w.heap.size + 1]? = some (.cells #[.int .i64 b', .slice (some ⟨gr, 0, none⟩) 4 rc, .slice (some ⟨gm, 0, none⟩) M.length mc, .slice sq S.length sc, .int .i64 inn, .slice oq O.length oc, .int .i64 0, .int .i64 (st + 1)] 52 (0, 0)) by rw [hw4]; exact heap_setCell_same _ _ 0 _ _ _ SR3.out)
          have ZA := Lib.hid (show w4.heap[w.heap.size + 2]? = some (.cells #[.int .i64 0, .slice none 0 0, .slice none 0 0, .slice none 0 0, .int .i64 0, .slice none 0 0, .int .i64 0, .int .i64 0] 52 (0, 0)) by rw [hw4, heap_setCell_other _ _ _ _ (by simp)]; exact ZR3.out)
          have OA : Hid (StO w4 base ⟨b', R, M, S, inn, O, 0, st + 1⟩ _ _ _ _) := Lib.hid (by rw [hw4]; exact (O3.out.aside (O3.out.off (T := 52) (by decide) SR3.out) 0 _).like rfl rfl rfl rfl)
          have BA := Lib.hid (show Apart (StB (.slice (some ⟨gr, 0, none⟩) 4 rc) (.slice (some ⟨gm, 0, none⟩) M.length mc) (.slice sq S.length sc) (.slice oq O.length oc)) w w4 by rw [hw4]; exact BB3.out.above (p := ⟨w.heap.size + 1, 0, none⟩) (by simp) _)
          rw [← hw4]
          clear hw4
          have SR := Lib.hid (SA.out)
          have ZR := Lib.hid (ZA.out)
          have BB := Lib.hid (BA.out)
          have OO := Lib.hid (OA.out)
          obtain ⟨d0, d1, d2, d3, d4, d5, d6, d7⟩ := cell8_row SR.out
          obtain ⟨g0, g1, g2, g3, g4, g5, g6, g7⟩ := cell8_row ZR.out
          obtain ⟨f0, f1, f2, f3, f4, f5, f6, f7⟩ := froz8_row ZR.out
          go_wp2
          obtain ⟨WE, hWE⟩ : ∃ W9, W9 = ((((((((w4.setCell ⟨w.heap.size + 2, 0, none⟩ (.int .i64 b')).setCell ⟨w.heap.size + 2, 1, none⟩ (.slice (some ⟨gr, 0, none⟩) 4 rc)).setCell ⟨w.heap.size + 2, 2, none⟩ (.slice (some ⟨gm, 0, none⟩) M.length mc)).setCell ⟨w.heap.size + 2, 3, none⟩ (.slice sq S.length sc)).setCell ⟨w.heap.size + 2, 4, none⟩ (.int .i64 inn)).setCell ⟨w.heap.size + 2, 5, none⟩ (.slice oq O.length oc)).setCell ⟨w.heap.size + 2, 6, none⟩ (.int .i64 0)).setCell ⟨w.heap.size + 2, 7, none⟩ (.int .i64 (st + 1))) := ⟨_, rfl⟩
          have D2 := Lib.hid (show WE.heap[w.heap.size + 2]? = some (.cells #[.int .i64 b', .slice (some ⟨gr, 0, none⟩) 4 rc, .slice (some ⟨gm, 0, none⟩) M.length mc, .slice sq S.length sc, .int .i64 inn, .slice oq O.length oc, .int .i64 0, .int .i64 (st + 1)] 52 (0, 0)) by rw [hWE]; exact set8_row ZR.out _ _ _ _ _ _ _ _)
          have BE := Lib.hid (show Apart _ w WE by rw [hWE]; exact set8_apart BB.out (by omega) _ _ _ _ _ _ _ _)
          have OE := Lib.hid (show StO WE base _ _ _ _ _ by rw [hWE]; exact OO.out.set8 (OO.out.off (T := 52) (by decide) ZR.out) _ _ _ _ _ _ _ _)
          rw [← hWE]
          clear hWE d0 d1 d2 d3 d4 d5 d6 d7 g0 g1 g2 g3 g4 g5 g6 g7
          obtain ⟨d0, d1, d2, d3, d4, d5, d6, d7⟩ := cell8_row D2.out
          refine bodyPost_ret (v := .agg #[.int .i64 b', .slice (some ⟨gr, 0, none⟩) 4 rc, .slice (some ⟨gm, 0, none⟩) M.length mc, .slice sq S.length sc, .int .i64 inn, .slice oq O.length oc, .int .i64 0, .int .i64 (st + 1)]) (by simp [results, Tryz.results33, go_sem, d0, d1, d2, d3, d4, d5, d6, d7]) rfl ?_
          rw [HX.out]
          exact ⟨_, _, _, _, rfl, OE.out, BE.out, fun g hg => .inl hg⟩
        · -- 10
          obtain ⟨ka, hpka⟩ : ∃ j : Nat, a = j := ⟨a.toNat, by have := reg_of hA; omega⟩
          have hka : ka < 4 := by have := reg_of hA; omega
          have hkai : (ka : Int) < 4 := by omega
          have hwka := HG.out.reg (reg_of hA)
          subst hpka
          obtain ⟨cka, fka⟩ := HCR.out ka hka
          have HAka := Lib.hid (atI_nat R ka (by omega))
          by_cases hzr : R[ka] = 0
          · -- yes
            obtain ⟨x0, x1, x2, x3⟩ := cell4_row XR3.out
            obtain ⟨d0, d1, d2, d3, d4, d5, d6, d7⟩ := cell8_row SR3.out
            obtain ⟨s0, s1, s2, s3, s4, s5, s6, s7⟩ := froz8_row SR3.out
            have hqz : (R[ka] == 0) = true := by simpa using hzr
            have HZ := Lib.hid (show atI R (ka : Int) = 0 by rw [HAka.out]; exact hzr)
            clear hzr
            rw [show R[ka] = 0 by simpa using hqz] at cka
            clear hqz
            go_upto_region 42 with fail
            clear x0 x1 x2 x3 d0 d1 d2 d3 d4 d5 d6 d7 s0 s1 s2 s3 s4 s5 s6 s7 i0 i1 i2 i3
            have HX : Hid (XR = ⟨b', R, M, S, inn, O, 0, st + 1⟩) := Lib.hid (by rw [HDO.out, (show (doN ⟨(k : Int), R, M, S, inn, O, 0, st + 1⟩ ((k : Int) + 1) ⟨10, (ka : Int), b', c⟩) = b' from if_pos HZ.out)]; rfl)
            obtain ⟨w4, hw4⟩ : ∃ W9, W9 = w3.setCell ⟨w.heap.size + 1, 0, none⟩ (.int .i64 b') := ⟨_, rfl⟩
            have SA := Lib.hid (show w4.heap[w.heap.size + 1]? = some (.cells #[.int .i64 b', .slice (some ⟨gr, 0, none⟩) 4 rc, .slice (some ⟨gm, 0, none⟩) M.length mc, .slice sq S.length sc, .int .i64 inn, .slice oq O.length oc, .int .i64 0, .int .i64 (st + 1)] 52 (0, 0)) by rw [hw4]; exact heap_setCell_same _ _ 0 _ _ _ SR3.out)
            have ZA := Lib.hid (show w4.heap[w.heap.size + 2]? = some (.cells #[.int .i64 0, .slice none 0 0, .slice none 0 0, .slice none 0 0, .int .i64 0, .slice none 0 0, .int .i64 0, .int .i64 0] 52 (0, 0)) by rw [hw4, heap_setCell_other _ _ _ _ (by simp)]; exact ZR3.out)
            have OA : Hid (StO w4 base ⟨b', R, M, S, inn, O, 0, st + 1⟩ _ _ _ _) := Lib.hid (by rw [hw4]; exact (O3.out.aside (O3.out.off (T := 52) (by decide) SR3.out) 0 _).like rfl rfl rfl rfl)
            have BA := Lib.hid (show Apart (StB (.slice (some ⟨gr, 0, none⟩) 4 rc) (.slice (some ⟨gm, 0, none⟩) M.length mc) (.slice sq S.length sc) (.slice oq O.length oc)) w w4 by rw [hw4]; exact BB3.out.above (p := ⟨w.heap.size + 1, 0, none⟩) (by simp) _)
            rw [← hw4]
            clear hw4
            have SR := Lib.hid (SA.out)
            have ZR := Lib.hid (ZA.out)
            have BB := Lib.hid (BA.out)
            have OO := Lib.hid (OA.out)
            obtain ⟨d0, d1, d2, d3, d4, d5, d6, d7⟩ := cell8_row SR.out
            obtain ⟨g0, g1, g2, g3, g4, g5, g6, g7⟩ := cell8_row ZR.out
            obtain ⟨f0, f1, f2, f3, f4, f5, f6, f7⟩ := froz8_row ZR.out
            go_wp2
            obtain ⟨WE, hWE⟩ : ∃ W9, W9 = ((((((((w4.setCell ⟨w.heap.size + 2, 0, none⟩ (.int .i64 b')).setCell ⟨w.heap.size + 2, 1, none⟩ (.slice (some ⟨gr, 0, none⟩) 4 rc)).setCell ⟨w.heap.size + 2, 2, none⟩ (.slice (some ⟨gm, 0, none⟩) M.length mc)).setCell ⟨w.heap.size + 2, 3, none⟩ (.slice sq S.length sc)).setCell ⟨w.heap.size + 2, 4, none⟩ (.int .i64 inn)).setCell ⟨w.heap.size + 2, 5, none⟩ (.slice oq O.length oc)).setCell ⟨w.heap.size + 2, 6, none⟩ (.int .i64 0)).setCell ⟨w.heap.size + 2, 7, none⟩ (.int .i64 (st + 1))) := ⟨_, rfl⟩
            have D2 := Lib.hid (show WE.heap[w.heap.size + 2]? = some (.cells #[.int .i64 b', .slice (some ⟨gr, 0, none⟩) 4 rc, .slice (some ⟨gm, 0, none⟩) M.length mc, .slice sq S.length sc, .int .i64 inn, .slice oq O.length oc, .int .i64 0, .int .i64 (st + 1)] 52 (0, 0)) by rw [hWE]; exact set8_row ZR.out _ _ _ _ _ _ _ _)
            have BE := Lib.hid (show Apart _ w WE by rw [hWE]; exact set8_apart BB.out (by omega) _ _ _ _ _ _ _ _)
            have OE := Lib.hid (show StO WE base _ _ _ _ _ by rw [hWE]; exact OO.out.set8 (OO.out.off (T := 52) (by decide) ZR.out) _ _ _ _ _ _ _ _)
            rw [← hWE]
            clear hWE d0 d1 d2 d3 d4 d5 d6 d7 g0 g1 g2 g3 g4 g5 g6 g7
            obtain ⟨d0, d1, d2, d3, d4, d5, d6, d7⟩ := cell8_row D2.out
            refine bodyPost_ret (v := .agg #[.int .i64 b', .slice (some ⟨gr, 0, none⟩) 4 rc, .slice (some ⟨gm, 0, none⟩) M.length mc, .slice sq S.length sc, .int .i64 inn, .slice oq O.length oc, .int .i64 0, .int .i64 (st + 1)]) (by simp [results, Tryz.results33, go_sem, d0, d1, d2, d3, d4, d5, d6, d7]) rfl ?_
            rw [HX.out]
            exact ⟨_, _, _, _, rfl, OE.out, BE.out, fun g hg => .inl hg⟩
          · have hqz : (R[ka] == 0) = false := by simpa using hzr
            have HZ := Lib.hid (show ¬ atI R (ka : Int) = 0 by rw [HAka.out]; exact hzr)
            clear hzr
            obtain ⟨x0, x1, x2, x3⟩ := cell4_row XR3.out
            obtain ⟨d0, d1, d2, d3, d4, d5, d6, d7⟩ := cell8_row SR3.out
            obtain ⟨s0, s1, s2, s3, s4, s5, s6, s7⟩ := froz8_row SR3.out
            go_upto_region 42 with fail
            clear x0 x1 x2 x3 d0 d1 d2 d3 d4 d5 d6 d7 s0 s1 s2 s3 s4 s5 s6 s7 i0 i1 i2 i3
            have HX : Hid (XR = ⟨(k : Int) + 1, R, M, S, inn, O, 0, st + 1⟩) := Lib.hid (by rw [HDO.out, (show (doN ⟨(k : Int), R, M, S, inn, O, 0, st + 1⟩ ((k : Int) + 1) ⟨10, (ka : Int), b', c⟩) = (k : Int) + 1 from if_neg HZ.out)]; rfl)
            have SR := Lib.hid (SR3.out)
            have ZR := Lib.hid (ZR3.out)
            have BB := Lib.hid (BB3.out)
            have OO := Lib.hid (O3.out)
            obtain ⟨d0, d1, d2, d3, d4, d5, d6, d7⟩ := cell8_row SR.out
            obtain ⟨g0, g1, g2, g3, g4, g5, g6, g7⟩ := cell8_row ZR.out
            obtain ⟨f0, f1, f2, f3, f4, f5, f6, f7⟩ := froz8_row ZR.out
            go_wp2
            obtain ⟨WE, hWE⟩ : ∃ W9, W9 = ((((((((w3.setCell ⟨w.heap.size + 2, 0, none⟩ (.int .i64 ((k : Int) + 1))).setCell ⟨w.heap.size + 2, 1, none⟩ (.slice (some ⟨gr, 0, none⟩) 4 rc)).setCell ⟨w.heap.size + 2, 2, none⟩ (.slice (some ⟨gm, 0, none⟩) M.length mc)).setCell ⟨w.heap.size + 2, 3, none⟩ (.slice sq S.length sc)).setCell ⟨w.heap.size + 2, 4, none⟩ (.int .i64 inn)).setCell ⟨w.heap.size + 2, 5, none⟩ (.slice oq O.length oc)).setCell ⟨w.heap.size + 2, 6, none⟩ (.int .i64 0)).setCell ⟨w.heap.size + 2, 7, none⟩ (.int .i64 (st + 1))) := ⟨_, rfl⟩
            have D2 := Lib.hid (show WE.heap[w.heap.size + 2]? = some (.cells #[.int .i64 ((k : Int) + 1), .slice (some ⟨gr, 0, none⟩) 4 rc, .slice (some ⟨gm, 0, none⟩) M.length mc, .slice sq S.length sc, .int .i64 inn, .slice oq O.length oc, .int .i64 0, .int .i64 (st + 1)] 52 (0, 0)) by rw [hWE]; exact set8_row ZR.out _ _ _ _ _ _ _ _)
            have BE := Lib.hid (show Apart _ w WE by rw [hWE]; exact set8_apart BB.out (by omega) _ _ _ _ _ _ _ _)
            have OE := Lib.hid (show StO WE base _ _ _ _ _ by rw [hWE]; exact OO.out.set8 (OO.out.off (T := 52) (by decide) ZR.out) _ _ _ _ _ _ _ _)
            rw [← hWE]
            clear hWE d0 d1 d2 d3 d4 d5 d6 d7 g0 g1 g2 g3 g4 g5 g6 g7
            obtain ⟨d0, d1, d2, d3, d4, d5, d6, d7⟩ := cell8_row D2.out
            refine bodyPost_ret (v := .agg #[.int .i64 ((k : Int) + 1), .slice (some ⟨gr, 0, none⟩) 4 rc, .slice (some ⟨gm, 0, none⟩) M.length mc, .slice sq S.length sc, .int .i64 inn, .slice oq O.length oc, .int .i64 0, .int .i64 (st + 1)]) (by simp [results, Tryz.results33, go_sem, d0, d1, d2, d3, d4, d5, d6, d7]) rfl ?_
            rw [HX.out]
            exact ⟨_, _, _, _, rfl, OE.out, BE.out, fun g hg => .inl hg⟩
        · -- 11
          skip
          obtain ⟨i9, hi9, hz9, hzs9, hzb9⟩ := info_parts zero_Int
          have hwhy : (if S.length = 3 then 7 else 0 : Int) = 0 := hV
          have hne : ¬ (S.length = 3) := fun h => by rw [if_pos h] at hwhy; cases hwhy
          clear hwhy
          obtain ⟨x0, x1, x2, x3⟩ := cell4_row XR3.out
          obtain ⟨d0, d1, d2, d3, d4, d5, d6, d7⟩ := cell8_row SR3.out
          obtain ⟨s0, s1, s2, s3, s4, s5, s6, s7⟩ := froz8_row SR3.out
          go_upto_region 36 with fail
          go_wp2_with (at_builtin; refine wpList_append_own_at _ rfl _ _ 28 rfl base 3 i9 (.int .i64 0) 1 8 Tryz.underlying28 hi9 hz9 hzs9 hzb9 rfl (by decide) (.slice sq S.length sc) S.length _ rfl ((O3.out.keep ((Below.refl _ _).alloc (Nat.le_refl _) _)).2.2.1) _ 1 1 [.int .i64 ((k : Int) + 1)] rfl rfl ?c1 ?c2 ?c3 ?c4 ?c5 ?_)
          case c1 => exact cell_one_new _ _ _
          case c2 => intro u hu; simp at hu; subst hu; rfl
          case c3 => unfold maxLen; omega
          case c4 => omega
          case c5 => have := BB3.out.size; simp; omega
          intro v' wb hown hgrow _ hat
          obtain ⟨q', c', rfl⟩ := own_slice hown
          have hal : Below w3.heap.size w3 (w3.alloc (.cells #[.int .i64 ((k : Int) + 1)] 3)) := (Below.refl _ _).alloc (Nat.le_refl _) _
          have Ob : Hid (StO wb base ⟨(k : Int) + 1, R, M, S ++ [(k : Int) + 1], inn, O, 0, st + 1⟩ _ _ (.slice q' (S.length + 1) c') _) := Lib.hid ((O3.out.keep hal).grow_s hgrow (by show wb.ownsRow base 3 1 (.slice q' (S.length + 1) c') (S ++ [(k : Int) + 1]).length (IntL.all (S ++ [(k : Int) + 1])); rw [List.length_append, IntL.all_map, List.map_append, ← IntL.all_map]; exact hown) (hat.imp id (fun h => h.trans (by simp))) rfl rfl rfl)
          have Bb := Lib.hid ((BB3.out.trans (Apart.of_below hal)).grown hgrow (fun j hj => .inl (show j ∈ StB (.slice (some ⟨gr, 0, none⟩) 4 rc) (.slice (some ⟨gm, 0, none⟩) M.length mc) (.slice sq S.length sc) (.slice oq O.length oc) by unfold StB; rw [hj]; simp)))
          have hsub := Lib.hid (show ∀ g ∈ (.slice q' (S.length + 1) c' : Value).ownBlock.toList, g ∈ (.slice sq S.length sc : Value).ownBlock.toList ∨ w.heap.size ≤ g from fun g hg => by
            rcases hat with h | h
            · rw [h] at hg; exact .inl hg
            · rw [h] at hg; simp at hg; exact .inr (by omega))
          have hnb : ∀ j, j < w3.heap.size → j ∉ StB (.slice (some ⟨gr, 0, none⟩) 4 rc) (.slice (some ⟨gm, 0, none⟩) M.length mc) (.slice sq S.length sc) (.slice oq O.length oc) → wb.heap[j]? = w3.heap[j]? := fun j hj hn => (hgrow.block j (by simp; omega) (fun e => hn (by unfold StB; rw [← e]; simp))).trans (hal.block j hj)
          have SRb := Lib.hid ((hnb (w.heap.size + 1) (by omega) (O3.out.off (T := 52) (by decide) SR3.out)).trans SR3.out)
          have ZRb := Lib.hid ((hnb (w.heap.size + 2) (by omega) (O3.out.off (T := 52) (by decide) ZR3.out)).trans ZR3.out)
          have IRb : Hid (wb.heap[w.heap.size + 3]? = some (.cells #[.int .i64 11, .int .i64 a, .int .i64 b', .int .i64 c] 55 (0, 0))) := Lib.hid ((hnb (w.heap.size + 3) (by omega) (O3.out.off (T := 55) (by decide) IR3.out)).trans IR3.out)
          clear hnb hgrow hown hat hal
          clear x0 x1 x2 x3 d0 d1 d2 d3 d4 d5 d6 d7 s0 s1 s2 s3 s4 s5 s6 s7 i0 i1 i2 i3
          obtain ⟨i0, i1, i2, i3⟩ := cell4_row IRb.out
          obtain ⟨d0, d1, d2, d3, d4, d5, d6, d7⟩ := cell8_row SRb.out
          obtain ⟨s0, s1, s2, s3, s4, s5, s6, s7⟩ := froz8_row SRb.out
          go_upto_region 42 with fail
          clear d0 d1 d2 d3 d4 d5 d6 d7 s0 s1 s2 s3 s4 s5 s6 s7 i0 i1 i2 i3
          have HX : Hid (XR = ⟨b', R, M, S ++ [(k : Int) + 1], inn, O, 0, st + 1⟩) := Lib.hid (by rw [HDO.out]; rfl)
          obtain ⟨w4, hw4⟩ : ∃ W9, W9 = (wb.setCell ⟨w.heap.size + 1, 3, none⟩ (.slice q' (S.length + 1) c')).setCell ⟨w.heap.size + 1, 0, none⟩ (.int .i64 b') := ⟨_, rfl⟩
          have SA := Lib.hid (show w4.heap[w.heap.size + 1]? = some (.cells #[.int .i64 b', .slice (some ⟨gr, 0, none⟩) 4 rc, .slice (some ⟨gm, 0, none⟩) M.length mc, .slice q' (S.length + 1) c', .int .i64 inn, .slice oq O.length oc, .int .i64 0, .int .i64 (st + 1)] 52 (0, 0)) by rw [hw4]; exact heap_setCell_same _ _ 0 _ _ _ (heap_setCell_same _ _ 3 _ _ _ SRb.out))
          have ZA := Lib.hid (show w4.heap[w.heap.size + 2]? = some (.cells #[.int .i64 0, .slice none 0 0, .slice none 0 0, .slice none 0 0, .int .i64 0, .slice none 0 0, .int .i64 0, .int .i64 0] 52 (0, 0)) by rw [hw4, heap_setCell_other _ _ _ _ (by simp), heap_setCell_other _ _ _ _ (by simp)]; exact ZRb.out)
          have OA : Hid (StO w4 base ⟨b', R, M, S ++ [(k : Int) + 1], inn, O, 0, st + 1⟩ _ _ _ _) := Lib.hid (by rw [hw4]; exact (((Ob.out.aside (Ob.out.off (T := 52) (by decide) SRb.out) 3 _).aside (Ob.out.off (T := 52) (by decide) SRb.out) 0 _)).like rfl rfl rfl rfl)
          have BA := Lib.hid (show Apart (StB (.slice (some ⟨gr, 0, none⟩) 4 rc) (.slice (some ⟨gm, 0, none⟩) M.length mc) (.slice sq S.length sc) (.slice oq O.length oc)) w w4 by rw [hw4]; exact (Bb.out.above (p := ⟨w.heap.size + 1, 3, none⟩) (by simp) _).above (p := ⟨w.heap.size + 1, 0, none⟩) (by simp) _)
          rw [← hw4]
          clear hw4
          have SR := Lib.hid (SA.out)
          have ZR := Lib.hid (ZA.out)
          have BB := Lib.hid (BA.out)
          have OO := Lib.hid (OA.out)
          obtain ⟨d0, d1, d2, d3, d4, d5, d6, d7⟩ := cell8_row SR.out
          obtain ⟨g0, g1, g2, g3, g4, g5, g6, g7⟩ := cell8_row ZR.out
          obtain ⟨f0, f1, f2, f3, f4, f5, f6, f7⟩ := froz8_row ZR.out
          go_wp2
          obtain ⟨WE, hWE⟩ : ∃ W9, W9 = ((((((((w4.setCell ⟨w.heap.size + 2, 0, none⟩ (.int .i64 b')).setCell ⟨w.heap.size + 2, 1, none⟩ (.slice (some ⟨gr, 0, none⟩) 4 rc)).setCell ⟨w.heap.size + 2, 2, none⟩ (.slice (some ⟨gm, 0, none⟩) M.length mc)).setCell ⟨w.heap.size + 2, 3, none⟩ (.slice q' (S.length + 1) c')).setCell ⟨w.heap.size + 2, 4, none⟩ (.int .i64 inn)).setCell ⟨w.heap.size + 2, 5, none⟩ (.slice oq O.length oc)).setCell ⟨w.heap.size + 2, 6, none⟩ (.int .i64 0)).setCell ⟨w.heap.size + 2, 7, none⟩ (.int .i64 (st + 1))) := ⟨_, rfl⟩
          have D2 := Lib.hid (show WE.heap[w.heap.size + 2]? = some (.cells #[.int .i64 b', .slice (some ⟨gr, 0, none⟩) 4 rc, .slice (some ⟨gm, 0, none⟩) M.length mc, .slice q' (S.length + 1) c', .int .i64 inn, .slice oq O.length oc, .int .i64 0, .int .i64 (st + 1)] 52 (0, 0)) by rw [hWE]; exact set8_row ZR.out _ _ _ _ _ _ _ _)
          have BE := Lib.hid (show Apart _ w WE by rw [hWE]; exact set8_apart BB.out (by omega) _ _ _ _ _ _ _ _)
          have OE := Lib.hid (show StO WE base _ _ _ _ _ by rw [hWE]; exact OO.out.set8 (OO.out.off (T := 52) (by decide) ZR.out) _ _ _ _ _ _ _ _)
          rw [← hWE]
          clear hWE d0 d1 d2 d3 d4 d5 d6 d7 g0 g1 g2 g3 g4 g5 g6 g7
          obtain ⟨d0, d1, d2, d3, d4, d5, d6, d7⟩ := cell8_row D2.out
          refine bodyPost_ret (v := .agg #[.int .i64 b', .slice (some ⟨gr, 0, none⟩) 4 rc, .slice (some ⟨gm, 0, none⟩) M.length mc, .slice q' (S.length + 1) c', .int .i64 inn, .slice oq O.length oc, .int .i64 0, .int .i64 (st + 1)]) (by simp [results, Tryz.results33, go_sem, d0, d1, d2, d3, d4, d5, d6, d7]) rfl ?_
          rw [HX.out]
          exact ⟨_, _, _, _, rfl, OE.out, BE.out, sub_s hsub.out⟩
        · omega
        · omega
        · have hwhy : (1 : Int) = 0 := hV
          cases hwhy
end Go.Proofs.YthmababifgaejaaGreat
namespace Go.Proofs.YthmababifgaejaaGreat
open Go.ChangeShapes Go.WideShapes Go.ChangeAt Go.RowKit
set_option maxRecDepth 100000 in
set_option maxHeartbeats 16000000 in
theorem s_stepD (vw vm vi : Int) (L : List InsR) (pc : Int) (R M S : List Int) (inn : Int) (O : List Int) (cd st : Int) (I : List Int) (sL r m s o li : Value) (base : Nat) (w : World) (hp : prB vw vm vi L = true) (hG : Gd vw vm vi L.length ⟨pc, R, M, S, inn, O, cd, st⟩) (hI : (I.length : Int) = vi ∧ ∀ y ∈ I, IsW vw y) (hs : Cs.Shows w 0 4 sL L.length (InsR.all L)) (hli : Cs.Shows w 0 1 li I.length (IntL.all I)) (ho : StO w base ⟨pc, R, M, S, inn, O, cd, st⟩ r m s o) (_hbase : base ≤ w.heap.size) (hcd : ¬ (cd ≠ 0 ∨ st = 400)) (hpl : ¬ pc = L.length) (hsel : 12 ≤ (L.getD pc.toNat ⟨0, 0, 0, 0⟩).f0 ∧ (L.getD pc.toNat ⟨0, 0, 0, 0⟩).f0 ≤ 14) :
    Calls Tryz.prog 33 #[.agg #[.int .i64 vw, .int .i64 vm, .int .i64 vi, sL], .agg #[.int .i64 pc, r, m, s, .int .i64 inn, o, .int .i64 cd, .int .i64 st], li] w (SqEnd r m s o base (stepV vw vm vi L I ⟨pc, R, M, S, inn, O, cd, st⟩) w) := by
  obtain ⟨XR, hXR⟩ : ∃ X, stepV vw vm vi L I ⟨pc, R, M, S, inn, O, cd, st⟩ = X := ⟨_, rfl⟩
  rw [hXR]
  have hml : maxLen = 9223372036854775807 := rfl
  obtain ⟨⟨hw2, hw8, hm1, hm6, _, hi0, hi3, hl1, hl40⟩, hins⟩ := pr_in hp
  have HINS := Lib.hid hins
  have hR : R.length = 4 := hG.hR
  have hM : (M.length : Int) = vm := hG.hM
  have hS3 : S.length ≤ 3 := hG.hS
  have hO6 : O.length ≤ 6 := hG.hO
  have hpc : 0 ≤ pc ∧ pc ≤ L.length := hG.pc
  have hinn : 0 ≤ inn ∧ inn ≤ vi := hG.inn
  have hst : 0 ≤ st ∧ st ≤ 400 := hG.st
  have HG := Lib.hid hG
  have HI := Lib.hid hI
  obtain ⟨gr, rc, rfl⟩ : ∃ g c, r = .slice (some ⟨g, 0, none⟩) 4 c := by have := own_some ho.1 (show 0 < R.length by omega); rw [show (StR.mk pc R M S inn O cd st).R.length = 4 from hR] at this; exact this
  obtain ⟨gm, mc, rfl⟩ := own_some ho.2.1 (show 0 < M.length by omega)
  obtain ⟨sq, sc, rfl⟩ := own_slice ho.2.2.1
  obtain ⟨oq, oc, rfl⟩ := own_slice ho.2.2.2.1
  have HS := Lib.hid hs
  have HLI := Lib.hid hli
  obtain ⟨_, q, cap, rfl, _⟩ := hs
  obtain ⟨_, iq, ic, rfl, _⟩ := hli
  have hgr : gr < w.heap.size := (ho.lt (g := gr) (by simp [StB, Value.ownBlock])).2
  have hgm : gm < w.heap.size := (ho.lt (g := gm) (by simp [StB, Value.ownBlock])).2
  have HR : Hid (∀ j, (h : j < L.length) → ∃ b o, q = some ⟨b, o, none⟩ ∧ b < w.heap.size ∧ ∀ W, Below w.heap.size w W → W.cell? ⟨b, o + j * 4, none⟩ = some (.int .i64 L[j].f0) ∧ W.cell? ⟨b, o + j * 4 + 1, none⟩ = some (.int .i64 L[j].f1) ∧ W.cell? ⟨b, o + j * 4 + 2, none⟩ = some (.int .i64 L[j].f2) ∧ W.cell? ⟨b, o + j * 4 + 3, none⟩ = some (.int .i64 L[j].f3)) := Lib.hid (fun j h => by
    rcases Cs.shows_cases HS.out with ⟨h0, _⟩ | ⟨_, b, o, c, hq, _, _, hbl, hr⟩
    · omega
    · injection hq with e1 e2 e3
      refine ⟨b, o, e1, hbl, fun W hW => ?_⟩
      have hh := flat_nth InsR.cells 4 (fun _ => rfl) L j h (rangeAt_below hW hr)
      exact ⟨hh 0 _ rfl, hh 1 _ rfl, hh 2 _ rfl, hh 3 _ rfl⟩)
  have HIN : Hid (∀ j, (h : j < I.length) → ∃ b o, iq = some ⟨b, o, none⟩ ∧ b < w.heap.size ∧ ∀ W, Below w.heap.size w W → W.cell? ⟨b, o + j, none⟩ = some (.int .i64 I[j])) := Lib.hid (fun j h => by
    rcases Cs.shows_cases HLI.out with ⟨h0, _⟩ | ⟨_, b, o, c, hq, _, _, hbl, hr⟩
    · omega
    · injection hq with e1 e2 e3
      refine ⟨b, o, e1, hbl, fun W hW => ?_⟩
      have hh := rangeAt_below hW hr j (.int .i64 I[j]) (by rw [IntL.all_map, List.getElem?_map, List.getElem?_eq_getElem h]; rfl)
      exact hh)
  obtain ⟨w0, hw0⟩ : ∃ w0, w0 = ((w.alloc (.cells #[.int .i64 vw, .int .i64 vm, .int .i64 vi, .slice q L.length cap] 32)).alloc (.cells #[.int .i64 pc, .slice (some ⟨gr, 0, none⟩) 4 rc, .slice (some ⟨gm, 0, none⟩) M.length mc, .slice sq S.length sc, .int .i64 inn, .slice oq O.length oc, .int .i64 cd, .int .i64 st] 52)).alloc (.cells #[.int .i64 0, .slice none 0 0, .slice none 0 0, .slice none 0 0, .int .i64 0, .slice none 0 0, .int .i64 0, .int .i64 0] 52) := ⟨_, rfl⟩
  have HB0 : Hid (Below w.heap.size w w0) := Lib.hid (by rw [hw0]; exact (((Below.refl _ _).alloc (Nat.le_refl _) _).alloc (by simp) _).alloc (by simp; omega) _)
  have hs0 : w0.heap.size = w.heap.size + 3 := by rw [hw0]; simp
  have X0 : Hid (Cell4 w0 w.heap.size (.int .i64 vw) (.int .i64 vm) (.int .i64 vi) (.slice q L.length cap)) := Lib.hid (by rw [hw0]; exact (cell4_alloc w 32 _ _ _ _).below (((Below.refl _ _).alloc (Nat.le_refl _) _).alloc (by simp) _))
  have XR0 : Hid (w0.heap[w.heap.size]? = some (.cells #[.int .i64 vw, .int .i64 vm, .int .i64 vi, .slice q L.length cap] 32 (0, 0))) := Lib.hid (by
    rw [hw0, heap_alloc_old _ _ (by simp; omega), heap_alloc_old _ _ (by simp)]
    exact heap_alloc_new _ _)
  have S0 : Hid (w0.heap[w.heap.size + 1]? = some (.cells #[.int .i64 pc, .slice (some ⟨gr, 0, none⟩) 4 rc, .slice (some ⟨gm, 0, none⟩) M.length mc, .slice sq S.length sc, .int .i64 inn, .slice oq O.length oc, .int .i64 cd, .int .i64 st] 52 (0, 0))) := Lib.hid (by
    rw [hw0, heap_alloc_old _ _ (by simp), ← show (w.alloc (.cells #[.int .i64 vw, .int .i64 vm, .int .i64 vi, .slice q L.length cap] 32)).heap.size = w.heap.size + 1 by simp]
    exact heap_alloc_new _ _)
  have Z0 : Hid (w0.heap[w.heap.size + 2]? = some (.cells #[.int .i64 0, .slice none 0 0, .slice none 0 0, .slice none 0 0, .int .i64 0, .slice none 0 0, .int .i64 0, .int .i64 0] 52 (0, 0))) := Lib.hid (by
    rw [hw0, ← show ((w.alloc (.cells #[.int .i64 vw, .int .i64 vm, .int .i64 vi, .slice q L.length cap] 32)).alloc (.cells #[.int .i64 pc, .slice (some ⟨gr, 0, none⟩) 4 rc, .slice (some ⟨gm, 0, none⟩) M.length mc, .slice sq S.length sc, .int .i64 inn, .slice oq O.length oc, .int .i64 cd, .int .i64 st] 52)).heap.size = w.heap.size + 2 by simp]
    exact heap_alloc_new _ _)
  have O0 := Lib.hid (ho.keep HB0.out)
  have HMV := Lib.hid hM
  clear ho hG hins hp hM hI
  · have hcd0 : cd = 0 := by by_cases h : cd = 0; exact h; exact absurd (.inl h) hcd
    have hst4 : ¬ st = 400 := fun h => hcd (.inr h)
    have hq : (cd != 0) = false := by simpa using hcd0
    have hq2 : (st == 400) = false := by simpa using hst4
    · obtain ⟨k, hk, hpk, hLk⟩ := getD_ins (L := L) hpc.1 (by omega)
      obtain ⟨b, o', hqe, hbl, hcells⟩ := HR.out k hk
      subst hqe
      have hik := HINS.out k hk
      obtain ⟨op, a, b', c, hLe⟩ : ∃ op a b c, L[k] = (⟨op, a, b, c⟩ : InsR) := ⟨_, _, _, _, rfl⟩
      rw [hLe] at hcells hik hLk
      simp only at hcells
      rw [hLk] at hsel
      simp only at hsel
      obtain ⟨c0, c1, c2, c3⟩ := hcells w0 HB0.out
      have hq3 : (pc == (L.length : Int)) = false := by simpa using hpl
      have hkl : (k : Int) < (L.length : Int) := by omega
      have KW := Lib.hid (fun W h1 h2 => s_why vw vm vi L.length (some ⟨b, o', none⟩) L.length cap ⟨pc, R, M, S, inn, O, 0, st + 1⟩ gr rc (some ⟨gm, 0, none⟩) M.length mc sq oq sc oc op a b' c W hR h1 h2 hik)
      obtain ⟨V, hV⟩ : ∃ V, whyV vm vi ⟨pc, R, M, S, inn, O, 0, st + 1⟩ ⟨op, a, b', c⟩ = V := ⟨_, rfl⟩
      rw [hV] at KW
      have hstep : stepV vw vm vi L I ⟨pc, R, M, S, inn, O, cd, st⟩ = if V ≠ 0 then ⟨pc, R, M, S, inn, O, V, st + 1⟩ else (doX vw I ⟨pc, R, M, S, inn, O, 0, st + 1⟩ (pc + 1) ⟨op, a, b', c⟩).goto (doN ⟨pc, R, M, S, inn, O, 0, st + 1⟩ (pc + 1) ⟨op, a, b', c⟩) := by
        have hwv : whyV vm vi ⟨pc, R, M, S, inn, O, cd, st⟩ ⟨op, a, b', c⟩ = V := hV
        unfold stepV
        rw [if_neg hcd, if_neg hpl]
        show (if whyV vm vi ⟨pc, R, M, S, inn, O, cd, st⟩ (L.getD pc.toNat ⟨0, 0, 0, 0⟩) ≠ 0 then _ else _) = _
        rw [hLk, hwv, hcd0]
        rfl
      have HV := Lib.hid (hXR.symm.trans hstep)
      clear hstep hXR hcd hpl hLe hLk
      subst hcd0 hpk
      obtain ⟨x0, x1, x2, x3⟩ := X0.out
      obtain ⟨d0, d1, d2, d3, d4, d5, d6, d7⟩ := cell8_row S0.out
      rw [hw0] at x0 x1 x2 x3 d0 d1 d2 d3 d4 d5 d6 d7
      go_enter Tryz.func33, Tryz.ntmps33
      go_upto_region 6 with fail
      rw [← hw0]
      clear hw0 x0 x1 x2 x3 d0 d1 d2 d3 d4 d5 d6 d7
      have hst1 : st + 1 ≤ 401 := by omega
      obtain ⟨x0, x1, x2, x3⟩ := X0.out
      obtain ⟨d0, d1, d2, d3, d4, d5, d6, d7⟩ := cell8_row S0.out
      obtain ⟨f0, f1, f2, f3, f4, f5, f6, f7⟩ := froz8_row S0.out
      have hzb : b < w0.heap.size := by omega
      have hz0 : w.heap.size < w0.heap.size := by omega
      have hz1 : w.heap.size + 1 < w0.heap.size := by omega
      have hz2 : w.heap.size + 1 < w0.heap.size + 1 := by omega
      go_upto_region 8 with fail
      clear x0 x1 x2 x3 d0 d1 d2 d3 d4 d5 d6 d7 f0 f1 f2 f3 f4 f5 f6 f7 c0 c1 c2 c3
      obtain ⟨w1, hw1⟩ : ∃ V, V = (w0.setCell ⟨w.heap.size + 1, 7, none⟩ (.int .i64 (st + 1))).alloc (.cells #[.int .i64 op, .int .i64 a, .int .i64 b', .int .i64 c] 55) := ⟨_, rfl⟩
      have hs1 : w1.heap.size = w.heap.size + 4 := by rw [hw1]; simp; omega
      have BS := Lib.hid (show Below w.heap.size w w1 by rw [hw1]; exact (HB0.out.setCell (by simp) _).alloc (by simp; omega) _)
      have XR1 := Lib.hid (show w1.heap[w.heap.size]? = some (.cells #[.int .i64 vw, .int .i64 vm, .int .i64 vi, .slice (some ⟨b, o', none⟩) L.length cap] 32 (0, 0)) by rw [hw1, heap_alloc_old _ _ (by simp; omega), heap_setCell_other _ _ _ _ (by simp)]; exact XR0.out)
      have SR1 := Lib.hid (show w1.heap[w.heap.size + 1]? = some (.cells #[.int .i64 (k : Int), .slice (some ⟨gr, 0, none⟩) 4 rc, .slice (some ⟨gm, 0, none⟩) M.length mc, .slice sq S.length sc, .int .i64 inn, .slice oq O.length oc, .int .i64 0, .int .i64 (st + 1)] 52 (0, 0)) by rw [hw1, heap_alloc_old _ _ (by simp; omega)]; exact heap_setCell_same w0 _ 7 _ _ _ S0.out)
      have ZR1 := Lib.hid (show w1.heap[w.heap.size + 2]? = some (.cells #[.int .i64 0, .slice none 0 0, .slice none 0 0, .slice none 0 0, .int .i64 0, .slice none 0 0, .int .i64 0, .int .i64 0] 52 (0, 0)) by rw [hw1, heap_alloc_old _ _ (by simp; omega), heap_setCell_other _ _ _ _ (by simp)]; exact Z0.out)
      have IR1 := Lib.hid (show w1.heap[w.heap.size + 3]? = some (.cells #[.int .i64 op, .int .i64 a, .int .i64 b', .int .i64 c] 55 (0, 0)) by rw [hw1, ← hs0, ← show (w0.setCell ⟨w.heap.size + 1, 7, none⟩ (.int .i64 (st + 1))).heap.size = w0.heap.size by simp]; exact heap_alloc_new _ _)
      have O1 : Hid (StO w1 base ⟨(k : Int), R, M, S, inn, O, 0, st + 1⟩ _ _ _ _) := Lib.hid (by rw [hw1]; exact ((O0.out.aside (O0.out.off (T := 52) (by decide) S0.out) 7 _).like rfl rfl rfl rfl).keep ((Below.refl _ _).alloc (Nat.le_refl _) _))
      rw [← hw1]
      clear hw1
      obtain ⟨x0, x1, x2, x3⟩ := cell4_row XR1.out
      obtain ⟨i0, i1, i2, i3⟩ := cell4_row IR1.out
      obtain ⟨d0, d1, d2, d3, d4, d5, d6, d7⟩ := cell8_row SR1.out
      go_wp2_with fail
      clear x0 x1 x2 x3 i0 i1 i2 i3 d0 d1 d2 d3 d4 d5 d6 d7
      refine (KW.out _ (by omega) (fun j hj => (own_cell (n := 4) (by have h := O1.out.1; rw [show (StR.mk (k : Int) R M S inn O 0 (st + 1)).R.length = 4 from hR] at h; exact h) hR j hj).1)).mono ?_
      rintro e w2 ⟨rfl, hb⟩
      have hs2 := hb.size
      have B2 := Lib.hid (BS.out.trans (hb.mono BS.out.size))
      have XR2 := Lib.hid ((hb.block w.heap.size (by omega)).trans XR1.out)
      have SR2 := Lib.hid ((hb.block (w.heap.size + 1) (by omega)).trans SR1.out)
      have ZR2 := Lib.hid ((hb.block (w.heap.size + 2) (by omega)).trans ZR1.out)
      have IR2 := Lib.hid ((hb.block (w.heap.size + 3) (by omega)).trans IR1.out)
      have O2 := Lib.hid (O1.out.keep hb)
      clear hb
      obtain ⟨d0, d1, d2, d3, d4, d5, d6, d7⟩ := cell8_row SR2.out
      obtain ⟨f0, f1, f2, f3, f4, f5, f6, f7⟩ := froz8_row SR2.out
      by_cases hV0 : V = 0
      case neg =>
        have HX : Hid (XR = ⟨(k : Int), R, M, S, inn, O, V, st + 1⟩) := Lib.hid (by rw [HV.out, if_pos hV0])
        have hqv : (V != 0) = true := by simpa using hV0
        clear hV0 hV
        go_upto_region 10 with fail
        clear d0 d1 d2 d3 d4 d5 d6 d7 f0 f1 f2 f3 f4 f5 f6 f7
        obtain ⟨w3, hw3⟩ : ∃ V', V' = w2.setCell ⟨w.heap.size + 1, 6, none⟩ (.int .i64 V) := ⟨_, rfl⟩
        have SA := Lib.hid (show w3.heap[w.heap.size + 1]? = some (.cells #[.int .i64 (k : Int), .slice (some ⟨gr, 0, none⟩) 4 rc, .slice (some ⟨gm, 0, none⟩) M.length mc, .slice sq S.length sc, .int .i64 inn, .slice oq O.length oc, .int .i64 V, .int .i64 (st + 1)] 52 (0, 0)) by rw [hw3]; exact heap_setCell_same w2 _ 6 _ _ _ SR2.out)
        have ZA := Lib.hid (show w3.heap[w.heap.size + 2]? = some (.cells #[.int .i64 0, .slice none 0 0, .slice none 0 0, .slice none 0 0, .int .i64 0, .slice none 0 0, .int .i64 0, .int .i64 0] 52 (0, 0)) by rw [hw3, heap_setCell_other _ _ _ _ (by simp)]; exact ZR2.out)
        have BA := Lib.hid (show Apart (StB (.slice (some ⟨gr, 0, none⟩) 4 rc) (.slice (some ⟨gm, 0, none⟩) M.length mc) (.slice sq S.length sc) (.slice oq O.length oc)) w w3 by rw [hw3]; exact (Apart.of_below B2.out).above (p := ⟨w.heap.size + 1, 6, none⟩) (by simp) _)
        have OA : Hid (StO w3 base ⟨(k : Int), R, M, S, inn, O, V, st + 1⟩ _ _ _ _) := Lib.hid (by rw [hw3]; exact (O2.out.aside (O2.out.off (T := 52) (by decide) SR2.out) 6 _).like rfl rfl rfl rfl)
        rw [← hw3]
        clear hw3
        have SR := Lib.hid (SA.out)
        have ZR := Lib.hid (ZA.out)
        have BB := Lib.hid (BA.out)
        have OO := Lib.hid (OA.out)
        obtain ⟨d0, d1, d2, d3, d4, d5, d6, d7⟩ := cell8_row SR.out
        obtain ⟨g0, g1, g2, g3, g4, g5, g6, g7⟩ := cell8_row ZR.out
        obtain ⟨f0, f1, f2, f3, f4, f5, f6, f7⟩ := froz8_row ZR.out
        go_wp2
        obtain ⟨WE, hWE⟩ : ∃ W9, W9 = ((((((((w3.setCell ⟨w.heap.size + 2, 0, none⟩ (.int .i64 (k : Int))).setCell ⟨w.heap.size + 2, 1, none⟩ (.slice (some ⟨gr, 0, none⟩) 4 rc)).setCell ⟨w.heap.size + 2, 2, none⟩ (.slice (some ⟨gm, 0, none⟩) M.length mc)).setCell ⟨w.heap.size + 2, 3, none⟩ (.slice sq S.length sc)).setCell ⟨w.heap.size + 2, 4, none⟩ (.int .i64 inn)).setCell ⟨w.heap.size + 2, 5, none⟩ (.slice oq O.length oc)).setCell ⟨w.heap.size + 2, 6, none⟩ (.int .i64 V)).setCell ⟨w.heap.size + 2, 7, none⟩ (.int .i64 (st + 1))) := ⟨_, rfl⟩
        have D2 := Lib.hid (show WE.heap[w.heap.size + 2]? = some (.cells #[.int .i64 (k : Int), .slice (some ⟨gr, 0, none⟩) 4 rc, .slice (some ⟨gm, 0, none⟩) M.length mc, .slice sq S.length sc, .int .i64 inn, .slice oq O.length oc, .int .i64 V, .int .i64 (st + 1)] 52 (0, 0)) by rw [hWE]; exact set8_row ZR.out _ _ _ _ _ _ _ _)
        have BE := Lib.hid (show Apart _ w WE by rw [hWE]; exact set8_apart BB.out (by omega) _ _ _ _ _ _ _ _)
        have OE := Lib.hid (show StO WE base _ _ _ _ _ by rw [hWE]; exact OO.out.set8 (OO.out.off (T := 52) (by decide) ZR.out) _ _ _ _ _ _ _ _)
        rw [← hWE]
        clear hWE d0 d1 d2 d3 d4 d5 d6 d7 g0 g1 g2 g3 g4 g5 g6 g7
        obtain ⟨d0, d1, d2, d3, d4, d5, d6, d7⟩ := cell8_row D2.out
        refine bodyPost_ret (v := .agg #[.int .i64 (k : Int), .slice (some ⟨gr, 0, none⟩) 4 rc, .slice (some ⟨gm, 0, none⟩) M.length mc, .slice sq S.length sc, .int .i64 inn, .slice oq O.length oc, .int .i64 V, .int .i64 (st + 1)]) (by simp [results, Tryz.results33, go_sem, d0, d1, d2, d3, d4, d5, d6, d7]) rfl ?_
        rw [HX.out]
        exact ⟨_, _, _, _, rfl, OE.out, BE.out, fun g hg => .inl hg⟩
      case pos =>
        subst hV0
        have HDO := Lib.hid (show XR = (doX vw I ⟨(k : Int), R, M, S, inn, O, 0, st + 1⟩ ((k : Int) + 1) ⟨op, a, b', c⟩).goto (doN ⟨(k : Int), R, M, S, inn, O, 0, st + 1⟩ ((k : Int) + 1) ⟨op, a, b', c⟩) by rw [HV.out, if_neg (by simp)])
        have hqv : ((0 : Int) != 0) = false := rfl
        have hk41 : (k : Int) + 1 ≤ 41 := by omega
        go_upto_region 12 with fail
        clear d0 d1 d2 d3 d4 d5 d6 d7 f0 f1 f2 f3 f4 f5 f6 f7 hqv HV
        obtain ⟨w3, hw3⟩ : ∃ V', V' = (w2.setCell ⟨w.heap.size + 1, 6, none⟩ (.int .i64 0)).setCell ⟨w.heap.size + 1, 0, none⟩ (.int .i64 ((k : Int) + 1)) := ⟨_, rfl⟩
        have hs3 : w.heap.size + 4 ≤ w3.heap.size := by rw [hw3]; simp; omega
        have SR3 := Lib.hid (show w3.heap[w.heap.size + 1]? = some (.cells #[.int .i64 ((k : Int) + 1), .slice (some ⟨gr, 0, none⟩) 4 rc, .slice (some ⟨gm, 0, none⟩) M.length mc, .slice sq S.length sc, .int .i64 inn, .slice oq O.length oc, .int .i64 0, .int .i64 (st + 1)] 52 (0, 0)) by rw [hw3]; exact heap_setCell_same _ _ 0 _ _ _ (heap_setCell_same w2 _ 6 _ _ _ SR2.out))
        have ZR3 := Lib.hid (show w3.heap[w.heap.size + 2]? = some (.cells #[.int .i64 0, .slice none 0 0, .slice none 0 0, .slice none 0 0, .int .i64 0, .slice none 0 0, .int .i64 0, .int .i64 0] 52 (0, 0)) by rw [hw3, heap_setCell_other _ _ _ _ (by simp), heap_setCell_other _ _ _ _ (by simp)]; exact ZR2.out)
        have XR3 := Lib.hid (show w3.heap[w.heap.size]? = some (.cells #[.int .i64 vw, .int .i64 vm, .int .i64 vi, .slice (some ⟨b, o', none⟩) L.length cap] 32 (0, 0)) by rw [hw3, heap_setCell_other _ _ _ _ (by simp), heap_setCell_other _ _ _ _ (by simp)]; exact XR2.out)
        have IR3 := Lib.hid (show w3.heap[w.heap.size + 3]? = some (.cells #[.int .i64 op, .int .i64 a, .int .i64 b', .int .i64 c] 55 (0, 0)) by rw [hw3, heap_setCell_other _ _ _ _ (by simp), heap_setCell_other _ _ _ _ (by simp)]; exact IR2.out)
        have BC3 := Lib.hid (show Below w.heap.size w w3 by rw [hw3]; exact (B2.out.setCell (by simp) _).setCell (by simp) _)
        have BB3 := Lib.hid (show Apart (StB (.slice (some ⟨gr, 0, none⟩) 4 rc) (.slice (some ⟨gm, 0, none⟩) M.length mc) (.slice sq S.length sc) (.slice oq O.length oc)) w w3 from Apart.of_below BC3.out)
        have O3 : Hid (StO w3 base ⟨(k : Int) + 1, R, M, S, inn, O, 0, st + 1⟩ _ _ _ _) := Lib.hid (by rw [hw3]; exact ((O2.out.aside (O2.out.off (T := 52) (by decide) SR2.out) 6 _).aside (O2.out.off (T := 52) (by decide) SR2.out) 0 _).like rfl rfl rfl rfl)
        rw [← hw3]
        clear hw3 SR2 ZR2 XR2 IR2 O2 SR1 ZR1 XR1 IR1 O1 S0 Z0 O0 XR0
        have OR3 : Hid (w3.ownsRow base 3 1 (.slice (some ⟨gr, 0, none⟩) 4 rc) 4 (IntL.all R)) := Lib.hid (by have h := O3.out.1; rw [show (StR.mk ((k : Int) + 1) R M S inn O 0 (st + 1)).R.length = 4 from hR] at h; exact h)
        have HCR := Lib.hid (fun j (hj : j < 4) => own_cell OR3.out hR j (by omega))
        have hgr3 : gr < w3.heap.size := by omega
        have hgm3 : gm < w3.heap.size := by omega
        obtain ⟨hop, hA, hB, hC⟩ := ins_parts hik
        simp only at hop hA hB hC
        obtain ⟨i0, i1, i2, i3⟩ := cell4_row IR3.out
        rcases op_cases op with rfl | rfl | rfl | rfl | rfl | rfl | rfl | rfl | rfl | rfl | rfl | rfl | rfl | rfl | hbad
        case inr.inr.inr.inr.inr.inr.inr.inr.inr.inr.inr.inr.inr.inr => omega
        · omega
        · omega
        · omega
        · omega
        · omega
        · omega
        · omega
        · omega
        · omega
        · omega
        · omega
        · -- 12
          skip
          have hwhy : (if S.length = 0 then 7 else 0 : Int) = 0 := hV
          have hne : ¬ (S.length = 0) := fun h => by rw [if_pos h] at hwhy; cases hwhy
          clear hwhy
          obtain ⟨x0, x1, x2, x3⟩ := cell4_row XR3.out
          obtain ⟨d0, d1, d2, d3, d4, d5, d6, d7⟩ := cell8_row SR3.out
          obtain ⟨s0, s1, s2, s3, s4, s5, s6, s7⟩ := froz8_row SR3.out
          obtain ⟨ks, hks⟩ : ∃ j : Nat, S.length = j + 1 := ⟨S.length - 1, by omega⟩
          have hksl : ks < S.length := by omega
          obtain ⟨gs, sc', hsq⟩ := own_some O3.out.2.2.1 (show 0 < S.length by omega)
          cases hsq
          obtain ⟨cs, fs⟩ := own_cell O3.out.2.2.1 rfl ks hksl
          have hgs : gs < w3.heap.size := (O3.out.lt (g := gs) (by simp [StB, Value.ownBlock])).2
          have HAs := Lib.hid (show atI S ((S.length : Int) - 1) = S[ks] by rw [show (S.length : Int) - 1 = (ks : Int) by omega]; exact atI_nat S ks hksl)
          have hcap : S.length ≤ sc := by rcases O3.out.2.2.1.2 with ⟨h, _⟩ | ⟨_, _, _, h, _, _, h2, _⟩; cases h; cases h; exact h2
          have HTK := Lib.hid (show S.take (S.length - 1) = S.take ks by rw [hks]; rfl)
          obtain ⟨nS, hnS⟩ : ∃ n, n = S.length := ⟨_, rfl⟩
          have HNS := Lib.hid hnS
          have O3' := Lib.hid O3.out
          rw [← hnS] at d3 hcap hksl hks ⊢
          subst hks
          clear hnS
          have hkss : ((ks + 1 : Nat) : Int) - 1 = (ks : Int) := by omega
          have hksi : (ks : Int) < ((ks + 1 : Nat) : Int) := by omega
          go_upto_region 42 with fail
          clear x0 x1 x2 x3 d0 d1 d2 d3 d4 d5 d6 d7 s0 s1 s2 s3 s4 s5 s6 s7 i0 i1 i2 i3
          have HX : Hid (XR = ⟨S[ks], R, M, S.take ks, inn, O, 0, st + 1⟩) := Lib.hid (by rw [HDO.out, show doX vw I ⟨(k : Int), R, M, S, inn, O, 0, st + 1⟩ ((k : Int) + 1) ⟨12, a, b', c⟩ = ⟨(k : Int), R, M, S.take (S.length - 1), inn, O, 0, st + 1⟩ from rfl, show doN ⟨(k : Int), R, M, S, inn, O, 0, st + 1⟩ ((k : Int) + 1) ⟨12, a, b', c⟩ = atI S ((S.length : Int) - 1) from rfl, HAs.out, HTK.out]; rfl)
          obtain ⟨w4, hw4⟩ : ∃ W9, W9 = (w3.setCell ⟨w.heap.size + 1, 0, none⟩ (.int .i64 S[ks])).setCell ⟨w.heap.size + 1, 3, none⟩ (.slice (some ⟨gs, 0, none⟩) ks sc) := ⟨_, rfl⟩
          have SA := Lib.hid (show w4.heap[w.heap.size + 1]? = some (.cells #[.int .i64 S[ks], .slice (some ⟨gr, 0, none⟩) 4 rc, .slice (some ⟨gm, 0, none⟩) M.length mc, .slice (some ⟨gs, 0, none⟩) ks sc, .int .i64 inn, .slice oq O.length oc, .int .i64 0, .int .i64 (st + 1)] 52 (0, 0)) by rw [hw4]; exact heap_setCell_same _ _ 3 _ _ _ (heap_setCell_same _ _ 0 _ _ _ SR3.out))
          have ZA := Lib.hid (show w4.heap[w.heap.size + 2]? = some (.cells #[.int .i64 0, .slice none 0 0, .slice none 0 0, .slice none 0 0, .int .i64 0, .slice none 0 0, .int .i64 0, .int .i64 0] 52 (0, 0)) by rw [hw4, heap_setCell_other _ _ _ _ (by simp), heap_setCell_other _ _ _ _ (by simp)]; exact ZR3.out)
          have OA : Hid (StO w4 base ⟨S[ks], R, M, S.take ks, inn, O, 0, st + 1⟩ _ _ (.slice (some ⟨gs, 0, none⟩) ks sc) _) := Lib.hid (by rw [hw4]; exact (((O3'.out.aside (O3'.out.off (T := 52) (by decide) SR3.out) 0 _).aside (O3'.out.off (T := 52) (by decide) SR3.out) 3 _).cut_s (by omega) rfl rfl rfl rfl))
          have BA := Lib.hid (show Apart _ w w4 by rw [hw4]; exact (BB3.out.above (p := ⟨w.heap.size + 1, 0, none⟩) (by simp) _).above (p := ⟨w.heap.size + 1, 3, none⟩) (by simp) _)
          rw [← hw4]
          clear hw4
          have SR := Lib.hid (SA.out)
          have ZR := Lib.hid (ZA.out)
          have BB := Lib.hid (BA.out)
          have OO := Lib.hid (OA.out)
          obtain ⟨d0, d1, d2, d3, d4, d5, d6, d7⟩ := cell8_row SR.out
          obtain ⟨g0, g1, g2, g3, g4, g5, g6, g7⟩ := cell8_row ZR.out
          obtain ⟨f0, f1, f2, f3, f4, f5, f6, f7⟩ := froz8_row ZR.out
          go_wp2
          obtain ⟨WE, hWE⟩ : ∃ W9, W9 = ((((((((w4.setCell ⟨w.heap.size + 2, 0, none⟩ (.int .i64 S[ks])).setCell ⟨w.heap.size + 2, 1, none⟩ (.slice (some ⟨gr, 0, none⟩) 4 rc)).setCell ⟨w.heap.size + 2, 2, none⟩ (.slice (some ⟨gm, 0, none⟩) M.length mc)).setCell ⟨w.heap.size + 2, 3, none⟩ (.slice (some ⟨gs, 0, none⟩) ks sc)).setCell ⟨w.heap.size + 2, 4, none⟩ (.int .i64 inn)).setCell ⟨w.heap.size + 2, 5, none⟩ (.slice oq O.length oc)).setCell ⟨w.heap.size + 2, 6, none⟩ (.int .i64 0)).setCell ⟨w.heap.size + 2, 7, none⟩ (.int .i64 (st + 1))) := ⟨_, rfl⟩
          have D2 := Lib.hid (show WE.heap[w.heap.size + 2]? = some (.cells #[.int .i64 S[ks], .slice (some ⟨gr, 0, none⟩) 4 rc, .slice (some ⟨gm, 0, none⟩) M.length mc, .slice (some ⟨gs, 0, none⟩) ks sc, .int .i64 inn, .slice oq O.length oc, .int .i64 0, .int .i64 (st + 1)] 52 (0, 0)) by rw [hWE]; exact set8_row ZR.out _ _ _ _ _ _ _ _)
          have BE := Lib.hid (show Apart _ w WE by rw [hWE]; exact set8_apart BB.out (by omega) _ _ _ _ _ _ _ _)
          have OE := Lib.hid (show StO WE base _ _ _ _ _ by rw [hWE]; exact OO.out.set8 (OO.out.off (T := 52) (by decide) ZR.out) _ _ _ _ _ _ _ _)
          rw [← hWE]
          clear hWE d0 d1 d2 d3 d4 d5 d6 d7 g0 g1 g2 g3 g4 g5 g6 g7
          obtain ⟨d0, d1, d2, d3, d4, d5, d6, d7⟩ := cell8_row D2.out
          refine bodyPost_ret (v := .agg #[.int .i64 S[ks], .slice (some ⟨gr, 0, none⟩) 4 rc, .slice (some ⟨gm, 0, none⟩) M.length mc, .slice (some ⟨gs, 0, none⟩) ks sc, .int .i64 inn, .slice oq O.length oc, .int .i64 0, .int .i64 (st + 1)]) (by simp [results, Tryz.results33, go_sem, d0, d1, d2, d3, d4, d5, d6, d7]) rfl ?_
          rw [HX.out]
          exact ⟨_, _, _, _, rfl, OE.out, BE.out, fun g hg => .inl hg⟩
        · -- 13
          obtain ⟨ka, hpka⟩ : ∃ j : Nat, a = j := ⟨a.toNat, by have := reg_of hA; omega⟩
          have hka : ka < 4 := by have := reg_of hA; omega
          have hkai : (ka : Int) < 4 := by omega
          have hwka := HG.out.reg (reg_of hA)
          subst hpka
          obtain ⟨cka, fka⟩ := HCR.out ka hka
          have HAka := Lib.hid (atI_nat R ka (by omega))
          obtain ⟨x0, x1, x2, x3⟩ := cell4_row XR3.out
          obtain ⟨d0, d1, d2, d3, d4, d5, d6, d7⟩ := cell8_row SR3.out
          obtain ⟨s0, s1, s2, s3, s4, s5, s6, s7⟩ := froz8_row SR3.out
          have hwhy : (if atI R ka = 0 then 8 else 0 : Int) = 0 := hV
          have hne : ¬ (atI R ka = 0) := fun h => by rw [if_pos h] at hwhy; cases hwhy
          clear hwhy
          go_upto_region 42 with fail
          clear x0 x1 x2 x3 d0 d1 d2 d3 d4 d5 d6 d7 s0 s1 s2 s3 s4 s5 s6 s7 i0 i1 i2 i3
          have HX : Hid (XR = ⟨(k : Int) + 1, R, M, S, inn, O, 0, st + 1⟩) := Lib.hid (by rw [HDO.out]; rfl)
          have SR := Lib.hid (SR3.out)
          have ZR := Lib.hid (ZR3.out)
          have BB := Lib.hid (BB3.out)
          have OO := Lib.hid (O3.out)
          obtain ⟨d0, d1, d2, d3, d4, d5, d6, d7⟩ := cell8_row SR.out
          obtain ⟨g0, g1, g2, g3, g4, g5, g6, g7⟩ := cell8_row ZR.out
          obtain ⟨f0, f1, f2, f3, f4, f5, f6, f7⟩ := froz8_row ZR.out
          go_wp2
          obtain ⟨WE, hWE⟩ : ∃ W9, W9 = ((((((((w3.setCell ⟨w.heap.size + 2, 0, none⟩ (.int .i64 ((k : Int) + 1))).setCell ⟨w.heap.size + 2, 1, none⟩ (.slice (some ⟨gr, 0, none⟩) 4 rc)).setCell ⟨w.heap.size + 2, 2, none⟩ (.slice (some ⟨gm, 0, none⟩) M.length mc)).setCell ⟨w.heap.size + 2, 3, none⟩ (.slice sq S.length sc)).setCell ⟨w.heap.size + 2, 4, none⟩ (.int .i64 inn)).setCell ⟨w.heap.size + 2, 5, none⟩ (.slice oq O.length oc)).setCell ⟨w.heap.size + 2, 6, none⟩ (.int .i64 0)).setCell ⟨w.heap.size + 2, 7, none⟩ (.int .i64 (st + 1))) := ⟨_, rfl⟩
          have D2 := Lib.hid (show WE.heap[w.heap.size + 2]? = some (.cells #[.int .i64 ((k : Int) + 1), .slice (some ⟨gr, 0, none⟩) 4 rc, .slice (some ⟨gm, 0, none⟩) M.length mc, .slice sq S.length sc, .int .i64 inn, .slice oq O.length oc, .int .i64 0, .int .i64 (st + 1)] 52 (0, 0)) by rw [hWE]; exact set8_row ZR.out _ _ _ _ _ _ _ _)
          have BE := Lib.hid (show Apart _ w WE by rw [hWE]; exact set8_apart BB.out (by omega) _ _ _ _ _ _ _ _)
          have OE := Lib.hid (show StO WE base _ _ _ _ _ by rw [hWE]; exact OO.out.set8 (OO.out.off (T := 52) (by decide) ZR.out) _ _ _ _ _ _ _ _)
          rw [← hWE]
          clear hWE d0 d1 d2 d3 d4 d5 d6 d7 g0 g1 g2 g3 g4 g5 g6 g7
          obtain ⟨d0, d1, d2, d3, d4, d5, d6, d7⟩ := cell8_row D2.out
          refine bodyPost_ret (v := .agg #[.int .i64 ((k : Int) + 1), .slice (some ⟨gr, 0, none⟩) 4 rc, .slice (some ⟨gm, 0, none⟩) M.length mc, .slice sq S.length sc, .int .i64 inn, .slice oq O.length oc, .int .i64 0, .int .i64 (st + 1)]) (by simp [results, Tryz.results33, go_sem, d0, d1, d2, d3, d4, d5, d6, d7]) rfl ?_
          rw [HX.out]
          exact ⟨_, _, _, _, rfl, OE.out, BE.out, fun g hg => .inl hg⟩
        · have hwhy : (1 : Int) = 0 := hV
          cases hwhy
end Go.Proofs.YthmababifgaejaaGreat
