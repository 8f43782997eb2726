/- What the specification's l05Step returns. No condition. What the specification's l05Step returns. No condition. What the specification's l05Step returns. No condition. -/
import Derived.Test.YthmababifgaejaaGreatCmGStO
import Derived.Test.YthmababifgaejaaGreatCmGUn1
import Derived.Test.YthmababifgaejaaGreatCmGReg
import Derived.Test.YthmababifgaejaaGreatCmProgram
import Derived.Deep.CutRange
namespace Go.Proofs.YthmababifgaejaaGreat
open Go.ChangeShapes Go.WideShapes Go.ChangeAt Go.RowKit
set_option maxRecDepth 100000 in
set_option maxHeartbeats 16000000 in
theorem s_stepA (vw vm vi : Int) (L : List InsR) (pc : Int) (R M S : List Int) (inn : Int) (O : List Int) (cd st : Int) (I : List Int) (sL r m s o li : Value) (base : Nat) (w : World) (hp : prB vw vm vi L = true) (hG : Gd vw vm vi L.length ⟨pc, R, M, S, inn, O, cd, st⟩) (hI : (I.length : Int) = vi ∧ ∀ y ∈ I, IsW vw y) (hs : Cs.Shows w 0 4 sL L.length (InsR.all L)) (hli : Cs.Shows w 0 1 li I.length (IntL.all I)) (ho : StO w base ⟨pc, R, M, S, inn, O, cd, st⟩ r m s o) (_hbase : base ≤ w.heap.size) (hcd : ¬ (cd ≠ 0 ∨ st = 400)) (hpl : ¬ pc = L.length) (hsel : 1 ≤ (L.getD pc.toNat ⟨0, 0, 0, 0⟩).f0 ∧ (L.getD pc.toNat ⟨0, 0, 0, 0⟩).f0 ≤ 5) :
    Calls Tryz.prog 33 #[.agg #[.int .i64 vw, .int .i64 vm, .int .i64 vi, sL], .agg #[.int .i64 pc, r, m, s, .int .i64 inn, o, .int .i64 cd, .int .i64 st], li] w (SqEnd r m s o base (stepV vw vm vi L I ⟨pc, R, M, S, inn, O, cd, st⟩) w) := by
  obtain ⟨XR, hXR⟩ : ∃ X, stepV vw vm vi L I ⟨pc, R, M, S, inn, O, cd, st⟩ = X := ⟨_, rfl⟩
  rw [hXR]
  have hml : maxLen = 9223372036854775807 := rfl
  obtain ⟨⟨hw2, hw8, hm1, hm6, _, hi0, hi3, hl1, hl40⟩, hins⟩ := pr_in hp
  have HINS := Lib.hid hins
  have hR : R.length = 4 := hG.hR
  have hM : (M.length : Int) = vm := hG.hM
  have hS3 : S.length ≤ 3 := hG.hS
  have hO6 : O.length ≤ 6 := hG.hO
  have hpc : 0 ≤ pc ∧ pc ≤ L.length := hG.pc
  have hinn : 0 ≤ inn ∧ inn ≤ vi := hG.inn
  have hst : 0 ≤ st ∧ st ≤ 400 := hG.st
  have HG := Lib.hid hG
  have HI := Lib.hid hI
  obtain ⟨gr, rc, rfl⟩ : ∃ g c, r = .slice (some ⟨g, 0, none⟩) 4 c := by have := own_some ho.1 (show 0 < R.length by omega); rw [show (StR.mk pc R M S inn O cd st).R.length = 4 from hR] at this; exact this
  obtain ⟨gm, mc, rfl⟩ := own_some ho.2.1 (show 0 < M.length by omega)
  obtain ⟨sq, sc, rfl⟩ := own_slice ho.2.2.1
  obtain ⟨oq, oc, rfl⟩ := own_slice ho.2.2.2.1
  have HS := Lib.hid hs
  have HLI := Lib.hid hli
  obtain ⟨_, q, cap, rfl, _⟩ := hs
  obtain ⟨_, iq, ic, rfl, _⟩ := hli
  have hgr : gr < w.heap.size := (ho.lt (g := gr) (by simp [StB, Value.ownBlock])).2
  have hgm : gm < w.heap.size := (ho.lt (g := gm) (by simp [StB, Value.ownBlock])).2
  have HR : Hid (∀ j, (h : j < L.length) → ∃ b o, q = some ⟨b, o, none⟩ ∧ b < w.heap.size ∧ ∀ W, Below w.heap.size w W → W.cell? ⟨b, o + j * 4, none⟩ = some (.int .i64 L[j].f0) ∧ W.cell? ⟨b, o + j * 4 + 1, none⟩ = some (.int .i64 L[j].f1) ∧ W.cell? ⟨b, o + j * 4 + 2, none⟩ = some (.int .i64 L[j].f2) ∧ W.cell? ⟨b, o + j * 4 + 3, none⟩ = some (.int .i64 L[j].f3)) := Lib.hid (fun j h => by
    rcases Cs.shows_cases HS.out with ⟨h0, _⟩ | ⟨_, b, o, c, hq, _, _, hbl, hr⟩
    · omega
    · injection hq with e1 e2 e3
      refine ⟨b, o, e1, hbl, fun W hW => ?_⟩
      have hh := flat_nth InsR.cells 4 (fun _ => rfl) L j h (rangeAt_below hW hr)
      exact ⟨hh 0 _ rfl, hh 1 _ rfl, hh 2 _ rfl, hh 3 _ rfl⟩)
  have HIN : Hid (∀ j, (h : j < I.length) → ∃ b o, iq = some ⟨b, o, none⟩ ∧ b < w.heap.size ∧ ∀ W, Below w.heap.size w W → W.cell? ⟨b, o + j, none⟩ = some (.int .i64 I[j])) := Lib.hid (fun j h => by
    rcases Cs.shows_cases HLI.out with ⟨h0, _⟩ | ⟨_, b, o, c, hq, _, _, hbl, hr⟩
    · omega
    · injection hq with e1 e2 e3
      refine ⟨b, o, e1, hbl, fun W hW => ?_⟩
      have hh := rangeAt_below hW hr j (.int .i64 I[j]) (by rw [IntL.all_map, List.getElem?_map, List.getElem?_eq_getElem h]; rfl)
      exact hh)
  obtain ⟨w0, hw0⟩ : ∃ w0, w0 = ((w.alloc (.cells #[.int .i64 vw, .int .i64 vm, .int .i64 vi, .slice q L.length cap] 32)).alloc (.cells #[.int .i64 pc, .slice (some ⟨gr, 0, none⟩) 4 rc, .slice (some ⟨gm, 0, none⟩) M.length mc, .slice sq S.length sc, .int .i64 inn, .slice oq O.length oc, .int .i64 cd, .int .i64 st] 52)).alloc (.cells #[.int .i64 0, .slice none 0 0, .slice none 0 0, .slice none 0 0, .int .i64 0, .slice none 0 0, .int .i64 0, .int .i64 0] 52) := ⟨_, rfl⟩
  have HB0 : Hid (Below w.heap.size w w0) := Lib.hid (by rw [hw0]; exact (((Below.refl _ _).alloc (Nat.le_refl _) _).alloc (by simp) _).alloc (by simp; omega) _)
  have hs0 : w0.heap.size = w.heap.size + 3 := by rw [hw0]; simp
  have X0 : Hid (Cell4 w0 w.heap.size (.int .i64 vw) (.int .i64 vm) (.int .i64 vi) (.slice q L.length cap)) := Lib.hid (by rw [hw0]; exact (cell4_alloc w 32 _ _ _ _).below (((Below.refl _ _).alloc (Nat.le_refl _) _).alloc (by simp) _))
  have XR0 : Hid (w0.heap[w.heap.size]? = some (.cells #[.int .i64 vw, .int .i64 vm, .int .i64 vi, .slice q L.length cap] 32 (0, 0))) := Lib.hid (by
    rw [hw0, heap_alloc_old _ _ (by simp; omega), heap_alloc_old _ _ (by simp)]
    exact heap_alloc_new _ _)
  have S0 : Hid (w0.heap[w.heap.size + 1]? = some (.cells #[.int .i64 pc, .slice (some ⟨gr, 0, none⟩) 4 rc, .slice (some ⟨gm, 0, none⟩) M.length mc, .slice sq S.length sc, .int .i64 inn, .slice oq O.length oc, .int .i64 cd, .int .i64 st] 52 (0, 0))) := Lib.hid (by
    rw [hw0, heap_alloc_old _ _ (by simp), ← show (w.alloc (.cells #[.int .i64 vw, .int .i64 vm, .int .i64 vi, .slice q L.length cap] 32)).heap.size = w.heap.size + 1 by simp]
    exact heap_alloc_new _ _)
  have Z0 : Hid (w0.heap[w.heap.size + 2]? = some (.cells #[.int .i64 0, .slice none 0 0, .slice none 0 0, .slice none 0 0, .int .i64 0, .slice none 0 0, .int .i64 0, .int .i64 0] 52 (0, 0))) := Lib.hid (by
    rw [hw0, ← show ((w.alloc (.cells #[.int .i64 vw, .int .i64 vm, .int .i64 vi, .slice q L.length cap] 32)).alloc (.cells #[.int .i64 pc, .slice (some ⟨gr, 0, none⟩) 4 rc, .slice (some ⟨gm, 0, none⟩) M.length mc, .slice sq S.length sc, .int .i64 inn, .slice oq O.length oc, .int .i64 cd, .int .i64 st] 52)).heap.size = w.heap.size + 2 by simp]
    exact heap_alloc_new _ _)
  have O0 := Lib.hid (ho.keep HB0.out)
  have HMV := Lib.hid hM
  clear ho hG hins hp hM hI
  · have hcd0 : cd = 0 := by by_cases h : cd = 0; exact h; exact absurd (.inl h) hcd
    have hst4 : ¬ st = 400 := fun h => hcd (.inr h)
    have hq : (cd != 0) = false := by simpa using hcd0
    have hq2 : (st == 400) = false := by simpa using hst4
    · obtain ⟨k, hk, hpk, hLk⟩ := getD_ins (L := L) hpc.1 (by omega)
      obtain ⟨b, o', hqe, hbl, hcells⟩ := HR.out k hk
      subst hqe
      have hik := HINS.out k hk
      obtain ⟨op, a, b', c, hLe⟩ : ∃ op a b c, L[k] = (⟨op, a, b, c⟩ : InsR) := ⟨_, _, _, _, rfl⟩
      rw [hLe] at hcells hik hLk
      simp only at hcells
      rw [hLk] at hsel
      simp only at hsel
      obtain ⟨c0, c1, c2, c3⟩ := hcells w0 HB0.out
      have hq3 : (pc == (L.length : Int)) = false := by simpa using hpl
      have hkl : (k : Int) < (L.length : Int) := by omega
      have KW := Lib.hid (fun W h1 h2 => s_why vw vm vi L.length (some ⟨b, o', none⟩) L.length cap ⟨pc, R, M, S, inn, O, 0, st + 1⟩ gr rc (some ⟨gm, 0, none⟩) M.length mc sq oq sc oc op a b' c W hR h1 h2 hik)
      obtain ⟨V, hV⟩ : ∃ V, whyV vm vi ⟨pc, R, M, S, inn, O, 0, st + 1⟩ ⟨op, a, b', c⟩ = V := ⟨_, rfl⟩
      rw [hV] at KW
      have hstep : stepV vw vm vi L I ⟨pc, R, M, S, inn, O, cd, st⟩ = if V ≠ 0 then ⟨pc, R, M, S, inn, O, V, st + 1⟩ else (doX vw I ⟨pc, R, M, S, inn, O, 0, st + 1⟩ (pc + 1) ⟨op, a, b', c⟩).goto (doN ⟨pc, R, M, S, inn, O, 0, st + 1⟩ (pc + 1) ⟨op, a, b', c⟩) := by
        have hwv : whyV vm vi ⟨pc, R, M, S, inn, O, cd, st⟩ ⟨op, a, b', c⟩ = V := hV
        unfold stepV
        rw [if_neg hcd, if_neg hpl]
        show (if whyV vm vi ⟨pc, R, M, S, inn, O, cd, st⟩ (L.getD pc.toNat ⟨0, 0, 0, 0⟩) ≠ 0 then _ else _) = _
        rw [hLk, hwv, hcd0]
        rfl
      have HV := Lib.hid (hXR.symm.trans hstep)
      clear hstep hXR hcd hpl hLe hLk
      subst hcd0 hpk
      obtain ⟨x0, x1, x2, x3⟩ := X0.out
      obtain ⟨d0, d1, d2, d3, d4, d5, d6, d7⟩ := cell8_row S0.out
      rw [hw0] at x0 x1 x2 x3 d0 d1 d2 d3 d4 d5 d6 d7
      go_enter Tryz.func33, Tryz.ntmps33
      go_upto_region 6 with fail
      rw [← hw0]
      clear hw0 x0 x1 x2 x3 d0 d1 d2 d3 d4 d5 d6 d7
      have hst1 : st + 1 ≤ 401 := by omega
      obtain ⟨x0, x1, x2, x3⟩ := X0.out
      obtain ⟨d0, d1, d2, d3, d4, d5, d6, d7⟩ := cell8_row S0.out
      obtain ⟨f0, f1, f2, f3, f4, f5, f6, f7⟩ := froz8_row S0.out
      have hzb : b < w0.heap.size := by omega
      have hz0 : w.heap.size < w0.heap.size := by omega
      have hz1 : w.heap.size + 1 < w0.heap.size := by omega
      have hz2 : w.heap.size + 1 < w0.heap.size + 1 := by omega
      go_upto_region 8 with fail
      clear x0 x1 x2 x3 d0 d1 d2 d3 d4 d5 d6 d7 f0 f1 f2 f3 f4 f5 f6 f7 c0 c1 c2 c3
      obtain ⟨w1, hw1⟩ : ∃ V, V = (w0.setCell ⟨w.heap.size + 1, 7, none⟩ (.int .i64 (st + 1))).alloc (.cells #[.int .i64 op, .int .i64 a, .int .i64 b', .int .i64 c] 55) := ⟨_, rfl⟩
      have hs1 : w1.heap.size = w.heap.size + 4 := by rw [hw1]; simp; omega
      have BS := Lib.hid (show Below w.heap.size w w1 by rw [hw1]; exact (HB0.out.setCell (by simp) _).alloc (by simp; omega) _)
      have XR1 := Lib.hid (show w1.heap[w.heap.size]? = some (.cells #[.int .i64 vw, .int .i64 vm, .int .i64 vi, .slice (some ⟨b, o', none⟩) L.length cap] 32 (0, 0)) by rw [hw1, heap_alloc_old _ _ (by simp; omega), heap_setCell_other _ _ _ _ (by simp)]; exact XR0.out)
      have SR1 := Lib.hid (show w1.heap[w.heap.size + 1]? = some (.cells #[.int .i64 (k : Int), .slice (some ⟨gr, 0, none⟩) 4 rc, .slice (some ⟨gm, 0, none⟩) M.length mc, .slice sq S.length sc, .int .i64 inn, .slice oq O.length oc, .int .i64 0, .int .i64 (st + 1)] 52 (0, 0)) by rw [hw1, heap_alloc_old _ _ (by simp; omega)]; exact heap_setCell_same w0 _ 7 _ _ _ S0.out)
      have ZR1 := Lib.hid (show w1.heap[w.heap.size + 2]? = some (.cells #[.int .i64 0, .slice none 0 0, .slice none 0 0, .slice none 0 0, .int .i64 0, .slice none 0 0, .int .i64 0, .int .i64 0] 52 (0, 0)) by rw [hw1, heap_alloc_old _ _ (by simp; omega), heap_setCell_other _ _ _ _ (by simp)]; exact Z0.out)
      have IR1 := Lib.hid (show w1.heap[w.heap.size + 3]? = some (.cells #[.int .i64 op, .int .i64 a, .int .i64 b', .int .i64 c] 55 (0, 0)) by rw [hw1, ← hs0, ← show (w0.setCell ⟨w.heap.size + 1, 7, none⟩ (.int .i64 (st + 1))).heap.size = w0.heap.size by simp]; exact heap_alloc_new _ _)
      have O1 : Hid (StO w1 base ⟨(k : Int), R, M, S, inn, O, 0, st + 1⟩ _ _ _ _) := Lib.hid (by rw [hw1]; exact ((O0.out.aside (O0.out.off (T := 52) (by decide) S0.out) 7 _).like rfl rfl rfl rfl).keep ((Below.refl _ _).alloc (Nat.le_refl _) _))
      rw [← hw1]
      clear hw1
      obtain ⟨x0, x1, x2, x3⟩ := cell4_row XR1.out
      obtain ⟨i0, i1, i2, i3⟩ := cell4_row IR1.out
      obtain ⟨d0, d1, d2, d3, d4, d5, d6, d7⟩ := cell8_row SR1.out
      go_wp2_with fail
      clear x0 x1 x2 x3 i0 i1 i2 i3 d0 d1 d2 d3 d4 d5 d6 d7
      refine (KW.out _ (by omega) (fun j hj => (own_cell (n := 4) (by have h := O1.out.1; rw [show (StR.mk (k : Int) R M S inn O 0 (st + 1)).R.length = 4 from hR] at h; exact h) hR j hj).1)).mono ?_
      rintro e w2 ⟨rfl, hb⟩
      have hs2 := hb.size
      have B2 := Lib.hid (BS.out.trans (hb.mono BS.out.size))
      have XR2 := Lib.hid ((hb.block w.heap.size (by omega)).trans XR1.out)
      have SR2 := Lib.hid ((hb.block (w.heap.size + 1) (by omega)).trans SR1.out)
      have ZR2 := Lib.hid ((hb.block (w.heap.size + 2) (by omega)).trans ZR1.out)
      have IR2 := Lib.hid ((hb.block (w.heap.size + 3) (by omega)).trans IR1.out)
      have O2 := Lib.hid (O1.out.keep hb)
      clear hb
      obtain ⟨d0, d1, d2, d3, d4, d5, d6, d7⟩ := cell8_row SR2.out
      obtain ⟨f0, f1, f2, f3, f4, f5, f6, f7⟩ := froz8_row SR2.out
      by_cases hV0 : V = 0
      case neg =>
        have HX : Hid (XR = ⟨(k : Int), R, M, S, inn, O, V, st + 1⟩) := Lib.hid (by rw [HV.out, if_pos hV0])
        have hqv : (V != 0) = true := by simpa using hV0
        clear hV0 hV
        go_upto_region 10 with fail
        clear d0 d1 d2 d3 d4 d5 d6 d7 f0 f1 f2 f3 f4 f5 f6 f7
        obtain ⟨w3, hw3⟩ : ∃ V', V' = w2.setCell ⟨w.heap.size + 1, 6, none⟩ (.int .i64 V) := ⟨_, rfl⟩
        have SA := Lib.hid (show w3.heap[w.heap.size + 1]? = some (.cells #[.int .i64 (k : Int), .slice (some ⟨gr, 0, none⟩) 4 rc, .slice (some ⟨gm, 0, none⟩) M.length mc, .slice sq S.length sc, .int .i64 inn, .slice oq O.length oc, .int .i64 V, .int .i64 (st + 1)] 52 (0, 0)) by rw [hw3]; exact heap_setCell_same w2 _ 6 _ _ _ SR2.out)
        have ZA := Lib.hid (show w3.heap[w.heap.size + 2]? = some (.cells #[.int .i64 0, .slice none 0 0, .slice none 0 0, .slice none 0 0, .int .i64 0, .slice none 0 0, .int .i64 0, .int .i64 0] 52 (0, 0)) by rw [hw3, heap_setCell_other _ _ _ _ (by simp)]; exact ZR2.out)
        have BA := Lib.hid (show Apart (StB (.slice (some ⟨gr, 0, none⟩) 4 rc) (.slice (some ⟨gm, 0, none⟩) M.length mc) (.slice sq S.length sc) (.slice oq O.length oc)) w w3 by rw [hw3]; exact (Apart.of_below B2.out).above (p := ⟨w.heap.size + 1, 6, none⟩) (by simp) _)
        have OA : Hid (StO w3 base ⟨(k : Int), R, M, S, inn, O, V, st + 1⟩ _ _ _ _) := Lib.hid (by rw [hw3]; exact (O2.out.aside (O2.out.off (T := 52) (by decide) SR2.out) 6 _).like rfl rfl rfl rfl)
        rw [← hw3]
        clear hw3
        have SR := Lib.hid (SA.out)
        have ZR := Lib.hid (ZA.out)
        have BB := Lib.hid (BA.out)
        have OO := Lib.hid (OA.out)
        obtain ⟨d0, d1, d2, d3, d4, d5, d6, d7⟩ := cell8_row SR.out
        obtain ⟨g0, g1, g2, g3, g4, g5, g6, g7⟩ := cell8_row ZR.out
        obtain ⟨f0, f1, f2, f3, f4, f5, f6, f7⟩ := froz8_row ZR.out
        go_wp2
        obtain ⟨WE, hWE⟩ : ∃ W9, W9 = ((((((((w3.setCell ⟨w.heap.size + 2, 0, none⟩ (.int .i64 (k : Int))).setCell ⟨w.heap.size + 2, 1, none⟩ (.slice (some ⟨gr, 0, none⟩) 4 rc)).setCell ⟨w.heap.size + 2, 2, none⟩ (.slice (some ⟨gm, 0, none⟩) M.length mc)).setCell ⟨w.heap.size + 2, 3, none⟩ (.slice sq S.length sc)).setCell ⟨w.heap.size + 2, 4, none⟩ (.int .i64 inn)).setCell ⟨w.heap.size + 2, 5, none⟩ (.slice oq O.length oc)).setCell ⟨w.heap.size + 2, 6, none⟩ (.int .i64 V)).setCell ⟨w.heap.size + 2, 7, none⟩ (.int .i64 (st + 1))) := ⟨_, rfl⟩
        have D2 := Lib.hid (show WE.heap[w.heap.size + 2]? = some (.cells #[.int .i64 (k : Int), .slice (some ⟨gr, 0, none⟩) 4 rc, .slice (some ⟨gm, 0, none⟩) M.length mc, .slice sq S.length sc, .int .i64 inn, .slice oq O.length oc, .int .i64 V, .int .i64 (st + 1)] 52 (0, 0)) by rw [hWE]; exact set8_row ZR.out _ _ _ _ _ _ _ _)
        have BE := Lib.hid (show Apart _ w WE by rw [hWE]; exact set8_apart BB.out (by omega) _ _ _ _ _ _ _ _)
        have OE := Lib.hid (show StO WE base _ _ _ _ _ by rw [hWE]; exact OO.out.set8 (OO.out.off (T := 52) (by decide) ZR.out) _ _ _ _ _ _ _ _)
        rw [← hWE]
        clear hWE d0 d1 d2 d3 d4 d5 d6 d7 g0 g1 g2 g3 g4 g5 g6 g7
        obtain ⟨d0, d1, d2, d3, d4, d5, d6, d7⟩ := cell8_row D2.out
        refine bodyPost_ret (v := .agg #[.int .i64 (k : Int), .slice (some ⟨gr, 0, none⟩) 4 rc, .slice (some ⟨gm, 0, none⟩) M.length mc, .slice sq S.length sc, .int .i64 inn, .slice oq O.length oc, .int .i64 V, .int .i64 (st + 1)]) (by simp [results, Tryz.results33, go_sem, d0, d1, d2, d3, d4, d5, d6, d7]) rfl ?_
        rw [HX.out]
        exact ⟨_, _, _, _, rfl, OE.out, BE.out, fun g hg => .inl hg⟩
      case pos =>
        subst hV0
        have HDO := Lib.hid (show XR = (doX vw I ⟨(k : Int), R, M, S, inn, O, 0, st + 1⟩ ((k : Int) + 1) ⟨op, a, b', c⟩).goto (doN ⟨(k : Int), R, M, S, inn, O, 0, st + 1⟩ ((k : Int) + 1) ⟨op, a, b', c⟩) by rw [HV.out, if_neg (by simp)])
        have hqv : ((0 : Int) != 0) = false := rfl
        have hk41 : (k : Int) + 1 ≤ 41 := by omega
        go_upto_region 12 with fail
        clear d0 d1 d2 d3 d4 d5 d6 d7 f0 f1 f2 f3 f4 f5 f6 f7 hqv HV
        obtain ⟨w3, hw3⟩ : ∃ V', V' = (w2.setCell ⟨w.heap.size + 1, 6, none⟩ (.int .i64 0)).setCell ⟨w.heap.size + 1, 0, none⟩ (.int .i64 ((k : Int) + 1)) := ⟨_, rfl⟩
        have hs3 : w.heap.size + 4 ≤ w3.heap.size := by rw [hw3]; simp; omega
        have SR3 := Lib.hid (show w3.heap[w.heap.size + 1]? = some (.cells #[.int .i64 ((k : Int) + 1), .slice (some ⟨gr, 0, none⟩) 4 rc, .slice (some ⟨gm, 0, none⟩) M.length mc, .slice sq S.length sc, .int .i64 inn, .slice oq O.length oc, .int .i64 0, .int .i64 (st + 1)] 52 (0, 0)) by rw [hw3]; exact heap_setCell_same _ _ 0 _ _ _ (heap_setCell_same w2 _ 6 _ _ _ SR2.out))
        have ZR3 := Lib.hid (show w3.heap[w.heap.size + 2]? = some (.cells #[.int .i64 0, .slice none 0 0, .slice none 0 0, .slice none 0 0, .int .i64 0, .slice none 0 0, .int .i64 0, .int .i64 0] 52 (0, 0)) by rw [hw3, heap_setCell_other _ _ _ _ (by simp), heap_setCell_other _ _ _ _ (by simp)]; exact ZR2.out)
        have XR3 := Lib.hid (show w3.heap[w.heap.size]? = some (.cells #[.int .i64 vw, .int .i64 vm, .int .i64 vi, .slice (some ⟨b, o', none⟩) L.length cap] 32 (0, 0)) by rw [hw3, heap_setCell_other _ _ _ _ (by simp), heap_setCell_other _ _ _ _ (by simp)]; exact XR2.out)
        have IR3 := Lib.hid (show w3.heap[w.heap.size + 3]? = some (.cells #[.int .i64 op, .int .i64 a, .int .i64 b', .int .i64 c] 55 (0, 0)) by rw [hw3, heap_setCell_other _ _ _ _ (by simp), heap_setCell_other _ _ _ _ (by simp)]; exact IR2.out)
        have BC3 := Lib.hid (show Below w.heap.size w w3 by rw [hw3]; exact (B2.out.setCell (by simp) _).setCell (by simp) _)
        have BB3 := Lib.hid (show Apart (StB (.slice (some ⟨gr, 0, none⟩) 4 rc) (.slice (some ⟨gm, 0, none⟩) M.length mc) (.slice sq S.length sc) (.slice oq O.length oc)) w w3 from Apart.of_below BC3.out)
        have O3 : Hid (StO w3 base ⟨(k : Int) + 1, R, M, S, inn, O, 0, st + 1⟩ _ _ _ _) := Lib.hid (by rw [hw3]; exact ((O2.out.aside (O2.out.off (T := 52) (by decide) SR2.out) 6 _).aside (O2.out.off (T := 52) (by decide) SR2.out) 0 _).like rfl rfl rfl rfl)
        rw [← hw3]
        clear hw3 SR2 ZR2 XR2 IR2 O2 SR1 ZR1 XR1 IR1 O1 S0 Z0 O0 XR0
        have OR3 : Hid (w3.ownsRow base 3 1 (.slice (some ⟨gr, 0, none⟩) 4 rc) 4 (IntL.all R)) := Lib.hid (by have h := O3.out.1; rw [show (StR.mk ((k : Int) + 1) R M S inn O 0 (st + 1)).R.length = 4 from hR] at h; exact h)
        have HCR := Lib.hid (fun j (hj : j < 4) => own_cell OR3.out hR j (by omega))
        have hgr3 : gr < w3.heap.size := by omega
        have hgm3 : gm < w3.heap.size := by omega
        obtain ⟨hop, hA, hB, hC⟩ := ins_parts hik
        simp only at hop hA hB hC
        obtain ⟨i0, i1, i2, i3⟩ := cell4_row IR3.out
        rcases op_cases op with rfl | rfl | rfl | rfl | rfl | rfl | rfl | rfl | rfl | rfl | rfl | rfl | rfl | rfl | hbad
        case inr.inr.inr.inr.inr.inr.inr.inr.inr.inr.inr.inr.inr.inr => omega
        · -- 1
          obtain ⟨ka, hpka⟩ : ∃ j : Nat, a = j := ⟨a.toNat, by have := reg_of hA; omega⟩
          have hka : ka < 4 := by have := reg_of hA; omega
          have hkai : (ka : Int) < 4 := by omega
          have hwka := HG.out.reg (reg_of hA)
          subst hpka
          obtain ⟨cka, fka⟩ := HCR.out ka hka
          have HAka := Lib.hid (atI_nat R ka (by omega))
          obtain ⟨x0, x1, x2, x3⟩ := cell4_row XR3.out
          obtain ⟨d0, d1, d2, d3, d4, d5, d6, d7⟩ := cell8_row SR3.out
          obtain ⟨s0, s1, s2, s3, s4, s5, s6, s7⟩ := froz8_row SR3.out
          go_upto_region 42 with fail
          clear x0 x1 x2 x3 d0 d1 d2 d3 d4 d5 d6 d7 s0 s1 s2 s3 s4 s5 s6 s7 i0 i1 i2 i3
          have HX : Hid (XR = ⟨(k : Int) + 1, R.set ka b', M, S, inn, O, 0, st + 1⟩) := Lib.hid (by rw [HDO.out]; rfl)
          obtain ⟨w4, hw4⟩ : ∃ V', V' = (w3.setCell ⟨gr, ka, none⟩ (.int .i64 b')) := ⟨_, rfl⟩
          have SA := Lib.hid (show w4.heap[w.heap.size + 1]? = some (.cells #[.int .i64 ((k : Int) + 1), .slice (some ⟨gr, 0, none⟩) 4 rc, .slice (some ⟨gm, 0, none⟩) M.length mc, .slice sq S.length sc, .int .i64 inn, .slice oq O.length oc, .int .i64 0, .int .i64 (st + 1)] 52 (0, 0)) by rw [hw4]; exact (heap_setCell_other w3 ⟨gr, ka, none⟩ _ _ (fun h => by have h : _ = gr := h; omega)).trans SR3.out)
          have ZA := Lib.hid (show w4.heap[w.heap.size + 2]? = some (.cells #[.int .i64 0, .slice none 0 0, .slice none 0 0, .slice none 0 0, .int .i64 0, .slice none 0 0, .int .i64 0, .int .i64 0] 52 (0, 0)) by rw [hw4]; exact (heap_setCell_other w3 ⟨gr, ka, none⟩ _ _ (fun h => by have h : _ = gr := h; omega)).trans ZR3.out)
          have BA := Lib.hid (show Apart (StB (.slice (some ⟨gr, 0, none⟩) 4 rc) (.slice (some ⟨gm, 0, none⟩) M.length mc) (.slice sq S.length sc) (.slice oq O.length oc)) w w4 by rw [hw4]; exact (BB3.out.setCell (p := ⟨gr, ka, none⟩) (show gr ∈ StB (.slice (some ⟨gr, 0, none⟩) 4 rc) (.slice (some ⟨gm, 0, none⟩) M.length mc) (.slice sq S.length sc) (.slice oq O.length oc) by unfold StB; simp [Value.ownBlock]) _))
          have OA : Hid (StO w4 base ⟨(k : Int) + 1, R.set ka b', M, S, inn, O, 0, st + 1⟩ _ _ _ _) := Lib.hid (by rw [hw4]; exact O3.out.poke_r ka b' rfl rfl rfl rfl)
          rw [← hw4]
          clear hw4
          have SR := Lib.hid (SA.out)
          have ZR := Lib.hid (ZA.out)
          have BB := Lib.hid (BA.out)
          have OO := Lib.hid (OA.out)
          obtain ⟨d0, d1, d2, d3, d4, d5, d6, d7⟩ := cell8_row SR.out
          obtain ⟨g0, g1, g2, g3, g4, g5, g6, g7⟩ := cell8_row ZR.out
          obtain ⟨f0, f1, f2, f3, f4, f5, f6, f7⟩ := froz8_row ZR.out
          go_wp2
          obtain ⟨WE, hWE⟩ : ∃ W9, W9 = ((((((((w4.setCell ⟨w.heap.size + 2, 0, none⟩ (.int .i64 ((k : Int) + 1))).setCell ⟨w.heap.size + 2, 1, none⟩ (.slice (some ⟨gr, 0, none⟩) 4 rc)).setCell ⟨w.heap.size + 2, 2, none⟩ (.slice (some ⟨gm, 0, none⟩) M.length mc)).setCell ⟨w.heap.size + 2, 3, none⟩ (.slice sq S.length sc)).setCell ⟨w.heap.size + 2, 4, none⟩ (.int .i64 inn)).setCell ⟨w.heap.size + 2, 5, none⟩ (.slice oq O.length oc)).setCell ⟨w.heap.size + 2, 6, none⟩ (.int .i64 0)).setCell ⟨w.heap.size + 2, 7, none⟩ (.int .i64 (st + 1))) := ⟨_, rfl⟩
          have D2 := Lib.hid (show WE.heap[w.heap.size + 2]? = some (.cells #[.int .i64 ((k : Int) + 1), .slice (some ⟨gr, 0, none⟩) 4 rc, .slice (some ⟨gm, 0, none⟩) M.length mc, .slice sq S.length sc, .int .i64 inn, .slice oq O.length oc, .int .i64 0, .int .i64 (st + 1)] 52 (0, 0)) by rw [hWE]; exact set8_row ZR.out _ _ _ _ _ _ _ _)
          have BE := Lib.hid (show Apart _ w WE by rw [hWE]; exact set8_apart BB.out (by omega) _ _ _ _ _ _ _ _)
          have OE := Lib.hid (show StO WE base _ _ _ _ _ by rw [hWE]; exact OO.out.set8 (OO.out.off (T := 52) (by decide) ZR.out) _ _ _ _ _ _ _ _)
          rw [← hWE]
          clear hWE d0 d1 d2 d3 d4 d5 d6 d7 g0 g1 g2 g3 g4 g5 g6 g7
          obtain ⟨d0, d1, d2, d3, d4, d5, d6, d7⟩ := cell8_row D2.out
          refine bodyPost_ret (v := .agg #[.int .i64 ((k : Int) + 1), .slice (some ⟨gr, 0, none⟩) 4 rc, .slice (some ⟨gm, 0, none⟩) M.length mc, .slice sq S.length sc, .int .i64 inn, .slice oq O.length oc, .int .i64 0, .int .i64 (st + 1)]) (by simp [results, Tryz.results33, go_sem, d0, d1, d2, d3, d4, d5, d6, d7]) rfl ?_
          rw [HX.out]
          exact ⟨_, _, _, _, rfl, OE.out, BE.out, fun g hg => .inl hg⟩
        · -- 2
          obtain ⟨ka, hpka⟩ : ∃ j : Nat, a = j := ⟨a.toNat, by have := reg_of hA; omega⟩
          have hka : ka < 4 := by have := reg_of hA; omega
          have hkai : (ka : Int) < 4 := by omega
          have hwka := HG.out.reg (reg_of hA)
          subst hpka
          obtain ⟨cka, fka⟩ := HCR.out ka hka
          have HAka := Lib.hid (atI_nat R ka (by omega))
          obtain ⟨kb, hpkb⟩ : ∃ j : Nat, b' = j := ⟨b'.toNat, by have := reg_of hB; omega⟩
          have hkb : kb < 4 := by have := reg_of hB; omega
          have hkbi : (kb : Int) < 4 := by omega
          have hwkb := HG.out.reg (reg_of hB)
          subst hpkb
          obtain ⟨ckb, fkb⟩ := HCR.out kb hkb
          have HAkb := Lib.hid (atI_nat R kb (by omega))
          obtain ⟨x0, x1, x2, x3⟩ := cell4_row XR3.out
          obtain ⟨d0, d1, d2, d3, d4, d5, d6, d7⟩ := cell8_row SR3.out
          obtain ⟨s0, s1, s2, s3, s4, s5, s6, s7⟩ := froz8_row SR3.out
          go_upto_region 16 with fail
          skip -- x0 x1 x2 x3 d0 d1 d2 d3 d4 d5 d6 d7 s0 s1 s2 s3 s4 s5 s6 s7 i0 i1 i2 i3
          have CH : Hid (w3.cell? ⟨w.heap.size + 1, 1, none⟩ = some (.slice (some ⟨gr, 0, none⟩) 4 rc) ∧ w3.cell? ⟨w.heap.size + 3, 1, none⟩ = some (.int .i64 ka) ∧ w3.cell? ⟨w.heap.size + 3, 2, none⟩ = some (.int .i64 kb) ∧ w3.cell? ⟨gr, kb, none⟩ = some (.int .i64 R[kb])) := Lib.hid ⟨by assumption, by assumption, by assumption, by assumption⟩
          refine region_s [11] (fun V => V.cell? ⟨w.heap.size + 1, 1, none⟩ = some (.slice (some ⟨gr, 0, none⟩) 4 rc) ∧ V.cell? ⟨w.heap.size + 3, 1, none⟩ = some (.int .i64 ka) ∧ V.cell? ⟨w.heap.size + 3, 2, none⟩ = some (.int .i64 kb) ∧ V.cell? ⟨gr, kb, none⟩ = some (.int .i64 R[kb])) (by kernel_rfl) ?_
          refine take_s (i := 0) (v := .pointer (some ⟨w.heap.size + 1, 1, none⟩)) rfl (by kernel_rfl) (fun _ _ _ h => h) CH.out rfl (fun V hV => ?_) ?_
          · go_simp
          refine take_s (i := 1) (v := .slice (some ⟨gr, 0, none⟩) 4 rc) rfl (by kernel_rfl) (fun _ _ _ h => h) CH.out rfl (fun V hV => ?_) ?_
          · obtain ⟨t0, t1, t2, t3⟩ := hV; go_simp
          refine take_s (i := 2) (v := .pointer (some ⟨w.heap.size + 3, 1, none⟩)) rfl (by kernel_rfl) (fun _ _ _ h => h) CH.out rfl (fun V hV => ?_) ?_
          · go_simp
          refine take_s (i := 3) (v := .int .i64 ka) rfl (by kernel_rfl) (fun _ _ _ h => h) CH.out rfl (fun V hV => ?_) ?_
          · obtain ⟨t0, t1, t2, t3⟩ := hV; go_simp
          refine take_s (i := 4) (v := .pointer (some ⟨w.heap.size + 1, 1, none⟩)) rfl (by kernel_rfl) (fun _ _ _ h => h) CH.out rfl (fun V hV => ?_) ?_
          · go_simp
          refine take_s (i := 5) (v := .slice (some ⟨gr, 0, none⟩) 4 rc) rfl (by kernel_rfl) (fun _ _ _ h => h) CH.out rfl (fun V hV => ?_) ?_
          · obtain ⟨t0, t1, t2, t3⟩ := hV; go_simp
          refine take_s (i := 6) (v := .pointer (some ⟨w.heap.size + 3, 2, none⟩)) rfl (by kernel_rfl) (fun _ _ _ h => h) CH.out rfl (fun V hV => ?_) ?_
          · go_simp
          refine take_s (i := 7) (v := .int .i64 kb) rfl (by kernel_rfl) (fun _ _ _ h => h) CH.out rfl (fun V hV => ?_) ?_
          · obtain ⟨t0, t1, t2, t3⟩ := hV; go_simp
          refine take_s (i := 8) (v := .pointer (some ⟨gr, kb, none⟩)) rfl (by kernel_rfl) (fun _ _ _ h => h) CH.out rfl (fun V hV => ?_) ?_
          · go_simp
          refine take_s (i := 9) (v := .int .i64 R[kb]) rfl (by kernel_rfl) (fun _ _ _ h => h) CH.out rfl (fun V hV => ?_) ?_
          · obtain ⟨t0, t1, t2, t3⟩ := hV; go_simp
          refine take_s (i := 10) (v := .pointer (some ⟨gr, ka, none⟩)) rfl (by kernel_rfl) (fun _ _ _ h => h) CH.out rfl (fun V hV => ?_) ?_
          · go_simp
          refine one_s (i := 11) (by kernel_rfl) (op_list rfl ?_)
          go_wp2
          refine ⟨late_s (by kernel_rfl), done_s (by kernel_rfl) ?_ _⟩
          go_upto_region 42 with fail
          clear x0 x1 x2 x3 d0 d1 d2 d3 d4 d5 d6 d7 s0 s1 s2 s3 s4 s5 s6 s7 i0 i1 i2 i3
          have HX : Hid (XR = ⟨(k : Int) + 1, R.set ka R[kb], M, S, inn, O, 0, st + 1⟩) := Lib.hid (by rw [HDO.out, ← HAkb.out]; rfl)
          obtain ⟨w4, hw4⟩ : ∃ V', V' = (w3.setCell ⟨gr, ka, none⟩ (.int .i64 R[kb])).drew := ⟨_, rfl⟩
          have SA := Lib.hid (show w4.heap[w.heap.size + 1]? = some (.cells #[.int .i64 ((k : Int) + 1), .slice (some ⟨gr, 0, none⟩) 4 rc, .slice (some ⟨gm, 0, none⟩) M.length mc, .slice sq S.length sc, .int .i64 inn, .slice oq O.length oc, .int .i64 0, .int .i64 (st + 1)] 52 (0, 0)) by rw [hw4]; exact (heap_setCell_other w3 ⟨gr, ka, none⟩ _ _ (fun h => by have h : _ = gr := h; omega)).trans SR3.out)
          have ZA := Lib.hid (show w4.heap[w.heap.size + 2]? = some (.cells #[.int .i64 0, .slice none 0 0, .slice none 0 0, .slice none 0 0, .int .i64 0, .slice none 0 0, .int .i64 0, .int .i64 0] 52 (0, 0)) by rw [hw4]; exact (heap_setCell_other w3 ⟨gr, ka, none⟩ _ _ (fun h => by have h : _ = gr := h; omega)).trans ZR3.out)
          have BA := Lib.hid (show Apart (StB (.slice (some ⟨gr, 0, none⟩) 4 rc) (.slice (some ⟨gm, 0, none⟩) M.length mc) (.slice sq S.length sc) (.slice oq O.length oc)) w w4 by rw [hw4]; exact (BB3.out.setCell (p := ⟨gr, ka, none⟩) (show gr ∈ StB (.slice (some ⟨gr, 0, none⟩) 4 rc) (.slice (some ⟨gm, 0, none⟩) M.length mc) (.slice sq S.length sc) (.slice oq O.length oc) by unfold StB; simp [Value.ownBlock]) _).trans (Apart.of_below (Below.refl _ _).drew))
          have OA : Hid (StO w4 base ⟨(k : Int) + 1, R.set ka R[kb], M, S, inn, O, 0, st + 1⟩ _ _ _ _) := Lib.hid (by rw [hw4]; exact StO.same (O3.out.poke_r ka R[kb] rfl rfl rfl rfl) (fun _ _ => rfl))
          rw [← hw4]
          clear hw4
          have SR := Lib.hid (SA.out)
          have ZR := Lib.hid (ZA.out)
          have BB := Lib.hid (BA.out)
          have OO := Lib.hid (OA.out)
          obtain ⟨d0, d1, d2, d3, d4, d5, d6, d7⟩ := cell8_row SR.out
          obtain ⟨g0, g1, g2, g3, g4, g5, g6, g7⟩ := cell8_row ZR.out
          obtain ⟨f0, f1, f2, f3, f4, f5, f6, f7⟩ := froz8_row ZR.out
          go_wp2
          obtain ⟨WE, hWE⟩ : ∃ W9, W9 = ((((((((w4.setCell ⟨w.heap.size + 2, 0, none⟩ (.int .i64 ((k : Int) + 1))).setCell ⟨w.heap.size + 2, 1, none⟩ (.slice (some ⟨gr, 0, none⟩) 4 rc)).setCell ⟨w.heap.size + 2, 2, none⟩ (.slice (some ⟨gm, 0, none⟩) M.length mc)).setCell ⟨w.heap.size + 2, 3, none⟩ (.slice sq S.length sc)).setCell ⟨w.heap.size + 2, 4, none⟩ (.int .i64 inn)).setCell ⟨w.heap.size + 2, 5, none⟩ (.slice oq O.length oc)).setCell ⟨w.heap.size + 2, 6, none⟩ (.int .i64 0)).setCell ⟨w.heap.size + 2, 7, none⟩ (.int .i64 (st + 1))) := ⟨_, rfl⟩
          have D2 := Lib.hid (show WE.heap[w.heap.size + 2]? = some (.cells #[.int .i64 ((k : Int) + 1), .slice (some ⟨gr, 0, none⟩) 4 rc, .slice (some ⟨gm, 0, none⟩) M.length mc, .slice sq S.length sc, .int .i64 inn, .slice oq O.length oc, .int .i64 0, .int .i64 (st + 1)] 52 (0, 0)) by rw [hWE]; exact set8_row ZR.out _ _ _ _ _ _ _ _)
          have BE := Lib.hid (show Apart _ w WE by rw [hWE]; exact set8_apart BB.out (by omega) _ _ _ _ _ _ _ _)
          have OE := Lib.hid (show StO WE base _ _ _ _ _ by rw [hWE]; exact OO.out.set8 (OO.out.off (T := 52) (by decide) ZR.out) _ _ _ _ _ _ _ _)
          rw [← hWE]
          clear hWE d0 d1 d2 d3 d4 d5 d6 d7 g0 g1 g2 g3 g4 g5 g6 g7
          obtain ⟨d0, d1, d2, d3, d4, d5, d6, d7⟩ := cell8_row D2.out
          refine bodyPost_ret (v := .agg #[.int .i64 ((k : Int) + 1), .slice (some ⟨gr, 0, none⟩) 4 rc, .slice (some ⟨gm, 0, none⟩) M.length mc, .slice sq S.length sc, .int .i64 inn, .slice oq O.length oc, .int .i64 0, .int .i64 (st + 1)]) (by simp [results, Tryz.results33, go_sem, d0, d1, d2, d3, d4, d5, d6, d7]) rfl ?_
          rw [HX.out]
          exact ⟨_, _, _, _, rfl, OE.out, BE.out, fun g hg => .inl hg⟩
        · -- 3
          obtain ⟨ka, hpka⟩ : ∃ j : Nat, a = j := ⟨a.toNat, by have := reg_of hA; omega⟩
          have hka : ka < 4 := by have := reg_of hA; omega
          have hkai : (ka : Int) < 4 := by omega
          have hwka := HG.out.reg (reg_of hA)
          subst hpka
          obtain ⟨cka, fka⟩ := HCR.out ka hka
          have HAka := Lib.hid (atI_nat R ka (by omega))
          obtain ⟨kb, hpkb⟩ : ∃ j : Nat, b' = j := ⟨b'.toNat, by have := reg_of hB; omega⟩
          have hkb : kb < 4 := by have := reg_of hB; omega
          have hkbi : (kb : Int) < 4 := by omega
          have hwkb := HG.out.reg (reg_of hB)
          subst hpkb
          obtain ⟨ckb, fkb⟩ := HCR.out kb hkb
          have HAkb := Lib.hid (atI_nat R kb (by omega))
          obtain ⟨x0, x1, x2, x3⟩ := cell4_row XR3.out
          obtain ⟨d0, d1, d2, d3, d4, d5, d6, d7⟩ := cell8_row SR3.out
          obtain ⟨s0, s1, s2, s3, s4, s5, s6, s7⟩ := froz8_row SR3.out
          have hxka := hwka
          rw [HAka.out] at hxka
          have hxkb := hwkb
          rw [HAkb.out] at hxkb
          have KB := Lib.hid (fun V => s_bin c vw R[ka] R[kb] (oper_of hC) hxka.1 hxka.2.1 hxka.2.2.1 hxka.2.2.2 hxkb.2.2.1 hxkb.2.2.2 V)
          go_upto_region 18 with fail
          skip -- x0 x1 x2 x3 d0 d1 d2 d3 d4 d5 d6 d7 s0 s1 s2 s3 s4 s5 s6 s7 i0 i1 i2 i3
          have CH : Hid (w3.cell? ⟨w.heap.size + 1, 1, none⟩ = some (.slice (some ⟨gr, 0, none⟩) 4 rc) ∧ w3.cell? ⟨w.heap.size + 3, 1, none⟩ = some (.int .i64 ka) ∧ w3.cell? ⟨w.heap.size + 3, 2, none⟩ = some (.int .i64 kb) ∧ w3.cell? ⟨w.heap.size + 3, 3, none⟩ = some (.int .i64 c) ∧ w3.cell? ⟨w.heap.size, 0, none⟩ = some (.int .i64 vw) ∧ w3.cell? ⟨gr, ka, none⟩ = some (.int .i64 R[ka]) ∧ w3.cell? ⟨gr, kb, none⟩ = some (.int .i64 R[kb])) := Lib.hid ⟨by assumption, by assumption, by assumption, by assumption, by assumption, by assumption, by assumption⟩
          refine region_s [22] (fun V => V.cell? ⟨w.heap.size + 1, 1, none⟩ = some (.slice (some ⟨gr, 0, none⟩) 4 rc) ∧ V.cell? ⟨w.heap.size + 3, 1, none⟩ = some (.int .i64 ka) ∧ V.cell? ⟨w.heap.size + 3, 2, none⟩ = some (.int .i64 kb) ∧ V.cell? ⟨w.heap.size + 3, 3, none⟩ = some (.int .i64 c) ∧ V.cell? ⟨w.heap.size, 0, none⟩ = some (.int .i64 vw) ∧ V.cell? ⟨gr, ka, none⟩ = some (.int .i64 R[ka]) ∧ V.cell? ⟨gr, kb, none⟩ = some (.int .i64 R[kb])) (by kernel_rfl) ?_
          refine take_s (i := 0) (v := .pointer (some ⟨w.heap.size + 1, 1, none⟩)) rfl (by kernel_rfl) (fun _ _ _ h => h) CH.out rfl (fun V hV => ?_) ?_
          · go_simp
          refine take_s (i := 1) (v := .slice (some ⟨gr, 0, none⟩) 4 rc) rfl (by kernel_rfl) (fun _ _ _ h => h) CH.out rfl (fun V hV => ?_) ?_
          · obtain ⟨t0, t1, t2, t3, t4, t5, t6⟩ := hV; go_simp
          refine take_s (i := 2) (v := .pointer (some ⟨w.heap.size + 3, 1, none⟩)) rfl (by kernel_rfl) (fun _ _ _ h => h) CH.out rfl (fun V hV => ?_) ?_
          · go_simp
          refine take_s (i := 3) (v := .int .i64 ka) rfl (by kernel_rfl) (fun _ _ _ h => h) CH.out rfl (fun V hV => ?_) ?_
          · obtain ⟨t0, t1, t2, t3, t4, t5, t6⟩ := hV; go_simp
          refine take_s (i := 4) (v := .pointer (some ⟨w.heap.size + 3, 3, none⟩)) rfl (by kernel_rfl) (fun _ _ _ h => h) CH.out rfl (fun V hV => ?_) ?_
          · go_simp
          refine take_s (i := 5) (v := .int .i64 c) rfl (by kernel_rfl) (fun _ _ _ h => h) CH.out rfl (fun V hV => ?_) ?_
          · obtain ⟨t0, t1, t2, t3, t4, t5, t6⟩ := hV; go_simp
          refine take_s (i := 6) (v := .pointer (some ⟨w.heap.size, 0, none⟩)) rfl (by kernel_rfl) (fun _ _ _ h => h) CH.out rfl (fun V hV => ?_) ?_
          · go_simp
          refine take_s (i := 7) (v := .int .i64 vw) rfl (by kernel_rfl) (fun _ _ _ h => h) CH.out rfl (fun V hV => ?_) ?_
          · obtain ⟨t0, t1, t2, t3, t4, t5, t6⟩ := hV; go_simp
          refine take_s (i := 8) (v := .pointer (some ⟨w.heap.size + 1, 1, none⟩)) rfl (by kernel_rfl) (fun _ _ _ h => h) CH.out rfl (fun V hV => ?_) ?_
          · go_simp
          refine take_s (i := 9) (v := .slice (some ⟨gr, 0, none⟩) 4 rc) rfl (by kernel_rfl) (fun _ _ _ h => h) CH.out rfl (fun V hV => ?_) ?_
          · obtain ⟨t0, t1, t2, t3, t4, t5, t6⟩ := hV; go_simp
          refine take_s (i := 10) (v := .pointer (some ⟨w.heap.size + 3, 1, none⟩)) rfl (by kernel_rfl) (fun _ _ _ h => h) CH.out rfl (fun V hV => ?_) ?_
          · go_simp
          refine take_s (i := 11) (v := .int .i64 ka) rfl (by kernel_rfl) (fun _ _ _ h => h) CH.out rfl (fun V hV => ?_) ?_
          · obtain ⟨t0, t1, t2, t3, t4, t5, t6⟩ := hV; go_simp
          refine take_s (i := 12) (v := .pointer (some ⟨gr, ka, none⟩)) rfl (by kernel_rfl) (fun _ _ _ h => h) CH.out rfl (fun V hV => ?_) ?_
          · go_simp
          refine take_s (i := 13) (v := .int .i64 R[ka]) rfl (by kernel_rfl) (fun _ _ _ h => h) CH.out rfl (fun V hV => ?_) ?_
          · obtain ⟨t0, t1, t2, t3, t4, t5, t6⟩ := hV; go_simp
          refine take_s (i := 14) (v := .pointer (some ⟨w.heap.size + 1, 1, none⟩)) rfl (by kernel_rfl) (fun _ _ _ h => h) CH.out rfl (fun V hV => ?_) ?_
          · go_simp
          refine take_s (i := 15) (v := .slice (some ⟨gr, 0, none⟩) 4 rc) rfl (by kernel_rfl) (fun _ _ _ h => h) CH.out rfl (fun V hV => ?_) ?_
          · obtain ⟨t0, t1, t2, t3, t4, t5, t6⟩ := hV; go_simp
          refine take_s (i := 16) (v := .pointer (some ⟨w.heap.size + 3, 2, none⟩)) rfl (by kernel_rfl) (fun _ _ _ h => h) CH.out rfl (fun V hV => ?_) ?_
          · go_simp
          refine take_s (i := 17) (v := .int .i64 kb) rfl (by kernel_rfl) (fun _ _ _ h => h) CH.out rfl (fun V hV => ?_) ?_
          · obtain ⟨t0, t1, t2, t3, t4, t5, t6⟩ := hV; go_simp
          refine take_s (i := 18) (v := .pointer (some ⟨gr, kb, none⟩)) rfl (by kernel_rfl) (fun _ _ _ h => h) CH.out rfl (fun V hV => ?_) ?_
          · go_simp
          refine take_s (i := 19) (v := .int .i64 R[kb]) rfl (by kernel_rfl) (fun _ _ _ h => h) CH.out rfl (fun V hV => ?_) ?_
          · obtain ⟨t0, t1, t2, t3, t4, t5, t6⟩ := hV; go_simp
          refine take_sk (i := 20) (v := .int .i64 (binM c vw R[ka] R[kb])) rfl (by kernel_rfl) (fun _ _ _ h => h) CH.out rfl (fun V hV => ⟨_, _, ?_, KB.out V⟩) ?_
          · go_simp
          refine take_s (i := 21) (v := .pointer (some ⟨gr, ka, none⟩)) rfl (by kernel_rfl) (fun _ _ _ h => h) CH.out rfl (fun V hV => ?_) ?_
          · go_simp
          refine one_s (i := 22) (by kernel_rfl) (op_list rfl ?_)
          go_wp2
          refine ⟨late_s (by kernel_rfl), done_s (by kernel_rfl) ?_ _⟩
          go_upto_region 42 with fail
          clear x0 x1 x2 x3 d0 d1 d2 d3 d4 d5 d6 d7 s0 s1 s2 s3 s4 s5 s6 s7 i0 i1 i2 i3
          have HX : Hid (XR = ⟨(k : Int) + 1, R.set ka (binM c vw R[ka] R[kb]), M, S, inn, O, 0, st + 1⟩) := Lib.hid (by rw [HDO.out, ← HAka.out, ← HAkb.out]; rfl)
          obtain ⟨w4, hw4⟩ : ∃ V', V' = (w3.setCell ⟨gr, ka, none⟩ (.int .i64 (binM c vw R[ka] R[kb]))).drew := ⟨_, rfl⟩
          have SA := Lib.hid (show w4.heap[w.heap.size + 1]? = some (.cells #[.int .i64 ((k : Int) + 1), .slice (some ⟨gr, 0, none⟩) 4 rc, .slice (some ⟨gm, 0, none⟩) M.length mc, .slice sq S.length sc, .int .i64 inn, .slice oq O.length oc, .int .i64 0, .int .i64 (st + 1)] 52 (0, 0)) by rw [hw4]; exact (heap_setCell_other w3 ⟨gr, ka, none⟩ _ _ (fun h => by have h : _ = gr := h; omega)).trans SR3.out)
          have ZA := Lib.hid (show w4.heap[w.heap.size + 2]? = some (.cells #[.int .i64 0, .slice none 0 0, .slice none 0 0, .slice none 0 0, .int .i64 0, .slice none 0 0, .int .i64 0, .int .i64 0] 52 (0, 0)) by rw [hw4]; exact (heap_setCell_other w3 ⟨gr, ka, none⟩ _ _ (fun h => by have h : _ = gr := h; omega)).trans ZR3.out)
          have BA := Lib.hid (show Apart (StB (.slice (some ⟨gr, 0, none⟩) 4 rc) (.slice (some ⟨gm, 0, none⟩) M.length mc) (.slice sq S.length sc) (.slice oq O.length oc)) w w4 by rw [hw4]; exact (BB3.out.setCell (p := ⟨gr, ka, none⟩) (show gr ∈ StB (.slice (some ⟨gr, 0, none⟩) 4 rc) (.slice (some ⟨gm, 0, none⟩) M.length mc) (.slice sq S.length sc) (.slice oq O.length oc) by unfold StB; simp [Value.ownBlock]) _).trans (Apart.of_below (Below.refl _ _).drew))
          have OA : Hid (StO w4 base ⟨(k : Int) + 1, R.set ka (binM c vw R[ka] R[kb]), M, S, inn, O, 0, st + 1⟩ _ _ _ _) := Lib.hid (by rw [hw4]; exact StO.same (O3.out.poke_r ka (binM c vw R[ka] R[kb]) rfl rfl rfl rfl) (fun _ _ => rfl))
          rw [← hw4]
          clear hw4
          have SR := Lib.hid (SA.out)
          have ZR := Lib.hid (ZA.out)
          have BB := Lib.hid (BA.out)
          have OO := Lib.hid (OA.out)
          obtain ⟨d0, d1, d2, d3, d4, d5, d6, d7⟩ := cell8_row SR.out
          obtain ⟨g0, g1, g2, g3, g4, g5, g6, g7⟩ := cell8_row ZR.out
          obtain ⟨f0, f1, f2, f3, f4, f5, f6, f7⟩ := froz8_row ZR.out
          go_wp2
          obtain ⟨WE, hWE⟩ : ∃ W9, W9 = ((((((((w4.setCell ⟨w.heap.size + 2, 0, none⟩ (.int .i64 ((k : Int) + 1))).setCell ⟨w.heap.size + 2, 1, none⟩ (.slice (some ⟨gr, 0, none⟩) 4 rc)).setCell ⟨w.heap.size + 2, 2, none⟩ (.slice (some ⟨gm, 0, none⟩) M.length mc)).setCell ⟨w.heap.size + 2, 3, none⟩ (.slice sq S.length sc)).setCell ⟨w.heap.size + 2, 4, none⟩ (.int .i64 inn)).setCell ⟨w.heap.size + 2, 5, none⟩ (.slice oq O.length oc)).setCell ⟨w.heap.size + 2, 6, none⟩ (.int .i64 0)).setCell ⟨w.heap.size + 2, 7, none⟩ (.int .i64 (st + 1))) := ⟨_, rfl⟩
          have D2 := Lib.hid (show WE.heap[w.heap.size + 2]? = some (.cells #[.int .i64 ((k : Int) + 1), .slice (some ⟨gr, 0, none⟩) 4 rc, .slice (some ⟨gm, 0, none⟩) M.length mc, .slice sq S.length sc, .int .i64 inn, .slice oq O.length oc, .int .i64 0, .int .i64 (st + 1)] 52 (0, 0)) by rw [hWE]; exact set8_row ZR.out _ _ _ _ _ _ _ _)
          have BE := Lib.hid (show Apart _ w WE by rw [hWE]; exact set8_apart BB.out (by omega) _ _ _ _ _ _ _ _)
          have OE := Lib.hid (show StO WE base _ _ _ _ _ by rw [hWE]; exact OO.out.set8 (OO.out.off (T := 52) (by decide) ZR.out) _ _ _ _ _ _ _ _)
          rw [← hWE]
          clear hWE d0 d1 d2 d3 d4 d5 d6 d7 g0 g1 g2 g3 g4 g5 g6 g7
          obtain ⟨d0, d1, d2, d3, d4, d5, d6, d7⟩ := cell8_row D2.out
          refine bodyPost_ret (v := .agg #[.int .i64 ((k : Int) + 1), .slice (some ⟨gr, 0, none⟩) 4 rc, .slice (some ⟨gm, 0, none⟩) M.length mc, .slice sq S.length sc, .int .i64 inn, .slice oq O.length oc, .int .i64 0, .int .i64 (st + 1)]) (by simp [results, Tryz.results33, go_sem, d0, d1, d2, d3, d4, d5, d6, d7]) rfl ?_
          rw [HX.out]
          exact ⟨_, _, _, _, rfl, OE.out, BE.out, fun g hg => .inl hg⟩
        · -- 4
          obtain ⟨ka, hpka⟩ : ∃ j : Nat, a = j := ⟨a.toNat, by have := reg_of hA; omega⟩
          have hka : ka < 4 := by have := reg_of hA; omega
          have hkai : (ka : Int) < 4 := by omega
          have hwka := HG.out.reg (reg_of hA)
          subst hpka
          obtain ⟨cka, fka⟩ := HCR.out ka hka
          have HAka := Lib.hid (atI_nat R ka (by omega))
          obtain ⟨x0, x1, x2, x3⟩ := cell4_row XR3.out
          obtain ⟨d0, d1, d2, d3, d4, d5, d6, d7⟩ := cell8_row SR3.out
          obtain ⟨s0, s1, s2, s3, s4, s5, s6, s7⟩ := froz8_row SR3.out
          have hxka := hwka
          rw [HAka.out] at hxka
          have KB := Lib.hid (fun V => s_un 1 vw R[ka] (.inl rfl) hxka.1 hxka.2.1 hxka.2.2.1 hxka.2.2.2 V)
          go_upto_region 20 with fail
          skip -- x0 x1 x2 x3 d0 d1 d2 d3 d4 d5 d6 d7 s0 s1 s2 s3 s4 s5 s6 s7 i0 i1 i2 i3
          have CH : Hid (w3.cell? ⟨w.heap.size + 1, 1, none⟩ = some (.slice (some ⟨gr, 0, none⟩) 4 rc) ∧ w3.cell? ⟨w.heap.size + 3, 1, none⟩ = some (.int .i64 ka) ∧ w3.cell? ⟨w.heap.size, 0, none⟩ = some (.int .i64 vw) ∧ w3.cell? ⟨gr, ka, none⟩ = some (.int .i64 R[ka])) := Lib.hid ⟨by assumption, by assumption, by assumption, by assumption⟩
          refine region_s [14] (fun V => V.cell? ⟨w.heap.size + 1, 1, none⟩ = some (.slice (some ⟨gr, 0, none⟩) 4 rc) ∧ V.cell? ⟨w.heap.size + 3, 1, none⟩ = some (.int .i64 ka) ∧ V.cell? ⟨w.heap.size, 0, none⟩ = some (.int .i64 vw) ∧ V.cell? ⟨gr, ka, none⟩ = some (.int .i64 R[ka])) (by kernel_rfl) ?_
          refine take_s (i := 0) (v := .pointer (some ⟨w.heap.size + 1, 1, none⟩)) rfl (by kernel_rfl) (fun _ _ _ h => h) CH.out rfl (fun V hV => ?_) ?_
          · go_simp
          refine take_s (i := 1) (v := .slice (some ⟨gr, 0, none⟩) 4 rc) rfl (by kernel_rfl) (fun _ _ _ h => h) CH.out rfl (fun V hV => ?_) ?_
          · obtain ⟨t0, t1, t2, t3⟩ := hV; go_simp
          refine take_s (i := 2) (v := .pointer (some ⟨w.heap.size + 3, 1, none⟩)) rfl (by kernel_rfl) (fun _ _ _ h => h) CH.out rfl (fun V hV => ?_) ?_
          · go_simp
          refine take_s (i := 3) (v := .int .i64 ka) rfl (by kernel_rfl) (fun _ _ _ h => h) CH.out rfl (fun V hV => ?_) ?_
          · obtain ⟨t0, t1, t2, t3⟩ := hV; go_simp
          refine take_s (i := 4) (v := .pointer (some ⟨w.heap.size, 0, none⟩)) rfl (by kernel_rfl) (fun _ _ _ h => h) CH.out rfl (fun V hV => ?_) ?_
          · go_simp
          refine take_s (i := 5) (v := .int .i64 vw) rfl (by kernel_rfl) (fun _ _ _ h => h) CH.out rfl (fun V hV => ?_) ?_
          · obtain ⟨t0, t1, t2, t3⟩ := hV; go_simp
          refine take_s (i := 6) (v := .pointer (some ⟨w.heap.size + 1, 1, none⟩)) rfl (by kernel_rfl) (fun _ _ _ h => h) CH.out rfl (fun V hV => ?_) ?_
          · go_simp
          refine take_s (i := 7) (v := .slice (some ⟨gr, 0, none⟩) 4 rc) rfl (by kernel_rfl) (fun _ _ _ h => h) CH.out rfl (fun V hV => ?_) ?_
          · obtain ⟨t0, t1, t2, t3⟩ := hV; go_simp
          refine take_s (i := 8) (v := .pointer (some ⟨w.heap.size + 3, 1, none⟩)) rfl (by kernel_rfl) (fun _ _ _ h => h) CH.out rfl (fun V hV => ?_) ?_
          · go_simp
          refine take_s (i := 9) (v := .int .i64 ka) rfl (by kernel_rfl) (fun _ _ _ h => h) CH.out rfl (fun V hV => ?_) ?_
          · obtain ⟨t0, t1, t2, t3⟩ := hV; go_simp
          refine take_s (i := 10) (v := .pointer (some ⟨gr, ka, none⟩)) rfl (by kernel_rfl) (fun _ _ _ h => h) CH.out rfl (fun V hV => ?_) ?_
          · go_simp
          refine take_s (i := 11) (v := .int .i64 R[ka]) rfl (by kernel_rfl) (fun _ _ _ h => h) CH.out rfl (fun V hV => ?_) ?_
          · obtain ⟨t0, t1, t2, t3⟩ := hV; go_simp
          refine take_sk (i := 12) (v := .int .i64 (unM 1 vw R[ka])) rfl (by kernel_rfl) (fun _ _ _ h => h) CH.out rfl (fun V hV => ⟨_, _, ?_, KB.out V⟩) ?_
          · go_simp
          refine take_s (i := 13) (v := .pointer (some ⟨gr, ka, none⟩)) rfl (by kernel_rfl) (fun _ _ _ h => h) CH.out rfl (fun V hV => ?_) ?_
          · go_simp
          refine one_s (i := 14) (by kernel_rfl) (op_list rfl ?_)
          go_wp2
          refine ⟨late_s (by kernel_rfl), done_s (by kernel_rfl) ?_ _⟩
          go_upto_region 42 with fail
          clear x0 x1 x2 x3 d0 d1 d2 d3 d4 d5 d6 d7 s0 s1 s2 s3 s4 s5 s6 s7 i0 i1 i2 i3
          have HX : Hid (XR = ⟨(k : Int) + 1, R.set ka (unM 1 vw R[ka]), M, S, inn, O, 0, st + 1⟩) := Lib.hid (by rw [HDO.out, ← HAka.out]; rfl)
          obtain ⟨w4, hw4⟩ : ∃ V', V' = (w3.setCell ⟨gr, ka, none⟩ (.int .i64 (unM 1 vw R[ka]))).drew := ⟨_, rfl⟩
          have SA := Lib.hid (show w4.heap[w.heap.size + 1]? = some (.cells #[.int .i64 ((k : Int) + 1), .slice (some ⟨gr, 0, none⟩) 4 rc, .slice (some ⟨gm, 0, none⟩) M.length mc, .slice sq S.length sc, .int .i64 inn, .slice oq O.length oc, .int .i64 0, .int .i64 (st + 1)] 52 (0, 0)) by rw [hw4]; exact (heap_setCell_other w3 ⟨gr, ka, none⟩ _ _ (fun h => by have h : _ = gr := h; omega)).trans SR3.out)
          have ZA := Lib.hid (show w4.heap[w.heap.size + 2]? = some (.cells #[.int .i64 0, .slice none 0 0, .slice none 0 0, .slice none 0 0, .int .i64 0, .slice none 0 0, .int .i64 0, .int .i64 0] 52 (0, 0)) by rw [hw4]; exact (heap_setCell_other w3 ⟨gr, ka, none⟩ _ _ (fun h => by have h : _ = gr := h; omega)).trans ZR3.out)
          have BA := Lib.hid (show Apart (StB (.slice (some ⟨gr, 0, none⟩) 4 rc) (.slice (some ⟨gm, 0, none⟩) M.length mc) (.slice sq S.length sc) (.slice oq O.length oc)) w w4 by rw [hw4]; exact (BB3.out.setCell (p := ⟨gr, ka, none⟩) (show gr ∈ StB (.slice (some ⟨gr, 0, none⟩) 4 rc) (.slice (some ⟨gm, 0, none⟩) M.length mc) (.slice sq S.length sc) (.slice oq O.length oc) by unfold StB; simp [Value.ownBlock]) _).trans (Apart.of_below (Below.refl _ _).drew))
          have OA : Hid (StO w4 base ⟨(k : Int) + 1, R.set ka (unM 1 vw R[ka]), M, S, inn, O, 0, st + 1⟩ _ _ _ _) := Lib.hid (by rw [hw4]; exact StO.same (O3.out.poke_r ka (unM 1 vw R[ka]) rfl rfl rfl rfl) (fun _ _ => rfl))
          rw [← hw4]
          clear hw4
          have SR := Lib.hid (SA.out)
          have ZR := Lib.hid (ZA.out)
          have BB := Lib.hid (BA.out)
          have OO := Lib.hid (OA.out)
          obtain ⟨d0, d1, d2, d3, d4, d5, d6, d7⟩ := cell8_row SR.out
          obtain ⟨g0, g1, g2, g3, g4, g5, g6, g7⟩ := cell8_row ZR.out
          obtain ⟨f0, f1, f2, f3, f4, f5, f6, f7⟩ := froz8_row ZR.out
          go_wp2
          obtain ⟨WE, hWE⟩ : ∃ W9, W9 = ((((((((w4.setCell ⟨w.heap.size + 2, 0, none⟩ (.int .i64 ((k : Int) + 1))).setCell ⟨w.heap.size + 2, 1, none⟩ (.slice (some ⟨gr, 0, none⟩) 4 rc)).setCell ⟨w.heap.size + 2, 2, none⟩ (.slice (some ⟨gm, 0, none⟩) M.length mc)).setCell ⟨w.heap.size + 2, 3, none⟩ (.slice sq S.length sc)).setCell ⟨w.heap.size + 2, 4, none⟩ (.int .i64 inn)).setCell ⟨w.heap.size + 2, 5, none⟩ (.slice oq O.length oc)).setCell ⟨w.heap.size + 2, 6, none⟩ (.int .i64 0)).setCell ⟨w.heap.size + 2, 7, none⟩ (.int .i64 (st + 1))) := ⟨_, rfl⟩
          have D2 := Lib.hid (show WE.heap[w.heap.size + 2]? = some (.cells #[.int .i64 ((k : Int) + 1), .slice (some ⟨gr, 0, none⟩) 4 rc, .slice (some ⟨gm, 0, none⟩) M.length mc, .slice sq S.length sc, .int .i64 inn, .slice oq O.length oc, .int .i64 0, .int .i64 (st + 1)] 52 (0, 0)) by rw [hWE]; exact set8_row ZR.out _ _ _ _ _ _ _ _)
          have BE := Lib.hid (show Apart _ w WE by rw [hWE]; exact set8_apart BB.out (by omega) _ _ _ _ _ _ _ _)
          have OE := Lib.hid (show StO WE base _ _ _ _ _ by rw [hWE]; exact OO.out.set8 (OO.out.off (T := 52) (by decide) ZR.out) _ _ _ _ _ _ _ _)
          rw [← hWE]
          clear hWE d0 d1 d2 d3 d4 d5 d6 d7 g0 g1 g2 g3 g4 g5 g6 g7
          obtain ⟨d0, d1, d2, d3, d4, d5, d6, d7⟩ := cell8_row D2.out
          refine bodyPost_ret (v := .agg #[.int .i64 ((k : Int) + 1), .slice (some ⟨gr, 0, none⟩) 4 rc, .slice (some ⟨gm, 0, none⟩) M.length mc, .slice sq S.length sc, .int .i64 inn, .slice oq O.length oc, .int .i64 0, .int .i64 (st + 1)]) (by simp [results, Tryz.results33, go_sem, d0, d1, d2, d3, d4, d5, d6, d7]) rfl ?_
          rw [HX.out]
          exact ⟨_, _, _, _, rfl, OE.out, BE.out, fun g hg => .inl hg⟩
        · -- 5
          obtain ⟨ka, hpka⟩ : ∃ j : Nat, a = j := ⟨a.toNat, by have := reg_of hA; omega⟩
          have hka : ka < 4 := by have := reg_of hA; omega
          have hkai : (ka : Int) < 4 := by omega
          have hwka := HG.out.reg (reg_of hA)
          subst hpka
          obtain ⟨cka, fka⟩ := HCR.out ka hka
          have HAka := Lib.hid (atI_nat R ka (by omega))
          obtain ⟨x0, x1, x2, x3⟩ := cell4_row XR3.out
          obtain ⟨d0, d1, d2, d3, d4, d5, d6, d7⟩ := cell8_row SR3.out
          obtain ⟨s0, s1, s2, s3, s4, s5, s6, s7⟩ := froz8_row SR3.out
          have hwhy : (if inn = vi then 3 else 0 : Int) = 0 := hV
          have hne : ¬ (inn = vi) := fun h => by rw [if_pos h] at hwhy; cases hwhy
          clear hwhy
          obtain ⟨ki, hki⟩ : ∃ j : Nat, inn = j := ⟨inn.toNat, by omega⟩
          subst hki
          have hkl2 : ki < I.length := by have := HI.out.1; omega
          have hkl2i : (ki : Int) < (I.length : Int) := by omega
          have hki4 : (ki : Int) + 1 ≤ 4 := by omega
          obtain ⟨bi, oi, hqi, hbi, hci⟩ := HIN.out ki hkl2
          subst hqi
          have ci := hci w3 BC3.out
          have hbi3 : bi < w3.heap.size := by omega
          have HAi := Lib.hid (atI_nat I ki hkl2)
          go_upto_region 22 with fail
          skip -- x0 x1 x2 x3 d0 d1 d2 d3 d4 d5 d6 d7 s0 s1 s2 s3 s4 s5 s6 s7 i0 i1 i2 i3
          have CH : Hid (w3.cell? ⟨w.heap.size + 1, 1, none⟩ = some (.slice (some ⟨gr, 0, none⟩) 4 rc) ∧ w3.cell? ⟨w.heap.size + 3, 1, none⟩ = some (.int .i64 ka) ∧ w3.cell? ⟨w.heap.size + 1, 4, none⟩ = some (.int .i64 (ki : Int)) ∧ w3.cell? ⟨bi, oi + ki, none⟩ = some (.int .i64 I[ki])) := Lib.hid ⟨by assumption, by assumption, by assumption, by assumption⟩
          refine region_s [10] (fun V => V.cell? ⟨w.heap.size + 1, 1, none⟩ = some (.slice (some ⟨gr, 0, none⟩) 4 rc) ∧ V.cell? ⟨w.heap.size + 3, 1, none⟩ = some (.int .i64 ka) ∧ V.cell? ⟨w.heap.size + 1, 4, none⟩ = some (.int .i64 (ki : Int)) ∧ V.cell? ⟨bi, oi + ki, none⟩ = some (.int .i64 I[ki])) (by kernel_rfl) ?_
          refine take_s (i := 0) (v := .pointer (some ⟨w.heap.size + 1, 1, none⟩)) rfl (by kernel_rfl) (fun _ _ _ h => h) CH.out rfl (fun V hV => ?_) ?_
          · go_simp
          refine take_s (i := 1) (v := .slice (some ⟨gr, 0, none⟩) 4 rc) rfl (by kernel_rfl) (fun _ _ _ h => h) CH.out rfl (fun V hV => ?_) ?_
          · obtain ⟨t0, t1, t2, t3⟩ := hV; go_simp
          refine take_s (i := 2) (v := .pointer (some ⟨w.heap.size + 3, 1, none⟩)) rfl (by kernel_rfl) (fun _ _ _ h => h) CH.out rfl (fun V hV => ?_) ?_
          · go_simp
          refine take_s (i := 3) (v := .int .i64 ka) rfl (by kernel_rfl) (fun _ _ _ h => h) CH.out rfl (fun V hV => ?_) ?_
          · obtain ⟨t0, t1, t2, t3⟩ := hV; go_simp
          refine take_s (i := 4) (v := .slice (some ⟨bi, oi, none⟩) I.length ic) rfl (by kernel_rfl) (fun _ _ _ h => h) CH.out rfl (fun V hV => ?_) ?_
          · go_simp
          refine take_s (i := 5) (v := .pointer (some ⟨w.heap.size + 1, 4, none⟩)) rfl (by kernel_rfl) (fun _ _ _ h => h) CH.out rfl (fun V hV => ?_) ?_
          · go_simp
          refine take_s (i := 6) (v := .int .i64 (ki : Int)) rfl (by kernel_rfl) (fun _ _ _ h => h) CH.out rfl (fun V hV => ?_) ?_
          · obtain ⟨t0, t1, t2, t3⟩ := hV; go_simp
          refine take_s (i := 7) (v := .pointer (some ⟨bi, oi + ki, none⟩)) rfl (by kernel_rfl) (fun _ _ _ h => h) CH.out rfl (fun V hV => ?_) ?_
          · go_simp
          refine take_s (i := 8) (v := .int .i64 I[ki]) rfl (by kernel_rfl) (fun _ _ _ h => h) CH.out rfl (fun V hV => ?_) ?_
          · obtain ⟨t0, t1, t2, t3⟩ := hV; go_simp
          refine take_s (i := 9) (v := .pointer (some ⟨gr, ka, none⟩)) rfl (by kernel_rfl) (fun _ _ _ h => h) CH.out rfl (fun V hV => ?_) ?_
          · go_simp
          refine one_s (i := 10) (by kernel_rfl) (op_list rfl ?_)
          go_wp2
          refine ⟨late_s (by kernel_rfl), done_s (by kernel_rfl) ?_ _⟩
          go_upto_region 42 with fail
          clear x0 x1 x2 x3 d0 d1 d2 d3 d4 d5 d6 d7 s0 s1 s2 s3 s4 s5 s6 s7 i0 i1 i2 i3
          have HX : Hid (XR = ⟨(k : Int) + 1, R.set ka I[ki], M, S, (ki : Int) + 1, O, 0, st + 1⟩) := Lib.hid (by rw [HDO.out, ← HAi.out]; rfl)
          obtain ⟨w4, hw4⟩ : ∃ W9, W9 = ((w3.setCell ⟨gr, ka, none⟩ (.int .i64 I[ki])).setCell ⟨w.heap.size + 1, 4, none⟩ (.int .i64 ((ki : Int) + 1))).drew := ⟨_, rfl⟩
          have S30 : (w3.setCell ⟨gr, ka, none⟩ (.int .i64 I[ki])).heap[w.heap.size + 1]? = some (.cells #[.int .i64 ((k : Int) + 1), .slice (some ⟨gr, 0, none⟩) 4 rc, .slice (some ⟨gm, 0, none⟩) M.length mc, .slice sq S.length sc, .int .i64 (ki : Int), .slice oq O.length oc, .int .i64 0, .int .i64 (st + 1)] 52 (0, 0)) := (heap_setCell_other w3 ⟨gr, ka, none⟩ (w.heap.size + 1) _ (fun h => by have h : _ = gr := h; omega)).trans SR3.out
          have SA := Lib.hid (show w4.heap[w.heap.size + 1]? = some (.cells #[.int .i64 ((k : Int) + 1), .slice (some ⟨gr, 0, none⟩) 4 rc, .slice (some ⟨gm, 0, none⟩) M.length mc, .slice sq S.length sc, .int .i64 ((ki : Int) + 1), .slice oq O.length oc, .int .i64 0, .int .i64 (st + 1)] 52 (0, 0)) by rw [hw4]; exact heap_setCell_same _ _ 4 _ _ _ S30)
          have ZA := Lib.hid (show w4.heap[w.heap.size + 2]? = some (.cells #[.int .i64 0, .slice none 0 0, .slice none 0 0, .slice none 0 0, .int .i64 0, .slice none 0 0, .int .i64 0, .int .i64 0] 52 (0, 0)) by rw [hw4]; exact (heap_setCell_other (w3.setCell ⟨gr, ka, none⟩ (.int .i64 I[ki])) ⟨w.heap.size + 1, 4, none⟩ _ _ (by simp)).trans ((heap_setCell_other w3 ⟨gr, ka, none⟩ (w.heap.size + 2) _ (fun h => by have h : _ = gr := h; omega)).trans ZR3.out))
          have OP : StO (w3.setCell ⟨gr, ka, none⟩ (.int .i64 I[ki])) base ⟨(k : Int) + 1, R.set ka I[ki], M, S, (ki : Int), O, 0, st + 1⟩ _ _ _ _ := O3.out.poke_r ka I[ki] rfl rfl rfl rfl
          have OA : Hid (StO w4 base ⟨(k : Int) + 1, R.set ka I[ki], M, S, (ki : Int) + 1, O, 0, st + 1⟩ _ _ _ _) := Lib.hid (by rw [hw4]; exact StO.same ((OP.aside (OP.off (T := 52) (by decide) S30) 4 _).like rfl rfl rfl rfl) (fun _ _ => rfl))
          have BA := Lib.hid (show Apart (StB (.slice (some ⟨gr, 0, none⟩) 4 rc) (.slice (some ⟨gm, 0, none⟩) M.length mc) (.slice sq S.length sc) (.slice oq O.length oc)) w w4 by rw [hw4]; exact ((BB3.out.setCell (p := ⟨gr, ka, none⟩) (show gr ∈ StB (.slice (some ⟨gr, 0, none⟩) 4 rc) (.slice (some ⟨gm, 0, none⟩) M.length mc) (.slice sq S.length sc) (.slice oq O.length oc) by unfold StB; simp [Value.ownBlock]) _).above (p := ⟨w.heap.size + 1, 4, none⟩) (by simp) _).trans (Apart.of_below (Below.refl _ _).drew))
          clear S30 OP
          rw [← hw4]
          clear hw4
          have SR := Lib.hid (SA.out)
          have ZR := Lib.hid (ZA.out)
          have BB := Lib.hid (BA.out)
          have OO := Lib.hid (OA.out)
          obtain ⟨d0, d1, d2, d3, d4, d5, d6, d7⟩ := cell8_row SR.out
          obtain ⟨g0, g1, g2, g3, g4, g5, g6, g7⟩ := cell8_row ZR.out
          obtain ⟨f0, f1, f2, f3, f4, f5, f6, f7⟩ := froz8_row ZR.out
          go_wp2
          obtain ⟨WE, hWE⟩ : ∃ W9, W9 = ((((((((w4.setCell ⟨w.heap.size + 2, 0, none⟩ (.int .i64 ((k : Int) + 1))).setCell ⟨w.heap.size + 2, 1, none⟩ (.slice (some ⟨gr, 0, none⟩) 4 rc)).setCell ⟨w.heap.size + 2, 2, none⟩ (.slice (some ⟨gm, 0, none⟩) M.length mc)).setCell ⟨w.heap.size + 2, 3, none⟩ (.slice sq S.length sc)).setCell ⟨w.heap.size + 2, 4, none⟩ (.int .i64 ((ki : Int) + 1))).setCell ⟨w.heap.size + 2, 5, none⟩ (.slice oq O.length oc)).setCell ⟨w.heap.size + 2, 6, none⟩ (.int .i64 0)).setCell ⟨w.heap.size + 2, 7, none⟩ (.int .i64 (st + 1))) := ⟨_, rfl⟩
          have D2 := Lib.hid (show WE.heap[w.heap.size + 2]? = some (.cells #[.int .i64 ((k : Int) + 1), .slice (some ⟨gr, 0, none⟩) 4 rc, .slice (some ⟨gm, 0, none⟩) M.length mc, .slice sq S.length sc, .int .i64 ((ki : Int) + 1), .slice oq O.length oc, .int .i64 0, .int .i64 (st + 1)] 52 (0, 0)) by rw [hWE]; exact set8_row ZR.out _ _ _ _ _ _ _ _)
          have BE := Lib.hid (show Apart _ w WE by rw [hWE]; exact set8_apart BB.out (by omega) _ _ _ _ _ _ _ _)
          have OE := Lib.hid (show StO WE base _ _ _ _ _ by rw [hWE]; exact OO.out.set8 (OO.out.off (T := 52) (by decide) ZR.out) _ _ _ _ _ _ _ _)
          rw [← hWE]
          clear hWE d0 d1 d2 d3 d4 d5 d6 d7 g0 g1 g2 g3 g4 g5 g6 g7
          obtain ⟨d0, d1, d2, d3, d4, d5, d6, d7⟩ := cell8_row D2.out
          refine bodyPost_ret (v := .agg #[.int .i64 ((k : Int) + 1), .slice (some ⟨gr, 0, none⟩) 4 rc, .slice (some ⟨gm, 0, none⟩) M.length mc, .slice sq S.length sc, .int .i64 ((ki : Int) + 1), .slice oq O.length oc, .int .i64 0, .int .i64 (st + 1)]) (by simp [results, Tryz.results33, go_sem, d0, d1, d2, d3, d4, d5, d6, d7]) rfl ?_
          rw [HX.out]
          exact ⟨_, _, _, _, rfl, OE.out, BE.out, fun g hg => .inl hg⟩
        · omega
        · omega
        · omega
        · omega
        · omega
        · omega
        · omega
        · omega
        · have hwhy : (1 : Int) = 0 := hV
          cases hwhy
end Go.Proofs.YthmababifgaejaaGreat
namespace Go.Proofs.YthmababifgaejaaGreat
open Go.ChangeShapes Go.WideShapes Go.ChangeAt Go.RowKit
set_option maxRecDepth 100000 in
set_option maxHeartbeats 16000000 in
theorem s_stepB (vw vm vi : Int) (L : List InsR) (pc : Int) (R M S : List Int) (inn : Int) (O : List Int) (cd st : Int) (I : List Int) (sL r m s o li : Value) (base : Nat) (w : World) (hp : prB vw vm vi L = true) (hG : Gd vw vm vi L.length ⟨pc, R, M, S, inn, O, cd, st⟩) (hI : (I.length : Int) = vi ∧ ∀ y ∈ I, IsW vw y) (hs : Cs.Shows w 0 4 sL L.length (InsR.all L)) (hli : Cs.Shows w 0 1 li I.length (IntL.all I)) (ho : StO w base ⟨pc, R, M, S, inn, O, cd, st⟩ r m s o) (hbase : base ≤ w.heap.size) (hcd : ¬ (cd ≠ 0 ∨ st = 400)) (hpl : ¬ pc = L.length) (hsel : 6 ≤ (L.getD pc.toNat ⟨0, 0, 0, 0⟩).f0 ∧ (L.getD pc.toNat ⟨0, 0, 0, 0⟩).f0 ≤ 8) :
    Calls Tryz.prog 33 #[.agg #[.int .i64 vw, .int .i64 vm, .int .i64 vi, sL], .agg #[.int .i64 pc, r, m, s, .int .i64 inn, o, .int .i64 cd, .int .i64 st], li] w (SqEnd r m s o base (stepV vw vm vi L I ⟨pc, R, M, S, inn, O, cd, st⟩) w) := by
  obtain ⟨XR, hXR⟩ : ∃ X, stepV vw vm vi L I ⟨pc, R, M, S, inn, O, cd, st⟩ = X := ⟨_, rfl⟩
  rw [hXR]
  have hml : maxLen = 9223372036854775807 := rfl
  obtain ⟨⟨hw2, hw8, hm1, hm6, _, hi0, hi3, hl1, hl40⟩, hins⟩ := pr_in hp
  have HINS := Lib.hid hins
  have hR : R.length = 4 := hG.hR
  have hM : (M.length : Int) = vm := hG.hM
  have hS3 : S.length ≤ 3 := hG.hS
  have hO6 : O.length ≤ 6 := hG.hO
  have hpc : 0 ≤ pc ∧ pc ≤ L.length := hG.pc
  have hinn : 0 ≤ inn ∧ inn ≤ vi := hG.inn
  have hst : 0 ≤ st ∧ st ≤ 400 := hG.st
  have HG := Lib.hid hG
  have HI := Lib.hid hI
  obtain ⟨gr, rc, rfl⟩ : ∃ g c, r = .slice (some ⟨g, 0, none⟩) 4 c := by have := own_some ho.1 (show 0 < R.length by omega); rw [show (StR.mk pc R M S inn O cd st).R.length = 4 from hR] at this; exact this
  obtain ⟨gm, mc, rfl⟩ := own_some ho.2.1 (show 0 < M.length by omega)
  obtain ⟨sq, sc, rfl⟩ := own_slice ho.2.2.1
  obtain ⟨oq, oc, rfl⟩ := own_slice ho.2.2.2.1
  have HS := Lib.hid hs
  have HLI := Lib.hid hli
  obtain ⟨_, q, cap, rfl, _⟩ := hs
  obtain ⟨_, iq, ic, rfl, _⟩ := hli
  have hgr : gr < w.heap.size := (ho.lt (g := gr) (by simp [StB, Value.ownBlock])).2
  have hgm : gm < w.heap.size := (ho.lt (g := gm) (by simp [StB, Value.ownBlock])).2
  have HR : Hid (∀ j, (h : j < L.length) → ∃ b o, q = some ⟨b, o, none⟩ ∧ b < w.heap.size ∧ ∀ W, Below w.heap.size w W → W.cell? ⟨b, o + j * 4, none⟩ = some (.int .i64 L[j].f0) ∧ W.cell? ⟨b, o + j * 4 + 1, none⟩ = some (.int .i64 L[j].f1) ∧ W.cell? ⟨b, o + j * 4 + 2, none⟩ = some (.int .i64 L[j].f2) ∧ W.cell? ⟨b, o + j * 4 + 3, none⟩ = some (.int .i64 L[j].f3)) := Lib.hid (fun j h => by
    rcases Cs.shows_cases HS.out with ⟨h0, _⟩ | ⟨_, b, o, c, hq, _, _, hbl, hr⟩
    · omega
    · injection hq with e1 e2 e3
      refine ⟨b, o, e1, hbl, fun W hW => ?_⟩
      have hh := flat_nth InsR.cells 4 (fun _ => rfl) L j h (rangeAt_below hW hr)
      exact ⟨hh 0 _ rfl, hh 1 _ rfl, hh 2 _ rfl, hh 3 _ rfl⟩)
  have HIN : Hid (∀ j, (h : j < I.length) → ∃ b o, iq = some ⟨b, o, none⟩ ∧ b < w.heap.size ∧ ∀ W, Below w.heap.size w W → W.cell? ⟨b, o + j, none⟩ = some (.int .i64 I[j])) := Lib.hid (fun j h => by
    rcases Cs.shows_cases HLI.out with ⟨h0, _⟩ | ⟨_, b, o, c, hq, _, _, hbl, hr⟩
    · omega
    · injection hq with e1 e2 e3
      refine ⟨b, o, e1, hbl, fun W hW => ?_⟩
      have hh := rangeAt_below hW hr j (.int .i64 I[j]) (by rw [IntL.all_map, List.getElem?_map, List.getElem?_eq_getElem h]; rfl)
      exact hh)
  obtain ⟨w0, hw0⟩ : ∃ w0, w0 = ((w.alloc (.cells #[.int .i64 vw, .int .i64 vm, .int .i64 vi, .slice q L.length cap] 32)).alloc (.cells #[.int .i64 pc, .slice (some ⟨gr, 0, none⟩) 4 rc, .slice (some ⟨gm, 0, none⟩) M.length mc, .slice sq S.length sc, .int .i64 inn, .slice oq O.length oc, .int .i64 cd, .int .i64 st] 52)).alloc (.cells #[.int .i64 0, .slice none 0 0, .slice none 0 0, .slice none 0 0, .int .i64 0, .slice none 0 0, .int .i64 0, .int .i64 0] 52) := ⟨_, rfl⟩
  have HB0 : Hid (Below w.heap.size w w0) := Lib.hid (by rw [hw0]; exact (((Below.refl _ _).alloc (Nat.le_refl _) _).alloc (by simp) _).alloc (by simp; omega) _)
  have hs0 : w0.heap.size = w.heap.size + 3 := by rw [hw0]; simp
  have X0 : Hid (Cell4 w0 w.heap.size (.int .i64 vw) (.int .i64 vm) (.int .i64 vi) (.slice q L.length cap)) := Lib.hid (by rw [hw0]; exact (cell4_alloc w 32 _ _ _ _).below (((Below.refl _ _).alloc (Nat.le_refl _) _).alloc (by simp) _))
  have XR0 : Hid (w0.heap[w.heap.size]? = some (.cells #[.int .i64 vw, .int .i64 vm, .int .i64 vi, .slice q L.length cap] 32 (0, 0))) := Lib.hid (by
    rw [hw0, heap_alloc_old _ _ (by simp; omega), heap_alloc_old _ _ (by simp)]
    exact heap_alloc_new _ _)
  have S0 : Hid (w0.heap[w.heap.size + 1]? = some (.cells #[.int .i64 pc, .slice (some ⟨gr, 0, none⟩) 4 rc, .slice (some ⟨gm, 0, none⟩) M.length mc, .slice sq S.length sc, .int .i64 inn, .slice oq O.length oc, .int .i64 cd, .int .i64 st] 52 (0, 0))) := Lib.hid (by
    rw [hw0, heap_alloc_old _ _ (by simp), ← show (w.alloc (.cells #[.int .i64 vw, .int .i64 vm, .int .i64 vi, .slice q L.length cap] 32)).heap.size = w.heap.size + 1 by simp]
    exact heap_alloc_new _ _)
  have Z0 : Hid (w0.heap[w.heap.size + 2]? = some (.cells #[.int .i64 0, .slice none 0 0, .slice none 0 0, .slice none 0 0, .int .i64 0, .slice none 0 0, .int .i64 0, .int .i64 0] 52 (0, 0))) := Lib.hid (by
    rw [hw0, ← show ((w.alloc (.cells #[.int .i64 vw, .int .i64 vm, .int .i64 vi, .slice q L.length cap] 32)).alloc (.cells #[.int .i64 pc, .slice (some ⟨gr, 0, none⟩) 4 rc, .slice (some ⟨gm, 0, none⟩) M.length mc, .slice sq S.length sc, .int .i64 inn, .slice oq O.length oc, .int .i64 cd, .int .i64 st] 52)).heap.size = w.heap.size + 2 by simp]
    exact heap_alloc_new _ _)
  have O0 := Lib.hid (ho.keep HB0.out)
  have HMV := Lib.hid hM
  clear ho hG hins hp hM hI
  · have hcd0 : cd = 0 := by by_cases h : cd = 0; exact h; exact absurd (.inl h) hcd
    have hst4 : ¬ st = 400 := fun h => hcd (.inr h)
    have hq : (cd != 0) = false := by simpa using hcd0
    have hq2 : (st == 400) = false := by simpa using hst4
    · obtain ⟨k, hk, hpk, hLk⟩ := getD_ins (L := L) hpc.1 (by omega)
      obtain ⟨b, o', hqe, hbl, hcells⟩ := HR.out k hk
      subst hqe
      have hik := HINS.out k hk
      obtain ⟨op, a, b', c, hLe⟩ : ∃ op a b c, L[k] = (⟨op, a, b, c⟩ : InsR) := ⟨_, _, _, _, rfl⟩
      rw [hLe] at hcells hik hLk
      simp only at hcells
      rw [hLk] at hsel
      simp only at hsel
      obtain ⟨c0, c1, c2, c3⟩ := hcells w0 HB0.out
      have hq3 : (pc == (L.length : Int)) = false := by simpa using hpl
      have hkl : (k : Int) < (L.length : Int) := by omega
      have KW := Lib.hid (fun W h1 h2 => s_why vw vm vi L.length (some ⟨b, o', none⟩) L.length cap ⟨pc, R, M, S, inn, O, 0, st + 1⟩ gr rc (some ⟨gm, 0, none⟩) M.length mc sq oq sc oc op a b' c W hR h1 h2 hik)
      obtain ⟨V, hV⟩ : ∃ V, whyV vm vi ⟨pc, R, M, S, inn, O, 0, st + 1⟩ ⟨op, a, b', c⟩ = V := ⟨_, rfl⟩
      rw [hV] at KW
      have hstep : stepV vw vm vi L I ⟨pc, R, M, S, inn, O, cd, st⟩ = if V ≠ 0 then ⟨pc, R, M, S, inn, O, V, st + 1⟩ else (doX vw I ⟨pc, R, M, S, inn, O, 0, st + 1⟩ (pc + 1) ⟨op, a, b', c⟩).goto (doN ⟨pc, R, M, S, inn, O, 0, st + 1⟩ (pc + 1) ⟨op, a, b', c⟩) := by
        have hwv : whyV vm vi ⟨pc, R, M, S, inn, O, cd, st⟩ ⟨op, a, b', c⟩ = V := hV
        unfold stepV
        rw [if_neg hcd, if_neg hpl]
        show (if whyV vm vi ⟨pc, R, M, S, inn, O, cd, st⟩ (L.getD pc.toNat ⟨0, 0, 0, 0⟩) ≠ 0 then _ else _) = _
        rw [hLk, hwv, hcd0]
        rfl
      have HV := Lib.hid (hXR.symm.trans hstep)
      clear hstep hXR hcd hpl hLe hLk
      subst hcd0 hpk
      obtain ⟨x0, x1, x2, x3⟩ := X0.out
      obtain ⟨d0, d1, d2, d3, d4, d5, d6, d7⟩ := cell8_row S0.out
      rw [hw0] at x0 x1 x2 x3 d0 d1 d2 d3 d4 d5 d6 d7
      go_enter Tryz.func33, Tryz.ntmps33
      go_upto_region 6 with fail
      rw [← hw0]
      clear hw0 x0 x1 x2 x3 d0 d1 d2 d3 d4 d5 d6 d7
      have hst1 : st + 1 ≤ 401 := by omega
      obtain ⟨x0, x1, x2, x3⟩ := X0.out
      obtain ⟨d0, d1, d2, d3, d4, d5, d6, d7⟩ := cell8_row S0.out
      obtain ⟨f0, f1, f2, f3, f4, f5, f6, f7⟩ := froz8_row S0.out
      have hzb : b < w0.heap.size := by omega
      have hz0 : w.heap.size < w0.heap.size := by omega
      have hz1 : w.heap.size + 1 < w0.heap.size := by omega
      have hz2 : w.heap.size + 1 < w0.heap.size + 1 := by omega
      go_upto_region 8 with fail
      clear x0 x1 x2 x3 d0 d1 d2 d3 d4 d5 d6 d7 f0 f1 f2 f3 f4 f5 f6 f7 c0 c1 c2 c3
      obtain ⟨w1, hw1⟩ : ∃ V, V = (w0.setCell ⟨w.heap.size + 1, 7, none⟩ (.int .i64 (st + 1))).alloc (.cells #[.int .i64 op, .int .i64 a, .int .i64 b', .int .i64 c] 55) := ⟨_, rfl⟩
      have hs1 : w1.heap.size = w.heap.size + 4 := by rw [hw1]; simp; omega
      have BS := Lib.hid (show Below w.heap.size w w1 by rw [hw1]; exact (HB0.out.setCell (by simp) _).alloc (by simp; omega) _)
      have XR1 := Lib.hid (show w1.heap[w.heap.size]? = some (.cells #[.int .i64 vw, .int .i64 vm, .int .i64 vi, .slice (some ⟨b, o', none⟩) L.length cap] 32 (0, 0)) by rw [hw1, heap_alloc_old _ _ (by simp; omega), heap_setCell_other _ _ _ _ (by simp)]; exact XR0.out)
      have SR1 := Lib.hid (show w1.heap[w.heap.size + 1]? = some (.cells #[.int .i64 (k : Int), .slice (some ⟨gr, 0, none⟩) 4 rc, .slice (some ⟨gm, 0, none⟩) M.length mc, .slice sq S.length sc, .int .i64 inn, .slice oq O.length oc, .int .i64 0, .int .i64 (st + 1)] 52 (0, 0)) by rw [hw1, heap_alloc_old _ _ (by simp; omega)]; exact heap_setCell_same w0 _ 7 _ _ _ S0.out)
      have ZR1 := Lib.hid (show w1.heap[w.heap.size + 2]? = some (.cells #[.int .i64 0, .slice none 0 0, .slice none 0 0, .slice none 0 0, .int .i64 0, .slice none 0 0, .int .i64 0, .int .i64 0] 52 (0, 0)) by rw [hw1, heap_alloc_old _ _ (by simp; omega), heap_setCell_other _ _ _ _ (by simp)]; exact Z0.out)
      have IR1 := Lib.hid (show w1.heap[w.heap.size + 3]? = some (.cells #[.int .i64 op, .int .i64 a, .int .i64 b', .int .i64 c] 55 (0, 0)) by rw [hw1, ← hs0, ← show (w0.setCell ⟨w.heap.size + 1, 7, none⟩ (.int .i64 (st + 1))).heap.size = w0.heap.size by simp]; exact heap_alloc_new _ _)
      have O1 : Hid (StO w1 base ⟨(k : Int), R, M, S, inn, O, 0, st + 1⟩ _ _ _ _) := Lib.hid (by rw [hw1]; exact ((O0.out.aside (O0.out.off (T := 52) (by decide) S0.out) 7 _).like rfl rfl rfl rfl).keep ((Below.refl _ _).alloc (Nat.le_refl _) _))
      rw [← hw1]
      clear hw1
      obtain ⟨x0, x1, x2, x3⟩ := cell4_row XR1.out
      obtain ⟨i0, i1, i2, i3⟩ := cell4_row IR1.out
      obtain ⟨d0, d1, d2, d3, d4, d5, d6, d7⟩ := cell8_row SR1.out
      go_wp2_with fail
      clear x0 x1 x2 x3 i0 i1 i2 i3 d0 d1 d2 d3 d4 d5 d6 d7
      refine (KW.out _ (by omega) (fun j hj => (own_cell (n := 4) (by have h := O1.out.1; rw [show (StR.mk (k : Int) R M S inn O 0 (st + 1)).R.length = 4 from hR] at h; exact h) hR j hj).1)).mono ?_
      rintro e w2 ⟨rfl, hb⟩
      have hs2 := hb.size
      have B2 := Lib.hid (BS.out.trans (hb.mono BS.out.size))
      have XR2 := Lib.hid ((hb.block w.heap.size (by omega)).trans XR1.out)
      have SR2 := Lib.hid ((hb.block (w.heap.size + 1) (by omega)).trans SR1.out)
      have ZR2 := Lib.hid ((hb.block (w.heap.size + 2) (by omega)).trans ZR1.out)
      have IR2 := Lib.hid ((hb.block (w.heap.size + 3) (by omega)).trans IR1.out)
      have O2 := Lib.hid (O1.out.keep hb)
      clear hb
      obtain ⟨d0, d1, d2, d3, d4, d5, d6, d7⟩ := cell8_row SR2.out
      obtain ⟨f0, f1, f2, f3, f4, f5, f6, f7⟩ := froz8_row SR2.out
      by_cases hV0 : V = 0
      case neg =>
        have HX : Hid (XR = ⟨(k : Int), R, M, S, inn, O, V, st + 1⟩) := Lib.hid (by rw [HV.out, if_pos hV0])
        have hqv : (V != 0) = true := by simpa using hV0
        clear hV0 hV
        go_upto_region 10 with fail
        clear d0 d1 d2 d3 d4 d5 d6 d7 f0 f1 f2 f3 f4 f5 f6 f7
        obtain ⟨w3, hw3⟩ : ∃ V', V' = w2.setCell ⟨w.heap.size + 1, 6, none⟩ (.int .i64 V) := ⟨_, rfl⟩
        have SA := Lib.hid (show w3.heap[w.heap.size + 1]? = some (.cells #[.int .i64 (k : Int), .slice (some ⟨gr, 0, none⟩) 4 rc, .slice (some ⟨gm, 0, none⟩) M.length mc, .slice sq S.length sc, .int .i64 inn, .slice oq O.length oc, .int .i64 V, .int .i64 (st + 1)] 52 (0, 0)) by rw [hw3]; exact heap_setCell_same w2 _ 6 _ _ _ SR2.out)
        have ZA := Lib.hid (show w3.heap[w.heap.size + 2]? = some (.cells #[.int .i64 0, .slice none 0 0, .slice none 0 0, .slice none 0 0, .int .i64 0, .slice none 0 0, .int .i64 0, .int .i64 0] 52 (0, 0)) by rw [hw3, heap_setCell_other _ _ _ _ (by simp)]; exact ZR2.out)
        have BA := Lib.hid (show Apart (StB (.slice (some ⟨gr, 0, none⟩) 4 rc) (.slice (some ⟨gm, 0, none⟩) M.length mc) (.slice sq S.length sc) (.slice oq O.length oc)) w w3 by rw [hw3]; exact (Apart.of_below B2.out).above (p := ⟨w.heap.size + 1, 6, none⟩) (by simp) _)
        have OA : Hid (StO w3 base ⟨(k : Int), R, M, S, inn, O, V, st + 1⟩ _ _ _ _) := Lib.hid (by rw [hw3]; exact (O2.out.aside (O2.out.off (T := 52) (by decide) SR2.out) 6 _).like rfl rfl rfl rfl)
        rw [← hw3]
        clear hw3
        have SR := Lib.hid (SA.out)
        have ZR := Lib.hid (ZA.out)
        have BB := Lib.hid (BA.out)
        have OO := Lib.hid (OA.out)
        obtain ⟨d0, d1, d2, d3, d4, d5, d6, d7⟩ := cell8_row SR.out
        obtain ⟨g0, g1, g2, g3, g4, g5, g6, g7⟩ := cell8_row ZR.out
        obtain ⟨f0, f1, f2, f3, f4, f5, f6, f7⟩ := froz8_row ZR.out
        go_wp2
        obtain ⟨WE, hWE⟩ : ∃ W9, W9 = ((((((((w3.setCell ⟨w.heap.size + 2, 0, none⟩ (.int .i64 (k : Int))).setCell ⟨w.heap.size + 2, 1, none⟩ (.slice (some ⟨gr, 0, none⟩) 4 rc)).setCell ⟨w.heap.size + 2, 2, none⟩ (.slice (some ⟨gm, 0, none⟩) M.length mc)).setCell ⟨w.heap.size + 2, 3, none⟩ (.slice sq S.length sc)).setCell ⟨w.heap.size + 2, 4, none⟩ (.int .i64 inn)).setCell ⟨w.heap.size + 2, 5, none⟩ (.slice oq O.length oc)).setCell ⟨w.heap.size + 2, 6, none⟩ (.int .i64 V)).setCell ⟨w.heap.size + 2, 7, none⟩ (.int .i64 (st + 1))) := ⟨_, rfl⟩
        have D2 := Lib.hid (show WE.heap[w.heap.size + 2]? = some (.cells #[.int .i64 (k : Int), .slice (some ⟨gr, 0, none⟩) 4 rc, .slice (some ⟨gm, 0, none⟩) M.length mc, .slice sq S.length sc, .int .i64 inn, .slice oq O.length oc, .int .i64 V, .int .i64 (st + 1)] 52 (0, 0)) by rw [hWE]; exact set8_row ZR.out _ _ _ _ _ _ _ _)
        have BE := Lib.hid (show Apart _ w WE by rw [hWE]; exact set8_apart BB.out (by omega) _ _ _ _ _ _ _ _)
        have OE := Lib.hid (show StO WE base _ _ _ _ _ by rw [hWE]; exact OO.out.set8 (OO.out.off (T := 52) (by decide) ZR.out) _ _ _ _ _ _ _ _)
        rw [← hWE]
        clear hWE d0 d1 d2 d3 d4 d5 d6 d7 g0 g1 g2 g3 g4 g5 g6 g7
        obtain ⟨d0, d1, d2, d3, d4, d5, d6, d7⟩ := cell8_row D2.out
        refine bodyPost_ret (v := .agg #[.int .i64 (k : Int), .slice (some ⟨gr, 0, none⟩) 4 rc, .slice (some ⟨gm, 0, none⟩) M.length mc, .slice sq S.length sc, .int .i64 inn, .slice oq O.length oc, .int .i64 V, .int .i64 (st + 1)]) (by simp [results, Tryz.results33, go_sem, d0, d1, d2, d3, d4, d5, d6, d7]) rfl ?_
        rw [HX.out]
        exact ⟨_, _, _, _, rfl, OE.out, BE.out, fun g hg => .inl hg⟩
      case pos =>
        subst hV0
        have HDO := Lib.hid (show XR = (doX vw I ⟨(k : Int), R, M, S, inn, O, 0, st + 1⟩ ((k : Int) + 1) ⟨op, a, b', c⟩).goto (doN ⟨(k : Int), R, M, S, inn, O, 0, st + 1⟩ ((k : Int) + 1) ⟨op, a, b', c⟩) by rw [HV.out, if_neg (by simp)])
        have hqv : ((0 : Int) != 0) = false := rfl
        have hk41 : (k : Int) + 1 ≤ 41 := by omega
        go_upto_region 12 with fail
        clear d0 d1 d2 d3 d4 d5 d6 d7 f0 f1 f2 f3 f4 f5 f6 f7 hqv HV
        obtain ⟨w3, hw3⟩ : ∃ V', V' = (w2.setCell ⟨w.heap.size + 1, 6, none⟩ (.int .i64 0)).setCell ⟨w.heap.size + 1, 0, none⟩ (.int .i64 ((k : Int) + 1)) := ⟨_, rfl⟩
        have hs3 : w.heap.size + 4 ≤ w3.heap.size := by rw [hw3]; simp; omega
        have SR3 := Lib.hid (show w3.heap[w.heap.size + 1]? = some (.cells #[.int .i64 ((k : Int) + 1), .slice (some ⟨gr, 0, none⟩) 4 rc, .slice (some ⟨gm, 0, none⟩) M.length mc, .slice sq S.length sc, .int .i64 inn, .slice oq O.length oc, .int .i64 0, .int .i64 (st + 1)] 52 (0, 0)) by rw [hw3]; exact heap_setCell_same _ _ 0 _ _ _ (heap_setCell_same w2 _ 6 _ _ _ SR2.out))
        have ZR3 := Lib.hid (show w3.heap[w.heap.size + 2]? = some (.cells #[.int .i64 0, .slice none 0 0, .slice none 0 0, .slice none 0 0, .int .i64 0, .slice none 0 0, .int .i64 0, .int .i64 0] 52 (0, 0)) by rw [hw3, heap_setCell_other _ _ _ _ (by simp), heap_setCell_other _ _ _ _ (by simp)]; exact ZR2.out)
        have XR3 := Lib.hid (show w3.heap[w.heap.size]? = some (.cells #[.int .i64 vw, .int .i64 vm, .int .i64 vi, .slice (some ⟨b, o', none⟩) L.length cap] 32 (0, 0)) by rw [hw3, heap_setCell_other _ _ _ _ (by simp), heap_setCell_other _ _ _ _ (by simp)]; exact XR2.out)
        have IR3 := Lib.hid (show w3.heap[w.heap.size + 3]? = some (.cells #[.int .i64 op, .int .i64 a, .int .i64 b', .int .i64 c] 55 (0, 0)) by rw [hw3, heap_setCell_other _ _ _ _ (by simp), heap_setCell_other _ _ _ _ (by simp)]; exact IR2.out)
        have BC3 := Lib.hid (show Below w.heap.size w w3 by rw [hw3]; exact (B2.out.setCell (by simp) _).setCell (by simp) _)
        have BB3 := Lib.hid (show Apart (StB (.slice (some ⟨gr, 0, none⟩) 4 rc) (.slice (some ⟨gm, 0, none⟩) M.length mc) (.slice sq S.length sc) (.slice oq O.length oc)) w w3 from Apart.of_below BC3.out)
        have O3 : Hid (StO w3 base ⟨(k : Int) + 1, R, M, S, inn, O, 0, st + 1⟩ _ _ _ _) := Lib.hid (by rw [hw3]; exact ((O2.out.aside (O2.out.off (T := 52) (by decide) SR2.out) 6 _).aside (O2.out.off (T := 52) (by decide) SR2.out) 0 _).like rfl rfl rfl rfl)
        rw [← hw3]
        clear hw3 SR2 ZR2 XR2 IR2 O2 SR1 ZR1 XR1 IR1 O1 S0 Z0 O0 XR0
        have OR3 : Hid (w3.ownsRow base 3 1 (.slice (some ⟨gr, 0, none⟩) 4 rc) 4 (IntL.all R)) := Lib.hid (by have h := O3.out.1; rw [show (StR.mk ((k : Int) + 1) R M S inn O 0 (st + 1)).R.length = 4 from hR] at h; exact h)
        have HCR := Lib.hid (fun j (hj : j < 4) => own_cell OR3.out hR j (by omega))
        have hgr3 : gr < w3.heap.size := by omega
        have hgm3 : gm < w3.heap.size := by omega
        obtain ⟨hop, hA, hB, hC⟩ := ins_parts hik
        simp only at hop hA hB hC
        obtain ⟨i0, i1, i2, i3⟩ := cell4_row IR3.out
        rcases op_cases op with rfl | rfl | rfl | rfl | rfl | rfl | rfl | rfl | rfl | rfl | rfl | rfl | rfl | rfl | hbad
        case inr.inr.inr.inr.inr.inr.inr.inr.inr.inr.inr.inr.inr.inr => omega
        · omega
        · omega
        · omega
        · omega
        · omega
        · -- 6
          obtain ⟨ka, hpka⟩ : ∃ j : Nat, a = j := ⟨a.toNat, by have := reg_of hA; omega⟩
          have hka : ka < 4 := by have := reg_of hA; omega
          have hkai : (ka : Int) < 4 := by omega
          have hwka := HG.out.reg (reg_of hA)
          subst hpka
          obtain ⟨cka, fka⟩ := HCR.out ka hka
          have HAka := Lib.hid (atI_nat R ka (by omega))
          obtain ⟨i9, hi9, hz9, hzs9, hzb9⟩ := info_parts zero_Int
          have hwhy : (if O.length = 6 then 4 else 0 : Int) = 0 := hV
          have hne : ¬ (O.length = 6) := fun h => by rw [if_pos h] at hwhy; cases hwhy
          clear hwhy
          obtain ⟨x0, x1, x2, x3⟩ := cell4_row XR3.out
          obtain ⟨d0, d1, d2, d3, d4, d5, d6, d7⟩ := cell8_row SR3.out
          obtain ⟨s0, s1, s2, s3, s4, s5, s6, s7⟩ := froz8_row SR3.out
          go_upto_region 25 with fail
          skip -- x0 x1 x2 x3 d0 d1 d2 d3 d4 d5 d6 d7 s0 s1 s2 s3 s4 s5 s6 s7 i0 i1 i2 i3
          have CH : Hid (w3.cell? ⟨w.heap.size + 1, 5, none⟩ = some (.slice oq O.length oc) ∧ w3.cell? ⟨w.heap.size + 1, 1, none⟩ = some (.slice (some ⟨gr, 0, none⟩) 4 rc) ∧ w3.cell? ⟨w.heap.size + 3, 1, none⟩ = some (.int .i64 ka) ∧ w3.cell? ⟨gr, ka, none⟩ = some (.int .i64 R[ka])) := Lib.hid ⟨by assumption, by assumption, by assumption, by assumption⟩
          refine region_s [11] (fun V => V.cell? ⟨w.heap.size + 1, 5, none⟩ = some (.slice oq O.length oc) ∧ V.cell? ⟨w.heap.size + 1, 1, none⟩ = some (.slice (some ⟨gr, 0, none⟩) 4 rc) ∧ V.cell? ⟨w.heap.size + 3, 1, none⟩ = some (.int .i64 ka) ∧ V.cell? ⟨gr, ka, none⟩ = some (.int .i64 R[ka])) (by kernel_rfl) ?_
          refine take_s (i := 0) (v := .pointer (some ⟨w.heap.size + 1, 5, none⟩)) rfl (by kernel_rfl) (fun _ _ _ h => h) CH.out rfl (fun V hV => ?_) ?_
          · go_simp
          refine take_s (i := 1) (v := .slice oq O.length oc) rfl (by kernel_rfl) (fun _ _ _ h => h) CH.out rfl (fun V hV => ?_) ?_
          · obtain ⟨t0, t1, t2, t3⟩ := hV; go_simp
          refine take_s (i := 2) (v := .pointer (some ⟨w.heap.size + 1, 1, none⟩)) rfl (by kernel_rfl) (fun _ _ _ h => h) CH.out rfl (fun V hV => ?_) ?_
          · go_simp
          refine take_s (i := 3) (v := .slice (some ⟨gr, 0, none⟩) 4 rc) rfl (by kernel_rfl) (fun _ _ _ h => h) CH.out rfl (fun V hV => ?_) ?_
          · obtain ⟨t0, t1, t2, t3⟩ := hV; go_simp
          refine take_s (i := 4) (v := .pointer (some ⟨w.heap.size + 3, 1, none⟩)) rfl (by kernel_rfl) (fun _ _ _ h => h) CH.out rfl (fun V hV => ?_) ?_
          · go_simp
          refine take_s (i := 5) (v := .int .i64 ka) rfl (by kernel_rfl) (fun _ _ _ h => h) CH.out rfl (fun V hV => ?_) ?_
          · obtain ⟨t0, t1, t2, t3⟩ := hV; go_simp
          refine take_s (i := 6) (v := .pointer (some ⟨gr, ka, none⟩)) rfl (by kernel_rfl) (fun _ _ _ h => h) CH.out rfl (fun V hV => ?_) ?_
          · go_simp
          refine take_s (i := 7) (v := .int .i64 R[ka]) rfl (by kernel_rfl) (fun _ _ _ h => h) CH.out rfl (fun V hV => ?_) ?_
          · obtain ⟨t0, t1, t2, t3⟩ := hV; go_simp
          refine one_s (i := 8) (by kernel_rfl) (op_list rfl ?_)
          go_wp2
          obtain ⟨wa, hwa⟩ : ∃ W9, W9 = (w3.alloc (.cells #[.int .i64 R[ka]] 3)).drew := ⟨_, rfl⟩
          have BW := Lib.hid (show Below w3.heap.size w3 wa by rw [hwa]; exact ((Below.refl _ _).alloc (Nat.le_refl _) _).drew)
          have hca := Lib.hid (show ∀ j u, [Value.int .i64 R[ka]][j]? = some u → wa.cell? ((⟨w3.heap.size, 0, none⟩ : Addr).add j) = some u by rw [hwa]; exact fun j u hj => cell_one_new w3 _ 3 j u hj)
          have hsa : wa.heap.size = w3.heap.size + 1 := by rw [hwa]; show (w3.alloc _).heap.size = _; simp
          have SRa := Lib.hid ((BW.out.block (w.heap.size + 1) (by omega)).trans SR3.out)
          have ZRa := Lib.hid ((BW.out.block (w.heap.size + 2) (by omega)).trans ZR3.out)
          have Oa := Lib.hid (O3.out.keep BW.out)
          have Ba := Lib.hid (BB3.out.trans (Apart.of_below BW.out))
          rw [← hwa]
          clear hwa
          obtain ⟨q0, q1, q2, q3⟩ := CH.out
          have hz8 : w.heap.size + 1 < w3.heap.size := by omega
          have hz9' : w.heap.size + 3 < w3.heap.size := by omega
          refine ⟨fun _ => ⟨(BW.out.cell hz8).trans q0, (BW.out.cell hz8).trans q1, (BW.out.cell hz9').trans q2, (BW.out.cell hgr3).trans q3⟩, ?_⟩
          clear q0 q1 q2 q3
          refine one_s (i := 9) (by kernel_rfl) (op_list rfl ?_)
          refine wpList_append_own_at _ rfl _ _ 28 rfl base 3 i9 (.int .i64 0) 1 8 Tryz.underlying28 hi9 hz9 hzs9 hzb9 rfl (by decide) (.slice oq O.length oc) O.length _ rfl (Oa.out.2.2.2.1) _ 1 1 [.int .i64 R[ka]] rfl rfl ?c1 ?c2 ?c3 ?c4 ?c5 ?_
          case c1 => exact hca.out
          case c2 => intro u hu; simp at hu; subst hu; rfl
          case c3 => unfold maxLen; omega
          case c4 => omega
          case c5 => have := Ba.out.size; omega
          intro v' wb hown hgrow _ hat
          obtain ⟨q', c', rfl⟩ := own_slice hown
          have Ob : Hid (StO wb base ⟨(k : Int) + 1, R, M, S, inn, O ++ [R[ka]], 0, st + 1⟩ _ _ _ (.slice q' (O.length + 1) c')) := Lib.hid (Oa.out.grow_o hgrow (by show wb.ownsRow base 3 1 (.slice q' (O.length + 1) c') (O ++ [R[ka]]).length (IntL.all (O ++ [R[ka]])); rw [List.length_append, IntL.all_map, List.map_append, ← IntL.all_map]; exact hown) hat rfl rfl rfl)
          have Bb := Lib.hid (Ba.out.grown hgrow (fun j hj => .inl (show j ∈ StB (.slice (some ⟨gr, 0, none⟩) 4 rc) (.slice (some ⟨gm, 0, none⟩) M.length mc) (.slice sq S.length sc) (.slice oq O.length oc) by unfold StB; rw [hj]; simp)))
          have hsub := Lib.hid (show ∀ g ∈ (.slice q' (O.length + 1) c' : Value).ownBlock.toList, g ∈ (.slice oq O.length oc : Value).ownBlock.toList ∨ w.heap.size ≤ g from fun g hg => by
            rcases hat with h | h
            · rw [h] at hg; exact .inl hg
            · rw [h] at hg; simp at hg; exact .inr (by omega))
          have hnb : ∀ j, j < w3.heap.size → j ∉ StB (.slice (some ⟨gr, 0, none⟩) 4 rc) (.slice (some ⟨gm, 0, none⟩) M.length mc) (.slice sq S.length sc) (.slice oq O.length oc) → wb.heap[j]? = wa.heap[j]? := fun j hj hn => hgrow.block j (by omega) (fun e => hn (by unfold StB; rw [← e]; simp))
          have SRb := Lib.hid ((hnb (w.heap.size + 1) (by omega) (Oa.out.off (T := 52) (by decide) SRa.out)).trans SRa.out)
          have ZRb := Lib.hid ((hnb (w.heap.size + 2) (by omega) (Oa.out.off (T := 52) (by decide) ZRa.out)).trans ZRa.out)
          obtain ⟨qc, -⟩ := own_cell2 (l := R) Ob.out.1 ka (by omega)
          have IRb : wb.heap[w.heap.size + 3]? = wa.heap[w.heap.size + 3]? := hnb _ (by omega) (Oa.out.off (T := 55) (by decide) ((BW.out.block (w.heap.size + 3) (by omega)).trans IR3.out))
          clear hnb hgrow hown hat
          refine ⟨fun _ => ⟨cell_of_row _ _ 5 _ _ _ SRb.out, cell_of_row _ _ 1 _ _ _ SRb.out, cell_of_row _ _ 1 _ _ _ (IRb.trans ((BW.out.block (w.heap.size + 3) (by omega)).trans IR3.out)), qc⟩, ?_⟩
          have CB := Lib.hid (show _ ∧ _ ∧ _ ∧ _ from ⟨cell_of_row _ _ 5 _ _ _ SRb.out, cell_of_row _ _ 1 _ _ _ SRb.out, cell_of_row _ _ 1 _ _ _ (IRb.trans ((BW.out.block (w.heap.size + 3) (by omega)).trans IR3.out)), qc⟩)
          clear qc IRb
          refine one_s (i := 10) (by kernel_rfl) (op_list rfl ?_)
          go_wp2
          refine ⟨fun _ => CB.out, ?_⟩
          refine one_s (i := 11) (by kernel_rfl) (op_list rfl ?_)
          clear x0 x1 x2 x3 d0 d1 d2 d3 d4 d5 d6 d7 s0 s1 s2 s3 s4 s5 s6 s7 i0 i1 i2 i3
          obtain ⟨d0, d1, d2, d3, d4, d5, d6, d7⟩ := cell8_row SRb.out
          obtain ⟨s0, s1, s2, s3, s4, s5, s6, s7⟩ := froz8_row SRb.out
          go_wp2
          refine ⟨late_s (by kernel_rfl), done_s (by kernel_rfl) ?_ _⟩
          go_upto_region 42 with fail
          clear d0 d1 d2 d3 d4 d5 d6 d7 s0 s1 s2 s3 s4 s5 s6 s7
          have HX : Hid (XR = ⟨(k : Int) + 1, R, M, S, inn, O ++ [R[ka]], 0, st + 1⟩) := Lib.hid (by rw [HDO.out, ← HAka.out]; rfl)
          obtain ⟨w4, hw4⟩ : ∃ W9, W9 = wb.setCell ⟨w.heap.size + 1, 5, none⟩ (.slice q' (O.length + 1) c') := ⟨_, rfl⟩
          have SA := Lib.hid (show w4.heap[w.heap.size + 1]? = some (.cells #[.int .i64 ((k : Int) + 1), .slice (some ⟨gr, 0, none⟩) 4 rc, .slice (some ⟨gm, 0, none⟩) M.length mc, .slice sq S.length sc, .int .i64 inn, .slice q' (O.length + 1) c', .int .i64 0, .int .i64 (st + 1)] 52 (0, 0)) by rw [hw4]; exact heap_setCell_same _ _ 5 _ _ _ SRb.out)
          have ZA := Lib.hid (show w4.heap[w.heap.size + 2]? = some (.cells #[.int .i64 0, .slice none 0 0, .slice none 0 0, .slice none 0 0, .int .i64 0, .slice none 0 0, .int .i64 0, .int .i64 0] 52 (0, 0)) by rw [hw4, heap_setCell_other _ _ _ _ (by simp)]; exact ZRb.out)
          have OA : Hid (StO w4 base ⟨(k : Int) + 1, R, M, S, inn, O ++ [R[ka]], 0, st + 1⟩ _ _ _ _) := Lib.hid (by rw [hw4]; exact Ob.out.aside (Ob.out.off (T := 52) (by decide) SRb.out) 5 _)
          have BA := Lib.hid (show Apart (StB (.slice (some ⟨gr, 0, none⟩) 4 rc) (.slice (some ⟨gm, 0, none⟩) M.length mc) (.slice sq S.length sc) (.slice oq O.length oc)) w w4 by rw [hw4]; exact Bb.out.above (p := ⟨w.heap.size + 1, 5, none⟩) (by simp) _)
          rw [← hw4]
          clear hw4
          have SR := Lib.hid (SA.out)
          have ZR := Lib.hid (ZA.out)
          have BB := Lib.hid (BA.out)
          have OO := Lib.hid (OA.out)
          obtain ⟨d0, d1, d2, d3, d4, d5, d6, d7⟩ := cell8_row SR.out
          obtain ⟨g0, g1, g2, g3, g4, g5, g6, g7⟩ := cell8_row ZR.out
          obtain ⟨f0, f1, f2, f3, f4, f5, f6, f7⟩ := froz8_row ZR.out
          go_wp2
          obtain ⟨WE, hWE⟩ : ∃ W9, W9 = ((((((((w4.setCell ⟨w.heap.size + 2, 0, none⟩ (.int .i64 ((k : Int) + 1))).setCell ⟨w.heap.size + 2, 1, none⟩ (.slice (some ⟨gr, 0, none⟩) 4 rc)).setCell ⟨w.heap.size + 2, 2, none⟩ (.slice (some ⟨gm, 0, none⟩) M.length mc)).setCell ⟨w.heap.size + 2, 3, none⟩ (.slice sq S.length sc)).setCell ⟨w.heap.size + 2, 4, none⟩ (.int .i64 inn)).setCell ⟨w.heap.size + 2, 5, none⟩ (.slice q' (O.length + 1) c')).setCell ⟨w.heap.size + 2, 6, none⟩ (.int .i64 0)).setCell ⟨w.heap.size + 2, 7, none⟩ (.int .i64 (st + 1))) := ⟨_, rfl⟩
          have D2 := Lib.hid (show WE.heap[w.heap.size + 2]? = some (.cells #[.int .i64 ((k : Int) + 1), .slice (some ⟨gr, 0, none⟩) 4 rc, .slice (some ⟨gm, 0, none⟩) M.length mc, .slice sq S.length sc, .int .i64 inn, .slice q' (O.length + 1) c', .int .i64 0, .int .i64 (st + 1)] 52 (0, 0)) by rw [hWE]; exact set8_row ZR.out _ _ _ _ _ _ _ _)
          have BE := Lib.hid (show Apart _ w WE by rw [hWE]; exact set8_apart BB.out (by omega) _ _ _ _ _ _ _ _)
          have OE := Lib.hid (show StO WE base _ _ _ _ _ by rw [hWE]; exact OO.out.set8 (OO.out.off (T := 52) (by decide) ZR.out) _ _ _ _ _ _ _ _)
          rw [← hWE]
          clear hWE d0 d1 d2 d3 d4 d5 d6 d7 g0 g1 g2 g3 g4 g5 g6 g7
          obtain ⟨d0, d1, d2, d3, d4, d5, d6, d7⟩ := cell8_row D2.out
          refine bodyPost_ret (v := .agg #[.int .i64 ((k : Int) + 1), .slice (some ⟨gr, 0, none⟩) 4 rc, .slice (some ⟨gm, 0, none⟩) M.length mc, .slice sq S.length sc, .int .i64 inn, .slice q' (O.length + 1) c', .int .i64 0, .int .i64 (st + 1)]) (by simp [results, Tryz.results33, go_sem, d0, d1, d2, d3, d4, d5, d6, d7]) rfl ?_
          rw [HX.out]
          exact ⟨_, _, _, _, rfl, OE.out, BE.out, sub_o hsub.out⟩
        · -- 7
          obtain ⟨ka, hpka⟩ : ∃ j : Nat, a = j := ⟨a.toNat, by have := reg_of hA; omega⟩
          have hka : ka < 4 := by have := reg_of hA; omega
          have hkai : (ka : Int) < 4 := by omega
          have hwka := HG.out.reg (reg_of hA)
          subst hpka
          obtain ⟨cka, fka⟩ := HCR.out ka hka
          have HAka := Lib.hid (atI_nat R ka (by omega))
          obtain ⟨kb, hpkb⟩ : ∃ j : Nat, b' = j := ⟨b'.toNat, by have := reg_of hB; omega⟩
          have hkb : kb < 4 := by have := reg_of hB; omega
          have hkbi : (kb : Int) < 4 := by omega
          have hwkb := HG.out.reg (reg_of hB)
          subst hpkb
          obtain ⟨ckb, fkb⟩ := HCR.out kb hkb
          have HAkb := Lib.hid (atI_nat R kb (by omega))
          obtain ⟨x0, x1, x2, x3⟩ := cell4_row XR3.out
          obtain ⟨d0, d1, d2, d3, d4, d5, d6, d7⟩ := cell8_row SR3.out
          obtain ⟨s0, s1, s2, s3, s4, s5, s6, s7⟩ := froz8_row SR3.out
          have OM3 : Hid (w3.ownsRow base 3 1 (.slice (some ⟨gm, 0, none⟩) M.length mc) M.length (IntL.all M)) := Lib.hid O3.out.2.1
          have hxkb := hwkb
          rw [HAkb.out] at hxkb
          have hwhy : (if vm ≤ atI R kb then 5 else 0 : Int) = 0 := hV
          have hne : ¬ (vm ≤ atI R kb) := fun h => by rw [if_pos h] at hwhy; cases hwhy
          clear hwhy
          rw [HAkb.out] at hne
          obtain ⟨km, hkm⟩ : ∃ j : Nat, R[kb] = j := ⟨R[kb].toNat, by have := hxkb.2.2.1; omega⟩
          have hkml : km < M.length := by have := HMV.out; omega
          have hkmi : (km : Int) < (M.length : Int) := by omega
          rw [hkm] at ckb
          obtain ⟨cm, fm⟩ := own_cell OM3.out rfl km hkml
          have HAm := Lib.hid (atI_nat M km hkml)
          have HKM := Lib.hid hkm
          clear hkm
          go_upto_region 27 with fail
          skip -- x0 x1 x2 x3 d0 d1 d2 d3 d4 d5 d6 d7 s0 s1 s2 s3 s4 s5 s6 s7 i0 i1 i2 i3
          have CH : Hid (w3.cell? ⟨w.heap.size + 1, 1, none⟩ = some (.slice (some ⟨gr, 0, none⟩) 4 rc) ∧ w3.cell? ⟨w.heap.size + 1, 2, none⟩ = some (.slice (some ⟨gm, 0, none⟩) M.length mc) ∧ w3.cell? ⟨w.heap.size + 3, 1, none⟩ = some (.int .i64 ka) ∧ w3.cell? ⟨w.heap.size + 3, 2, none⟩ = some (.int .i64 kb) ∧ w3.cell? ⟨gr, kb, none⟩ = some (.int .i64 (km : Int)) ∧ w3.cell? ⟨gm, km, none⟩ = some (.int .i64 M[km])) := Lib.hid ⟨by assumption, by assumption, by assumption, by assumption, by assumption, by assumption⟩
          refine region_s [15] (fun V => V.cell? ⟨w.heap.size + 1, 1, none⟩ = some (.slice (some ⟨gr, 0, none⟩) 4 rc) ∧ V.cell? ⟨w.heap.size + 1, 2, none⟩ = some (.slice (some ⟨gm, 0, none⟩) M.length mc) ∧ V.cell? ⟨w.heap.size + 3, 1, none⟩ = some (.int .i64 ka) ∧ V.cell? ⟨w.heap.size + 3, 2, none⟩ = some (.int .i64 kb) ∧ V.cell? ⟨gr, kb, none⟩ = some (.int .i64 (km : Int)) ∧ V.cell? ⟨gm, km, none⟩ = some (.int .i64 M[km])) (by kernel_rfl) ?_
          refine take_s (i := 0) (v := .pointer (some ⟨w.heap.size + 1, 1, none⟩)) rfl (by kernel_rfl) (fun _ _ _ h => h) CH.out rfl (fun V hV => ?_) ?_
          · go_simp
          refine take_s (i := 1) (v := .slice (some ⟨gr, 0, none⟩) 4 rc) rfl (by kernel_rfl) (fun _ _ _ h => h) CH.out rfl (fun V hV => ?_) ?_
          · obtain ⟨t0, t1, t2, t3, t4, t5⟩ := hV; go_simp
          refine take_s (i := 2) (v := .pointer (some ⟨w.heap.size + 3, 1, none⟩)) rfl (by kernel_rfl) (fun _ _ _ h => h) CH.out rfl (fun V hV => ?_) ?_
          · go_simp
          refine take_s (i := 3) (v := .int .i64 ka) rfl (by kernel_rfl) (fun _ _ _ h => h) CH.out rfl (fun V hV => ?_) ?_
          · obtain ⟨t0, t1, t2, t3, t4, t5⟩ := hV; go_simp
          refine take_s (i := 4) (v := .pointer (some ⟨w.heap.size + 1, 2, none⟩)) rfl (by kernel_rfl) (fun _ _ _ h => h) CH.out rfl (fun V hV => ?_) ?_
          · go_simp
          refine take_s (i := 5) (v := .slice (some ⟨gm, 0, none⟩) M.length mc) rfl (by kernel_rfl) (fun _ _ _ h => h) CH.out rfl (fun V hV => ?_) ?_
          · obtain ⟨t0, t1, t2, t3, t4, t5⟩ := hV; go_simp
          refine take_s (i := 6) (v := .pointer (some ⟨w.heap.size + 1, 1, none⟩)) rfl (by kernel_rfl) (fun _ _ _ h => h) CH.out rfl (fun V hV => ?_) ?_
          · go_simp
          refine take_s (i := 7) (v := .slice (some ⟨gr, 0, none⟩) 4 rc) rfl (by kernel_rfl) (fun _ _ _ h => h) CH.out rfl (fun V hV => ?_) ?_
          · obtain ⟨t0, t1, t2, t3, t4, t5⟩ := hV; go_simp
          refine take_s (i := 8) (v := .pointer (some ⟨w.heap.size + 3, 2, none⟩)) rfl (by kernel_rfl) (fun _ _ _ h => h) CH.out rfl (fun V hV => ?_) ?_
          · go_simp
          refine take_s (i := 9) (v := .int .i64 kb) rfl (by kernel_rfl) (fun _ _ _ h => h) CH.out rfl (fun V hV => ?_) ?_
          · obtain ⟨t0, t1, t2, t3, t4, t5⟩ := hV; go_simp
          refine take_s (i := 10) (v := .pointer (some ⟨gr, kb, none⟩)) rfl (by kernel_rfl) (fun _ _ _ h => h) CH.out rfl (fun V hV => ?_) ?_
          · go_simp
          refine take_s (i := 11) (v := .int .i64 (km : Int)) rfl (by kernel_rfl) (fun _ _ _ h => h) CH.out rfl (fun V hV => ?_) ?_
          · obtain ⟨t0, t1, t2, t3, t4, t5⟩ := hV; go_simp
          refine take_s (i := 12) (v := .pointer (some ⟨gm, km, none⟩)) rfl (by kernel_rfl) (fun _ _ _ h => h) CH.out rfl (fun V hV => ?_) ?_
          · go_simp
          refine take_s (i := 13) (v := .int .i64 M[km]) rfl (by kernel_rfl) (fun _ _ _ h => h) CH.out rfl (fun V hV => ?_) ?_
          · obtain ⟨t0, t1, t2, t3, t4, t5⟩ := hV; go_simp
          refine take_s (i := 14) (v := .pointer (some ⟨gr, ka, none⟩)) rfl (by kernel_rfl) (fun _ _ _ h => h) CH.out rfl (fun V hV => ?_) ?_
          · go_simp
          refine one_s (i := 15) (by kernel_rfl) (op_list rfl ?_)
          go_wp2
          refine ⟨late_s (by kernel_rfl), done_s (by kernel_rfl) ?_ _⟩
          go_upto_region 42 with fail
          clear x0 x1 x2 x3 d0 d1 d2 d3 d4 d5 d6 d7 s0 s1 s2 s3 s4 s5 s6 s7 i0 i1 i2 i3
          have HX : Hid (XR = ⟨(k : Int) + 1, R.set ka M[km], M, S, inn, O, 0, st + 1⟩) := Lib.hid (by rw [HDO.out, ← HAm.out, ← HKM.out, ← HAkb.out]; rfl)
          obtain ⟨w4, hw4⟩ : ∃ V', V' = (w3.setCell ⟨gr, ka, none⟩ (.int .i64 M[km])).drew := ⟨_, rfl⟩
          have SA := Lib.hid (show w4.heap[w.heap.size + 1]? = some (.cells #[.int .i64 ((k : Int) + 1), .slice (some ⟨gr, 0, none⟩) 4 rc, .slice (some ⟨gm, 0, none⟩) M.length mc, .slice sq S.length sc, .int .i64 inn, .slice oq O.length oc, .int .i64 0, .int .i64 (st + 1)] 52 (0, 0)) by rw [hw4]; exact (heap_setCell_other w3 ⟨gr, ka, none⟩ _ _ (fun h => by have h : _ = gr := h; omega)).trans SR3.out)
          have ZA := Lib.hid (show w4.heap[w.heap.size + 2]? = some (.cells #[.int .i64 0, .slice none 0 0, .slice none 0 0, .slice none 0 0, .int .i64 0, .slice none 0 0, .int .i64 0, .int .i64 0] 52 (0, 0)) by rw [hw4]; exact (heap_setCell_other w3 ⟨gr, ka, none⟩ _ _ (fun h => by have h : _ = gr := h; omega)).trans ZR3.out)
          have BA := Lib.hid (show Apart (StB (.slice (some ⟨gr, 0, none⟩) 4 rc) (.slice (some ⟨gm, 0, none⟩) M.length mc) (.slice sq S.length sc) (.slice oq O.length oc)) w w4 by rw [hw4]; exact (BB3.out.setCell (p := ⟨gr, ka, none⟩) (show gr ∈ StB (.slice (some ⟨gr, 0, none⟩) 4 rc) (.slice (some ⟨gm, 0, none⟩) M.length mc) (.slice sq S.length sc) (.slice oq O.length oc) by unfold StB; simp [Value.ownBlock]) _).trans (Apart.of_below (Below.refl _ _).drew))
          have OA : Hid (StO w4 base ⟨(k : Int) + 1, R.set ka M[km], M, S, inn, O, 0, st + 1⟩ _ _ _ _) := Lib.hid (by rw [hw4]; exact StO.same (O3.out.poke_r ka M[km] rfl rfl rfl rfl) (fun _ _ => rfl))
          rw [← hw4]
          clear hw4
          have SR := Lib.hid (SA.out)
          have ZR := Lib.hid (ZA.out)
          have BB := Lib.hid (BA.out)
          have OO := Lib.hid (OA.out)
          obtain ⟨d0, d1, d2, d3, d4, d5, d6, d7⟩ := cell8_row SR.out
          obtain ⟨g0, g1, g2, g3, g4, g5, g6, g7⟩ := cell8_row ZR.out
          obtain ⟨f0, f1, f2, f3, f4, f5, f6, f7⟩ := froz8_row ZR.out
          go_wp2
          obtain ⟨WE, hWE⟩ : ∃ W9, W9 = ((((((((w4.setCell ⟨w.heap.size + 2, 0, none⟩ (.int .i64 ((k : Int) + 1))).setCell ⟨w.heap.size + 2, 1, none⟩ (.slice (some ⟨gr, 0, none⟩) 4 rc)).setCell ⟨w.heap.size + 2, 2, none⟩ (.slice (some ⟨gm, 0, none⟩) M.length mc)).setCell ⟨w.heap.size + 2, 3, none⟩ (.slice sq S.length sc)).setCell ⟨w.heap.size + 2, 4, none⟩ (.int .i64 inn)).setCell ⟨w.heap.size + 2, 5, none⟩ (.slice oq O.length oc)).setCell ⟨w.heap.size + 2, 6, none⟩ (.int .i64 0)).setCell ⟨w.heap.size + 2, 7, none⟩ (.int .i64 (st + 1))) := ⟨_, rfl⟩
          have D2 := Lib.hid (show WE.heap[w.heap.size + 2]? = some (.cells #[.int .i64 ((k : Int) + 1), .slice (some ⟨gr, 0, none⟩) 4 rc, .slice (some ⟨gm, 0, none⟩) M.length mc, .slice sq S.length sc, .int .i64 inn, .slice oq O.length oc, .int .i64 0, .int .i64 (st + 1)] 52 (0, 0)) by rw [hWE]; exact set8_row ZR.out _ _ _ _ _ _ _ _)
          have BE := Lib.hid (show Apart _ w WE by rw [hWE]; exact set8_apart BB.out (by omega) _ _ _ _ _ _ _ _)
          have OE := Lib.hid (show StO WE base _ _ _ _ _ by rw [hWE]; exact OO.out.set8 (OO.out.off (T := 52) (by decide) ZR.out) _ _ _ _ _ _ _ _)
          rw [← hWE]
          clear hWE d0 d1 d2 d3 d4 d5 d6 d7 g0 g1 g2 g3 g4 g5 g6 g7
          obtain ⟨d0, d1, d2, d3, d4, d5, d6, d7⟩ := cell8_row D2.out
          refine bodyPost_ret (v := .agg #[.int .i64 ((k : Int) + 1), .slice (some ⟨gr, 0, none⟩) 4 rc, .slice (some ⟨gm, 0, none⟩) M.length mc, .slice sq S.length sc, .int .i64 inn, .slice oq O.length oc, .int .i64 0, .int .i64 (st + 1)]) (by simp [results, Tryz.results33, go_sem, d0, d1, d2, d3, d4, d5, d6, d7]) rfl ?_
          rw [HX.out]
          exact ⟨_, _, _, _, rfl, OE.out, BE.out, fun g hg => .inl hg⟩
        · -- 8
          obtain ⟨ka, hpka⟩ : ∃ j : Nat, a = j := ⟨a.toNat, by have := reg_of hA; omega⟩
          have hka : ka < 4 := by have := reg_of hA; omega
          have hkai : (ka : Int) < 4 := by omega
          have hwka := HG.out.reg (reg_of hA)
          subst hpka
          obtain ⟨cka, fka⟩ := HCR.out ka hka
          have HAka := Lib.hid (atI_nat R ka (by omega))
          obtain ⟨kb, hpkb⟩ : ∃ j : Nat, b' = j := ⟨b'.toNat, by have := reg_of hB; omega⟩
          have hkb : kb < 4 := by have := reg_of hB; omega
          have hkbi : (kb : Int) < 4 := by omega
          have hwkb := HG.out.reg (reg_of hB)
          subst hpkb
          obtain ⟨ckb, fkb⟩ := HCR.out kb hkb
          have HAkb := Lib.hid (atI_nat R kb (by omega))
          obtain ⟨x0, x1, x2, x3⟩ := cell4_row XR3.out
          obtain ⟨d0, d1, d2, d3, d4, d5, d6, d7⟩ := cell8_row SR3.out
          obtain ⟨s0, s1, s2, s3, s4, s5, s6, s7⟩ := froz8_row SR3.out
          have OM3 : Hid (w3.ownsRow base 3 1 (.slice (some ⟨gm, 0, none⟩) M.length mc) M.length (IntL.all M)) := Lib.hid O3.out.2.1
          have hxka := hwka
          rw [HAka.out] at hxka
          have hwhy : (if vm ≤ atI R ka then 5 else 0 : Int) = 0 := hV
          have hne : ¬ (vm ≤ atI R ka) := fun h => by rw [if_pos h] at hwhy; cases hwhy
          clear hwhy
          rw [HAka.out] at hne
          obtain ⟨km, hkm⟩ : ∃ j : Nat, R[ka] = j := ⟨R[ka].toNat, by have := hxka.2.2.1; omega⟩
          have hkml : km < M.length := by have := HMV.out; omega
          have hkmi : (km : Int) < (M.length : Int) := by omega
          rw [hkm] at cka
          obtain ⟨cm, fm⟩ := own_cell OM3.out rfl km hkml
          have HAm := Lib.hid (atI_nat M km hkml)
          have HKM := Lib.hid hkm
          clear hkm
          go_upto_region 29 with fail
          skip -- x0 x1 x2 x3 d0 d1 d2 d3 d4 d5 d6 d7 s0 s1 s2 s3 s4 s5 s6 s7 i0 i1 i2 i3
          have CH : Hid (w3.cell? ⟨w.heap.size + 1, 2, none⟩ = some (.slice (some ⟨gm, 0, none⟩) M.length mc) ∧ w3.cell? ⟨w.heap.size + 1, 1, none⟩ = some (.slice (some ⟨gr, 0, none⟩) 4 rc) ∧ w3.cell? ⟨w.heap.size + 3, 1, none⟩ = some (.int .i64 ka) ∧ w3.cell? ⟨w.heap.size + 3, 2, none⟩ = some (.int .i64 kb) ∧ w3.cell? ⟨gr, ka, none⟩ = some (.int .i64 (km : Int)) ∧ w3.cell? ⟨gr, kb, none⟩ = some (.int .i64 R[kb])) := Lib.hid ⟨by assumption, by assumption, by assumption, by assumption, by assumption, by assumption⟩
          refine region_s [15] (fun V => V.cell? ⟨w.heap.size + 1, 2, none⟩ = some (.slice (some ⟨gm, 0, none⟩) M.length mc) ∧ V.cell? ⟨w.heap.size + 1, 1, none⟩ = some (.slice (some ⟨gr, 0, none⟩) 4 rc) ∧ V.cell? ⟨w.heap.size + 3, 1, none⟩ = some (.int .i64 ka) ∧ V.cell? ⟨w.heap.size + 3, 2, none⟩ = some (.int .i64 kb) ∧ V.cell? ⟨gr, ka, none⟩ = some (.int .i64 (km : Int)) ∧ V.cell? ⟨gr, kb, none⟩ = some (.int .i64 R[kb])) (by kernel_rfl) ?_
          refine take_s (i := 0) (v := .pointer (some ⟨w.heap.size + 1, 2, none⟩)) rfl (by kernel_rfl) (fun _ _ _ h => h) CH.out rfl (fun V hV => ?_) ?_
          · go_simp
          refine take_s (i := 1) (v := .slice (some ⟨gm, 0, none⟩) M.length mc) rfl (by kernel_rfl) (fun _ _ _ h => h) CH.out rfl (fun V hV => ?_) ?_
          · obtain ⟨t0, t1, t2, t3, t4, t5⟩ := hV; go_simp
          refine take_s (i := 2) (v := .pointer (some ⟨w.heap.size + 1, 1, none⟩)) rfl (by kernel_rfl) (fun _ _ _ h => h) CH.out rfl (fun V hV => ?_) ?_
          · go_simp
          refine take_s (i := 3) (v := .slice (some ⟨gr, 0, none⟩) 4 rc) rfl (by kernel_rfl) (fun _ _ _ h => h) CH.out rfl (fun V hV => ?_) ?_
          · obtain ⟨t0, t1, t2, t3, t4, t5⟩ := hV; go_simp
          refine take_s (i := 4) (v := .pointer (some ⟨w.heap.size + 3, 1, none⟩)) rfl (by kernel_rfl) (fun _ _ _ h => h) CH.out rfl (fun V hV => ?_) ?_
          · go_simp
          refine take_s (i := 5) (v := .int .i64 ka) rfl (by kernel_rfl) (fun _ _ _ h => h) CH.out rfl (fun V hV => ?_) ?_
          · obtain ⟨t0, t1, t2, t3, t4, t5⟩ := hV; go_simp
          refine take_s (i := 6) (v := .pointer (some ⟨gr, ka, none⟩)) rfl (by kernel_rfl) (fun _ _ _ h => h) CH.out rfl (fun V hV => ?_) ?_
          · go_simp
          refine take_s (i := 7) (v := .int .i64 (km : Int)) rfl (by kernel_rfl) (fun _ _ _ h => h) CH.out rfl (fun V hV => ?_) ?_
          · obtain ⟨t0, t1, t2, t3, t4, t5⟩ := hV; go_simp
          refine take_s (i := 8) (v := .pointer (some ⟨w.heap.size + 1, 1, none⟩)) rfl (by kernel_rfl) (fun _ _ _ h => h) CH.out rfl (fun V hV => ?_) ?_
          · go_simp
          refine take_s (i := 9) (v := .slice (some ⟨gr, 0, none⟩) 4 rc) rfl (by kernel_rfl) (fun _ _ _ h => h) CH.out rfl (fun V hV => ?_) ?_
          · obtain ⟨t0, t1, t2, t3, t4, t5⟩ := hV; go_simp
          refine take_s (i := 10) (v := .pointer (some ⟨w.heap.size + 3, 2, none⟩)) rfl (by kernel_rfl) (fun _ _ _ h => h) CH.out rfl (fun V hV => ?_) ?_
          · go_simp
          refine take_s (i := 11) (v := .int .i64 kb) rfl (by kernel_rfl) (fun _ _ _ h => h) CH.out rfl (fun V hV => ?_) ?_
          · obtain ⟨t0, t1, t2, t3, t4, t5⟩ := hV; go_simp
          refine take_s (i := 12) (v := .pointer (some ⟨gr, kb, none⟩)) rfl (by kernel_rfl) (fun _ _ _ h => h) CH.out rfl (fun V hV => ?_) ?_
          · go_simp
          refine take_s (i := 13) (v := .int .i64 R[kb]) rfl (by kernel_rfl) (fun _ _ _ h => h) CH.out rfl (fun V hV => ?_) ?_
          · obtain ⟨t0, t1, t2, t3, t4, t5⟩ := hV; go_simp
          refine take_s (i := 14) (v := .pointer (some ⟨gm, km, none⟩)) rfl (by kernel_rfl) (fun _ _ _ h => h) CH.out rfl (fun V hV => ?_) ?_
          · go_simp
          refine one_s (i := 15) (by kernel_rfl) (op_list rfl ?_)
          go_wp2
          refine ⟨late_s (by kernel_rfl), done_s (by kernel_rfl) ?_ _⟩
          go_upto_region 42 with fail
          clear x0 x1 x2 x3 d0 d1 d2 d3 d4 d5 d6 d7 s0 s1 s2 s3 s4 s5 s6 s7 i0 i1 i2 i3
          have HX : Hid (XR = ⟨(k : Int) + 1, R, M.set km R[kb], S, inn, O, 0, st + 1⟩) := Lib.hid (by rw [HDO.out, ← HAkb.out, show doX vw I ⟨(k : Int), R, M, S, inn, O, 0, st + 1⟩ ((k : Int) + 1) ⟨8, (ka : Int), (kb : Int), c⟩ = ⟨(k : Int), R, M.set (atI R (ka : Int)).toNat (atI R (kb : Int)), S, inn, O, 0, st + 1⟩ from rfl, HAka.out, HKM.out]; rfl)
          obtain ⟨w4, hw4⟩ : ∃ V', V' = (w3.setCell ⟨gm, km, none⟩ (.int .i64 R[kb])).drew := ⟨_, rfl⟩
          have SA := Lib.hid (show w4.heap[w.heap.size + 1]? = some (.cells #[.int .i64 ((k : Int) + 1), .slice (some ⟨gr, 0, none⟩) 4 rc, .slice (some ⟨gm, 0, none⟩) M.length mc, .slice sq S.length sc, .int .i64 inn, .slice oq O.length oc, .int .i64 0, .int .i64 (st + 1)] 52 (0, 0)) by rw [hw4]; exact (heap_setCell_other w3 ⟨gm, km, none⟩ _ _ (fun h => by have h : _ = gm := h; omega)).trans SR3.out)
          have ZA := Lib.hid (show w4.heap[w.heap.size + 2]? = some (.cells #[.int .i64 0, .slice none 0 0, .slice none 0 0, .slice none 0 0, .int .i64 0, .slice none 0 0, .int .i64 0, .int .i64 0] 52 (0, 0)) by rw [hw4]; exact (heap_setCell_other w3 ⟨gm, km, none⟩ _ _ (fun h => by have h : _ = gm := h; omega)).trans ZR3.out)
          have BA := Lib.hid (show Apart (StB (.slice (some ⟨gr, 0, none⟩) 4 rc) (.slice (some ⟨gm, 0, none⟩) M.length mc) (.slice sq S.length sc) (.slice oq O.length oc)) w w4 by rw [hw4]; exact (BB3.out.setCell (p := ⟨gm, km, none⟩) (show gm ∈ StB (.slice (some ⟨gr, 0, none⟩) 4 rc) (.slice (some ⟨gm, 0, none⟩) M.length mc) (.slice sq S.length sc) (.slice oq O.length oc) by unfold StB; simp [Value.ownBlock]) _).trans (Apart.of_below (Below.refl _ _).drew))
          have OA : Hid (StO w4 base ⟨(k : Int) + 1, R, M.set km R[kb], S, inn, O, 0, st + 1⟩ _ _ _ _) := Lib.hid (by rw [hw4]; exact StO.same (O3.out.poke_m km R[kb] rfl rfl rfl rfl) (fun _ _ => rfl))
          rw [← hw4]
          clear hw4
          have SR := Lib.hid (SA.out)
          have ZR := Lib.hid (ZA.out)
          have BB := Lib.hid (BA.out)
          have OO := Lib.hid (OA.out)
          obtain ⟨d0, d1, d2, d3, d4, d5, d6, d7⟩ := cell8_row SR.out
          obtain ⟨g0, g1, g2, g3, g4, g5, g6, g7⟩ := cell8_row ZR.out
          obtain ⟨f0, f1, f2, f3, f4, f5, f6, f7⟩ := froz8_row ZR.out
          go_wp2
          obtain ⟨WE, hWE⟩ : ∃ W9, W9 = ((((((((w4.setCell ⟨w.heap.size + 2, 0, none⟩ (.int .i64 ((k : Int) + 1))).setCell ⟨w.heap.size + 2, 1, none⟩ (.slice (some ⟨gr, 0, none⟩) 4 rc)).setCell ⟨w.heap.size + 2, 2, none⟩ (.slice (some ⟨gm, 0, none⟩) M.length mc)).setCell ⟨w.heap.size + 2, 3, none⟩ (.slice sq S.length sc)).setCell ⟨w.heap.size + 2, 4, none⟩ (.int .i64 inn)).setCell ⟨w.heap.size + 2, 5, none⟩ (.slice oq O.length oc)).setCell ⟨w.heap.size + 2, 6, none⟩ (.int .i64 0)).setCell ⟨w.heap.size + 2, 7, none⟩ (.int .i64 (st + 1))) := ⟨_, rfl⟩
          have D2 := Lib.hid (show WE.heap[w.heap.size + 2]? = some (.cells #[.int .i64 ((k : Int) + 1), .slice (some ⟨gr, 0, none⟩) 4 rc, .slice (some ⟨gm, 0, none⟩) M.length mc, .slice sq S.length sc, .int .i64 inn, .slice oq O.length oc, .int .i64 0, .int .i64 (st + 1)] 52 (0, 0)) by rw [hWE]; exact set8_row ZR.out _ _ _ _ _ _ _ _)
          have BE := Lib.hid (show Apart _ w WE by rw [hWE]; exact set8_apart BB.out (by omega) _ _ _ _ _ _ _ _)
          have OE := Lib.hid (show StO WE base _ _ _ _ _ by rw [hWE]; exact OO.out.set8 (OO.out.off (T := 52) (by decide) ZR.out) _ _ _ _ _ _ _ _)
          rw [← hWE]
          clear hWE d0 d1 d2 d3 d4 d5 d6 d7 g0 g1 g2 g3 g4 g5 g6 g7
          obtain ⟨d0, d1, d2, d3, d4, d5, d6, d7⟩ := cell8_row D2.out
          refine bodyPost_ret (v := .agg #[.int .i64 ((k : Int) + 1), .slice (some ⟨gr, 0, none⟩) 4 rc, .slice (some ⟨gm, 0, none⟩) M.length mc, .slice sq S.length sc, .int .i64 inn, .slice oq O.length oc, .int .i64 0, .int .i64 (st + 1)]) (by simp [results, Tryz.results33, go_sem, d0, d1, d2, d3, d4, d5, d6, d7]) rfl ?_
          rw [HX.out]
          exact ⟨_, _, _, _, rfl, OE.out, BE.out, fun g hg => .inl hg⟩
        · omega
        · omega
        · omega
        · omega
        · omega
        · have hwhy : (1 : Int) = 0 := hV
          cases hwhy
end Go.Proofs.YthmababifgaejaaGreat
namespace Go.Proofs.YthmababifgaejaaGreat
open Go.ChangeShapes Go.WideShapes Go.ChangeAt Go.RowKit
set_option maxRecDepth 100000 in
set_option maxHeartbeats 16000000 in
theorem s_stepE (vw vm vi : Int) (L : List InsR) (pc : Int) (R M S : List Int) (inn : Int) (O : List Int) (cd st : Int) (I : List Int) (sL r m s o li : Value) (base : Nat) (w : World) (hp : prB vw vm vi L = true) (hG : Gd vw vm vi L.length ⟨pc, R, M, S, inn, O, cd, st⟩) (hI : (I.length : Int) = vi ∧ ∀ y ∈ I, IsW vw y) (hs : Cs.Shows w 0 4 sL L.length (InsR.all L)) (hli : Cs.Shows w 0 1 li I.length (IntL.all I)) (ho : StO w base ⟨pc, R, M, S, inn, O, cd, st⟩ r m s o) (_hbase : base ≤ w.heap.size) (hnr : (cd ≠ 0 ∨ st = 400) ∨ pc = L.length) :
    Calls Tryz.prog 33 #[.agg #[.int .i64 vw, .int .i64 vm, .int .i64 vi, sL], .agg #[.int .i64 pc, r, m, s, .int .i64 inn, o, .int .i64 cd, .int .i64 st], li] w (SqEnd r m s o base (stepV vw vm vi L I ⟨pc, R, M, S, inn, O, cd, st⟩) w) := by
  obtain ⟨XR, hXR⟩ : ∃ X, stepV vw vm vi L I ⟨pc, R, M, S, inn, O, cd, st⟩ = X := ⟨_, rfl⟩
  rw [hXR]
  have hml : maxLen = 9223372036854775807 := rfl
  obtain ⟨⟨hw2, hw8, hm1, hm6, _, hi0, hi3, hl1, hl40⟩, hins⟩ := pr_in hp
  have HINS := Lib.hid hins
  have hR : R.length = 4 := hG.hR
  have hM : (M.length : Int) = vm := hG.hM
  have hS3 : S.length ≤ 3 := hG.hS
  have hO6 : O.length ≤ 6 := hG.hO
  have hpc : 0 ≤ pc ∧ pc ≤ L.length := hG.pc
  have hinn : 0 ≤ inn ∧ inn ≤ vi := hG.inn
  have hst : 0 ≤ st ∧ st ≤ 400 := hG.st
  have HG := Lib.hid hG
  have HI := Lib.hid hI
  obtain ⟨gr, rc, rfl⟩ : ∃ g c, r = .slice (some ⟨g, 0, none⟩) 4 c := by have := own_some ho.1 (show 0 < R.length by omega); rw [show (StR.mk pc R M S inn O cd st).R.length = 4 from hR] at this; exact this
  obtain ⟨gm, mc, rfl⟩ := own_some ho.2.1 (show 0 < M.length by omega)
  obtain ⟨sq, sc, rfl⟩ := own_slice ho.2.2.1
  obtain ⟨oq, oc, rfl⟩ := own_slice ho.2.2.2.1
  have HS := Lib.hid hs
  have HLI := Lib.hid hli
  obtain ⟨_, q, cap, rfl, _⟩ := hs
  obtain ⟨_, iq, ic, rfl, _⟩ := hli
  have hgr : gr < w.heap.size := (ho.lt (g := gr) (by simp [StB, Value.ownBlock])).2
  have hgm : gm < w.heap.size := (ho.lt (g := gm) (by simp [StB, Value.ownBlock])).2
  have HR : Hid (∀ j, (h : j < L.length) → ∃ b o, q = some ⟨b, o, none⟩ ∧ b < w.heap.size ∧ ∀ W, Below w.heap.size w W → W.cell? ⟨b, o + j * 4, none⟩ = some (.int .i64 L[j].f0) ∧ W.cell? ⟨b, o + j * 4 + 1, none⟩ = some (.int .i64 L[j].f1) ∧ W.cell? ⟨b, o + j * 4 + 2, none⟩ = some (.int .i64 L[j].f2) ∧ W.cell? ⟨b, o + j * 4 + 3, none⟩ = some (.int .i64 L[j].f3)) := Lib.hid (fun j h => by
    rcases Cs.shows_cases HS.out with ⟨h0, _⟩ | ⟨_, b, o, c, hq, _, _, hbl, hr⟩
    · omega
    · injection hq with e1 e2 e3
      refine ⟨b, o, e1, hbl, fun W hW => ?_⟩
      have hh := flat_nth InsR.cells 4 (fun _ => rfl) L j h (rangeAt_below hW hr)
      exact ⟨hh 0 _ rfl, hh 1 _ rfl, hh 2 _ rfl, hh 3 _ rfl⟩)
  have HIN : Hid (∀ j, (h : j < I.length) → ∃ b o, iq = some ⟨b, o, none⟩ ∧ b < w.heap.size ∧ ∀ W, Below w.heap.size w W → W.cell? ⟨b, o + j, none⟩ = some (.int .i64 I[j])) := Lib.hid (fun j h => by
    rcases Cs.shows_cases HLI.out with ⟨h0, _⟩ | ⟨_, b, o, c, hq, _, _, hbl, hr⟩
    · omega
    · injection hq with e1 e2 e3
      refine ⟨b, o, e1, hbl, fun W hW => ?_⟩
      have hh := rangeAt_below hW hr j (.int .i64 I[j]) (by rw [IntL.all_map, List.getElem?_map, List.getElem?_eq_getElem h]; rfl)
      exact hh)
  obtain ⟨w0, hw0⟩ : ∃ w0, w0 = ((w.alloc (.cells #[.int .i64 vw, .int .i64 vm, .int .i64 vi, .slice q L.length cap] 32)).alloc (.cells #[.int .i64 pc, .slice (some ⟨gr, 0, none⟩) 4 rc, .slice (some ⟨gm, 0, none⟩) M.length mc, .slice sq S.length sc, .int .i64 inn, .slice oq O.length oc, .int .i64 cd, .int .i64 st] 52)).alloc (.cells #[.int .i64 0, .slice none 0 0, .slice none 0 0, .slice none 0 0, .int .i64 0, .slice none 0 0, .int .i64 0, .int .i64 0] 52) := ⟨_, rfl⟩
  have HB0 : Hid (Below w.heap.size w w0) := Lib.hid (by rw [hw0]; exact (((Below.refl _ _).alloc (Nat.le_refl _) _).alloc (by simp) _).alloc (by simp; omega) _)
  have hs0 : w0.heap.size = w.heap.size + 3 := by rw [hw0]; simp
  have X0 : Hid (Cell4 w0 w.heap.size (.int .i64 vw) (.int .i64 vm) (.int .i64 vi) (.slice q L.length cap)) := Lib.hid (by rw [hw0]; exact (cell4_alloc w 32 _ _ _ _).below (((Below.refl _ _).alloc (Nat.le_refl _) _).alloc (by simp) _))
  have XR0 : Hid (w0.heap[w.heap.size]? = some (.cells #[.int .i64 vw, .int .i64 vm, .int .i64 vi, .slice q L.length cap] 32 (0, 0))) := Lib.hid (by
    rw [hw0, heap_alloc_old _ _ (by simp; omega), heap_alloc_old _ _ (by simp)]
    exact heap_alloc_new _ _)
  have S0 : Hid (w0.heap[w.heap.size + 1]? = some (.cells #[.int .i64 pc, .slice (some ⟨gr, 0, none⟩) 4 rc, .slice (some ⟨gm, 0, none⟩) M.length mc, .slice sq S.length sc, .int .i64 inn, .slice oq O.length oc, .int .i64 cd, .int .i64 st] 52 (0, 0))) := Lib.hid (by
    rw [hw0, heap_alloc_old _ _ (by simp), ← show (w.alloc (.cells #[.int .i64 vw, .int .i64 vm, .int .i64 vi, .slice q L.length cap] 32)).heap.size = w.heap.size + 1 by simp]
    exact heap_alloc_new _ _)
  have Z0 : Hid (w0.heap[w.heap.size + 2]? = some (.cells #[.int .i64 0, .slice none 0 0, .slice none 0 0, .slice none 0 0, .int .i64 0, .slice none 0 0, .int .i64 0, .int .i64 0] 52 (0, 0))) := Lib.hid (by
    rw [hw0, ← show ((w.alloc (.cells #[.int .i64 vw, .int .i64 vm, .int .i64 vi, .slice q L.length cap] 32)).alloc (.cells #[.int .i64 pc, .slice (some ⟨gr, 0, none⟩) 4 rc, .slice (some ⟨gm, 0, none⟩) M.length mc, .slice sq S.length sc, .int .i64 inn, .slice oq O.length oc, .int .i64 cd, .int .i64 st] 52)).heap.size = w.heap.size + 2 by simp]
    exact heap_alloc_new _ _)
  have O0 := Lib.hid (ho.keep HB0.out)
  have HMV := Lib.hid hM
  clear ho hG hins hp hM hI
  by_cases hcd : cd ≠ 0 ∨ st = 400
  · have hv : stepV vw vm vi L I ⟨pc, R, M, S, inn, O, cd, st⟩ = ⟨pc, R, M, S, inn, O, cd, st⟩ := by unfold stepV; rw [if_pos hcd]
    have HX := Lib.hid (hXR.symm.trans hv)
    clear hv hXR
    have hq : (cd != 0) = true ∨ ((cd != 0) = false ∧ (st == 400) = true) := by
      by_cases h : cd = 0
      · exact .inr ⟨by simpa using h, by have := hcd.resolve_left (fun q => q h); simpa using this⟩
      · exact .inl (by simpa using h)
    clear hcd
    rcases hq with hq | ⟨hq, hq2⟩
    · skip
      obtain ⟨x0, x1, x2, x3⟩ := X0.out
      obtain ⟨d0, d1, d2, d3, d4, d5, d6, d7⟩ := cell8_row S0.out
      rw [hw0] at x0 x1 x2 x3 d0 d1 d2 d3 d4 d5 d6 d7
      go_enter Tryz.func33, Tryz.ntmps33
      go_upto_region 2 with fail
      rw [← hw0]
      clear hw0 x0 x1 x2 x3 d0 d1 d2 d3 d4 d5 d6 d7
      have SR := Lib.hid (S0.out)
      have ZR := Lib.hid (Z0.out)
      have BB := Lib.hid (Apart.of_below (bs := StB (.slice (some ⟨gr, 0, none⟩) 4 rc) (.slice (some ⟨gm, 0, none⟩) M.length mc) (.slice sq S.length sc) (.slice oq O.length oc)) HB0.out)
      have OO := Lib.hid (O0.out)
      obtain ⟨d0, d1, d2, d3, d4, d5, d6, d7⟩ := cell8_row SR.out
      obtain ⟨g0, g1, g2, g3, g4, g5, g6, g7⟩ := cell8_row ZR.out
      obtain ⟨f0, f1, f2, f3, f4, f5, f6, f7⟩ := froz8_row ZR.out
      go_wp2
      obtain ⟨WE, hWE⟩ : ∃ W9, W9 = ((((((((w0.setCell ⟨w.heap.size + 2, 0, none⟩ (.int .i64 pc)).setCell ⟨w.heap.size + 2, 1, none⟩ (.slice (some ⟨gr, 0, none⟩) 4 rc)).setCell ⟨w.heap.size + 2, 2, none⟩ (.slice (some ⟨gm, 0, none⟩) M.length mc)).setCell ⟨w.heap.size + 2, 3, none⟩ (.slice sq S.length sc)).setCell ⟨w.heap.size + 2, 4, none⟩ (.int .i64 inn)).setCell ⟨w.heap.size + 2, 5, none⟩ (.slice oq O.length oc)).setCell ⟨w.heap.size + 2, 6, none⟩ (.int .i64 cd)).setCell ⟨w.heap.size + 2, 7, none⟩ (.int .i64 st)) := ⟨_, rfl⟩
      have D2 := Lib.hid (show WE.heap[w.heap.size + 2]? = some (.cells #[.int .i64 pc, .slice (some ⟨gr, 0, none⟩) 4 rc, .slice (some ⟨gm, 0, none⟩) M.length mc, .slice sq S.length sc, .int .i64 inn, .slice oq O.length oc, .int .i64 cd, .int .i64 st] 52 (0, 0)) by rw [hWE]; exact set8_row ZR.out _ _ _ _ _ _ _ _)
      have BE := Lib.hid (show Apart _ w WE by rw [hWE]; exact set8_apart BB.out (by omega) _ _ _ _ _ _ _ _)
      have OE := Lib.hid (show StO WE base _ _ _ _ _ by rw [hWE]; exact OO.out.set8 (OO.out.off (T := 52) (by decide) ZR.out) _ _ _ _ _ _ _ _)
      rw [← hWE]
      clear hWE d0 d1 d2 d3 d4 d5 d6 d7 g0 g1 g2 g3 g4 g5 g6 g7
      obtain ⟨d0, d1, d2, d3, d4, d5, d6, d7⟩ := cell8_row D2.out
      refine bodyPost_ret (v := .agg #[.int .i64 pc, .slice (some ⟨gr, 0, none⟩) 4 rc, .slice (some ⟨gm, 0, none⟩) M.length mc, .slice sq S.length sc, .int .i64 inn, .slice oq O.length oc, .int .i64 cd, .int .i64 st]) (by simp [results, Tryz.results33, go_sem, d0, d1, d2, d3, d4, d5, d6, d7]) rfl ?_
      rw [HX.out]
      exact ⟨_, _, _, _, rfl, OE.out, BE.out, fun g hg => .inl hg⟩
    · skip
      obtain ⟨x0, x1, x2, x3⟩ := X0.out
      obtain ⟨d0, d1, d2, d3, d4, d5, d6, d7⟩ := cell8_row S0.out
      rw [hw0] at x0 x1 x2 x3 d0 d1 d2 d3 d4 d5 d6 d7
      go_enter Tryz.func33, Tryz.ntmps33
      go_upto_region 2 with fail
      rw [← hw0]
      clear hw0 x0 x1 x2 x3 d0 d1 d2 d3 d4 d5 d6 d7
      have SR := Lib.hid (S0.out)
      have ZR := Lib.hid (Z0.out)
      have BB := Lib.hid (Apart.of_below (bs := StB (.slice (some ⟨gr, 0, none⟩) 4 rc) (.slice (some ⟨gm, 0, none⟩) M.length mc) (.slice sq S.length sc) (.slice oq O.length oc)) HB0.out)
      have OO := Lib.hid (O0.out)
      obtain ⟨d0, d1, d2, d3, d4, d5, d6, d7⟩ := cell8_row SR.out
      obtain ⟨g0, g1, g2, g3, g4, g5, g6, g7⟩ := cell8_row ZR.out
      obtain ⟨f0, f1, f2, f3, f4, f5, f6, f7⟩ := froz8_row ZR.out
      go_wp2
      obtain ⟨WE, hWE⟩ : ∃ W9, W9 = ((((((((w0.setCell ⟨w.heap.size + 2, 0, none⟩ (.int .i64 pc)).setCell ⟨w.heap.size + 2, 1, none⟩ (.slice (some ⟨gr, 0, none⟩) 4 rc)).setCell ⟨w.heap.size + 2, 2, none⟩ (.slice (some ⟨gm, 0, none⟩) M.length mc)).setCell ⟨w.heap.size + 2, 3, none⟩ (.slice sq S.length sc)).setCell ⟨w.heap.size + 2, 4, none⟩ (.int .i64 inn)).setCell ⟨w.heap.size + 2, 5, none⟩ (.slice oq O.length oc)).setCell ⟨w.heap.size + 2, 6, none⟩ (.int .i64 cd)).setCell ⟨w.heap.size + 2, 7, none⟩ (.int .i64 st)) := ⟨_, rfl⟩
      have D2 := Lib.hid (show WE.heap[w.heap.size + 2]? = some (.cells #[.int .i64 pc, .slice (some ⟨gr, 0, none⟩) 4 rc, .slice (some ⟨gm, 0, none⟩) M.length mc, .slice sq S.length sc, .int .i64 inn, .slice oq O.length oc, .int .i64 cd, .int .i64 st] 52 (0, 0)) by rw [hWE]; exact set8_row ZR.out _ _ _ _ _ _ _ _)
      have BE := Lib.hid (show Apart _ w WE by rw [hWE]; exact set8_apart BB.out (by omega) _ _ _ _ _ _ _ _)
      have OE := Lib.hid (show StO WE base _ _ _ _ _ by rw [hWE]; exact OO.out.set8 (OO.out.off (T := 52) (by decide) ZR.out) _ _ _ _ _ _ _ _)
      rw [← hWE]
      clear hWE d0 d1 d2 d3 d4 d5 d6 d7 g0 g1 g2 g3 g4 g5 g6 g7
      obtain ⟨d0, d1, d2, d3, d4, d5, d6, d7⟩ := cell8_row D2.out
      refine bodyPost_ret (v := .agg #[.int .i64 pc, .slice (some ⟨gr, 0, none⟩) 4 rc, .slice (some ⟨gm, 0, none⟩) M.length mc, .slice sq S.length sc, .int .i64 inn, .slice oq O.length oc, .int .i64 cd, .int .i64 st]) (by simp [results, Tryz.results33, go_sem, d0, d1, d2, d3, d4, d5, d6, d7]) rfl ?_
      rw [HX.out]
      exact ⟨_, _, _, _, rfl, OE.out, BE.out, fun g hg => .inl hg⟩
  · have hcd0 : cd = 0 := by by_cases h : cd = 0; exact h; exact absurd (.inl h) hcd
    have hst4 : ¬ st = 400 := fun h => hcd (.inr h)
    have hq : (cd != 0) = false := by simpa using hcd0
    have hq2 : (st == 400) = false := by simpa using hst4
    by_cases hpl : pc = L.length
    · have hv : stepV vw vm vi L I ⟨pc, R, M, S, inn, O, cd, st⟩ = ⟨pc, R, M, S, inn, O, 2, st⟩ := by unfold stepV; rw [if_neg hcd, if_pos hpl]
      have HX := Lib.hid (hXR.symm.trans hv)
      clear hv hcd hcd0 hXR
      have hq3 : (pc == (L.length : Int)) = true := by simpa using hpl
      clear hpl
      obtain ⟨x0, x1, x2, x3⟩ := X0.out
      obtain ⟨d0, d1, d2, d3, d4, d5, d6, d7⟩ := cell8_row S0.out
      rw [hw0] at x0 x1 x2 x3 d0 d1 d2 d3 d4 d5 d6 d7
      go_enter Tryz.func33, Tryz.ntmps33
      go_upto_region 4 with fail
      rw [← hw0]
      clear hw0 x0 x1 x2 x3 d0 d1 d2 d3 d4 d5 d6 d7
      obtain ⟨d0, d1, d2, d3, d4, d5, d6, d7⟩ := cell8_row S0.out
      obtain ⟨f0, f1, f2, f3, f4, f5, f6, f7⟩ := froz8_row S0.out
      go_upto_region 5 with fail
      clear d0 d1 d2 d3 d4 d5 d6 d7 f0 f1 f2 f3 f4 f5 f6 f7
      obtain ⟨wa, hwa⟩ : ∃ V, V = w0.setCell ⟨w.heap.size + 1, 6, none⟩ (.int .i64 2) := ⟨_, rfl⟩
      have SA := Lib.hid (show wa.heap[w.heap.size + 1]? = some (.cells #[.int .i64 pc, .slice (some ⟨gr, 0, none⟩) 4 rc, .slice (some ⟨gm, 0, none⟩) M.length mc, .slice sq S.length sc, .int .i64 inn, .slice oq O.length oc, .int .i64 2, .int .i64 st] 52 (0, 0)) by rw [hwa]; exact heap_setCell_same w0 _ 6 _ _ _ S0.out)
      have ZA := Lib.hid (show wa.heap[w.heap.size + 2]? = some (.cells #[.int .i64 0, .slice none 0 0, .slice none 0 0, .slice none 0 0, .int .i64 0, .slice none 0 0, .int .i64 0, .int .i64 0] 52 (0, 0)) by rw [hwa, heap_setCell_other _ _ _ _ (by simp)]; exact Z0.out)
      have BA := Lib.hid (show Apart (StB (.slice (some ⟨gr, 0, none⟩) 4 rc) (.slice (some ⟨gm, 0, none⟩) M.length mc) (.slice sq S.length sc) (.slice oq O.length oc)) w wa by rw [hwa]; exact (Apart.of_below HB0.out).above (p := ⟨w.heap.size + 1, 6, none⟩) (by simp) _)
      have OA := Lib.hid (show StO wa base ⟨pc, R, M, S, inn, O, 2, st⟩ _ _ _ _ by rw [hwa]; exact (O0.out.aside (O0.out.off (T := 52) (by decide) S0.out) 6 _).like rfl rfl rfl rfl)
      rw [← hwa]
      clear hwa
      have SR := Lib.hid (SA.out)
      have ZR := Lib.hid (ZA.out)
      have BB := Lib.hid (BA.out)
      have OO := Lib.hid (OA.out)
      obtain ⟨d0, d1, d2, d3, d4, d5, d6, d7⟩ := cell8_row SR.out
      obtain ⟨g0, g1, g2, g3, g4, g5, g6, g7⟩ := cell8_row ZR.out
      obtain ⟨f0, f1, f2, f3, f4, f5, f6, f7⟩ := froz8_row ZR.out
      go_wp2
      obtain ⟨WE, hWE⟩ : ∃ W9, W9 = ((((((((wa.setCell ⟨w.heap.size + 2, 0, none⟩ (.int .i64 pc)).setCell ⟨w.heap.size + 2, 1, none⟩ (.slice (some ⟨gr, 0, none⟩) 4 rc)).setCell ⟨w.heap.size + 2, 2, none⟩ (.slice (some ⟨gm, 0, none⟩) M.length mc)).setCell ⟨w.heap.size + 2, 3, none⟩ (.slice sq S.length sc)).setCell ⟨w.heap.size + 2, 4, none⟩ (.int .i64 inn)).setCell ⟨w.heap.size + 2, 5, none⟩ (.slice oq O.length oc)).setCell ⟨w.heap.size + 2, 6, none⟩ (.int .i64 2)).setCell ⟨w.heap.size + 2, 7, none⟩ (.int .i64 st)) := ⟨_, rfl⟩
      have D2 := Lib.hid (show WE.heap[w.heap.size + 2]? = some (.cells #[.int .i64 pc, .slice (some ⟨gr, 0, none⟩) 4 rc, .slice (some ⟨gm, 0, none⟩) M.length mc, .slice sq S.length sc, .int .i64 inn, .slice oq O.length oc, .int .i64 2, .int .i64 st] 52 (0, 0)) by rw [hWE]; exact set8_row ZR.out _ _ _ _ _ _ _ _)
      have BE := Lib.hid (show Apart _ w WE by rw [hWE]; exact set8_apart BB.out (by omega) _ _ _ _ _ _ _ _)
      have OE := Lib.hid (show StO WE base _ _ _ _ _ by rw [hWE]; exact OO.out.set8 (OO.out.off (T := 52) (by decide) ZR.out) _ _ _ _ _ _ _ _)
      rw [← hWE]
      clear hWE d0 d1 d2 d3 d4 d5 d6 d7 g0 g1 g2 g3 g4 g5 g6 g7
      obtain ⟨d0, d1, d2, d3, d4, d5, d6, d7⟩ := cell8_row D2.out
      refine bodyPost_ret (v := .agg #[.int .i64 pc, .slice (some ⟨gr, 0, none⟩) 4 rc, .slice (some ⟨gm, 0, none⟩) M.length mc, .slice sq S.length sc, .int .i64 inn, .slice oq O.length oc, .int .i64 2, .int .i64 st]) (by simp [results, Tryz.results33, go_sem, d0, d1, d2, d3, d4, d5, d6, d7]) rfl ?_
      rw [HX.out]
      exact ⟨_, _, _, _, rfl, OE.out, BE.out, fun g hg => .inl hg⟩
    · exact absurd hnr (fun h => h.elim hcd hpl)
end Go.Proofs.YthmababifgaejaaGreat
