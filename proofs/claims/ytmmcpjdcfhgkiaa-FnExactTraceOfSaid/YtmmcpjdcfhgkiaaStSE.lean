/- What the specification's l05Step returns. No condition. -/
import Derived.Test.YtmmcpjdcfhgkiaaStW
import Derived.Test.YtmmcpjdcfhgkiaaUn1
import Derived.Test.YtmmcpjdcfhgkiaaReg
import Derived.Test.YtmmcpjdcfhgkiaaProgram
import Derived.Deep.CutRange
namespace Go.Proofs.Ytmmcpjdcfhgkiaa
open Go.ChangeShapes Go.WideShapes Go.ChangeAt Go.RowKit
set_option maxRecDepth 100000 in
set_option maxHeartbeats 16000000 in
theorem s_stepE (vw vm vi : Int) (L : List InsR) (pc : Int) (R M S : List Int) (inn : Int) (O : List Int) (cd st : Int) (I : List Int) (sL r m s o li : Value) (base : Nat) (w : World) (hp : prB vw vm vi L = true) (hG : Gd vw vm vi L.length ⟨pc, R, M, S, inn, O, cd, st⟩) (hI : (I.length : Int) = vi ∧ ∀ y ∈ I, IsW vw y) (hs : Cs.Shows w 0 4 sL L.length (InsR.all L)) (hli : Cs.Shows w 0 1 li I.length (IntL.all I)) (ho : StO w base ⟨pc, R, M, S, inn, O, cd, st⟩ r m s o) (_hbase : base ≤ w.heap.size) (hnr : (cd ≠ 0 ∨ st = 400) ∨ pc = L.length) :
    Calls Try.prog 49 #[.agg #[.int .i64 vw, .int .i64 vm, .int .i64 vi, sL], .agg #[.int .i64 pc, r, m, s, .int .i64 inn, o, .int .i64 cd, .int .i64 st], li] w (SqEnd r m s o base (stepV vw vm vi L I ⟨pc, R, M, S, inn, O, cd, st⟩) w) := by
  obtain ⟨XR, hXR⟩ : ∃ X, stepV vw vm vi L I ⟨pc, R, M, S, inn, O, cd, st⟩ = X := ⟨_, rfl⟩
  rw [hXR]
  have hml : maxLen = 9223372036854775807 := rfl
  obtain ⟨⟨hw2, hw8, hm1, hm6, _, hi0, hi3, hl1, hl40⟩, hins⟩ := pr_in hp
  have HINS := Lib.hid hins
  have hR : R.length = 4 := hG.hR
  have hM : (M.length : Int) = vm := hG.hM
  have hS3 : S.length ≤ 3 := hG.hS
  have hO6 : O.length ≤ 6 := hG.hO
  have hpc : 0 ≤ pc ∧ pc ≤ L.length := hG.pc
  have hinn : 0 ≤ inn ∧ inn ≤ vi := hG.inn
  have hst : 0 ≤ st ∧ st ≤ 400 := hG.st
  have HG := Lib.hid hG
  have HI := Lib.hid hI
  obtain ⟨gr, rc, rfl⟩ : ∃ g c, r = .slice (some ⟨g, 0, none⟩) 4 c := by have := own_some ho.1 (show 0 < R.length by omega); rw [show (StR.mk pc R M S inn O cd st).R.length = 4 from hR] at this; exact this
  obtain ⟨gm, mc, rfl⟩ := own_some ho.2.1 (show 0 < M.length by omega)
  obtain ⟨sq, sc, rfl⟩ := own_slice ho.2.2.1
  obtain ⟨oq, oc, rfl⟩ := own_slice ho.2.2.2.1
  have HS := Lib.hid hs
  have HLI := Lib.hid hli
  obtain ⟨_, q, cap, rfl, _⟩ := hs
  obtain ⟨_, iq, ic, rfl, _⟩ := hli
  have hgr : gr < w.heap.size := (ho.lt (g := gr) (by simp [StB, Value.ownBlock])).2
  have hgm : gm < w.heap.size := (ho.lt (g := gm) (by simp [StB, Value.ownBlock])).2
  have HR : Hid (∀ j, (h : j < L.length) → ∃ b o, q = some ⟨b, o, none⟩ ∧ b < w.heap.size ∧ ∀ W, Below w.heap.size w W → W.cell? ⟨b, o + j * 4, none⟩ = some (.int .i64 L[j].f0) ∧ W.cell? ⟨b, o + j * 4 + 1, none⟩ = some (.int .i64 L[j].f1) ∧ W.cell? ⟨b, o + j * 4 + 2, none⟩ = some (.int .i64 L[j].f2) ∧ W.cell? ⟨b, o + j * 4 + 3, none⟩ = some (.int .i64 L[j].f3)) := Lib.hid (fun j h => by
    rcases Cs.shows_cases HS.out with ⟨h0, _⟩ | ⟨_, b, o, c, hq, _, _, hbl, hr⟩
    · omega
    · injection hq with e1 e2 e3
      refine ⟨b, o, e1, hbl, fun W hW => ?_⟩
      have hh := flat_nth InsR.cells 4 (fun _ => rfl) L j h (rangeAt_below hW hr)
      exact ⟨hh 0 _ rfl, hh 1 _ rfl, hh 2 _ rfl, hh 3 _ rfl⟩)
  have HIN : Hid (∀ j, (h : j < I.length) → ∃ b o, iq = some ⟨b, o, none⟩ ∧ b < w.heap.size ∧ ∀ W, Below w.heap.size w W → W.cell? ⟨b, o + j, none⟩ = some (.int .i64 I[j])) := Lib.hid (fun j h => by
    rcases Cs.shows_cases HLI.out with ⟨h0, _⟩ | ⟨_, b, o, c, hq, _, _, hbl, hr⟩
    · omega
    · injection hq with e1 e2 e3
      refine ⟨b, o, e1, hbl, fun W hW => ?_⟩
      have hh := rangeAt_below hW hr j (.int .i64 I[j]) (by rw [IntL.all_map, List.getElem?_map, List.getElem?_eq_getElem h]; rfl)
      exact hh)
  obtain ⟨w0, hw0⟩ : ∃ w0, w0 = ((w.alloc (.cells #[.int .i64 vw, .int .i64 vm, .int .i64 vi, .slice q L.length cap] 30)).alloc (.cells #[.int .i64 pc, .slice (some ⟨gr, 0, none⟩) 4 rc, .slice (some ⟨gm, 0, none⟩) M.length mc, .slice sq S.length sc, .int .i64 inn, .slice oq O.length oc, .int .i64 cd, .int .i64 st] 41)).alloc (.cells #[.int .i64 0, .slice none 0 0, .slice none 0 0, .slice none 0 0, .int .i64 0, .slice none 0 0, .int .i64 0, .int .i64 0] 41) := ⟨_, rfl⟩
  have HB0 : Hid (Below w.heap.size w w0) := Lib.hid (by rw [hw0]; exact (((Below.refl _ _).alloc (Nat.le_refl _) _).alloc (by simp) _).alloc (by simp; omega) _)
  have hs0 : w0.heap.size = w.heap.size + 3 := by rw [hw0]; simp
  have X0 : Hid (Cell4 w0 w.heap.size (.int .i64 vw) (.int .i64 vm) (.int .i64 vi) (.slice q L.length cap)) := Lib.hid (by rw [hw0]; exact (cell4_alloc w 30 _ _ _ _).below (((Below.refl _ _).alloc (Nat.le_refl _) _).alloc (by simp) _))
  have XR0 : Hid (w0.heap[w.heap.size]? = some (.cells #[.int .i64 vw, .int .i64 vm, .int .i64 vi, .slice q L.length cap] 30 (0, 0))) := Lib.hid (by
    rw [hw0, heap_alloc_old _ _ (by simp; omega), heap_alloc_old _ _ (by simp)]
    exact heap_alloc_new _ _)
  have S0 : Hid (w0.heap[w.heap.size + 1]? = some (.cells #[.int .i64 pc, .slice (some ⟨gr, 0, none⟩) 4 rc, .slice (some ⟨gm, 0, none⟩) M.length mc, .slice sq S.length sc, .int .i64 inn, .slice oq O.length oc, .int .i64 cd, .int .i64 st] 41 (0, 0))) := Lib.hid (by
    rw [hw0, heap_alloc_old _ _ (by simp), ← show (w.alloc (.cells #[.int .i64 vw, .int .i64 vm, .int .i64 vi, .slice q L.length cap] 30)).heap.size = w.heap.size + 1 by simp]
    exact heap_alloc_new _ _)
  have Z0 : Hid (w0.heap[w.heap.size + 2]? = some (.cells #[.int .i64 0, .slice none 0 0, .slice none 0 0, .slice none 0 0, .int .i64 0, .slice none 0 0, .int .i64 0, .int .i64 0] 41 (0, 0))) := Lib.hid (by
    rw [hw0, ← show ((w.alloc (.cells #[.int .i64 vw, .int .i64 vm, .int .i64 vi, .slice q L.length cap] 30)).alloc (.cells #[.int .i64 pc, .slice (some ⟨gr, 0, none⟩) 4 rc, .slice (some ⟨gm, 0, none⟩) M.length mc, .slice sq S.length sc, .int .i64 inn, .slice oq O.length oc, .int .i64 cd, .int .i64 st] 41)).heap.size = w.heap.size + 2 by simp]
    exact heap_alloc_new _ _)
  have O0 := Lib.hid (ho.keep HB0.out)
  have HMV := Lib.hid hM
  clear ho hG hins hp hM hI
  by_cases hcd : cd ≠ 0 ∨ st = 400
  · have hv : stepV vw vm vi L I ⟨pc, R, M, S, inn, O, cd, st⟩ = ⟨pc, R, M, S, inn, O, cd, st⟩ := by unfold stepV; rw [if_pos hcd]
    have HX := Lib.hid (hXR.symm.trans hv)
    clear hv hXR
    have hq : (cd != 0) = true ∨ ((cd != 0) = false ∧ (st == 400) = true) := by
      by_cases h : cd = 0
      · exact .inr ⟨by simpa using h, by have := hcd.resolve_left (fun q => q h); simpa using this⟩
      · exact .inl (by simpa using h)
    clear hcd
    rcases hq with hq | ⟨hq, hq2⟩
    · skip
      obtain ⟨x0, x1, x2, x3⟩ := X0.out
      obtain ⟨d0, d1, d2, d3, d4, d5, d6, d7⟩ := cell8_row S0.out
      rw [hw0] at x0 x1 x2 x3 d0 d1 d2 d3 d4 d5 d6 d7
      go_enter Try.func49, Try.ntmps49
      go_upto_region 2 with fail
      rw [← hw0]
      clear hw0 x0 x1 x2 x3 d0 d1 d2 d3 d4 d5 d6 d7
      have SR := Lib.hid (S0.out)
      have ZR := Lib.hid (Z0.out)
      have BB := Lib.hid (Apart.of_below (bs := StB (.slice (some ⟨gr, 0, none⟩) 4 rc) (.slice (some ⟨gm, 0, none⟩) M.length mc) (.slice sq S.length sc) (.slice oq O.length oc)) HB0.out)
      have OO := Lib.hid (O0.out)
      obtain ⟨d0, d1, d2, d3, d4, d5, d6, d7⟩ := cell8_row SR.out
      obtain ⟨g0, g1, g2, g3, g4, g5, g6, g7⟩ := cell8_row ZR.out
      obtain ⟨f0, f1, f2, f3, f4, f5, f6, f7⟩ := froz8_row ZR.out
      go_wp2
      obtain ⟨WE, hWE⟩ : ∃ W9, W9 = ((((((((w0.setCell ⟨w.heap.size + 2, 0, none⟩ (.int .i64 pc)).setCell ⟨w.heap.size + 2, 1, none⟩ (.slice (some ⟨gr, 0, none⟩) 4 rc)).setCell ⟨w.heap.size + 2, 2, none⟩ (.slice (some ⟨gm, 0, none⟩) M.length mc)).setCell ⟨w.heap.size + 2, 3, none⟩ (.slice sq S.length sc)).setCell ⟨w.heap.size + 2, 4, none⟩ (.int .i64 inn)).setCell ⟨w.heap.size + 2, 5, none⟩ (.slice oq O.length oc)).setCell ⟨w.heap.size + 2, 6, none⟩ (.int .i64 cd)).setCell ⟨w.heap.size + 2, 7, none⟩ (.int .i64 st)) := ⟨_, rfl⟩
      have D2 := Lib.hid (show WE.heap[w.heap.size + 2]? = some (.cells #[.int .i64 pc, .slice (some ⟨gr, 0, none⟩) 4 rc, .slice (some ⟨gm, 0, none⟩) M.length mc, .slice sq S.length sc, .int .i64 inn, .slice oq O.length oc, .int .i64 cd, .int .i64 st] 41 (0, 0)) by rw [hWE]; exact set8_row ZR.out _ _ _ _ _ _ _ _)
      have BE := Lib.hid (show Apart _ w WE by rw [hWE]; exact set8_apart BB.out (by omega) _ _ _ _ _ _ _ _)
      have OE := Lib.hid (show StO WE base _ _ _ _ _ by rw [hWE]; exact OO.out.set8 (OO.out.off (T := 41) (by decide) ZR.out) _ _ _ _ _ _ _ _)
      rw [← hWE]
      clear hWE d0 d1 d2 d3 d4 d5 d6 d7 g0 g1 g2 g3 g4 g5 g6 g7
      obtain ⟨d0, d1, d2, d3, d4, d5, d6, d7⟩ := cell8_row D2.out
      refine bodyPost_ret (v := .agg #[.int .i64 pc, .slice (some ⟨gr, 0, none⟩) 4 rc, .slice (some ⟨gm, 0, none⟩) M.length mc, .slice sq S.length sc, .int .i64 inn, .slice oq O.length oc, .int .i64 cd, .int .i64 st]) (by simp [results, Try.results49, go_sem, d0, d1, d2, d3, d4, d5, d6, d7]) rfl ?_
      rw [HX.out]
      exact ⟨_, _, _, _, rfl, OE.out, BE.out, fun g hg => .inl hg⟩
    · skip
      obtain ⟨x0, x1, x2, x3⟩ := X0.out
      obtain ⟨d0, d1, d2, d3, d4, d5, d6, d7⟩ := cell8_row S0.out
      rw [hw0] at x0 x1 x2 x3 d0 d1 d2 d3 d4 d5 d6 d7
      go_enter Try.func49, Try.ntmps49
      go_upto_region 2 with fail
      rw [← hw0]
      clear hw0 x0 x1 x2 x3 d0 d1 d2 d3 d4 d5 d6 d7
      have SR := Lib.hid (S0.out)
      have ZR := Lib.hid (Z0.out)
      have BB := Lib.hid (Apart.of_below (bs := StB (.slice (some ⟨gr, 0, none⟩) 4 rc) (.slice (some ⟨gm, 0, none⟩) M.length mc) (.slice sq S.length sc) (.slice oq O.length oc)) HB0.out)
      have OO := Lib.hid (O0.out)
      obtain ⟨d0, d1, d2, d3, d4, d5, d6, d7⟩ := cell8_row SR.out
      obtain ⟨g0, g1, g2, g3, g4, g5, g6, g7⟩ := cell8_row ZR.out
      obtain ⟨f0, f1, f2, f3, f4, f5, f6, f7⟩ := froz8_row ZR.out
      go_wp2
      obtain ⟨WE, hWE⟩ : ∃ W9, W9 = ((((((((w0.setCell ⟨w.heap.size + 2, 0, none⟩ (.int .i64 pc)).setCell ⟨w.heap.size + 2, 1, none⟩ (.slice (some ⟨gr, 0, none⟩) 4 rc)).setCell ⟨w.heap.size + 2, 2, none⟩ (.slice (some ⟨gm, 0, none⟩) M.length mc)).setCell ⟨w.heap.size + 2, 3, none⟩ (.slice sq S.length sc)).setCell ⟨w.heap.size + 2, 4, none⟩ (.int .i64 inn)).setCell ⟨w.heap.size + 2, 5, none⟩ (.slice oq O.length oc)).setCell ⟨w.heap.size + 2, 6, none⟩ (.int .i64 cd)).setCell ⟨w.heap.size + 2, 7, none⟩ (.int .i64 st)) := ⟨_, rfl⟩
      have D2 := Lib.hid (show WE.heap[w.heap.size + 2]? = some (.cells #[.int .i64 pc, .slice (some ⟨gr, 0, none⟩) 4 rc, .slice (some ⟨gm, 0, none⟩) M.length mc, .slice sq S.length sc, .int .i64 inn, .slice oq O.length oc, .int .i64 cd, .int .i64 st] 41 (0, 0)) by rw [hWE]; exact set8_row ZR.out _ _ _ _ _ _ _ _)
      have BE := Lib.hid (show Apart _ w WE by rw [hWE]; exact set8_apart BB.out (by omega) _ _ _ _ _ _ _ _)
      have OE := Lib.hid (show StO WE base _ _ _ _ _ by rw [hWE]; exact OO.out.set8 (OO.out.off (T := 41) (by decide) ZR.out) _ _ _ _ _ _ _ _)
      rw [← hWE]
      clear hWE d0 d1 d2 d3 d4 d5 d6 d7 g0 g1 g2 g3 g4 g5 g6 g7
      obtain ⟨d0, d1, d2, d3, d4, d5, d6, d7⟩ := cell8_row D2.out
      refine bodyPost_ret (v := .agg #[.int .i64 pc, .slice (some ⟨gr, 0, none⟩) 4 rc, .slice (some ⟨gm, 0, none⟩) M.length mc, .slice sq S.length sc, .int .i64 inn, .slice oq O.length oc, .int .i64 cd, .int .i64 st]) (by simp [results, Try.results49, go_sem, d0, d1, d2, d3, d4, d5, d6, d7]) rfl ?_
      rw [HX.out]
      exact ⟨_, _, _, _, rfl, OE.out, BE.out, fun g hg => .inl hg⟩
  · have hcd0 : cd = 0 := by by_cases h : cd = 0; exact h; exact absurd (.inl h) hcd
    have hst4 : ¬ st = 400 := fun h => hcd (.inr h)
    have hq : (cd != 0) = false := by simpa using hcd0
    have hq2 : (st == 400) = false := by simpa using hst4
    by_cases hpl : pc = L.length
    · have hv : stepV vw vm vi L I ⟨pc, R, M, S, inn, O, cd, st⟩ = ⟨pc, R, M, S, inn, O, 2, st⟩ := by unfold stepV; rw [if_neg hcd, if_pos hpl]
      have HX := Lib.hid (hXR.symm.trans hv)
      clear hv hcd hcd0 hXR
      have hq3 : (pc == (L.length : Int)) = true := by simpa using hpl
      clear hpl
      obtain ⟨x0, x1, x2, x3⟩ := X0.out
      obtain ⟨d0, d1, d2, d3, d4, d5, d6, d7⟩ := cell8_row S0.out
      rw [hw0] at x0 x1 x2 x3 d0 d1 d2 d3 d4 d5 d6 d7
      go_enter Try.func49, Try.ntmps49
      go_upto_region 4 with fail
      rw [← hw0]
      clear hw0 x0 x1 x2 x3 d0 d1 d2 d3 d4 d5 d6 d7
      obtain ⟨d0, d1, d2, d3, d4, d5, d6, d7⟩ := cell8_row S0.out
      obtain ⟨f0, f1, f2, f3, f4, f5, f6, f7⟩ := froz8_row S0.out
      go_upto_region 5 with fail
      clear d0 d1 d2 d3 d4 d5 d6 d7 f0 f1 f2 f3 f4 f5 f6 f7
      obtain ⟨wa, hwa⟩ : ∃ V, V = w0.setCell ⟨w.heap.size + 1, 6, none⟩ (.int .i64 2) := ⟨_, rfl⟩
      have SA := Lib.hid (show wa.heap[w.heap.size + 1]? = some (.cells #[.int .i64 pc, .slice (some ⟨gr, 0, none⟩) 4 rc, .slice (some ⟨gm, 0, none⟩) M.length mc, .slice sq S.length sc, .int .i64 inn, .slice oq O.length oc, .int .i64 2, .int .i64 st] 41 (0, 0)) by rw [hwa]; exact heap_setCell_same w0 _ 6 _ _ _ S0.out)
      have ZA := Lib.hid (show wa.heap[w.heap.size + 2]? = some (.cells #[.int .i64 0, .slice none 0 0, .slice none 0 0, .slice none 0 0, .int .i64 0, .slice none 0 0, .int .i64 0, .int .i64 0] 41 (0, 0)) by rw [hwa, heap_setCell_other _ _ _ _ (by simp)]; exact Z0.out)
      have BA := Lib.hid (show Apart (StB (.slice (some ⟨gr, 0, none⟩) 4 rc) (.slice (some ⟨gm, 0, none⟩) M.length mc) (.slice sq S.length sc) (.slice oq O.length oc)) w wa by rw [hwa]; exact (Apart.of_below HB0.out).above (p := ⟨w.heap.size + 1, 6, none⟩) (by simp) _)
      have OA := Lib.hid (show StO wa base ⟨pc, R, M, S, inn, O, 2, st⟩ _ _ _ _ by rw [hwa]; exact (O0.out.aside (O0.out.off (T := 41) (by decide) S0.out) 6 _).like rfl rfl rfl rfl)
      rw [← hwa]
      clear hwa
      have SR := Lib.hid (SA.out)
      have ZR := Lib.hid (ZA.out)
      have BB := Lib.hid (BA.out)
      have OO := Lib.hid (OA.out)
      obtain ⟨d0, d1, d2, d3, d4, d5, d6, d7⟩ := cell8_row SR.out
      obtain ⟨g0, g1, g2, g3, g4, g5, g6, g7⟩ := cell8_row ZR.out
      obtain ⟨f0, f1, f2, f3, f4, f5, f6, f7⟩ := froz8_row ZR.out
      go_wp2
      obtain ⟨WE, hWE⟩ : ∃ W9, W9 = ((((((((wa.setCell ⟨w.heap.size + 2, 0, none⟩ (.int .i64 pc)).setCell ⟨w.heap.size + 2, 1, none⟩ (.slice (some ⟨gr, 0, none⟩) 4 rc)).setCell ⟨w.heap.size + 2, 2, none⟩ (.slice (some ⟨gm, 0, none⟩) M.length mc)).setCell ⟨w.heap.size + 2, 3, none⟩ (.slice sq S.length sc)).setCell ⟨w.heap.size + 2, 4, none⟩ (.int .i64 inn)).setCell ⟨w.heap.size + 2, 5, none⟩ (.slice oq O.length oc)).setCell ⟨w.heap.size + 2, 6, none⟩ (.int .i64 2)).setCell ⟨w.heap.size + 2, 7, none⟩ (.int .i64 st)) := ⟨_, rfl⟩
      have D2 := Lib.hid (show WE.heap[w.heap.size + 2]? = some (.cells #[.int .i64 pc, .slice (some ⟨gr, 0, none⟩) 4 rc, .slice (some ⟨gm, 0, none⟩) M.length mc, .slice sq S.length sc, .int .i64 inn, .slice oq O.length oc, .int .i64 2, .int .i64 st] 41 (0, 0)) by rw [hWE]; exact set8_row ZR.out _ _ _ _ _ _ _ _)
      have BE := Lib.hid (show Apart _ w WE by rw [hWE]; exact set8_apart BB.out (by omega) _ _ _ _ _ _ _ _)
      have OE := Lib.hid (show StO WE base _ _ _ _ _ by rw [hWE]; exact OO.out.set8 (OO.out.off (T := 41) (by decide) ZR.out) _ _ _ _ _ _ _ _)
      rw [← hWE]
      clear hWE d0 d1 d2 d3 d4 d5 d6 d7 g0 g1 g2 g3 g4 g5 g6 g7
      obtain ⟨d0, d1, d2, d3, d4, d5, d6, d7⟩ := cell8_row D2.out
      refine bodyPost_ret (v := .agg #[.int .i64 pc, .slice (some ⟨gr, 0, none⟩) 4 rc, .slice (some ⟨gm, 0, none⟩) M.length mc, .slice sq S.length sc, .int .i64 inn, .slice oq O.length oc, .int .i64 2, .int .i64 st]) (by simp [results, Try.results49, go_sem, d0, d1, d2, d3, d4, d5, d6, d7]) rfl ?_
      rw [HX.out]
      exact ⟨_, _, _, _, rfl, OE.out, BE.out, fun g hg => .inl hg⟩
    · exact absurd hnr (fun h => h.elim hcd hpl)
end Go.Proofs.Ytmmcpjdcfhgkiaa
