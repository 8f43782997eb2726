/- impl.RunProgram and impl.TraceOf over impl.run. No condition. -/
import Derived.Test.YtmmcpjdcfhgkiaaRnI
namespace Go.Proofs.Ytmmcpjdcfhgkiaa
open Go.ChangeShapes Go.WideShapes Go.ChangeAt Go.RowKit
set_option maxRecDepth 100000 in
set_option maxHeartbeats 4000000 in
theorem i_runprog (vw vm vi : Int) (L : List InsR) (I : List Int) (f : Int) (sL li : Value) (w : World) (hs : Cs.Shows w 0 4 sL L.length (InsR.all L)) (hls : Cs.Shows w 0 1 li I.length (IntL.all I)) (hok : ∀ r ∈ L, r.Ok) (hL : L.length ≤ maxLen) (hl : I.length ≤ maxLen) :
    Calls Try.prog 29 #[.agg #[.int .i64 vw, .int .i64 vm, .int .i64 vi, sL], li, .int .i64 f] w (StEnd (rnV vw vm vi L I f) w) := by
  have hml : maxLen = 9223372036854775807 := rfl
  have KR := Lib.hid (fun W (hb : Below w.heap.size w W) => i_runp vw vm vi L I f sL li W (hs.below hb) (hls.below hb) hok hL hl)
  obtain ⟨_, q, cap, rfl, _⟩ := hs
  obtain ⟨_, iq, ic, rfl, _⟩ := hls
  go_enter Try.func29, Try.ntmps29
  go_wp2_with fail
  obtain ⟨w0, hw0⟩ : ∃ w0, w0 = (w.alloc (.cells #[.int .i64 vw, .int .i64 vm, .int .i64 vi, .slice q L.length cap] 30)).alloc (.cells #[.int .i64 0, .slice none 0 0, .slice none 0 0, .slice none 0 0, .int .i64 0, .slice none 0 0, .int .i64 0, .int .i64 0] 41) := ⟨_, rfl⟩
  have HB0 := Lib.hid (show Below w.heap.size w w0 by rw [hw0]; exact ((Below.refl _ _).alloc (Nat.le_refl _) _).alloc (by simp) _)
  have hs0 : w0.heap.size = w.heap.size + 2 := by rw [hw0]; simp
  have ZR0 := Lib.hid (show w0.heap[w.heap.size + 1]? = some (.cells #[.int .i64 0, .slice none 0 0, .slice none 0 0, .slice none 0 0, .int .i64 0, .slice none 0 0, .int .i64 0, .int .i64 0] 41 (0, 0)) by rw [hw0, ← show (w.alloc (.cells #[.int .i64 vw, .int .i64 vm, .int .i64 vi, .slice q L.length cap] 30)).heap.size = w.heap.size + 1 by simp]; exact heap_alloc_new _ _)
  rw [← hw0]
  clear hw0
  refine (KR.out _ HB0.out).mono ?_
  rintro e w5 ⟨hb, rq, rc, mq, mc, sq, sc, oq, oc, tq, tc, rfl, ho, ht⟩
  have HB5 := Lib.hid (HB0.out.trans (hb.mono HB0.out.size))
  have ZR5 := Lib.hid ((hb.block (w.heap.size + 1) (by omega)).trans ZR0.out)
  have O5 := Lib.hid (ho.base (base' := w.heap.size) (by omega))
  obtain ⟨x, hx⟩ : ∃ x, rnV vw vm vi L I f = x := ⟨_, rfl⟩
  have HX := Lib.hid hx
  rw [hx] at O5 ⊢
  clear hx hb ho ht hs0
  obtain ⟨w6, hw6⟩ : ∃ W9, W9 = w5.alloc (.cells #[.int .i64 x.pc, .slice rq x.R.length rc, .slice mq x.M.length mc, .slice sq x.S.length sc, .int .i64 x.inn, .slice oq x.O.length oc, .int .i64 x.cd, .int .i64 x.st] 41) := ⟨_, rfl⟩
  have hb6 : Below w5.heap.size w5 w6 := by rw [hw6]; exact (Below.refl _ _).alloc (Nat.le_refl _) _
  have HB6 := Lib.hid (HB5.out.trans (hb6.mono HB5.out.size))
  have ZR6 := Lib.hid ((hb6.block (w.heap.size + 1) (Array.getElem?_eq_some_iff.1 ZR5.out).1).trans ZR5.out)
  have SR6 := Lib.hid (show w6.heap[w5.heap.size]? = some (.cells #[.int .i64 x.pc, .slice rq x.R.length rc, .slice mq x.M.length mc, .slice sq x.S.length sc, .int .i64 x.inn, .slice oq x.O.length oc, .int .i64 x.cd, .int .i64 x.st] 41 (0, 0)) by rw [hw6]; exact heap_alloc_new _ _)
  have O6 := Lib.hid (O5.out.keep hb6)
  clear hb6
  obtain ⟨z0, z1, z2, z3, z4, z5, z6, z7⟩ := cell8_row ZR6.out
  obtain ⟨d0, d1, d2, d3, d4, d5, d6, d7⟩ := cell8_row SR6.out
  obtain ⟨f0, f1, f2, f3, f4, f5, f6, f7⟩ := froz8_row ZR6.out
  rw [hw6] at d0 d1 d2 d3 d4 d5 d6 d7 z0 z1 z2 z3 z4 z5 z6 z7 f0 f1 f2 f3 f4 f5 f6 f7
  go_wp2
  rw [← hw6]
  clear hw6 z0 z1 z2 z3 z4 z5 z6 z7
  obtain ⟨we, hwe⟩ : ∃ W9, W9 = ((((((((w6.setCell ⟨w.heap.size + 1, 0, none⟩ (.int .i64 x.pc)).setCell ⟨w.heap.size + 1, 1, none⟩ (.slice rq x.R.length rc)).setCell ⟨w.heap.size + 1, 2, none⟩ (.slice mq x.M.length mc)).setCell ⟨w.heap.size + 1, 3, none⟩ (.slice sq x.S.length sc)).setCell ⟨w.heap.size + 1, 4, none⟩ (.int .i64 x.inn)).setCell ⟨w.heap.size + 1, 5, none⟩ (.slice oq x.O.length oc)).setCell ⟨w.heap.size + 1, 6, none⟩ (.int .i64 x.cd)).setCell ⟨w.heap.size + 1, 7, none⟩ (.int .i64 x.st)) := ⟨_, rfl⟩
  have D2 := Lib.hid (show we.heap[w.heap.size + 1]? = some (.cells #[.int .i64 x.pc, .slice rq x.R.length rc, .slice mq x.M.length mc, .slice sq x.S.length sc, .int .i64 x.inn, .slice oq x.O.length oc, .int .i64 x.cd, .int .i64 x.st] 41 (0, 0)) by rw [hwe]; exact set8_row ZR6.out _ _ _ _ _ _ _ _)
  have BE := Lib.hid (show Below w.heap.size w we by rw [hwe]; exact set8_below HB6.out (by omega) _ _ _ _ _ _ _ _)
  have OE := Lib.hid (show StO we w.heap.size x _ _ _ _ by rw [hwe]; exact O6.out.set8 (O6.out.off (T := 41) (by decide) ZR6.out) _ _ _ _ _ _ _ _)
  rw [← hwe]
  clear hwe d0 d1 d2 d3 d4 d5 d6 d7
  obtain ⟨d0, d1, d2, d3, d4, d5, d6, d7⟩ := cell8_row D2.out
  refine bodyPost_ret (v := .agg #[.int .i64 x.pc, .slice rq x.R.length rc, .slice mq x.M.length mc, .slice sq x.S.length sc, .int .i64 x.inn, .slice oq x.O.length oc, .int .i64 x.cd, .int .i64 x.st]) (by simp [results, Try.results29, go_sem, d0, d1, d2, d3, d4, d5, d6, d7]) rfl ?_
  rw [HX.out]
  exact ⟨BE.out, rq, rc, mq, mc, sq, sc, oq, oc, rfl, OE.out⟩
set_option maxRecDepth 100000 in
set_option maxHeartbeats 4000000 in
theorem i_traceof (vw vm vi : Int) (L : List InsR) (I : List Int) (f : Int) (sL li : Value) (w : World) (hs : Cs.Shows w 0 4 sL L.length (InsR.all L)) (hls : Cs.Shows w 0 1 li I.length (IntL.all I)) (hok : ∀ r ∈ L, r.Ok) (hL : L.length ≤ maxLen) (hl : I.length ≤ maxLen) :
    Calls Try.prog 31 #[.agg #[.int .i64 vw, .int .i64 vm, .int .i64 vi, sL], li, .int .i64 f] w (NxOwn (rtV vw vm vi L I f) w) := by
  have hml : maxLen = 9223372036854775807 := rfl
  have KR := Lib.hid (fun W (hb : Below w.heap.size w W) => i_runp vw vm vi L I f sL li W (hs.below hb) (hls.below hb) hok hL hl)
  obtain ⟨_, q, cap, rfl, _⟩ := hs
  obtain ⟨_, iq, ic, rfl, _⟩ := hls
  go_enter Try.func31, Try.ntmps31
  go_wp2_with fail
  obtain ⟨w0, hw0⟩ : ∃ w0, w0 = w.alloc (.cells #[.int .i64 vw, .int .i64 vm, .int .i64 vi, .slice q L.length cap] 30) := ⟨_, rfl⟩
  have HB0 := Lib.hid (show Below w.heap.size w w0 by rw [hw0]; exact (Below.refl _ _).alloc (Nat.le_refl _) _)
  have hs0 : w.heap.size ≤ w0.heap.size := HB0.out.size
  rw [← hw0]
  clear hw0
  refine (KR.out _ HB0.out).mono ?_
  rintro e w5 ⟨hb, rq, rc, mq, mc, sq, sc, oq, oc, tq, tc, rfl, ho, ht⟩
  have HB5 := Lib.hid (HB0.out.trans (hb.mono HB0.out.size))
  have T5 := Lib.hid (own_base ht (base' := w.heap.size) hs0)
  clear hb ho ht hs0
  go_wp2
  go_ret
  have hb6 := (Below.refl w5.heap.size w5).alloc (Nat.le_refl _) (.cells #[.int .i64 (rnV vw vm vi L I f).pc, .slice rq (rnV vw vm vi L I f).R.length rc, .slice mq (rnV vw vm vi L I f).M.length mc, .slice sq (rnV vw vm vi L I f).S.length sc, .int .i64 (rnV vw vm vi L I f).inn, .slice oq (rnV vw vm vi L I f).O.length oc, .int .i64 (rnV vw vm vi L I f).cd, .int .i64 (rnV vw vm vi L I f).st] 41)
  exact ⟨HB5.out.trans (hb6.mono HB5.out.size), tq, tc, rfl, own_keep T5.out hb6⟩
end Go.Proofs.Ytmmcpjdcfhgkiaa
