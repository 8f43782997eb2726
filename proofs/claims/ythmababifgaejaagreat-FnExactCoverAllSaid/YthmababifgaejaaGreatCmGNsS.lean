/- What the specification's NewState returns. No condition. What the specification's l05Words and InputsOk return. No condition. -/
import Derived.Test.YthmababifgaejaaGreatCmGSoM
import Derived.Test.YthmababifgaejaaGreatCmPrS
import Derived.Deep.RegionWith
import Derived.Test.YthmababifgaejaaGreatCmGFlInt
namespace Go.Proofs.YthmababifgaejaaGreat
open Go.ChangeShapes Go.WideShapes Go.ChangeAt Go.RowKit
set_option maxRecDepth 100000 in
set_option maxHeartbeats 2000000 in
theorem s_new0 (vw vm vi : Int) (L : List InsR) (s : Value) (w : World) (hs : Cs.Shows w 0 4 s L.length (InsR.all L)) (hok : ∀ r ∈ L, r.Ok) (hL : L.length ≤ maxLen) :
    Calls Tryz.prog 30 #[.agg #[.int .i64 vw, .int .i64 vm, .int .i64 vi, s]] w (StEnd (nsV vw vm vi L) w) := by
  have hml : maxLen = 9223372036854775807 := rfl
  have K1 := Lib.hid (fun W (hb : Below w.heap.size w W) => s_prog vw vm vi L s W (hs.below hb) hok hL)
  obtain ⟨_, q, cap, rfl, _⟩ := hs
  obtain ⟨B, hB⟩ : ∃ B, prB vw vm vi L = B := ⟨_, rfl⟩
  obtain ⟨V, hV⟩ : ∃ V, nsV vw vm vi L = V := ⟨_, rfl⟩
  rw [hV]
  unfold nsV at hV
  rw [hB] at K1 hV
  have HB0 := Lib.hid (((Below.refl w.heap.size w).alloc (Nat.le_refl _) (.cells #[.int .i64 vw, .int .i64 vm, .int .i64 vi, .slice q L.length cap] 32)).alloc (by simp) (.cells #[.int .i64 0, .slice none 0 0, .slice none 0 0, .slice none 0 0, .int .i64 0, .slice none 0 0, .int .i64 0, .int .i64 0] 52))
  have X0 := Lib.hid ((cell4_alloc w 32 (.int .i64 vw) (.int .i64 vm) (.int .i64 vi) (.slice q L.length cap)).below ((Below.refl _ _).alloc (Nat.le_refl _) (.cells #[.int .i64 0, .slice none 0 0, .slice none 0 0, .slice none 0 0, .int .i64 0, .slice none 0 0, .int .i64 0, .int .i64 0] 52)))
  have Z0 := Lib.hid (heap_alloc_new (w.alloc (.cells #[.int .i64 vw, .int .i64 vm, .int .i64 vi, .slice q L.length cap] 32)) (.cells #[.int .i64 0, .slice none 0 0, .slice none 0 0, .slice none 0 0, .int .i64 0, .slice none 0 0, .int .i64 0, .int .i64 0] 52))
  rw [show (w.alloc (.cells #[.int .i64 vw, .int .i64 vm, .int .i64 vi, .slice q L.length cap] 32)).heap.size = w.heap.size + 1 by simp] at Z0
  obtain ⟨w0, hw0⟩ : ∃ w0, w0 = (w.alloc (.cells #[.int .i64 vw, .int .i64 vm, .int .i64 vi, .slice q L.length cap] 32)).alloc (.cells #[.int .i64 0, .slice none 0 0, .slice none 0 0, .slice none 0 0, .int .i64 0, .slice none 0 0, .int .i64 0, .int .i64 0] 52) := ⟨_, rfl⟩
  have hs0 : w0.heap.size = w.heap.size + 2 := by rw [hw0]; simp
  rw [← hw0] at HB0 X0 Z0
  go_enter Tryz.func30, Tryz.ntmps30
  go_wp2_with fail
  rw [← hw0]
  clear hw0
  refine (K1.out _ HB0.out).mono ?_
  rintro e w1 ⟨rfl, hb⟩
  have HB1 := Lib.hid (HB0.out.trans (hb.mono HB0.out.size))
  have Z1 := Lib.hid ((hb.block (w.heap.size + 1) (by omega)).trans Z0.out)
  have X1 := Lib.hid (X0.out.below hb)
  have hs1 := hb.size
  have hz0 : w.heap.size < w1.heap.size := by omega
  have hz1 : w.heap.size + 1 < w1.heap.size := by omega
  have hz2 : w.heap.size + 1 < w1.heap.size + 1 := by omega
  have hz3 : w.heap.size < w1.heap.size + 1 := by omega
  clear hb
  obtain ⟨x0, x1, x2, x3⟩ := X1.out
  obtain ⟨d0, d1, d2, d3, d4, d5, d6, d7⟩ := cell8_row Z1.out
  obtain ⟨e0, e1, e2, e3, e4, e5, e6, e7⟩ := froz8_row Z1.out
  cases B
  case false =>
    have hv : V = zeroSt := by rw [← hV]; rfl
    subst hv
    go_wp2
    refine bodyPost_ret (v := .agg #[.int .i64 0, .slice none 0 0, .slice none 0 0, .slice none 0 0, .int .i64 0, .slice none 0 0, .int .i64 0, .int .i64 0]) (by simp [results, Tryz.results30, go_sem, d0, d1, d2, d3, d4, d5, d6, d7]) rfl ?_
    refine st_zero ?_
    repeat (first | refine Below.setCell ?_ (by first | (simp; done) | (simp; omega)) _ | exact HB1.out)
  case true =>
    have hv : V = newSt vm := by rw [← hV]; rfl
    subst hv
    obtain ⟨⟨-, -, hm1, hm6, -⟩, -⟩ := pr_in hB
    have h6 : vm = 1 ∨ vm = 2 ∨ vm = 3 ∨ vm = 4 ∨ vm = 5 ∨ vm = 6 := by omega
    rcases h6 with rfl | rfl | rfl | rfl | rfl | rfl
    · have hmk4 : ∀ W : World, (Instr.makeSlice 28 (.int .i64 4) (.int .i64 4)).run Tryz.prog W = .ok (.slice (some ⟨W.heap.size, 0, none⟩) 4 4) (W.alloc (.cells #[.int .i64 0, .int .i64 0, .int .i64 0, .int .i64 0] 3)) := fun _ => by kernel_rfl
      have hmk1 : ∀ W : World, (Instr.makeSlice 28 (.int .i64 1) (.int .i64 1)).run Tryz.prog W = .ok (.slice (some ⟨W.heap.size, 0, none⟩) 1 1) (W.alloc (.cells #[.int .i64 0] 3)) := fun _ => by kernel_rfl
      go_wp2
      go_region
      · obtain ⟨w2, hw2⟩ : ∃ W, W = ((((((((w1.setCell ⟨w.heap.size + 1, 0, none⟩ (.int .i64 0)).setCell ⟨w.heap.size + 1, 1, none⟩ (.slice (some ⟨w1.heap.size, 0, none⟩) 4 4)).setCell ⟨w.heap.size + 1, 2, none⟩ (.slice (some ⟨w1.heap.size + 1, 0, none⟩) 1 1)).setCell ⟨w.heap.size + 1, 3, none⟩ (.slice none 0 0)).setCell ⟨w.heap.size + 1, 4, none⟩ (.int .i64 0)).setCell ⟨w.heap.size + 1, 5, none⟩ (.slice none 0 0)).setCell ⟨w.heap.size + 1, 6, none⟩ (.int .i64 0)).setCell ⟨w.heap.size + 1, 7, none⟩ (.int .i64 0)) := ⟨_, rfl⟩
        have D2 := Lib.hid (show w2.heap[w.heap.size + 1]? = some (.cells #[.int .i64 0, .slice (some ⟨w1.heap.size, 0, none⟩) 4 4, .slice (some ⟨w1.heap.size + 1, 0, none⟩) 1 1, .slice none 0 0, .int .i64 0, .slice none 0 0, .int .i64 0, .int .i64 0] 52 (0, 0)) by rw [hw2]; exact set8_row Z1.out _ _ _ _ _ _ _ _)
        have B2 := Lib.hid (show Below w.heap.size w w2 by rw [hw2]; exact set8_below HB1.out (by omega) _ _ _ _ _ _ _ _)
        have s2 : w2.heap.size = w1.heap.size := by rw [hw2]; exact set8_size _ _ _ _ _ _ _ _ _ _
        rw [← hw2]
        obtain ⟨w3, hw3⟩ : ∃ W, W = ((w2.alloc (.cells #[.int .i64 0, .int .i64 0, .int .i64 0, .int .i64 0] 3)).alloc (.cells #[.int .i64 0] 3)).drew := ⟨_, rfl⟩
        have B3 : Below w2.heap.size w2 w3 := by rw [hw3]; exact (((Below.refl _ _).alloc (Nat.le_refl _) _).alloc (by simp) _).drew
        have D3 := Lib.hid ((B3.block (w.heap.size + 1) (by omega)).trans D2.out)
        have HT := two_rows w2 [0, 0, 0, 0] [0] w.heap.size B2.out.size (by simp; omega) (by simp; omega)
        have BF := Lib.hid (B2.out.trans (B3.mono B2.out.size))
        have HT2 := Lib.hid (show w3.ownsRow _ _ _ _ _ _ ∧ w3.ownsRow _ _ _ _ _ _ by rw [hw3]; exact HT)
        rw [← hw3]
        clear hw2 hw3 B3 HT x0 x1 x2 x3 d0 d1 d2 d3 d4 d5 d6 d7 e0 e1 e2 e3 e4 e5 e6 e7
        obtain ⟨d0, d1, d2, d3, d4, d5, d6, d7⟩ := cell8_row D3.out
        rw [s2] at HT2
        go_wp2
        refine bodyPost_ret (v := .agg #[.int .i64 0, .slice (some ⟨w1.heap.size, 0, none⟩) 4 4, .slice (some ⟨w1.heap.size + 1, 0, none⟩) 1 1, .slice none 0 0, .int .i64 0, .slice none 0 0, .int .i64 0, .int .i64 0]) (by simp [results, Tryz.results30, go_sem, d0, d1, d2, d3, d4, d5, d6, d7]) rfl ?_
        exact st_new 1 1 rfl w w3 _ _ (by omega) BF.out HT2.out.1 HT2.out.2
      · obtain ⟨w2, hw2⟩ : ∃ W, W = ((((((((w1.setCell ⟨w.heap.size + 1, 0, none⟩ (.int .i64 0)).setCell ⟨w.heap.size + 1, 1, none⟩ (.slice (some ⟨w1.heap.size + 1, 0, none⟩) 4 4)).setCell ⟨w.heap.size + 1, 2, none⟩ (.slice (some ⟨w1.heap.size, 0, none⟩) 1 1)).setCell ⟨w.heap.size + 1, 3, none⟩ (.slice none 0 0)).setCell ⟨w.heap.size + 1, 4, none⟩ (.int .i64 0)).setCell ⟨w.heap.size + 1, 5, none⟩ (.slice none 0 0)).setCell ⟨w.heap.size + 1, 6, none⟩ (.int .i64 0)).setCell ⟨w.heap.size + 1, 7, none⟩ (.int .i64 0)) := ⟨_, rfl⟩
        have D2 := Lib.hid (show w2.heap[w.heap.size + 1]? = some (.cells #[.int .i64 0, .slice (some ⟨w1.heap.size + 1, 0, none⟩) 4 4, .slice (some ⟨w1.heap.size, 0, none⟩) 1 1, .slice none 0 0, .int .i64 0, .slice none 0 0, .int .i64 0, .int .i64 0] 52 (0, 0)) by rw [hw2]; exact set8_row Z1.out _ _ _ _ _ _ _ _)
        have B2 := Lib.hid (show Below w.heap.size w w2 by rw [hw2]; exact set8_below HB1.out (by omega) _ _ _ _ _ _ _ _)
        have s2 : w2.heap.size = w1.heap.size := by rw [hw2]; exact set8_size _ _ _ _ _ _ _ _ _ _
        rw [← hw2]
        obtain ⟨w3, hw3⟩ : ∃ W, W = ((w2.alloc (.cells #[.int .i64 0] 3)).alloc (.cells #[.int .i64 0, .int .i64 0, .int .i64 0, .int .i64 0] 3)).drew := ⟨_, rfl⟩
        have B3 : Below w2.heap.size w2 w3 := by rw [hw3]; exact (((Below.refl _ _).alloc (Nat.le_refl _) _).alloc (by simp) _).drew
        have D3 := Lib.hid ((B3.block (w.heap.size + 1) (by omega)).trans D2.out)
        have HT := two_rows w2 [0] [0, 0, 0, 0] w.heap.size B2.out.size (by simp; omega) (by simp; omega)
        have BF := Lib.hid (B2.out.trans (B3.mono B2.out.size))
        have HT2 := Lib.hid (show w3.ownsRow _ _ _ _ _ _ ∧ w3.ownsRow _ _ _ _ _ _ by rw [hw3]; exact HT)
        rw [← hw3]
        clear hw2 hw3 B3 HT x0 x1 x2 x3 d0 d1 d2 d3 d4 d5 d6 d7 e0 e1 e2 e3 e4 e5 e6 e7
        obtain ⟨d0, d1, d2, d3, d4, d5, d6, d7⟩ := cell8_row D3.out
        rw [s2] at HT2
        go_wp2
        refine bodyPost_ret (v := .agg #[.int .i64 0, .slice (some ⟨w1.heap.size + 1, 0, none⟩) 4 4, .slice (some ⟨w1.heap.size, 0, none⟩) 1 1, .slice none 0 0, .int .i64 0, .slice none 0 0, .int .i64 0, .int .i64 0]) (by simp [results, Tryz.results30, go_sem, d0, d1, d2, d3, d4, d5, d6, d7]) rfl ?_
        exact st_new 1 1 rfl w w3 _ _ (by omega) BF.out HT2.out.2 HT2.out.1
    · have hmk4 : ∀ W : World, (Instr.makeSlice 28 (.int .i64 4) (.int .i64 4)).run Tryz.prog W = .ok (.slice (some ⟨W.heap.size, 0, none⟩) 4 4) (W.alloc (.cells #[.int .i64 0, .int .i64 0, .int .i64 0, .int .i64 0] 3)) := fun _ => by kernel_rfl
      have hmk2 : ∀ W : World, (Instr.makeSlice 28 (.int .i64 2) (.int .i64 2)).run Tryz.prog W = .ok (.slice (some ⟨W.heap.size, 0, none⟩) 2 2) (W.alloc (.cells #[.int .i64 0, .int .i64 0] 3)) := fun _ => by kernel_rfl
      go_wp2
      go_region
      · obtain ⟨w2, hw2⟩ : ∃ W, W = ((((((((w1.setCell ⟨w.heap.size + 1, 0, none⟩ (.int .i64 0)).setCell ⟨w.heap.size + 1, 1, none⟩ (.slice (some ⟨w1.heap.size, 0, none⟩) 4 4)).setCell ⟨w.heap.size + 1, 2, none⟩ (.slice (some ⟨w1.heap.size + 1, 0, none⟩) 2 2)).setCell ⟨w.heap.size + 1, 3, none⟩ (.slice none 0 0)).setCell ⟨w.heap.size + 1, 4, none⟩ (.int .i64 0)).setCell ⟨w.heap.size + 1, 5, none⟩ (.slice none 0 0)).setCell ⟨w.heap.size + 1, 6, none⟩ (.int .i64 0)).setCell ⟨w.heap.size + 1, 7, none⟩ (.int .i64 0)) := ⟨_, rfl⟩
        have D2 := Lib.hid (show w2.heap[w.heap.size + 1]? = some (.cells #[.int .i64 0, .slice (some ⟨w1.heap.size, 0, none⟩) 4 4, .slice (some ⟨w1.heap.size + 1, 0, none⟩) 2 2, .slice none 0 0, .int .i64 0, .slice none 0 0, .int .i64 0, .int .i64 0] 52 (0, 0)) by rw [hw2]; exact set8_row Z1.out _ _ _ _ _ _ _ _)
        have B2 := Lib.hid (show Below w.heap.size w w2 by rw [hw2]; exact set8_below HB1.out (by omega) _ _ _ _ _ _ _ _)
        have s2 : w2.heap.size = w1.heap.size := by rw [hw2]; exact set8_size _ _ _ _ _ _ _ _ _ _
        rw [← hw2]
        obtain ⟨w3, hw3⟩ : ∃ W, W = ((w2.alloc (.cells #[.int .i64 0, .int .i64 0, .int .i64 0, .int .i64 0] 3)).alloc (.cells #[.int .i64 0, .int .i64 0] 3)).drew := ⟨_, rfl⟩
        have B3 : Below w2.heap.size w2 w3 := by rw [hw3]; exact (((Below.refl _ _).alloc (Nat.le_refl _) _).alloc (by simp) _).drew
        have D3 := Lib.hid ((B3.block (w.heap.size + 1) (by omega)).trans D2.out)
        have HT := two_rows w2 [0, 0, 0, 0] [0, 0] w.heap.size B2.out.size (by simp; omega) (by simp; omega)
        have BF := Lib.hid (B2.out.trans (B3.mono B2.out.size))
        have HT2 := Lib.hid (show w3.ownsRow _ _ _ _ _ _ ∧ w3.ownsRow _ _ _ _ _ _ by rw [hw3]; exact HT)
        rw [← hw3]
        clear hw2 hw3 B3 HT x0 x1 x2 x3 d0 d1 d2 d3 d4 d5 d6 d7 e0 e1 e2 e3 e4 e5 e6 e7
        obtain ⟨d0, d1, d2, d3, d4, d5, d6, d7⟩ := cell8_row D3.out
        rw [s2] at HT2
        go_wp2
        refine bodyPost_ret (v := .agg #[.int .i64 0, .slice (some ⟨w1.heap.size, 0, none⟩) 4 4, .slice (some ⟨w1.heap.size + 1, 0, none⟩) 2 2, .slice none 0 0, .int .i64 0, .slice none 0 0, .int .i64 0, .int .i64 0]) (by simp [results, Tryz.results30, go_sem, d0, d1, d2, d3, d4, d5, d6, d7]) rfl ?_
        exact st_new 2 2 rfl w w3 _ _ (by omega) BF.out HT2.out.1 HT2.out.2
      · obtain ⟨w2, hw2⟩ : ∃ W, W = ((((((((w1.setCell ⟨w.heap.size + 1, 0, none⟩ (.int .i64 0)).setCell ⟨w.heap.size + 1, 1, none⟩ (.slice (some ⟨w1.heap.size + 1, 0, none⟩) 4 4)).setCell ⟨w.heap.size + 1, 2, none⟩ (.slice (some ⟨w1.heap.size, 0, none⟩) 2 2)).setCell ⟨w.heap.size + 1, 3, none⟩ (.slice none 0 0)).setCell ⟨w.heap.size + 1, 4, none⟩ (.int .i64 0)).setCell ⟨w.heap.size + 1, 5, none⟩ (.slice none 0 0)).setCell ⟨w.heap.size + 1, 6, none⟩ (.int .i64 0)).setCell ⟨w.heap.size + 1, 7, none⟩ (.int .i64 0)) := ⟨_, rfl⟩
        have D2 := Lib.hid (show w2.heap[w.heap.size + 1]? = some (.cells #[.int .i64 0, .slice (some ⟨w1.heap.size + 1, 0, none⟩) 4 4, .slice (some ⟨w1.heap.size, 0, none⟩) 2 2, .slice none 0 0, .int .i64 0, .slice none 0 0, .int .i64 0, .int .i64 0] 52 (0, 0)) by rw [hw2]; exact set8_row Z1.out _ _ _ _ _ _ _ _)
        have B2 := Lib.hid (show Below w.heap.size w w2 by rw [hw2]; exact set8_below HB1.out (by omega) _ _ _ _ _ _ _ _)
        have s2 : w2.heap.size = w1.heap.size := by rw [hw2]; exact set8_size _ _ _ _ _ _ _ _ _ _
        rw [← hw2]
        obtain ⟨w3, hw3⟩ : ∃ W, W = ((w2.alloc (.cells #[.int .i64 0, .int .i64 0] 3)).alloc (.cells #[.int .i64 0, .int .i64 0, .int .i64 0, .int .i64 0] 3)).drew := ⟨_, rfl⟩
        have B3 : Below w2.heap.size w2 w3 := by rw [hw3]; exact (((Below.refl _ _).alloc (Nat.le_refl _) _).alloc (by simp) _).drew
        have D3 := Lib.hid ((B3.block (w.heap.size + 1) (by omega)).trans D2.out)
        have HT := two_rows w2 [0, 0] [0, 0, 0, 0] w.heap.size B2.out.size (by simp; omega) (by simp; omega)
        have BF := Lib.hid (B2.out.trans (B3.mono B2.out.size))
        have HT2 := Lib.hid (show w3.ownsRow _ _ _ _ _ _ ∧ w3.ownsRow _ _ _ _ _ _ by rw [hw3]; exact HT)
        rw [← hw3]
        clear hw2 hw3 B3 HT x0 x1 x2 x3 d0 d1 d2 d3 d4 d5 d6 d7 e0 e1 e2 e3 e4 e5 e6 e7
        obtain ⟨d0, d1, d2, d3, d4, d5, d6, d7⟩ := cell8_row D3.out
        rw [s2] at HT2
        go_wp2
        refine bodyPost_ret (v := .agg #[.int .i64 0, .slice (some ⟨w1.heap.size + 1, 0, none⟩) 4 4, .slice (some ⟨w1.heap.size, 0, none⟩) 2 2, .slice none 0 0, .int .i64 0, .slice none 0 0, .int .i64 0, .int .i64 0]) (by simp [results, Tryz.results30, go_sem, d0, d1, d2, d3, d4, d5, d6, d7]) rfl ?_
        exact st_new 2 2 rfl w w3 _ _ (by omega) BF.out HT2.out.2 HT2.out.1
    · have hmk4 : ∀ W : World, (Instr.makeSlice 28 (.int .i64 4) (.int .i64 4)).run Tryz.prog W = .ok (.slice (some ⟨W.heap.size, 0, none⟩) 4 4) (W.alloc (.cells #[.int .i64 0, .int .i64 0, .int .i64 0, .int .i64 0] 3)) := fun _ => by kernel_rfl
      have hmk3 : ∀ W : World, (Instr.makeSlice 28 (.int .i64 3) (.int .i64 3)).run Tryz.prog W = .ok (.slice (some ⟨W.heap.size, 0, none⟩) 3 3) (W.alloc (.cells #[.int .i64 0, .int .i64 0, .int .i64 0] 3)) := fun _ => by kernel_rfl
      go_wp2
      go_region
      · obtain ⟨w2, hw2⟩ : ∃ W, W = ((((((((w1.setCell ⟨w.heap.size + 1, 0, none⟩ (.int .i64 0)).setCell ⟨w.heap.size + 1, 1, none⟩ (.slice (some ⟨w1.heap.size, 0, none⟩) 4 4)).setCell ⟨w.heap.size + 1, 2, none⟩ (.slice (some ⟨w1.heap.size + 1, 0, none⟩) 3 3)).setCell ⟨w.heap.size + 1, 3, none⟩ (.slice none 0 0)).setCell ⟨w.heap.size + 1, 4, none⟩ (.int .i64 0)).setCell ⟨w.heap.size + 1, 5, none⟩ (.slice none 0 0)).setCell ⟨w.heap.size + 1, 6, none⟩ (.int .i64 0)).setCell ⟨w.heap.size + 1, 7, none⟩ (.int .i64 0)) := ⟨_, rfl⟩
        have D2 := Lib.hid (show w2.heap[w.heap.size + 1]? = some (.cells #[.int .i64 0, .slice (some ⟨w1.heap.size, 0, none⟩) 4 4, .slice (some ⟨w1.heap.size + 1, 0, none⟩) 3 3, .slice none 0 0, .int .i64 0, .slice none 0 0, .int .i64 0, .int .i64 0] 52 (0, 0)) by rw [hw2]; exact set8_row Z1.out _ _ _ _ _ _ _ _)
        have B2 := Lib.hid (show Below w.heap.size w w2 by rw [hw2]; exact set8_below HB1.out (by omega) _ _ _ _ _ _ _ _)
        have s2 : w2.heap.size = w1.heap.size := by rw [hw2]; exact set8_size _ _ _ _ _ _ _ _ _ _
        rw [← hw2]
        obtain ⟨w3, hw3⟩ : ∃ W, W = ((w2.alloc (.cells #[.int .i64 0, .int .i64 0, .int .i64 0, .int .i64 0] 3)).alloc (.cells #[.int .i64 0, .int .i64 0, .int .i64 0] 3)).drew := ⟨_, rfl⟩
        have B3 : Below w2.heap.size w2 w3 := by rw [hw3]; exact (((Below.refl _ _).alloc (Nat.le_refl _) _).alloc (by simp) _).drew
        have D3 := Lib.hid ((B3.block (w.heap.size + 1) (by omega)).trans D2.out)
        have HT := two_rows w2 [0, 0, 0, 0] [0, 0, 0] w.heap.size B2.out.size (by simp; omega) (by simp; omega)
        have BF := Lib.hid (B2.out.trans (B3.mono B2.out.size))
        have HT2 := Lib.hid (show w3.ownsRow _ _ _ _ _ _ ∧ w3.ownsRow _ _ _ _ _ _ by rw [hw3]; exact HT)
        rw [← hw3]
        clear hw2 hw3 B3 HT x0 x1 x2 x3 d0 d1 d2 d3 d4 d5 d6 d7 e0 e1 e2 e3 e4 e5 e6 e7
        obtain ⟨d0, d1, d2, d3, d4, d5, d6, d7⟩ := cell8_row D3.out
        rw [s2] at HT2
        go_wp2
        refine bodyPost_ret (v := .agg #[.int .i64 0, .slice (some ⟨w1.heap.size, 0, none⟩) 4 4, .slice (some ⟨w1.heap.size + 1, 0, none⟩) 3 3, .slice none 0 0, .int .i64 0, .slice none 0 0, .int .i64 0, .int .i64 0]) (by simp [results, Tryz.results30, go_sem, d0, d1, d2, d3, d4, d5, d6, d7]) rfl ?_
        exact st_new 3 3 rfl w w3 _ _ (by omega) BF.out HT2.out.1 HT2.out.2
      · obtain ⟨w2, hw2⟩ : ∃ W, W = ((((((((w1.setCell ⟨w.heap.size + 1, 0, none⟩ (.int .i64 0)).setCell ⟨w.heap.size + 1, 1, none⟩ (.slice (some ⟨w1.heap.size + 1, 0, none⟩) 4 4)).setCell ⟨w.heap.size + 1, 2, none⟩ (.slice (some ⟨w1.heap.size, 0, none⟩) 3 3)).setCell ⟨w.heap.size + 1, 3, none⟩ (.slice none 0 0)).setCell ⟨w.heap.size + 1, 4, none⟩ (.int .i64 0)).setCell ⟨w.heap.size + 1, 5, none⟩ (.slice none 0 0)).setCell ⟨w.heap.size + 1, 6, none⟩ (.int .i64 0)).setCell ⟨w.heap.size + 1, 7, none⟩ (.int .i64 0)) := ⟨_, rfl⟩
        have D2 := Lib.hid (show w2.heap[w.heap.size + 1]? = some (.cells #[.int .i64 0, .slice (some ⟨w1.heap.size + 1, 0, none⟩) 4 4, .slice (some ⟨w1.heap.size, 0, none⟩) 3 3, .slice none 0 0, .int .i64 0, .slice none 0 0, .int .i64 0, .int .i64 0] 52 (0, 0)) by rw [hw2]; exact set8_row Z1.out _ _ _ _ _ _ _ _)
        have B2 := Lib.hid (show Below w.heap.size w w2 by rw [hw2]; exact set8_below HB1.out (by omega) _ _ _ _ _ _ _ _)
        have s2 : w2.heap.size = w1.heap.size := by rw [hw2]; exact set8_size _ _ _ _ _ _ _ _ _ _
        rw [← hw2]
        obtain ⟨w3, hw3⟩ : ∃ W, W = ((w2.alloc (.cells #[.int .i64 0, .int .i64 0, .int .i64 0] 3)).alloc (.cells #[.int .i64 0, .int .i64 0, .int .i64 0, .int .i64 0] 3)).drew := ⟨_, rfl⟩
        have B3 : Below w2.heap.size w2 w3 := by rw [hw3]; exact (((Below.refl _ _).alloc (Nat.le_refl _) _).alloc (by simp) _).drew
        have D3 := Lib.hid ((B3.block (w.heap.size + 1) (by omega)).trans D2.out)
        have HT := two_rows w2 [0, 0, 0] [0, 0, 0, 0] w.heap.size B2.out.size (by simp; omega) (by simp; omega)
        have BF := Lib.hid (B2.out.trans (B3.mono B2.out.size))
        have HT2 := Lib.hid (show w3.ownsRow _ _ _ _ _ _ ∧ w3.ownsRow _ _ _ _ _ _ by rw [hw3]; exact HT)
        rw [← hw3]
        clear hw2 hw3 B3 HT x0 x1 x2 x3 d0 d1 d2 d3 d4 d5 d6 d7 e0 e1 e2 e3 e4 e5 e6 e7
        obtain ⟨d0, d1, d2, d3, d4, d5, d6, d7⟩ := cell8_row D3.out
        rw [s2] at HT2
        go_wp2
        refine bodyPost_ret (v := .agg #[.int .i64 0, .slice (some ⟨w1.heap.size + 1, 0, none⟩) 4 4, .slice (some ⟨w1.heap.size, 0, none⟩) 3 3, .slice none 0 0, .int .i64 0, .slice none 0 0, .int .i64 0, .int .i64 0]) (by simp [results, Tryz.results30, go_sem, d0, d1, d2, d3, d4, d5, d6, d7]) rfl ?_
        exact st_new 3 3 rfl w w3 _ _ (by omega) BF.out HT2.out.2 HT2.out.1
    · have hmk4 : ∀ W : World, (Instr.makeSlice 28 (.int .i64 4) (.int .i64 4)).run Tryz.prog W = .ok (.slice (some ⟨W.heap.size, 0, none⟩) 4 4) (W.alloc (.cells #[.int .i64 0, .int .i64 0, .int .i64 0, .int .i64 0] 3)) := fun _ => by kernel_rfl
      go_wp2
      go_region
      · obtain ⟨w2, hw2⟩ : ∃ W, W = ((((((((w1.setCell ⟨w.heap.size + 1, 0, none⟩ (.int .i64 0)).setCell ⟨w.heap.size + 1, 1, none⟩ (.slice (some ⟨w1.heap.size, 0, none⟩) 4 4)).setCell ⟨w.heap.size + 1, 2, none⟩ (.slice (some ⟨w1.heap.size + 1, 0, none⟩) 4 4)).setCell ⟨w.heap.size + 1, 3, none⟩ (.slice none 0 0)).setCell ⟨w.heap.size + 1, 4, none⟩ (.int .i64 0)).setCell ⟨w.heap.size + 1, 5, none⟩ (.slice none 0 0)).setCell ⟨w.heap.size + 1, 6, none⟩ (.int .i64 0)).setCell ⟨w.heap.size + 1, 7, none⟩ (.int .i64 0)) := ⟨_, rfl⟩
        have D2 := Lib.hid (show w2.heap[w.heap.size + 1]? = some (.cells #[.int .i64 0, .slice (some ⟨w1.heap.size, 0, none⟩) 4 4, .slice (some ⟨w1.heap.size + 1, 0, none⟩) 4 4, .slice none 0 0, .int .i64 0, .slice none 0 0, .int .i64 0, .int .i64 0] 52 (0, 0)) by rw [hw2]; exact set8_row Z1.out _ _ _ _ _ _ _ _)
        have B2 := Lib.hid (show Below w.heap.size w w2 by rw [hw2]; exact set8_below HB1.out (by omega) _ _ _ _ _ _ _ _)
        have s2 : w2.heap.size = w1.heap.size := by rw [hw2]; exact set8_size _ _ _ _ _ _ _ _ _ _
        rw [← hw2]
        obtain ⟨w3, hw3⟩ : ∃ W, W = ((w2.alloc (.cells #[.int .i64 0, .int .i64 0, .int .i64 0, .int .i64 0] 3)).alloc (.cells #[.int .i64 0, .int .i64 0, .int .i64 0, .int .i64 0] 3)).drew := ⟨_, rfl⟩
        have B3 : Below w2.heap.size w2 w3 := by rw [hw3]; exact (((Below.refl _ _).alloc (Nat.le_refl _) _).alloc (by simp) _).drew
        have D3 := Lib.hid ((B3.block (w.heap.size + 1) (by omega)).trans D2.out)
        have HT := two_rows w2 [0, 0, 0, 0] [0, 0, 0, 0] w.heap.size B2.out.size (by simp; omega) (by simp; omega)
        have BF := Lib.hid (B2.out.trans (B3.mono B2.out.size))
        have HT2 := Lib.hid (show w3.ownsRow _ _ _ _ _ _ ∧ w3.ownsRow _ _ _ _ _ _ by rw [hw3]; exact HT)
        rw [← hw3]
        clear hw2 hw3 B3 HT x0 x1 x2 x3 d0 d1 d2 d3 d4 d5 d6 d7 e0 e1 e2 e3 e4 e5 e6 e7
        obtain ⟨d0, d1, d2, d3, d4, d5, d6, d7⟩ := cell8_row D3.out
        rw [s2] at HT2
        go_wp2
        refine bodyPost_ret (v := .agg #[.int .i64 0, .slice (some ⟨w1.heap.size, 0, none⟩) 4 4, .slice (some ⟨w1.heap.size + 1, 0, none⟩) 4 4, .slice none 0 0, .int .i64 0, .slice none 0 0, .int .i64 0, .int .i64 0]) (by simp [results, Tryz.results30, go_sem, d0, d1, d2, d3, d4, d5, d6, d7]) rfl ?_
        exact st_new 4 4 rfl w w3 _ _ (by omega) BF.out HT2.out.1 HT2.out.2
      · obtain ⟨w2, hw2⟩ : ∃ W, W = ((((((((w1.setCell ⟨w.heap.size + 1, 0, none⟩ (.int .i64 0)).setCell ⟨w.heap.size + 1, 1, none⟩ (.slice (some ⟨w1.heap.size + 1, 0, none⟩) 4 4)).setCell ⟨w.heap.size + 1, 2, none⟩ (.slice (some ⟨w1.heap.size, 0, none⟩) 4 4)).setCell ⟨w.heap.size + 1, 3, none⟩ (.slice none 0 0)).setCell ⟨w.heap.size + 1, 4, none⟩ (.int .i64 0)).setCell ⟨w.heap.size + 1, 5, none⟩ (.slice none 0 0)).setCell ⟨w.heap.size + 1, 6, none⟩ (.int .i64 0)).setCell ⟨w.heap.size + 1, 7, none⟩ (.int .i64 0)) := ⟨_, rfl⟩
        have D2 := Lib.hid (show w2.heap[w.heap.size + 1]? = some (.cells #[.int .i64 0, .slice (some ⟨w1.heap.size + 1, 0, none⟩) 4 4, .slice (some ⟨w1.heap.size, 0, none⟩) 4 4, .slice none 0 0, .int .i64 0, .slice none 0 0, .int .i64 0, .int .i64 0] 52 (0, 0)) by rw [hw2]; exact set8_row Z1.out _ _ _ _ _ _ _ _)
        have B2 := Lib.hid (show Below w.heap.size w w2 by rw [hw2]; exact set8_below HB1.out (by omega) _ _ _ _ _ _ _ _)
        have s2 : w2.heap.size = w1.heap.size := by rw [hw2]; exact set8_size _ _ _ _ _ _ _ _ _ _
        rw [← hw2]
        obtain ⟨w3, hw3⟩ : ∃ W, W = ((w2.alloc (.cells #[.int .i64 0, .int .i64 0, .int .i64 0, .int .i64 0] 3)).alloc (.cells #[.int .i64 0, .int .i64 0, .int .i64 0, .int .i64 0] 3)).drew := ⟨_, rfl⟩
        have B3 : Below w2.heap.size w2 w3 := by rw [hw3]; exact (((Below.refl _ _).alloc (Nat.le_refl _) _).alloc (by simp) _).drew
        have D3 := Lib.hid ((B3.block (w.heap.size + 1) (by omega)).trans D2.out)
        have HT := two_rows w2 [0, 0, 0, 0] [0, 0, 0, 0] w.heap.size B2.out.size (by simp; omega) (by simp; omega)
        have BF := Lib.hid (B2.out.trans (B3.mono B2.out.size))
        have HT2 := Lib.hid (show w3.ownsRow _ _ _ _ _ _ ∧ w3.ownsRow _ _ _ _ _ _ by rw [hw3]; exact HT)
        rw [← hw3]
        clear hw2 hw3 B3 HT x0 x1 x2 x3 d0 d1 d2 d3 d4 d5 d6 d7 e0 e1 e2 e3 e4 e5 e6 e7
        obtain ⟨d0, d1, d2, d3, d4, d5, d6, d7⟩ := cell8_row D3.out
        rw [s2] at HT2
        go_wp2
        refine bodyPost_ret (v := .agg #[.int .i64 0, .slice (some ⟨w1.heap.size + 1, 0, none⟩) 4 4, .slice (some ⟨w1.heap.size, 0, none⟩) 4 4, .slice none 0 0, .int .i64 0, .slice none 0 0, .int .i64 0, .int .i64 0]) (by simp [results, Tryz.results30, go_sem, d0, d1, d2, d3, d4, d5, d6, d7]) rfl ?_
        exact st_new 4 4 rfl w w3 _ _ (by omega) BF.out HT2.out.2 HT2.out.1
    · have hmk4 : ∀ W : World, (Instr.makeSlice 28 (.int .i64 4) (.int .i64 4)).run Tryz.prog W = .ok (.slice (some ⟨W.heap.size, 0, none⟩) 4 4) (W.alloc (.cells #[.int .i64 0, .int .i64 0, .int .i64 0, .int .i64 0] 3)) := fun _ => by kernel_rfl
      have hmk5 : ∀ W : World, (Instr.makeSlice 28 (.int .i64 5) (.int .i64 5)).run Tryz.prog W = .ok (.slice (some ⟨W.heap.size, 0, none⟩) 5 5) (W.alloc (.cells #[.int .i64 0, .int .i64 0, .int .i64 0, .int .i64 0, .int .i64 0] 3)) := fun _ => by kernel_rfl
      go_wp2
      go_region
      · obtain ⟨w2, hw2⟩ : ∃ W, W = ((((((((w1.setCell ⟨w.heap.size + 1, 0, none⟩ (.int .i64 0)).setCell ⟨w.heap.size + 1, 1, none⟩ (.slice (some ⟨w1.heap.size, 0, none⟩) 4 4)).setCell ⟨w.heap.size + 1, 2, none⟩ (.slice (some ⟨w1.heap.size + 1, 0, none⟩) 5 5)).setCell ⟨w.heap.size + 1, 3, none⟩ (.slice none 0 0)).setCell ⟨w.heap.size + 1, 4, none⟩ (.int .i64 0)).setCell ⟨w.heap.size + 1, 5, none⟩ (.slice none 0 0)).setCell ⟨w.heap.size + 1, 6, none⟩ (.int .i64 0)).setCell ⟨w.heap.size + 1, 7, none⟩ (.int .i64 0)) := ⟨_, rfl⟩
        have D2 := Lib.hid (show w2.heap[w.heap.size + 1]? = some (.cells #[.int .i64 0, .slice (some ⟨w1.heap.size, 0, none⟩) 4 4, .slice (some ⟨w1.heap.size + 1, 0, none⟩) 5 5, .slice none 0 0, .int .i64 0, .slice none 0 0, .int .i64 0, .int .i64 0] 52 (0, 0)) by rw [hw2]; exact set8_row Z1.out _ _ _ _ _ _ _ _)
        have B2 := Lib.hid (show Below w.heap.size w w2 by rw [hw2]; exact set8_below HB1.out (by omega) _ _ _ _ _ _ _ _)
        have s2 : w2.heap.size = w1.heap.size := by rw [hw2]; exact set8_size _ _ _ _ _ _ _ _ _ _
        rw [← hw2]
        obtain ⟨w3, hw3⟩ : ∃ W, W = ((w2.alloc (.cells #[.int .i64 0, .int .i64 0, .int .i64 0, .int .i64 0] 3)).alloc (.cells #[.int .i64 0, .int .i64 0, .int .i64 0, .int .i64 0, .int .i64 0] 3)).drew := ⟨_, rfl⟩
        have B3 : Below w2.heap.size w2 w3 := by rw [hw3]; exact (((Below.refl _ _).alloc (Nat.le_refl _) _).alloc (by simp) _).drew
        have D3 := Lib.hid ((B3.block (w.heap.size + 1) (by omega)).trans D2.out)
        have HT := two_rows w2 [0, 0, 0, 0] [0, 0, 0, 0, 0] w.heap.size B2.out.size (by simp; omega) (by simp; omega)
        have BF := Lib.hid (B2.out.trans (B3.mono B2.out.size))
        have HT2 := Lib.hid (show w3.ownsRow _ _ _ _ _ _ ∧ w3.ownsRow _ _ _ _ _ _ by rw [hw3]; exact HT)
        rw [← hw3]
        clear hw2 hw3 B3 HT x0 x1 x2 x3 d0 d1 d2 d3 d4 d5 d6 d7 e0 e1 e2 e3 e4 e5 e6 e7
        obtain ⟨d0, d1, d2, d3, d4, d5, d6, d7⟩ := cell8_row D3.out
        rw [s2] at HT2
        go_wp2
        refine bodyPost_ret (v := .agg #[.int .i64 0, .slice (some ⟨w1.heap.size, 0, none⟩) 4 4, .slice (some ⟨w1.heap.size + 1, 0, none⟩) 5 5, .slice none 0 0, .int .i64 0, .slice none 0 0, .int .i64 0, .int .i64 0]) (by simp [results, Tryz.results30, go_sem, d0, d1, d2, d3, d4, d5, d6, d7]) rfl ?_
        exact st_new 5 5 rfl w w3 _ _ (by omega) BF.out HT2.out.1 HT2.out.2
      · obtain ⟨w2, hw2⟩ : ∃ W, W = ((((((((w1.setCell ⟨w.heap.size + 1, 0, none⟩ (.int .i64 0)).setCell ⟨w.heap.size + 1, 1, none⟩ (.slice (some ⟨w1.heap.size + 1, 0, none⟩) 4 4)).setCell ⟨w.heap.size + 1, 2, none⟩ (.slice (some ⟨w1.heap.size, 0, none⟩) 5 5)).setCell ⟨w.heap.size + 1, 3, none⟩ (.slice none 0 0)).setCell ⟨w.heap.size + 1, 4, none⟩ (.int .i64 0)).setCell ⟨w.heap.size + 1, 5, none⟩ (.slice none 0 0)).setCell ⟨w.heap.size + 1, 6, none⟩ (.int .i64 0)).setCell ⟨w.heap.size + 1, 7, none⟩ (.int .i64 0)) := ⟨_, rfl⟩
        have D2 := Lib.hid (show w2.heap[w.heap.size + 1]? = some (.cells #[.int .i64 0, .slice (some ⟨w1.heap.size + 1, 0, none⟩) 4 4, .slice (some ⟨w1.heap.size, 0, none⟩) 5 5, .slice none 0 0, .int .i64 0, .slice none 0 0, .int .i64 0, .int .i64 0] 52 (0, 0)) by rw [hw2]; exact set8_row Z1.out _ _ _ _ _ _ _ _)
        have B2 := Lib.hid (show Below w.heap.size w w2 by rw [hw2]; exact set8_below HB1.out (by omega) _ _ _ _ _ _ _ _)
        have s2 : w2.heap.size = w1.heap.size := by rw [hw2]; exact set8_size _ _ _ _ _ _ _ _ _ _
        rw [← hw2]
        obtain ⟨w3, hw3⟩ : ∃ W, W = ((w2.alloc (.cells #[.int .i64 0, .int .i64 0, .int .i64 0, .int .i64 0, .int .i64 0] 3)).alloc (.cells #[.int .i64 0, .int .i64 0, .int .i64 0, .int .i64 0] 3)).drew := ⟨_, rfl⟩
        have B3 : Below w2.heap.size w2 w3 := by rw [hw3]; exact (((Below.refl _ _).alloc (Nat.le_refl _) _).alloc (by simp) _).drew
        have D3 := Lib.hid ((B3.block (w.heap.size + 1) (by omega)).trans D2.out)
        have HT := two_rows w2 [0, 0, 0, 0, 0] [0, 0, 0, 0] w.heap.size B2.out.size (by simp; omega) (by simp; omega)
        have BF := Lib.hid (B2.out.trans (B3.mono B2.out.size))
        have HT2 := Lib.hid (show w3.ownsRow _ _ _ _ _ _ ∧ w3.ownsRow _ _ _ _ _ _ by rw [hw3]; exact HT)
        rw [← hw3]
        clear hw2 hw3 B3 HT x0 x1 x2 x3 d0 d1 d2 d3 d4 d5 d6 d7 e0 e1 e2 e3 e4 e5 e6 e7
        obtain ⟨d0, d1, d2, d3, d4, d5, d6, d7⟩ := cell8_row D3.out
        rw [s2] at HT2
        go_wp2
        refine bodyPost_ret (v := .agg #[.int .i64 0, .slice (some ⟨w1.heap.size + 1, 0, none⟩) 4 4, .slice (some ⟨w1.heap.size, 0, none⟩) 5 5, .slice none 0 0, .int .i64 0, .slice none 0 0, .int .i64 0, .int .i64 0]) (by simp [results, Tryz.results30, go_sem, d0, d1, d2, d3, d4, d5, d6, d7]) rfl ?_
        exact st_new 5 5 rfl w w3 _ _ (by omega) BF.out HT2.out.2 HT2.out.1
    · have hmk4 : ∀ W : World, (Instr.makeSlice 28 (.int .i64 4) (.int .i64 4)).run Tryz.prog W = .ok (.slice (some ⟨W.heap.size, 0, none⟩) 4 4) (W.alloc (.cells #[.int .i64 0, .int .i64 0, .int .i64 0, .int .i64 0] 3)) := fun _ => by kernel_rfl
      have hmk6 : ∀ W : World, (Instr.makeSlice 28 (.int .i64 6) (.int .i64 6)).run Tryz.prog W = .ok (.slice (some ⟨W.heap.size, 0, none⟩) 6 6) (W.alloc (.cells #[.int .i64 0, .int .i64 0, .int .i64 0, .int .i64 0, .int .i64 0, .int .i64 0] 3)) := fun _ => by kernel_rfl
      go_wp2
      go_region
      · obtain ⟨w2, hw2⟩ : ∃ W, W = ((((((((w1.setCell ⟨w.heap.size + 1, 0, none⟩ (.int .i64 0)).setCell ⟨w.heap.size + 1, 1, none⟩ (.slice (some ⟨w1.heap.size, 0, none⟩) 4 4)).setCell ⟨w.heap.size + 1, 2, none⟩ (.slice (some ⟨w1.heap.size + 1, 0, none⟩) 6 6)).setCell ⟨w.heap.size + 1, 3, none⟩ (.slice none 0 0)).setCell ⟨w.heap.size + 1, 4, none⟩ (.int .i64 0)).setCell ⟨w.heap.size + 1, 5, none⟩ (.slice none 0 0)).setCell ⟨w.heap.size + 1, 6, none⟩ (.int .i64 0)).setCell ⟨w.heap.size + 1, 7, none⟩ (.int .i64 0)) := ⟨_, rfl⟩
        have D2 := Lib.hid (show w2.heap[w.heap.size + 1]? = some (.cells #[.int .i64 0, .slice (some ⟨w1.heap.size, 0, none⟩) 4 4, .slice (some ⟨w1.heap.size + 1, 0, none⟩) 6 6, .slice none 0 0, .int .i64 0, .slice none 0 0, .int .i64 0, .int .i64 0] 52 (0, 0)) by rw [hw2]; exact set8_row Z1.out _ _ _ _ _ _ _ _)
        have B2 := Lib.hid (show Below w.heap.size w w2 by rw [hw2]; exact set8_below HB1.out (by omega) _ _ _ _ _ _ _ _)
        have s2 : w2.heap.size = w1.heap.size := by rw [hw2]; exact set8_size _ _ _ _ _ _ _ _ _ _
        rw [← hw2]
        obtain ⟨w3, hw3⟩ : ∃ W, W = ((w2.alloc (.cells #[.int .i64 0, .int .i64 0, .int .i64 0, .int .i64 0] 3)).alloc (.cells #[.int .i64 0, .int .i64 0, .int .i64 0, .int .i64 0, .int .i64 0, .int .i64 0] 3)).drew := ⟨_, rfl⟩
        have B3 : Below w2.heap.size w2 w3 := by rw [hw3]; exact (((Below.refl _ _).alloc (Nat.le_refl _) _).alloc (by simp) _).drew
        have D3 := Lib.hid ((B3.block (w.heap.size + 1) (by omega)).trans D2.out)
        have HT := two_rows w2 [0, 0, 0, 0] [0, 0, 0, 0, 0, 0] w.heap.size B2.out.size (by simp; omega) (by simp; omega)
        have BF := Lib.hid (B2.out.trans (B3.mono B2.out.size))
        have HT2 := Lib.hid (show w3.ownsRow _ _ _ _ _ _ ∧ w3.ownsRow _ _ _ _ _ _ by rw [hw3]; exact HT)
        rw [← hw3]
        clear hw2 hw3 B3 HT x0 x1 x2 x3 d0 d1 d2 d3 d4 d5 d6 d7 e0 e1 e2 e3 e4 e5 e6 e7
        obtain ⟨d0, d1, d2, d3, d4, d5, d6, d7⟩ := cell8_row D3.out
        rw [s2] at HT2
        go_wp2
        refine bodyPost_ret (v := .agg #[.int .i64 0, .slice (some ⟨w1.heap.size, 0, none⟩) 4 4, .slice (some ⟨w1.heap.size + 1, 0, none⟩) 6 6, .slice none 0 0, .int .i64 0, .slice none 0 0, .int .i64 0, .int .i64 0]) (by simp [results, Tryz.results30, go_sem, d0, d1, d2, d3, d4, d5, d6, d7]) rfl ?_
        exact st_new 6 6 rfl w w3 _ _ (by omega) BF.out HT2.out.1 HT2.out.2
      · obtain ⟨w2, hw2⟩ : ∃ W, W = ((((((((w1.setCell ⟨w.heap.size + 1, 0, none⟩ (.int .i64 0)).setCell ⟨w.heap.size + 1, 1, none⟩ (.slice (some ⟨w1.heap.size + 1, 0, none⟩) 4 4)).setCell ⟨w.heap.size + 1, 2, none⟩ (.slice (some ⟨w1.heap.size, 0, none⟩) 6 6)).setCell ⟨w.heap.size + 1, 3, none⟩ (.slice none 0 0)).setCell ⟨w.heap.size + 1, 4, none⟩ (.int .i64 0)).setCell ⟨w.heap.size + 1, 5, none⟩ (.slice none 0 0)).setCell ⟨w.heap.size + 1, 6, none⟩ (.int .i64 0)).setCell ⟨w.heap.size + 1, 7, none⟩ (.int .i64 0)) := ⟨_, rfl⟩
        have D2 := Lib.hid (show w2.heap[w.heap.size + 1]? = some (.cells #[.int .i64 0, .slice (some ⟨w1.heap.size + 1, 0, none⟩) 4 4, .slice (some ⟨w1.heap.size, 0, none⟩) 6 6, .slice none 0 0, .int .i64 0, .slice none 0 0, .int .i64 0, .int .i64 0] 52 (0, 0)) by rw [hw2]; exact set8_row Z1.out _ _ _ _ _ _ _ _)
        have B2 := Lib.hid (show Below w.heap.size w w2 by rw [hw2]; exact set8_below HB1.out (by omega) _ _ _ _ _ _ _ _)
        have s2 : w2.heap.size = w1.heap.size := by rw [hw2]; exact set8_size _ _ _ _ _ _ _ _ _ _
        rw [← hw2]
        obtain ⟨w3, hw3⟩ : ∃ W, W = ((w2.alloc (.cells #[.int .i64 0, .int .i64 0, .int .i64 0, .int .i64 0, .int .i64 0, .int .i64 0] 3)).alloc (.cells #[.int .i64 0, .int .i64 0, .int .i64 0, .int .i64 0] 3)).drew := ⟨_, rfl⟩
        have B3 : Below w2.heap.size w2 w3 := by rw [hw3]; exact (((Below.refl _ _).alloc (Nat.le_refl _) _).alloc (by simp) _).drew
        have D3 := Lib.hid ((B3.block (w.heap.size + 1) (by omega)).trans D2.out)
        have HT := two_rows w2 [0, 0, 0, 0, 0, 0] [0, 0, 0, 0] w.heap.size B2.out.size (by simp; omega) (by simp; omega)
        have BF := Lib.hid (B2.out.trans (B3.mono B2.out.size))
        have HT2 := Lib.hid (show w3.ownsRow _ _ _ _ _ _ ∧ w3.ownsRow _ _ _ _ _ _ by rw [hw3]; exact HT)
        rw [← hw3]
        clear hw2 hw3 B3 HT x0 x1 x2 x3 d0 d1 d2 d3 d4 d5 d6 d7 e0 e1 e2 e3 e4 e5 e6 e7
        obtain ⟨d0, d1, d2, d3, d4, d5, d6, d7⟩ := cell8_row D3.out
        rw [s2] at HT2
        go_wp2
        refine bodyPost_ret (v := .agg #[.int .i64 0, .slice (some ⟨w1.heap.size + 1, 0, none⟩) 4 4, .slice (some ⟨w1.heap.size, 0, none⟩) 6 6, .slice none 0 0, .int .i64 0, .slice none 0 0, .int .i64 0, .int .i64 0]) (by simp [results, Tryz.results30, go_sem, d0, d1, d2, d3, d4, d5, d6, d7]) rfl ?_
        exact st_new 6 6 rfl w w3 _ _ (by omega) BF.out HT2.out.2 HT2.out.1
end Go.Proofs.YthmababifgaejaaGreat
namespace Go.Proofs.YthmababifgaejaaGreat
open Go.ChangeShapes Go.WideShapes Go.ChangeAt Go.RowKit
set_option maxRecDepth 100000 in
set_option maxHeartbeats 2000000 in
theorem s_words (l : List Int) (n wd size : Int) (ls : Value) (w : World) (hs : Cs.Shows w 0 1 ls l.length (IntL.all l)) (_hl : l.length ≤ maxLen) :
    Calls Tryz.prog 45 #[ls, .int .i64 n, .int .i64 wd] w fun e w' => e = .returned (.bool (decide ((l.length : Int) = n) && oprB 2 wd size l)) ∧ w = w' := by
  have hml : maxLen = 9223372036854775807 := rfl
  have HS := Lib.hid hs
  obtain ⟨_, lq, lcap, rfl, _⟩ := hs
  obtain ⟨V, hV⟩ : ∃ V, (decide ((l.length : Int) = n) && oprB 2 wd size l) = V := ⟨_, rfl⟩
  rw [hV]
  obtain ⟨o, ho⟩ : ∃ o : Int, o = 2 := ⟨_, rfl⟩
  rw [← ho] at hV
  have HAT := Lib.hid (fun j (h : j < l.length) (hi : opB o l[j] wd size = false) => show V = false by rw [← hV, oprB_bad h hi, Bool.and_false])
  have HEND := Lib.hid (fun (h : ∀ j (hj : j < l.length), opB o l[j] wd size = true) => show V = decide ((l.length : Int) = n) by rw [← hV, oprB_ok h, Bool.and_true])
  have KW := Lib.hid (fun n W => show Calls Tryz.prog 57 #[.int .i64 wd, .int .i64 n] W fun e w' => e = .returned (.bool (opB o n wd size)) ∧ W = w' by rw [ho, opB_word]; exact s_wk wd n W)
  clear hV ho
  have HR : Hid (∀ j, (h : j < l.length) → ∃ b o, lq = some ⟨b, o, none⟩ ∧ b < w.heap.size ∧ ∀ W, Below w.heap.size w W → W.cell? ⟨b, o + j, none⟩ = some (.int .i64 l[j])) := Lib.hid (fun j h => by
    rcases Cs.shows_cases HS.out with ⟨h0, _⟩ | ⟨_, b, o, c, hq, _, _, hbl, hr⟩
    · omega
    · injection hq with e1 e2 e3
      exact ⟨b, o, e1, hbl, fun W hW => IntL.nth l j h (rangeAt_below hW hr)⟩)
  clear HS
  go_enter Tryz.func45, Tryz.ntmps45
  go_wp2
  go_loopw [11] (fun i wr => ∃ j : Nat, j ≤ l.length ∧ i = .int .i64 j ∧ (∀ t (ht : t < l.length), t < j → opB o l[t] wd size = true) ∧ wr = w) (fun i _ => l.length - (intOf i).toNat)
  case atStart => exact ⟨0, Nat.zero_le _, rfl, fun t _ h => absurd h (Nat.not_lt_zero _), rfl⟩
  case round =>
    obtain ⟨j, hj, rfl, hv, hwr⟩ := hrel
    subst hwr
    have HV := Lib.hid hv
    clear hv
    by_cases hjn : j < l.length
    · obtain ⟨b, p, rfl, hbl, hcells⟩ := HR.out j hjn
      have c0 := hcells wr (Below.refl _ _)
      clear hcells
      have hat := HAT.out j hjn
      have HN := Lib.hid (show ∀ (hv : opB o l[j] wd size = true) t (ht : t < l.length), t < j + 1 → opB o l[t] wd size = true from fun hv t ht h => by
        by_cases e : t = j
        · subst e; exact hv
        · exact HV.out t ht (by omega))
      generalize l[j] = n at *
      have KX := Lib.hid (fun W => KW.out n W)
      obtain ⟨B, hB⟩ : ∃ B, opB o n wd size = B := ⟨_, rfl⟩
      rw [hB] at KX hat
      have HAT2 := Lib.hid hat
      have HN2 := Lib.hid (fun e => HN.out (hB.trans e))
      clear hat hB HN
      have hki : decide ((j : Int) < (l.length : Int)) = true := by simp; omega
      have hki2 : (j : Int) < (l.length : Int) := by omega
      go_wp2_with fail
      refine (KX.out _).mono ?_
      rintro e w2 ⟨rfl, rfl⟩
      cases B
      case false =>
        have hv := HAT2.out rfl
        subst hv
        go_wp2
        go_ret
        exact ⟨rfl, rfl⟩
      case true =>
        go_wp2
        first
          | (refine ⟨⟨j + 1, by omega, by go_num, HN2.out (by trivial), (by first | trivial | rfl)⟩, ?_⟩; simp [intOf]; omega)
          | (go_roundw
             case rel => exact ⟨j + 1, by omega, by go_num, HN2.out (by trivial), (by first | trivial | rfl)⟩
             case measure => simp [intOf]; omega)
    · have hje : j = l.length := by omega
      subst hje
      have hv := HEND.out (fun t ht => HV.out t ht ht)
      have hki : decide ((l.length : Int) < (l.length : Int)) = false := by simp
      subst hv
      by_cases hn : (l.length : Int) = n
      · subst hn
        go_wp2
        go_ret
        exact ⟨by first | rfl | (simp; done), rfl⟩
      · have hn2 : ((l.length : Int) == n) = false := by simpa using hn
        go_wp2
        go_ret
        exact ⟨by first | rfl | (rw [decide_eq_false hn] <;> rfl), rfl⟩
end Go.Proofs.YthmababifgaejaaGreat
