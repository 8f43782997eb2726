/- What the specification's l05Copy returns. No condition. -/
import Derived.Test.YtbdkningngpgcaaCpI
namespace Go.Proofs.Ytbdkningngpgcaa
open Go.ChangeShapes Go.WideShapes Go.ChangeAt Go.RowKit
set_option maxRecDepth 100000 in
set_option maxHeartbeats 4000000 in
theorem s_copy (x : StR) (r m s o : Value) (w : World) (hx : StS w 0 x r m s o) (hR : x.R.length ≤ 1000) (hM : x.M.length ≤ 1000) (hS : x.S.length ≤ 1000) (hO : x.O.length ≤ 1000) :
    Calls Try.prog 55 #[.agg #[.int .i64 x.pc, r, m, s, .int .i64 x.inn, o, .int .i64 x.cd, .int .i64 x.st]] w (StEnd x w) := by
  have hml : maxLen = 9223372036854775807 := rfl
  obtain ⟨hr, hm, hs, ho⟩ := hx
  have Hr := Lib.hid hr
  obtain ⟨_, qr, cr, rfl, _⟩ := hr
  have Hm := Lib.hid hm
  obtain ⟨_, qm, cm, rfl, _⟩ := hm
  have Hs := Lib.hid hs
  obtain ⟨_, qs, cs, rfl, _⟩ := hs
  have Ho := Lib.hid ho
  obtain ⟨_, qo, co, rfl, _⟩ := ho
  obtain ⟨i9, hi9, hz9, hzs9, hzb9⟩ := info_parts zero_Int
  obtain ⟨w0, hw0⟩ : ∃ w0, w0 = (w.alloc (.cells #[.int .i64 x.pc, .slice qr x.R.length cr, .slice qm x.M.length cm, .slice qs x.S.length cs, .int .i64 x.inn, .slice qo x.O.length co, .int .i64 x.cd, .int .i64 x.st] 41)).alloc (.cells #[.int .i64 0, .slice none 0 0, .slice none 0 0, .slice none 0 0, .int .i64 0, .slice none 0 0, .int .i64 0, .int .i64 0] 41) := ⟨_, rfl⟩
  have B0 := Lib.hid (show Below w.heap.size w w0 by rw [hw0]; exact ((Below.refl _ _).alloc (Nat.le_refl _) _).alloc (by simp) _)
  have hs0 : w.heap.size + 2 ≤ w0.heap.size := by rw [hw0]; simp
  have SR0 := Lib.hid (show w0.heap[w.heap.size]? = some (.cells #[.int .i64 x.pc, .slice qr x.R.length cr, .slice qm x.M.length cm, .slice qs x.S.length cs, .int .i64 x.inn, .slice qo x.O.length co, .int .i64 x.cd, .int .i64 x.st] 41 (0, 0)) by rw [hw0, heap_alloc_old _ _ (by simp)]; exact heap_alloc_new _ _)
  have ZR0 := Lib.hid (show w0.heap[w.heap.size + 1]? = some (.cells #[.int .i64 0, .slice none 0 0, .slice none 0 0, .slice none 0 0, .int .i64 0, .slice none 0 0, .int .i64 0, .int .i64 0] 41 (0, 0)) by rw [hw0, ← show (w.alloc (.cells #[.int .i64 x.pc, .slice qr x.R.length cr, .slice qm x.M.length cm, .slice qs x.S.length cs, .int .i64 x.inn, .slice qo x.O.length co, .int .i64 x.cd, .int .i64 x.st] 41)).heap.size = w.heap.size + 1 by simp]; exact heap_alloc_new _ _)
  obtain ⟨d0, d1, d2, d3, d4, d5, d6, d7⟩ := cell8_row SR0.out
  obtain ⟨f0, f1, f2, f3, f4, f5, f6, f7⟩ := froz8_row SR0.out
  rw [hw0] at d0 d1 d2 d3 d4 d5 d6 d7 f0 f1 f2 f3 f4 f5 f6 f7
  go_enter Try.func55, Try.ntmps55
  go_upto_region 1 with fail
  rw [← hw0] at d0 d1 d2 d3 d4 d5 d6 d7 f0 f1 f2 f3 f4 f5 f6 f7 ⊢
  clear hw0
  clear d0 d1 d2 d3 d4 d5 d6 d7 f0 f1 f2 f3 f4 f5 f6 f7
  obtain ⟨wz, hwz⟩ : ∃ W9, W9 = w0.alloc (.cells #[] 3) := ⟨_, rfl⟩
  have hbz : Below w0.heap.size w0 wz := by rw [hwz]; exact (Below.refl _ _).alloc (Nat.le_refl _) _
  obtain ⟨d0, d1, d2, d3, d4, d5, d6, d7⟩ := cell8_row ((hbz.block w.heap.size (by omega)).trans SR0.out)
  rw [hwz] at d0 d1 d2 d3 d4 d5 d6 d7
  clear hbz hwz wz
  go_wp2_with (at_builtin; refine wpList_append_any rfl _ _ 37 rfl w0.heap.size 3 i9 (.int .i64 0) 1 8 Try.underlying37 hi9 hz9 hzs9 hzb9 rfl (by decide) _ 0 [] rfl (World.ownsRow_made w0 #[] 0 (by omega) (by omega) rfl) qr x.R.length cr (IntL.all x.R) rfl ?c0 ?c1 ?c2 ?c3 ?c4 ?c5 ?_)
  case c0 => rw [IntL.all_len]; omega
  case c1 => exact news_of' (Hr.out.below (B0.out.alloc B0.out.size (.cells #[] 3)))
  case c2 => exact all_one x.R
  case c3 => unfold maxLen; omega
  case c4 => omega
  case c5 => first | (simp; done) | (simp; omega)
  intro pr kr w1 hor hb
  try rw [Nat.zero_add, List.nil_append] at hor
  replace hb : Below w0.heap.size w0 w1 := ((Below.refl w0.heap.size w0).alloc (Nat.le_refl _) (.cells #[] 3)).trans hb
  clear d0 d1 d2 d3 d4 d5 d6 d7
  have Orw1 := Lib.hid hor
  have B1 := Lib.hid (B0.out.trans (hb.mono B0.out.size))
  have SR1 := Lib.hid ((hb.block w.heap.size (by omega)).trans SR0.out)
  have ZR1 := Lib.hid ((hb.block (w.heap.size + 1) (by omega)).trans ZR0.out)
  have hs1 := hb.size
  clear hb hor
  obtain ⟨d0, d1, d2, d3, d4, d5, d6, d7⟩ := cell8_row SR1.out
  obtain ⟨f0, f1, f2, f3, f4, f5, f6, f7⟩ := froz8_row SR1.out
  go_upto_region 2 with fail
  clear d0 d1 d2 d3 d4 d5 d6 d7 f0 f1 f2 f3 f4 f5 f6 f7
  obtain ⟨w2, hwm⟩ : ∃ W9, W9 = w1.setCell ⟨w.heap.size, 1, none⟩ (.slice pr x.R.length kr) := ⟨_, rfl⟩
  have B2 := Lib.hid (show Below w.heap.size w w2 by rw [hwm]; exact B1.out.setCell (Nat.le_refl _) _)
  have SR2 := Lib.hid (show w2.heap[w.heap.size]? = some (.cells #[.int .i64 x.pc, .slice pr x.R.length kr, .slice qm x.M.length cm, .slice qs x.S.length cs, .int .i64 x.inn, .slice qo x.O.length co, .int .i64 x.cd, .int .i64 x.st] 41 (0, 0)) by rw [hwm]; exact heap_setCell_same w1 _ 1 _ _ _ SR1.out)
  have ZR2 := Lib.hid (show w2.heap[w.heap.size + 1]? = some (.cells #[.int .i64 0, .slice none 0 0, .slice none 0 0, .slice none 0 0, .int .i64 0, .slice none 0 0, .int .i64 0, .int .i64 0] 41 (0, 0)) by rw [hwm, heap_setCell_other _ _ _ _ (by simp)]; exact ZR1.out)
  have hs2 : w1.heap.size ≤ w2.heap.size := by rw [hwm]; simp
  have Orw2 := Lib.hid (show w2.ownsRow _ _ _ _ _ _ by rw [hwm]; exact own_same Orw1.out (fun g hg => heap_setCell_other _ _ _ _ (fun h => own_off (T := 41) (by decide) Orw1.out SR1.out (by have h : g = w.heap.size := h; rw [← h]; exact hg))))
  rw [← hwm]
  clear hwm
  obtain ⟨d0, d1, d2, d3, d4, d5, d6, d7⟩ := cell8_row SR2.out
  obtain ⟨f0, f1, f2, f3, f4, f5, f6, f7⟩ := froz8_row SR2.out
  clear d0 d1 d2 d3 d4 d5 d6 d7 f0 f1 f2 f3 f4 f5 f6 f7
  obtain ⟨wz, hwz⟩ : ∃ W9, W9 = w2.alloc (.cells #[] 3) := ⟨_, rfl⟩
  have hbz : Below w2.heap.size w2 wz := by rw [hwz]; exact (Below.refl _ _).alloc (Nat.le_refl _) _
  obtain ⟨d0, d1, d2, d3, d4, d5, d6, d7⟩ := cell8_row ((hbz.block w.heap.size (by omega)).trans SR2.out)
  rw [hwz] at d0 d1 d2 d3 d4 d5 d6 d7
  clear hbz hwz wz
  go_wp2_with (at_builtin; refine wpList_append_any rfl _ _ 37 rfl w2.heap.size 3 i9 (.int .i64 0) 1 8 Try.underlying37 hi9 hz9 hzs9 hzb9 rfl (by decide) _ 0 [] rfl (World.ownsRow_made w2 #[] 0 (by omega) (by omega) rfl) qm x.M.length cm (IntL.all x.M) rfl ?c0 ?c1 ?c2 ?c3 ?c4 ?c5 ?_)
  case c0 => rw [IntL.all_len]; omega
  case c1 => exact news_of' (Hm.out.below (B2.out.alloc B2.out.size (.cells #[] 3)))
  case c2 => exact all_one x.M
  case c3 => unfold maxLen; omega
  case c4 => omega
  case c5 => first | (simp; done) | (simp; omega)
  intro pm km w3 hom hb
  try rw [Nat.zero_add, List.nil_append] at hom
  replace hb : Below w2.heap.size w2 w3 := ((Below.refl w2.heap.size w2).alloc (Nat.le_refl _) (.cells #[] 3)).trans hb
  clear d0 d1 d2 d3 d4 d5 d6 d7
  have Omw3 := Lib.hid hom
  have B3 := Lib.hid (B2.out.trans (hb.mono B2.out.size))
  have SR3 := Lib.hid ((hb.block w.heap.size (by omega)).trans SR2.out)
  have ZR3 := Lib.hid ((hb.block (w.heap.size + 1) (by omega)).trans ZR2.out)
  have hs3 := hb.size
  have Orw3 := Lib.hid (own_keep Orw2.out hb)
  clear hb hom
  obtain ⟨d0, d1, d2, d3, d4, d5, d6, d7⟩ := cell8_row SR3.out
  obtain ⟨f0, f1, f2, f3, f4, f5, f6, f7⟩ := froz8_row SR3.out
  go_upto_region 3 with fail
  clear d0 d1 d2 d3 d4 d5 d6 d7 f0 f1 f2 f3 f4 f5 f6 f7
  obtain ⟨w4, hwm⟩ : ∃ W9, W9 = w3.setCell ⟨w.heap.size, 2, none⟩ (.slice pm x.M.length km) := ⟨_, rfl⟩
  have B4 := Lib.hid (show Below w.heap.size w w4 by rw [hwm]; exact B3.out.setCell (Nat.le_refl _) _)
  have SR4 := Lib.hid (show w4.heap[w.heap.size]? = some (.cells #[.int .i64 x.pc, .slice pr x.R.length kr, .slice pm x.M.length km, .slice qs x.S.length cs, .int .i64 x.inn, .slice qo x.O.length co, .int .i64 x.cd, .int .i64 x.st] 41 (0, 0)) by rw [hwm]; exact heap_setCell_same w3 _ 2 _ _ _ SR3.out)
  have ZR4 := Lib.hid (show w4.heap[w.heap.size + 1]? = some (.cells #[.int .i64 0, .slice none 0 0, .slice none 0 0, .slice none 0 0, .int .i64 0, .slice none 0 0, .int .i64 0, .int .i64 0] 41 (0, 0)) by rw [hwm, heap_setCell_other _ _ _ _ (by simp)]; exact ZR3.out)
  have hs4 : w3.heap.size ≤ w4.heap.size := by rw [hwm]; simp
  have Orw4 := Lib.hid (show w4.ownsRow _ _ _ _ _ _ by rw [hwm]; exact own_same Orw3.out (fun g hg => heap_setCell_other _ _ _ _ (fun h => own_off (T := 41) (by decide) Orw3.out SR3.out (by have h : g = w.heap.size := h; rw [← h]; exact hg))))
  have Omw4 := Lib.hid (show w4.ownsRow _ _ _ _ _ _ by rw [hwm]; exact own_same Omw3.out (fun g hg => heap_setCell_other _ _ _ _ (fun h => own_off (T := 41) (by decide) Omw3.out SR3.out (by have h : g = w.heap.size := h; rw [← h]; exact hg))))
  rw [← hwm]
  clear hwm
  obtain ⟨d0, d1, d2, d3, d4, d5, d6, d7⟩ := cell8_row SR4.out
  obtain ⟨f0, f1, f2, f3, f4, f5, f6, f7⟩ := froz8_row SR4.out
  clear d0 d1 d2 d3 d4 d5 d6 d7 f0 f1 f2 f3 f4 f5 f6 f7
  obtain ⟨wz, hwz⟩ : ∃ W9, W9 = w4.alloc (.cells #[] 3) := ⟨_, rfl⟩
  have hbz : Below w4.heap.size w4 wz := by rw [hwz]; exact (Below.refl _ _).alloc (Nat.le_refl _) _
  obtain ⟨d0, d1, d2, d3, d4, d5, d6, d7⟩ := cell8_row ((hbz.block w.heap.size (by omega)).trans SR4.out)
  rw [hwz] at d0 d1 d2 d3 d4 d5 d6 d7
  clear hbz hwz wz
  go_wp2_with (at_builtin; refine wpList_append_any rfl _ _ 37 rfl w4.heap.size 3 i9 (.int .i64 0) 1 8 Try.underlying37 hi9 hz9 hzs9 hzb9 rfl (by decide) _ 0 [] rfl (World.ownsRow_made w4 #[] 0 (by omega) (by omega) rfl) qs x.S.length cs (IntL.all x.S) rfl ?c0 ?c1 ?c2 ?c3 ?c4 ?c5 ?_)
  case c0 => rw [IntL.all_len]; omega
  case c1 => exact news_of' (Hs.out.below (B4.out.alloc B4.out.size (.cells #[] 3)))
  case c2 => exact all_one x.S
  case c3 => unfold maxLen; omega
  case c4 => omega
  case c5 => first | (simp; done) | (simp; omega)
  intro ps ks w5 hos hb
  try rw [Nat.zero_add, List.nil_append] at hos
  replace hb : Below w4.heap.size w4 w5 := ((Below.refl w4.heap.size w4).alloc (Nat.le_refl _) (.cells #[] 3)).trans hb
  clear d0 d1 d2 d3 d4 d5 d6 d7
  have Osw5 := Lib.hid hos
  have B5 := Lib.hid (B4.out.trans (hb.mono B4.out.size))
  have SR5 := Lib.hid ((hb.block w.heap.size (by omega)).trans SR4.out)
  have ZR5 := Lib.hid ((hb.block (w.heap.size + 1) (by omega)).trans ZR4.out)
  have hs5 := hb.size
  have Orw5 := Lib.hid (own_keep Orw4.out hb)
  have Omw5 := Lib.hid (own_keep Omw4.out hb)
  clear hb hos
  obtain ⟨d0, d1, d2, d3, d4, d5, d6, d7⟩ := cell8_row SR5.out
  obtain ⟨f0, f1, f2, f3, f4, f5, f6, f7⟩ := froz8_row SR5.out
  go_upto_region 4 with fail
  clear d0 d1 d2 d3 d4 d5 d6 d7 f0 f1 f2 f3 f4 f5 f6 f7
  obtain ⟨w6, hwm⟩ : ∃ W9, W9 = w5.setCell ⟨w.heap.size, 3, none⟩ (.slice ps x.S.length ks) := ⟨_, rfl⟩
  have B6 := Lib.hid (show Below w.heap.size w w6 by rw [hwm]; exact B5.out.setCell (Nat.le_refl _) _)
  have SR6 := Lib.hid (show w6.heap[w.heap.size]? = some (.cells #[.int .i64 x.pc, .slice pr x.R.length kr, .slice pm x.M.length km, .slice ps x.S.length ks, .int .i64 x.inn, .slice qo x.O.length co, .int .i64 x.cd, .int .i64 x.st] 41 (0, 0)) by rw [hwm]; exact heap_setCell_same w5 _ 3 _ _ _ SR5.out)
  have ZR6 := Lib.hid (show w6.heap[w.heap.size + 1]? = some (.cells #[.int .i64 0, .slice none 0 0, .slice none 0 0, .slice none 0 0, .int .i64 0, .slice none 0 0, .int .i64 0, .int .i64 0] 41 (0, 0)) by rw [hwm, heap_setCell_other _ _ _ _ (by simp)]; exact ZR5.out)
  have hs6 : w5.heap.size ≤ w6.heap.size := by rw [hwm]; simp
  have Orw6 := Lib.hid (show w6.ownsRow _ _ _ _ _ _ by rw [hwm]; exact own_same Orw5.out (fun g hg => heap_setCell_other _ _ _ _ (fun h => own_off (T := 41) (by decide) Orw5.out SR5.out (by have h : g = w.heap.size := h; rw [← h]; exact hg))))
  have Omw6 := Lib.hid (show w6.ownsRow _ _ _ _ _ _ by rw [hwm]; exact own_same Omw5.out (fun g hg => heap_setCell_other _ _ _ _ (fun h => own_off (T := 41) (by decide) Omw5.out SR5.out (by have h : g = w.heap.size := h; rw [← h]; exact hg))))
  have Osw6 := Lib.hid (show w6.ownsRow _ _ _ _ _ _ by rw [hwm]; exact own_same Osw5.out (fun g hg => heap_setCell_other _ _ _ _ (fun h => own_off (T := 41) (by decide) Osw5.out SR5.out (by have h : g = w.heap.size := h; rw [← h]; exact hg))))
  rw [← hwm]
  clear hwm
  obtain ⟨d0, d1, d2, d3, d4, d5, d6, d7⟩ := cell8_row SR6.out
  obtain ⟨f0, f1, f2, f3, f4, f5, f6, f7⟩ := froz8_row SR6.out
  clear d0 d1 d2 d3 d4 d5 d6 d7 f0 f1 f2 f3 f4 f5 f6 f7
  obtain ⟨wz, hwz⟩ : ∃ W9, W9 = w6.alloc (.cells #[] 3) := ⟨_, rfl⟩
  have hbz : Below w6.heap.size w6 wz := by rw [hwz]; exact (Below.refl _ _).alloc (Nat.le_refl _) _
  obtain ⟨d0, d1, d2, d3, d4, d5, d6, d7⟩ := cell8_row ((hbz.block w.heap.size (by omega)).trans SR6.out)
  rw [hwz] at d0 d1 d2 d3 d4 d5 d6 d7
  clear hbz hwz wz
  go_wp2_with (at_builtin; refine wpList_append_any rfl _ _ 37 rfl w6.heap.size 3 i9 (.int .i64 0) 1 8 Try.underlying37 hi9 hz9 hzs9 hzb9 rfl (by decide) _ 0 [] rfl (World.ownsRow_made w6 #[] 0 (by omega) (by omega) rfl) qo x.O.length co (IntL.all x.O) rfl ?c0 ?c1 ?c2 ?c3 ?c4 ?c5 ?_)
  case c0 => rw [IntL.all_len]; omega
  case c1 => exact news_of' (Ho.out.below (B6.out.alloc B6.out.size (.cells #[] 3)))
  case c2 => exact all_one x.O
  case c3 => unfold maxLen; omega
  case c4 => omega
  case c5 => first | (simp; done) | (simp; omega)
  intro po ko w7 hoo hb
  try rw [Nat.zero_add, List.nil_append] at hoo
  replace hb : Below w6.heap.size w6 w7 := ((Below.refl w6.heap.size w6).alloc (Nat.le_refl _) (.cells #[] 3)).trans hb
  clear d0 d1 d2 d3 d4 d5 d6 d7
  have Oow7 := Lib.hid hoo
  have B7 := Lib.hid (B6.out.trans (hb.mono B6.out.size))
  have SR7 := Lib.hid ((hb.block w.heap.size (by omega)).trans SR6.out)
  have ZR7 := Lib.hid ((hb.block (w.heap.size + 1) (by omega)).trans ZR6.out)
  have hs7 := hb.size
  have Orw7 := Lib.hid (own_keep Orw6.out hb)
  have Omw7 := Lib.hid (own_keep Omw6.out hb)
  have Osw7 := Lib.hid (own_keep Osw6.out hb)
  clear hb hoo
  obtain ⟨d0, d1, d2, d3, d4, d5, d6, d7⟩ := cell8_row SR7.out
  obtain ⟨f0, f1, f2, f3, f4, f5, f6, f7⟩ := froz8_row SR7.out
  go_upto_region 5 with fail
  clear d0 d1 d2 d3 d4 d5 d6 d7 f0 f1 f2 f3 f4 f5 f6 f7
  obtain ⟨w8, hwm⟩ : ∃ W9, W9 = w7.setCell ⟨w.heap.size, 5, none⟩ (.slice po x.O.length ko) := ⟨_, rfl⟩
  have B8 := Lib.hid (show Below w.heap.size w w8 by rw [hwm]; exact B7.out.setCell (Nat.le_refl _) _)
  have SR8 := Lib.hid (show w8.heap[w.heap.size]? = some (.cells #[.int .i64 x.pc, .slice pr x.R.length kr, .slice pm x.M.length km, .slice ps x.S.length ks, .int .i64 x.inn, .slice po x.O.length ko, .int .i64 x.cd, .int .i64 x.st] 41 (0, 0)) by rw [hwm]; exact heap_setCell_same w7 _ 5 _ _ _ SR7.out)
  have ZR8 := Lib.hid (show w8.heap[w.heap.size + 1]? = some (.cells #[.int .i64 0, .slice none 0 0, .slice none 0 0, .slice none 0 0, .int .i64 0, .slice none 0 0, .int .i64 0, .int .i64 0] 41 (0, 0)) by rw [hwm, heap_setCell_other _ _ _ _ (by simp)]; exact ZR7.out)
  have hs8 : w7.heap.size ≤ w8.heap.size := by rw [hwm]; simp
  have Orw8 := Lib.hid (show w8.ownsRow _ _ _ _ _ _ by rw [hwm]; exact own_same Orw7.out (fun g hg => heap_setCell_other _ _ _ _ (fun h => own_off (T := 41) (by decide) Orw7.out SR7.out (by have h : g = w.heap.size := h; rw [← h]; exact hg))))
  have Omw8 := Lib.hid (show w8.ownsRow _ _ _ _ _ _ by rw [hwm]; exact own_same Omw7.out (fun g hg => heap_setCell_other _ _ _ _ (fun h => own_off (T := 41) (by decide) Omw7.out SR7.out (by have h : g = w.heap.size := h; rw [← h]; exact hg))))
  have Osw8 := Lib.hid (show w8.ownsRow _ _ _ _ _ _ by rw [hwm]; exact own_same Osw7.out (fun g hg => heap_setCell_other _ _ _ _ (fun h => own_off (T := 41) (by decide) Osw7.out SR7.out (by have h : g = w.heap.size := h; rw [← h]; exact hg))))
  have Oow8 := Lib.hid (show w8.ownsRow _ _ _ _ _ _ by rw [hwm]; exact own_same Oow7.out (fun g hg => heap_setCell_other _ _ _ _ (fun h => own_off (T := 41) (by decide) Oow7.out SR7.out (by have h : g = w.heap.size := h; rw [← h]; exact hg))))
  rw [← hwm]
  clear hwm
  obtain ⟨d0, d1, d2, d3, d4, d5, d6, d7⟩ := cell8_row SR8.out
  obtain ⟨f0, f1, f2, f3, f4, f5, f6, f7⟩ := froz8_row SR8.out
  clear f0 f1 f2 f3 f4 f5 f6 f7
  obtain ⟨z0, z1, z2, z3, z4, z5, z6, z7⟩ := cell8_row ZR8.out
  obtain ⟨f0, f1, f2, f3, f4, f5, f6, f7⟩ := froz8_row ZR8.out
  go_wp2
  obtain ⟨we, hwe⟩ : ∃ W9, W9 = ((((((((w8.setCell ⟨w.heap.size + 1, 0, none⟩ (.int .i64 x.pc)).setCell ⟨w.heap.size + 1, 1, none⟩ (.slice pr x.R.length kr)).setCell ⟨w.heap.size + 1, 2, none⟩ (.slice pm x.M.length km)).setCell ⟨w.heap.size + 1, 3, none⟩ (.slice ps x.S.length ks)).setCell ⟨w.heap.size + 1, 4, none⟩ (.int .i64 x.inn)).setCell ⟨w.heap.size + 1, 5, none⟩ (.slice po x.O.length ko)).setCell ⟨w.heap.size + 1, 6, none⟩ (.int .i64 x.cd)).setCell ⟨w.heap.size + 1, 7, none⟩ (.int .i64 x.st)) := ⟨_, rfl⟩
  have D2 := Lib.hid (show we.heap[w.heap.size + 1]? = some (.cells #[.int .i64 x.pc, .slice pr x.R.length kr, .slice pm x.M.length km, .slice ps x.S.length ks, .int .i64 x.inn, .slice po x.O.length ko, .int .i64 x.cd, .int .i64 x.st] 41 (0, 0)) by rw [hwe]; exact set8_row ZR8.out _ _ _ _ _ _ _ _)
  have BE := Lib.hid (show Below w.heap.size w we by rw [hwe]; exact set8_below B8.out (by omega) _ _ _ _ _ _ _ _)
  have O8 := Lib.hid (show StO w8 w.heap.size x (.slice pr x.R.length kr) (.slice pm x.M.length km) (.slice ps x.S.length ks) (.slice po x.O.length ko) from ⟨own_base Orw8.out (by omega), own_base Omw8.out (by omega), own_base Osw8.out (by omega), own_base Oow8.out (by omega), nodup_of4 (n1 := w2.heap.size) (n2 := w4.heap.size) (n3 := w6.heap.size) (by omega) (by omega) (fun g hg => by have := (own_lt Orw1.out hg).2; omega) (fun g hg => by have := own_lt Omw3.out hg; omega) (fun g hg => by have := own_lt Osw5.out hg; omega) (fun g hg => (own_lt Oow7.out hg).1)⟩)
  have OE := Lib.hid (show StO we w.heap.size x _ _ _ _ by rw [hwe]; exact O8.out.set8 (O8.out.off (T := 41) (by decide) ZR8.out) _ _ _ _ _ _ _ _)
  rw [← hwe]
  clear hwe d0 d1 d2 d3 d4 d5 d6 d7 z0 z1 z2 z3 z4 z5 z6 z7
  obtain ⟨d0, d1, d2, d3, d4, d5, d6, d7⟩ := cell8_row D2.out
  refine bodyPost_ret (v := .agg #[.int .i64 x.pc, .slice pr x.R.length kr, .slice pm x.M.length km, .slice ps x.S.length ks, .int .i64 x.inn, .slice po x.O.length ko, .int .i64 x.cd, .int .i64 x.st]) (by simp [results, Try.results55, go_sem, d0, d1, d2, d3, d4, d5, d6, d7]) rfl ?_
  exact ⟨BE.out, pr, kr, pm, km, ps, ks, po, ko, rfl, OE.out⟩
end Go.Proofs.Ytbdkningngpgcaa
