/- The law FnExactSizeOf, walked by the contracts of all that it calls. -/
import Derived.Test.YtgijgeailijejaaSz
import Derived.Test.YtgijgeailijejaaEqT
import Derived.Test.YtgijgeailijejaaToT
import Derived.Test.YtgijgeailijejaaCount
import Derived.Deep.RegionWith
namespace Go.Proofs.Ytgijgeailijejaa
open Go.ChangeShapes Go.WideShapes Go.ChangeAt Go.RowKit
set_option maxRecDepth 100000 in
set_option maxHeartbeats 4000000 in
theorem law_size (k : Fo) (op wd n : Int) (nm : ByteArray) (s : Value) (w : World) (hs : (k.cs 24).Is w 0 5 k.len s) (hok : Fo.OneOk op wd n nm k) :
    Calls Try.prog 4 #[.agg #[.int .i64 op, .int .i64 wd, .int .i64 n, .string nm, s]] w fun e w' => e = .returned (.bool true) ∧ Below w.heap.size w w' := by
  have HS := Lib.hid hs
  obtain ⟨_, ⟨_, q, cap, rfl, _⟩, _⟩ := hs
  have SZ := Lib.hid (fun W (hb : Below w.heap.size w W) => sz_one (Fo.every sz_loop k) op wd n nm _ 1048576 W (Nat.le_refl _) (HS.out.below hb) hok)
  by_cases hc : nm.size + k.cost ≤ 1048576
  · have hl : left 1048576 (nm.size + k.cost) = 1048576 - (nm.size + k.cost : Nat) := by unfold left; rw [if_pos hc]; omega
    have hpos : 0 ≤ left 1048576 (nm.size + k.cost) := by omega
    have hnn := k.nodes_le
    have hkn : k.nodes ≤ 1048576 := by omega
    have TO := Lib.hid (fun W (hb : Below w.heap.size w W) => to_one (Fo.every to_loop k) op wd n nm _ W (HS.out.below hb) hkn)
    unfold To1End at TO
    generalize left 1048576 (nm.size + k.cost) = lf at *
    clear hl hc hnn
    go_enter Try.func4, Try.ntmps4
    go_wp2_with fail
    refine (SZ.out _ ((Below.refl _ _).alloc (Nat.le_refl _) _)).mono ?_
    rintro e w1 ⟨rfl, hb1⟩
    have B1 := Lib.hid (((Below.refl _ w).alloc (Nat.le_refl _) (.cells #[.int .i64 op, .int .i64 wd, .int .i64 n, .string nm, .slice q k.len cap] 24)).trans (hb1.mono (by simp)))
    have A1 := Lib.hid ((cell5_alloc w 24 _ _ _ _ _).below hb1)
    clear hb1
    obtain ⟨a0, a1, a2, a3, a4⟩ := A1.out
    go_wp2_with fail
    clear a0 a1 a2 a3 a4
    refine (TO.out _ B1.out).mono ?_
    rintro e w2 ⟨g2, rfl, ⟨bs2, hh2, hd2⟩, hb2⟩
    have B2 := Lib.hid (B1.out.trans (hb2.mono B1.out.size))
    have A2 := Lib.hid (A1.out.below hb2)
    have I2 := Lib.hid (hh2.is.down (Nat.zero_le _))
    clear hh2 hd2 hb2
    go_wp2_with fail
    refine (spsz_any k op wd n nm _ _ I2.out hkn).mono ?_
    rintro e w3 ⟨rfl, hb3⟩
    have B3 := Lib.hid (B2.out.trans (hb3.mono B2.out.size))
    have A3 := Lib.hid (A2.out.below hb3)
    clear hb3
    obtain ⟨a0, a1, a2, a3, a4⟩ := A3.out
    go_wp2_with fail
    clear a0 a1 a2 a3 a4
    refine (TO.out _ B3.out).mono ?_
    rintro e w4 ⟨g4, rfl, ⟨bs4, hh4, hd4⟩, hb4⟩
    have B4 := Lib.hid (B3.out.trans (hb4.mono B3.out.size))
    have A4 := Lib.hid (A3.out.below hb4)
    have I4 := Lib.hid (hh4.is.down (Nat.zero_le _))
    clear hh4 hd4 hb4
    go_wp2_with fail
    have hal := (Below.refl w4.heap.size w4).alloc (Nat.le_refl _) (.cells #[.int .i64 op, .int .i64 wd, .int .i64 n, .string nm, .slice (some ⟨g4, 0, none⟩) k.len k.len] 29)
    refine (i_size k op wd n nm _ _ (I4.out.below hal) hkn).mono ?_
    rintro e w6 ⟨rfl, hb6⟩
    have B6 := Lib.hid (((B4.out.trans (hal.mono B4.out.size))).trans (hb6.mono (by have := B4.out.size; simp; omega)))
    have A6 := Lib.hid ((A4.out.below hal).below hb6)
    have X6 := Lib.hid ((cell5_alloc w4 29 _ _ _ _ _).below hb6)
    have I6 := Lib.hid ((I4.out.below hal).below hb6)
    clear hb6 hal
    obtain ⟨a0, a1, a2, a3, a4⟩ := A6.out
    obtain ⟨x0, x1, x2, x3, x4⟩ := X6.out
    go_wp2
    go_region_with (first | (go_at_call 16; refine (TO.out _ B6.out.drew).mono ?_; rintro e w7 ⟨g7, rfl, ⟨bs7, hh7, hd7⟩, hb7⟩; have B7 := Lib.hid (B6.out.drew.trans (hb7.mono B6.out.drew.size)); obtain ⟨x0, x1, x2, x3, x4⟩ := (X6.out.below (Below.refl _ w6).drew).below hb7; have I7 := Lib.hid (hh7.is.down (Nat.zero_le _)); have J7 := Lib.hid ((I6.out.below (Below.refl _ w6).drew).below hb7); clear hh7 hd7 hb7) | (go_at_call 18; refine (eq_one (Fo.every eq_loop k) op wd n nm _ _ _ J7.out I7.out (by omega)).mono ?_; rintro e w8 ⟨rfl, hb8⟩; have B8 := Lib.hid (B7.out.trans (hb8.mono B7.out.size)); clear hb8))
    all_goals
      go_wp2
      go_ret
      exact ⟨rfl, B8.out⟩
  · have hl : left 1048576 (nm.size + k.cost) = -1 := by unfold left; rw [if_neg hc]
    have hneg : left 1048576 (nm.size + k.cost) < 0 := by omega
    generalize left 1048576 (nm.size + k.cost) = lf at *
    clear hl hc
    go_enter Try.func4, Try.ntmps4
    go_wp2_with fail
    refine (SZ.out _ ((Below.refl _ _).alloc (Nat.le_refl _) _)).mono ?_
    rintro e w1 ⟨rfl, hb1⟩
    have B1 := Lib.hid (((Below.refl _ w).alloc (Nat.le_refl _) (.cells #[.int .i64 op, .int .i64 wd, .int .i64 n, .string nm, .slice q k.len cap] 24)).trans (hb1.mono (by simp)))
    clear hb1
    go_wp2
    go_ret
    exact ⟨rfl, B1.out⟩
end Go.Proofs.Ytgijgeailijejaa
