/- The law FnExactProofSize, walked by the contracts of all that it calls. -/
import Derived.Test.YtpcfjjjijknmmacSzP
import Derived.Test.YtpcfjjjijknmmacEqP
import Derived.Test.YtpcfjjjijknmmacToP
import Derived.Test.YtpcfjjjijknmmacCountP
import Derived.Deep.RegionWith
namespace Go.Proofs.Ytpcfjjjijknmmac
open Go.ChangeShapes Go.WideShapes Go.ChangeAt Go.RowKit
set_option maxRecDepth 100000 in
set_option maxHeartbeats 4000000 in
theorem law_proofsize (k : Pf) (vr : Int) (s : Value) (w : World) (hs : (k.cs 43).Is w 0 2 k.len s) (hok : Pf.OneOk vr k) :
    Calls Try.prog 6 #[.agg #[.int .i64 vr, s]] w fun e w' => e = .returned (.bool true) ∧ Below w.heap.size w w' := by
  have HS := Lib.hid hs
  obtain ⟨_, ⟨_, q, cap, rfl, _⟩, _⟩ := hs
  have SZ := Lib.hid (fun W (hb : Below w.heap.size w W) => szp_one (Pf.every szp_loop k) vr _ 1048576 W (Nat.le_refl _) (HS.out.below hb) hok)
  by_cases hc : k.cost ≤ 1048576
  · have hl : left 1048576 (k.cost) = 1048576 - (k.cost : Nat) := by unfold left; rw [if_pos hc]; omega
    have hpos : 0 ≤ left 1048576 (k.cost) := by omega
    have hnn := k.nodes_le
    have hkn : k.nodes ≤ 1048576 := by omega
    have TO := Lib.hid (fun W (hb : Below w.heap.size w W) => top_one (Pf.every top_loop k) vr _ W (HS.out.below hb) hkn)
    unfold To1EndP at TO
    generalize left 1048576 (k.cost) = lf at *
    clear hl hc hnn
    go_enter Try.func6, Try.ntmps6
    go_wp2_with fail
    refine (SZ.out _ ((Below.refl _ _).alloc (Nat.le_refl _) _)).mono ?_
    rintro e w1 ⟨rfl, hb1⟩
    have B1 := Lib.hid (((Below.refl _ w).alloc (Nat.le_refl _) (.cells #[.int .i64 vr, .slice q k.len cap] 43)).trans (hb1.mono (by simp)))
    have A1 := Lib.hid ((cell2_alloc w 43 _ _).below hb1)
    clear hb1
    obtain ⟨a0, a1⟩ := A1.out
    go_wp2_with fail
    clear a0 a1
    refine (TO.out _ B1.out).mono ?_
    rintro e w2 ⟨g2, rfl, ⟨bs2, hh2, hd2⟩, hb2⟩
    have B2 := Lib.hid (B1.out.trans (hb2.mono B1.out.size))
    have A2 := Lib.hid (A1.out.below hb2)
    have I2 := Lib.hid (hh2.is.down (Nat.zero_le _))
    clear hh2 hd2 hb2
    go_wp2_with fail
    refine (spszp_any k vr _ _ I2.out hkn).mono ?_
    rintro e w3 ⟨rfl, hb3⟩
    have B3 := Lib.hid (B2.out.trans (hb3.mono B2.out.size))
    have A3 := Lib.hid (A2.out.below hb3)
    clear hb3
    obtain ⟨a0, a1⟩ := A3.out
    go_wp2_with fail
    clear a0 a1
    refine (TO.out _ B3.out).mono ?_
    rintro e w4 ⟨g4, rfl, ⟨bs4, hh4, hd4⟩, hb4⟩
    have B4 := Lib.hid (B3.out.trans (hb4.mono B3.out.size))
    have A4 := Lib.hid (A3.out.below hb4)
    have I4 := Lib.hid (hh4.is.down (Nat.zero_le _))
    clear hh4 hd4 hb4
    go_wp2_with fail
    have hal := (Below.refl w4.heap.size w4).alloc (Nat.le_refl _) (.cells #[.int .i64 vr, .slice (some ⟨g4, 0, none⟩) k.len k.len] 33)
    refine (i_sizeP k vr _ _ (I4.out.below hal) hkn).mono ?_
    rintro e w6 ⟨rfl, hb6⟩
    have B6 := Lib.hid (((B4.out.trans (hal.mono B4.out.size))).trans (hb6.mono (by have := B4.out.size; simp; omega)))
    have A6 := Lib.hid ((A4.out.below hal).below hb6)
    have X6 := Lib.hid ((cell2_alloc w4 33 _ _).below hb6)
    have I6 := Lib.hid ((I4.out.below hal).below hb6)
    clear hb6 hal
    obtain ⟨a0, a1⟩ := A6.out
    obtain ⟨x0, x1⟩ := X6.out
    go_wp2
    go_region_with (first | (go_at_call 25; refine (TO.out _ B6.out.drew).mono ?_; rintro e w7 ⟨g7, rfl, ⟨bs7, hh7, hd7⟩, hb7⟩; have B7 := Lib.hid (B6.out.drew.trans (hb7.mono B6.out.drew.size)); obtain ⟨x0, x1⟩ := (X6.out.below (Below.refl _ w6).drew).below hb7; have I7 := Lib.hid (hh7.is.down (Nat.zero_le _)); have J7 := Lib.hid ((I6.out.below (Below.refl _ w6).drew).below hb7); clear hh7 hd7 hb7) | (go_at_call 18; refine (eqp_one (Pf.every eqp_loop k) vr _ _ _ J7.out I7.out (by omega)).mono ?_; rintro e w8 ⟨rfl, hb8⟩; have B8 := Lib.hid (B7.out.trans (hb8.mono B7.out.size)); clear hb8))
    all_goals
      go_wp2
      go_ret
      exact ⟨rfl, B8.out⟩
  · have hl : left 1048576 (k.cost) = -1 := by unfold left; rw [if_neg hc]
    have hneg : left 1048576 (k.cost) < 0 := by omega
    generalize left 1048576 (k.cost) = lf at *
    clear hl hc
    go_enter Try.func6, Try.ntmps6
    go_wp2_with fail
    refine (SZ.out _ ((Below.refl _ _).alloc (Nat.le_refl _) _)).mono ?_
    rintro e w1 ⟨rfl, hb1⟩
    have B1 := Lib.hid (((Below.refl _ w).alloc (Nat.le_refl _) (.cells #[.int .i64 vr, .slice q k.len cap] 43)).trans (hb1.mono (by simp)))
    clear hb1
    go_wp2
    go_ret
    exact ⟨rfl, B1.out⟩
end Go.Proofs.Ytpcfjjjijknmmac
