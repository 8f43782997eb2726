/- The law FnExactValuesOk, walked by the contracts of all that it calls. -/
import Derived.Test.YtbpkpkcaliihiaaVlOk
namespace Go.Proofs.Ytbpkpkcaliihiaa
open Go.ChangeShapes Go.WideShapes Go.ChangeAt Go.RowKit
open ValueR (all costs)
theorem names_short {L : List ValueR} (h : costs L ≤ 1048576) : ∀ r ∈ L, r.f0.size ≤ 1048576 := fun r hr => by
  obtain ⟨j, hj, rfl⟩ := List.getElem_of_mem hr
  have := ValueR.cost_lt L j hj
  unfold ValueR.cost at this
  omega
set_option maxRecDepth 100000 in
set_option maxHeartbeats 2000000 in
theorem law_values (L : List ValueR) (v : Value) (w : World) (hv : Cs.Shows w 0 3 v L.length (all L)) (hok : ∀ r ∈ L, r.Ok) (hlen : L.length ≤ maxLen) :
    Calls Try.prog 6 #[v] w fun e w' => e = .returned (.bool true) ∧ Below w.heap.size w w' := by
  have HV := Lib.hid hv
  obtain ⟨_, q, cap, rfl, _⟩ := hv
  have SZ := Lib.hid (sz_Value L _ 1048576 w (Nat.le_refl _) HV.out hok hlen)
  by_cases hc : costs L ≤ 1048576
  · have hl : left 1048576 (costs L) = 1048576 - (costs L : Nat) := by unfold left; rw [if_pos hc]; omega
    have hpos : 0 ≤ left 1048576 (costs L) := by omega
    have hnn := ValueR.len_le L
    have hkn : L.length ≤ 1048576 := by omega
    have HNS := Lib.hid (names_short hc)
    have TO := Lib.hid (fun W (hb : Below w.heap.size w W) => to_Value L _ W (HV.out.below hb) hkn)
    unfold ToValueEnd at TO
    generalize left 1048576 (costs L) = lf at *
    clear hl hc hnn hok hlen
    go_enter Try.func6, Try.ntmps6
    go_wp2_with fail
    refine SZ.out.mono ?_
    rintro e w1 ⟨rfl, hb1⟩
    have B1 := Lib.hid hb1
    clear hb1
    go_wp2_with fail
    refine (TO.out _ B1.out).mono ?_
    rintro e w2 ⟨g2, rfl, ho2, hb2⟩
    have B2 := Lib.hid (B1.out.trans (hb2.mono B1.out.size))
    have S2 := Lib.hid ((Cs.shows_of_owns ho2).down (Nat.zero_le _))
    clear ho2 hb2
    go_wp2_with fail
    refine (s_valuesOk L _ _ S2.out hkn HNS.out).mono ?_
    rintro e w3 ⟨rfl, hb3⟩
    have B3 := Lib.hid (B2.out.trans (hb3.mono B2.out.size))
    clear hb3
    go_wp2_with fail
    refine (TO.out _ B3.out).mono ?_
    rintro e w4 ⟨g4, rfl, ho4, hb4⟩
    have B4 := Lib.hid (B3.out.trans (hb4.mono B3.out.size))
    have S4 := Lib.hid ((Cs.shows_of_owns ho4).down (Nat.zero_le _))
    clear ho4 hb4
    go_wp2_with fail
    refine (i_valuesOk L _ _ S4.out hkn HNS.out).mono ?_
    rintro e w5 ⟨rfl, hb5⟩
    have B5 := Lib.hid (B4.out.trans (hb5.mono B4.out.size))
    have S5 := Lib.hid (S4.out.below hb5)
    clear hb5
    generalize vlB L = x at *
    go_wp2_with fail
    refine (TO.out _ B5.out).mono ?_
    rintro e w6 ⟨g6, rfl, ho6, hb6⟩
    have B6 := Lib.hid (B5.out.trans (hb6.mono B5.out.size))
    have S6 := Lib.hid ((Cs.shows_of_owns ho6).down (Nat.zero_le _))
    have R6 := Lib.hid (S5.out.below hb6)
    clear ho6 hb6
    go_wp2_with fail
    refine (eq_Value L _ _ _ R6.out S6.out (by omega)).mono ?_
    rintro e w7 ⟨rfl, hb7⟩
    have B7 := Lib.hid (B6.out.trans (hb7.mono B6.out.size))
    clear hb7
    go_wp2
    go_ret
    exact ⟨rfl, B7.out⟩
  · have hl : left 1048576 (costs L) = -1 := by unfold left; rw [if_neg hc]
    have hneg : left 1048576 (costs L) < 0 := by omega
    generalize left 1048576 (costs L) = lf at *
    clear hl hc hok hlen
    go_enter Try.func6, Try.ntmps6
    go_wp2_with fail
    refine SZ.out.mono ?_
    rintro e w1 ⟨rfl, hb1⟩
    have B1 := Lib.hid hb1
    clear hb1
    go_wp2
    go_ret
    exact ⟨rfl, B1.out⟩
end Go.Proofs.Ytbpkpkcaliihiaa
