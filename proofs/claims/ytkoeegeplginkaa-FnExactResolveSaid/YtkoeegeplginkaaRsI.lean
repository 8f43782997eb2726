/- What the program's Resolve returns. No condition. -/
import Derived.Test.YtkoeegeplginkaaRsS
import Derived.Test.YtkoeegeplginkaaMcI
import Derived.Test.YtkoeegeplginkaaConcat
import Derived.Test.YtkoeegeplginkaaMid
namespace Go.Proofs.Ytkoeegeplginkaa
open Go.ChangeShapes Go.WideShapes Go.ChangeAt Go.RowKit
/-- what Resolve returns, as the caller owns it -/
def RsOwn (a b : List Int) (x : Int) (w : World) (e : Ending) (w' : World) : Prop := Below w.heap.size w w' ∧ ∃ q cap, e = .returned (.tuple #[.slice q (rsL a b x).length cap, .bool (rsV a b x).isSome]) ∧ w'.ownsRow w.heap.size 3 1 (.slice q (rsL a b x).length cap) (rsL a b x).length (IntL.all (rsL a b x))
theorem rso_none {a b : List Int} {x : Int} {w w' : World} (h : rsV a b x = none) (hb : Below w.heap.size w w') : RsOwn a b x w (.returned (.tuple #[.slice none 0 0, .bool false])) w' := by
  unfold RsOwn rsL
  rw [h]
  exact ⟨hb, none, 0, rfl, rfl, .inl ⟨rfl, rfl⟩⟩
theorem idx_in (x : Int) : ∀ (l : List Int) (k : Nat), x ∈ l → ∃ i, ∃ h : i < l.length, Lib.idxFrom l x k = ((k + i : Nat) : Int) ∧ l[i] = x
  | [], _, h => by simp at h
  | z :: l, k, h => by
    unfold Lib.idxFrom
    by_cases hz : z = x
    · exact ⟨0, by simp, by rw [if_pos hz]; simp, hz⟩
    · obtain ⟨i, hi, h1, h2⟩ := idx_in x l (k + 1) ((List.mem_cons.1 h).resolve_left fun e => hz e.symm)
      exact ⟨i + 1, by simpa using hi, by rw [if_neg hz, h1]; congr 1; omega, by simpa using h2⟩
theorem idx_out (x : Int) : ∀ (l : List Int) (k : Nat), x ∉ l → Lib.idxFrom l x k = -1
  | [], _, _ => rfl
  | z :: l, k, h => by
    unfold Lib.idxFrom
    rw [if_neg fun e => h (by rw [e]; exact List.mem_cons_self ..)]
    exact idx_out x l (k + 1) fun hm => h (List.mem_cons_of_mem _ hm)
theorem IntL.all_take (l : List Int) (i : Nat) : IntL.all (l.take i) = (IntL.all l).take i := by rw [IntL.all_map, IntL.all_map, List.map_take]
theorem IntL.all_drop (l : List Int) (i : Nat) : IntL.all (l.drop i) = (IntL.all l).drop i := by rw [IntL.all_map, IntL.all_map, List.map_drop]
theorem i_index (l : List Int) (x : Int) (v : Value) (w : World) (hv : Cs.Shows w 0 1 v l.length (IntL.all l)) (hl : l.length ≤ 1048577) :
    Calls Try.prog 131 #[v, .int .i64 x] w fun e w' => e = .returned (.int .i64 (Lib.idxOf l x)) ∧ w' = w := by
  rcases Cs.shows_cases hv with ⟨h0, q, cap, rfl⟩ | ⟨hpos, b, o, cap, rfl, _, _, hbl, hr⟩
  · have hL : l = [] := List.length_eq_zero_iff.1 h0
    subst hL
    exact Try.slices_Index_int_empty q cap x w
  · have h := Try.slices_Index_int b o l.length cap l x w (Nat.le_refl _) (by omega) (fun j hj => by rw [IntL.nth l j hj hr]; simp [List.getD, List.getElem?_eq_getElem hj])
    rw [List.take_length] at h
    exact h
/-- four lists that can be read, handed on as a list of lists -/
theorem four_is (L1 L2 L3 L4 : List Int) (q1 q2 q3 q4 : Option Addr) (c1 c2 c3 c4 : Nat) (w : World) (h1 : Cs.Shows w 0 1 (.slice q1 L1.length c1) L1.length (IntL.all L1)) (h2 : Cs.Shows w 0 1 (.slice q2 L2.length c2) L2.length (IntL.all L2)) (h3 : Cs.Shows w 0 1 (.slice q3 L3.length c3) L3.length (IntL.all L3)) (h4 : Cs.Shows w 0 1 (.slice q4 L4.length c4) L4.length (IntL.all L4)) :
    (Cs.rows IntSS.c [L1, L2, L3, L4]).Is (w.alloc (.cells #[.slice q1 L1.length c1, .slice q2 L2.length c2, .slice q3 L3.length c3, .slice q4 L4.length c4] 47)) 0 1 4 (.slice (some ⟨w.heap.size, 0, none⟩) 4 4) := by
  have hb := (Below.refl w.heap.size w).alloc (Nat.le_refl _) (.cells #[.slice q1 L1.length c1, .slice q2 L2.length c2, .slice q3 L3.length c3, .slice q4 L4.length c4] 47)
  refine ⟨[.slice q1 L1.length c1, .slice q2 L2.length c2, .slice q3 L3.length c3, .slice q4 L4.length c4], ⟨rfl, some ⟨w.heap.size, 0, none⟩, 4, rfl, Nat.le_refl _, by decide, fun h => (by cases h), fun a ha => ?_⟩, ?_⟩
  · cases ha
    refine ⟨Nat.zero_le _, fun _ => rfl, fun j u hu => ?_⟩
    show World.cell? _ ⟨w.heap.size, 0 + j, none⟩ = _
    rw [Nat.zero_add, cell_of_row _ _ _ _ _ _ (heap_alloc_new w _)]
    simpa using hu
  · have one : ∀ (L : List Int) (q : Option Addr) (c : Nat), Cs.Shows w 0 1 (.slice q L.length c) L.length (IntL.all L) → (IntSS.c L).Vs (w.alloc (.cells #[.slice q1 L1.length c1, .slice q2 L2.length c2, .slice q3 L3.length c3, .slice q4 L4.length c4] 47)) 0 [.slice q L.length c] :=
      fun L q c h => Cs.vs_sl.2 ⟨_, [], rfl, ⟨IntL.all L, h.below hb, Cs.flat_vs.2 rfl⟩, rfl⟩
    exact Cs.vs_app (one L1 q1 c1 h1) (Cs.vs_app (one L2 q2 c2 h2) (Cs.vs_app (one L3 q3 c3 h3) (Cs.vs_app (one L4 q4 c4 h4) rfl)))
set_option maxRecDepth 100000 in
set_option maxHeartbeats 4000000 in
theorem i_resolve (a b : List Int) (x : Int) (v v2 : Value) (w : World) (hv : Cs.Shows w 0 1 v a.length (IntL.all a)) (hv2 : Cs.Shows w 0 1 v2 b.length (IntL.all b)) (hok : ∀ x ∈ a, IntL.Ok x) (hok2 : ∀ x ∈ b, IntL.Ok x) (hl : a.length ≤ 1048576) (hl2 : b.length ≤ 1048576) :
    Calls Try.prog 60 #[v, v2, .int .i64 x] w (RsOwn a b x w) := by
  have hml : maxLen = 9223372036854775807 := rfl
  have K1 := Lib.hid (fun W (hb : Below w.heap.size w W) => i_clause 400 (by omega) (by omega) a v W (hv.below hb) hok (by omega))
  have K2 := Lib.hid (fun W (hb : Below w.heap.size w W) => i_clause 400 (by omega) (by omega) b v2 W (hv2.below hb) hok2 (by omega))
  have K3 := Lib.hid (fun W (hb : Below w.heap.size w W) => i_index a x v W (hv.below hb) (by omega))
  have K4 := Lib.hid (fun W (hb : Below w.heap.size w W) => i_index b (-x) v2 W (hv2.below hb) (by omega))
  have K5 := Lib.hid (fun y W (hb : Below w.heap.size w W) => i_index b y v2 W (hv2.below hb) (by omega))
  have HV := Lib.hid hv
  have HV2 := Lib.hid hv2
  have HOA := Lib.hid hok
  have HOB := Lib.hid hok2
  obtain ⟨_, q, cap, rfl, _⟩ := hv
  obtain ⟨_, q2, cap2, rfl, _⟩ := hv2
  clear hok hok2
  by_cases h1 : clB 400 a = true
  · by_cases h2 : clB 400 b = true
    · by_cases h3 : x < 1
      · have HN := Lib.hid (rs_no (a := a) (b := b) (v := x) (.inr (.inr (.inl h3))))
        rw [h1] at K1
        rw [h2] at K2
        clear h1 h2
        go_enter Try.func60, Try.ntmps60
        go_wp2_with fail
        refine (K1.out _ (Below.refl _ _)).mono ?_
        rintro e w1 ⟨rfl, hb1⟩
        have B1 := Lib.hid hb1
        clear hb1
        go_wp2_with fail
        refine (K2.out _ B1.out).mono ?_
        rintro e w2 ⟨rfl, hb2⟩
        have B2 := Lib.hid (B1.out.trans (hb2.mono B1.out.size))
        clear hb2
        go_wp2
        go_ret2
        exact rso_none HN.out B2.out
      · by_cases h4 : x ∈ a
        · have hx : -9223372036854775808 ≤ x ∧ x ≤ 9223372036854775807 := HOA.out x h4
          obtain ⟨i, hi, hi1, hi2⟩ := idx_in x a 0 h4
          rw [show Lib.idxOf a x = ((i : Nat) : Int) by unfold Lib.idxOf; rw [hi1]; congr 1; omega] at K3
          by_cases h5 : -x ∈ b
          · obtain ⟨j, hj, hj1, hj2⟩ := idx_in (-x) b 0 h5
            rw [show Lib.idxOf b (-x) = ((j : Nat) : Int) by unfold Lib.idxOf; rw [hj1]; congr 1; omega] at K4
            have HY := Lib.hid (rs_yes h1 h2 (by omega) h4 h5)
            have HRL := Lib.hid (show (rsList a b x).length ≤ 1048576 by have := rsList_len a b x; have := cl_len h1; have := cl_len h2; omega)
            have HCAT := Lib.hid (show catL [a.take i, a.drop (i + 1), b.take j, b.drop (j + 1)] = rsList a b x by
              unfold rsList catL
              have e1 := filter_out h1 i hi
              have e2 := filter_out h2 j hj
              rw [hi2] at e1
              rw [hj2] at e2
              rw [e1, e2]; simp)
            rw [h1] at K1
            rw [h2] at K2
            clear h1 h2 hi1 hj1 h4 h5 hi2 hj2
            rcases Cs.shows_cases HV.out with ⟨h0, _⟩ | ⟨hpa, b1, o1, cc1, hq1, hca, hcm1, hbl1, hr1⟩
            · omega
            rcases Cs.shows_cases HV2.out with ⟨h0, _⟩ | ⟨hpb, b2, o2, cc2, hq2, hcb, hcm2, hbl2, hr2⟩
            · omega
            cases hq1
            cases hq2
            have S1 := Lib.hid (fun W (hb : Below w.heap.size w W) => shows_take (HV.out.below hb) (i := i) (by omega))
            have S2 := Lib.hid (fun W (hb : Below w.heap.size w W) o' (ho : o' = o1 + (i + 1) ∨ i + 1 = a.length) => shows_drop (o' := o') (HV.out.below hb) (i := i + 1) (by omega) ho)
            have S3 := Lib.hid (fun W (hb : Below w.heap.size w W) => shows_take (HV2.out.below hb) (i := j) (by omega))
            have S4 := Lib.hid (fun W (hb : Below w.heap.size w W) o' (ho : o' = o2 + (j + 1) ∨ j + 1 = b.length) => shows_drop (o' := o') (HV2.out.below hb) (i := j + 1) (by omega) ho)
            have hi3 : i ≤ cap := by omega
            have hj3 : j ≤ cap2 := by omega
            have HOI := Lib.hid (fun y (hy : y ∈ rsList a b x) => rs_ok HOA.out HOB.out hy)
            obtain ⟨i1, hi1⟩ : ∃ i1, i1 = i + 1 := ⟨_, rfl⟩
            obtain ⟨j1, hj1⟩ : ∃ j1, j1 = j + 1 := ⟨_, rfl⟩
            have hi4 : i1 ≤ a.length := by omega
            have hj4 : j1 ≤ b.length := by omega
            have hwi : IntKind.i64.wrap ((i : Int) + 1) = ((i1 : Nat) : Int) := by unfold IntKind.wrap; simp [IntKind.signed, IntKind.bits]; omega
            have hwj : IntKind.i64.wrap ((j : Int) + 1) = ((j1 : Nat) : Int) := by unfold IntKind.wrap; simp [IntKind.signed, IntKind.bits]; omega
            rw [← hi1] at S2 HCAT
            rw [← hj1] at S4 HCAT
            have e1 : (a.take i).length = i := by rw [List.length_take]; omega
            have e2 : (a.drop i1).length = a.length - i1 := List.length_drop
            have e3 : (b.take j).length = j := by rw [List.length_take]; omega
            have e4 : (b.drop j1).length = b.length - j1 := List.length_drop
            obtain ⟨L, hL⟩ : ∃ L, rsList a b x = L := ⟨_, rfl⟩
            rw [hL] at HCAT HRL HY
            have KC := Lib.hid (fun W (hb : Below w.heap.size w W) => i_concat [a.take i, a.drop i1, b.take j, b.drop j1] (.slice (some ⟨W.heap.size, 0, none⟩) 4 4) (W.alloc (.cells #[.slice (some ⟨b1, o1, none⟩) i cap, .slice (if cap = i1 then some ⟨b1, o1, none⟩ else some ⟨b1, o1 + i1, none⟩) (a.length - i1) (cap - i1), .slice (some ⟨b2, o2, none⟩) j cap2, .slice (if cap2 = j1 then some ⟨b2, o2, none⟩ else some ⟨b2, o2 + j1, none⟩) (b.length - j1) (cap2 - j1)] 47)).drew (by
              have h := four_is (a.take i) (a.drop i1) (b.take j) (b.drop j1) (some ⟨b1, o1, none⟩) (if cap = i1 then some ⟨b1, o1, none⟩ else some ⟨b1, o1 + i1, none⟩) (some ⟨b2, o2, none⟩) (if cap2 = j1 then some ⟨b2, o2, none⟩ else some ⟨b2, o2 + j1, none⟩) cap (cap - i1) cap2 (cap2 - j1) W
                (by rw [e1, IntL.all_take]; exact S1.out W hb)
                (by rw [e2, IntL.all_drop]; split
                    · exact S2.out W hb _ (.inr (by omega))
                    · exact S2.out W hb _ (.inl rfl))
                (by rw [e3, IntL.all_take]; exact S3.out W hb)
                (by rw [e4, IntL.all_drop]; split
                    · exact S4.out W hb _ (.inr (by omega))
                    · exact S4.out W hb _ (.inl rfl))
              rw [e1, e2, e3, e4] at h
              exact h.below (Below.refl _ _).drew) (by rw [HCAT.out]; have := HRL.out; omega) (by simp))
            rw [HCAT.out] at KC
            have KM := Lib.hid (fun v W h => i_mkcl L v W h (fun y hy => HOI.out y (by rw [hL]; exact hy)) HRL.out)
            unfold McOwn at KM
            have HL := Lib.hid hL
            clear hi1 hj1 hL S1 S2 S3 S4 HCAT e1 e2 e3 e4
            clear hr1 hr2 HV HV2 HOA HOB K5
            go_enter Try.func60, Try.ntmps60
            go_wp2_with fail
            refine (K1.out _ (Below.refl _ _)).mono ?_
            rintro e w1 ⟨rfl, hb1⟩
            have B1 := Lib.hid hb1
            clear hb1
            go_wp2_with fail
            refine (K2.out _ B1.out).mono ?_
            rintro e w2 ⟨rfl, hb2⟩
            have B2 := Lib.hid (B1.out.trans (hb2.mono B1.out.size))
            clear hb2
            go_wp2_with fail
            refine (K3.out _ B2.out).mono ?_
            rintro e w3 ⟨rfl, rfl⟩
            go_wp2_with fail
            refine (K4.out _ B2.out).mono ?_
            rintro e w4 ⟨rfl, rfl⟩
            go_wp2
            refine wp_region_mid 14 3 (by kernel_rfl) (by kernel_rfl) ?_
            simp only [List.take_succ_cons, List.take_zero, List.drop_succ_cons, List.drop_zero]
            repeat still_step
            refine wpStill_nil ?_
            generalize (if cap = i1 then (some ⟨b1, o1, none⟩ : Option Addr) else some ⟨b1, o1 + i1, none⟩) = p1 at *
            generalize (if cap2 = j1 then (some ⟨b2, o2, none⟩ : Option Addr) else some ⟨b2, o2 + j1, none⟩) = p2 at *
            go_wp2_with fail
            refine (KC.out _ B2.out).mono ?_
            rintro e w5 ⟨hb5, q5, c5, rfl, ho5⟩
            have B4 := Lib.hid (B2.out.alloc B2.out.size (.cells #[.slice (some ⟨b1, o1, none⟩) i cap, .slice p1 (a.length - i1) (cap - i1), .slice (some ⟨b2, o2, none⟩) j cap2, .slice p2 (b.length - j1) (cap2 - j1)] 47) |>.drew)
            have B5 := Lib.hid (B4.out.trans (hb5.mono B4.out.size))
            have HO5 := Lib.hid ho5
            clear hb5 ho5
            go_wp2_with fail
            refine (KM.out _ _ ((Cs.shows_of_owns HO5.out).down (Nat.zero_le _))).mono ?_
            rintro e w6 ⟨hb6, q6, c6, rfl, ho6⟩
            have B6 := Lib.hid (B5.out.trans (hb6.mono B5.out.size))
            have HO6 := Lib.hid (own_base ho6 B5.out.size)
            clear hb6 ho6
            go_wp2
            unfold MidPost
            repeat still_step
            refine wpStill_nil ?_
            go_wp2
            go_ret2
            exact ⟨B6.out, q6, c6, by unfold rsL; rw [HY.out]; rfl, by unfold rsL; rw [HY.out]; exact HO6.out⟩
          · have HN := Lib.hid (rs_no (a := a) (b := b) (v := x) (.inr (.inr (.inr (.inr h5)))))
            rw [show Lib.idxOf b (-x) = -1 from idx_out (-x) b 0 h5] at K4
            rw [h1] at K1
            rw [h2] at K2
            clear h1 h2 h4 h5 hi1 hi2 hi
            go_enter Try.func60, Try.ntmps60
            go_wp2_with fail
            refine (K1.out _ (Below.refl _ _)).mono ?_
            rintro e w1 ⟨rfl, hb1⟩
            have B1 := Lib.hid hb1
            clear hb1
            go_wp2_with fail
            refine (K2.out _ B1.out).mono ?_
            rintro e w2 ⟨rfl, hb2⟩
            have B2 := Lib.hid (B1.out.trans (hb2.mono B1.out.size))
            clear hb2
            go_wp2_with fail
            refine (K3.out _ B2.out).mono ?_
            rintro e w3 ⟨rfl, rfl⟩
            go_wp2_with fail
            refine (K4.out _ B2.out).mono ?_
            rintro e w4 ⟨rfl, rfl⟩
            go_wp2
            go_ret2
            exact rso_none HN.out B2.out
        · have HN := Lib.hid (rs_no (a := a) (b := b) (v := x) (.inr (.inr (.inr (.inl h4)))))
          rw [show Lib.idxOf a x = -1 from idx_out x a 0 h4] at K3
          rw [h1] at K1
          rw [h2] at K2
          clear h1 h2 h4 K4
          go_enter Try.func60, Try.ntmps60
          go_wp2_with fail
          refine (K1.out _ (Below.refl _ _)).mono ?_
          rintro e w1 ⟨rfl, hb1⟩
          have B1 := Lib.hid hb1
          clear hb1
          go_wp2_with fail
          refine (K2.out _ B1.out).mono ?_
          rintro e w2 ⟨rfl, hb2⟩
          have B2 := Lib.hid (B1.out.trans (hb2.mono B1.out.size))
          clear hb2
          go_wp2_with fail
          refine (K3.out _ B2.out).mono ?_
          rintro e w3 ⟨rfl, rfl⟩
          go_wp2_with fail
          refine (K5.out _ _ B2.out).mono ?_
          rintro e w4 ⟨rfl, rfl⟩
          go_wp2
          go_ret2
          exact rso_none HN.out B2.out
    · have h2' : clB 400 b = false := by simpa using h2
      have HN := Lib.hid (rs_no (a := a) (b := b) (v := x) (.inr (.inl h2')))
      rw [h1] at K1
      rw [h2'] at K2
      clear h1 h2 h2'
      go_enter Try.func60, Try.ntmps60
      go_wp2_with fail
      refine (K1.out _ (Below.refl _ _)).mono ?_
      rintro e w1 ⟨rfl, hb1⟩
      have B1 := Lib.hid hb1
      clear hb1
      go_wp2_with fail
      refine (K2.out _ B1.out).mono ?_
      rintro e w2 ⟨rfl, hb2⟩
      have B2 := Lib.hid (B1.out.trans (hb2.mono B1.out.size))
      clear hb2
      go_wp2
      go_ret2
      exact rso_none HN.out B2.out
  · have h1' : clB 400 a = false := by simpa using h1
    have HN := Lib.hid (rs_no (a := a) (b := b) (v := x) (.inl h1'))
    rw [h1'] at K1
    clear h1 h1'
    go_enter Try.func60, Try.ntmps60
    go_wp2_with fail
    refine (K1.out _ (Below.refl _ _)).mono ?_
    rintro e w1 ⟨rfl, hb1⟩
    have B1 := Lib.hid hb1
    clear hb1
    go_wp2
    go_ret2
    exact rso_none HN.out B1.out
end Go.Proofs.Ytkoeegeplginkaa
