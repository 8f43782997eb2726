/- What the specification's Resolve returns. No condition. -/
import Derived.Test.YtkoeegeplginkaaRsM
import Derived.Test.YtkoeegeplginkaaMcS
namespace Go.Proofs.Ytkoeegeplginkaa
open Go.ChangeShapes Go.WideShapes Go.ChangeAt Go.RowKit
/-- what Resolve returns, as it can be read -/
def RsShow (a b : List Int) (x : Int) (w : World) (e : Ending) (w' : World) : Prop := Below w.heap.size w w' ∧ ∃ q cap, e = .returned (.tuple #[.slice q (rsL a b x).length cap, .bool (rsV a b x).isSome]) ∧ Cs.Shows w' 0 1 (.slice q (rsL a b x).length cap) (rsL a b x).length (IntL.all (rsL a b x))
theorem rs_none {a b : List Int} {x : Int} {w w' : World} (h : rsV a b x = none) (hb : Below w.heap.size w w') : RsShow a b x w (.returned (.tuple #[.slice none 0 0, .bool false])) w' := by
  unfold RsShow rsL
  rw [h]
  exact ⟨hb, none, 0, rfl, Cs.shows_of_owns (e := 3) ⟨rfl, .inl ⟨rfl, rfl⟩⟩⟩
set_option maxRecDepth 100000 in
set_option maxHeartbeats 1000000 in
theorem s_has (l : List Int) (x : Int) (v : Value) (w : World) (hv : Cs.Shows w 0 1 v l.length (IntL.all l)) (hl : l.length ≤ 1048577) :
    Calls Try.prog 130 #[v, .int .i64 x] w fun e w' => e = .returned (.bool (decide (x ∈ l))) ∧ Below w.heap.size w w' := by
  rcases Cs.shows_cases hv with ⟨h0, q, cap, rfl⟩ | ⟨hpos, b, o, cap, rfl, _, _, hbl, hr⟩
  · have hL : l = [] := List.length_eq_zero_iff.1 h0
    subst hL
    clear hv hl h0
    go_enter Try.func130, Try.ntmps130
    go_wp2
    refine wp_loop_rounds 1 ?_
    rw [rounds_succ]
    go_wp2
    go_ret
    exact ⟨rfl, Below.refl _ _⟩
  · have HR := Lib.hid (fun (wr : World) (hb : Below w.heap.size w wr) j (h : j < l.length) => IntL.nth l j h (rangeAt_below hb hr))
    have HN := Lib.hid (fun j (h : j < l.length) => show x ∈ l.drop j ↔ x = l[j] ∨ x ∈ l.drop (j + 1) by rw [List.drop_eq_getElem_cons h, List.mem_cons])
    have HE := Lib.hid (show l.drop l.length = [] from List.drop_length)
    obtain ⟨B, hB⟩ : ∃ B, decide (x ∈ l) = B := ⟨_, rfl⟩
    have H0 := Lib.hid (show decide (x ∈ l.drop 0) = B from hB)
    rw [hB]
    clear hv hr hB
    go_enter Try.func130, Try.ntmps130
    go_wp2
    go_loopw [9] (fun i wr => ∃ (j : Nat), j ≤ l.length ∧ i = .int .i64 j ∧ decide (x ∈ l.drop j) = B ∧ Below w.heap.size w wr) (fun i _ => l.length - (intOf i).toNat)
    case atStart => exact ⟨0, Nat.zero_le _, rfl, H0.out, Below.refl _ _⟩
    case round =>
      obtain ⟨j, hj, rfl, hrest, hb⟩ := hrel
      have HB := Lib.hid hb
      by_cases hjn : j < l.length
      · have c0 := HR.out wr hb j hjn
        have hn := HN.out j hjn
        generalize l[j] = y at *
        have hki : (j : Int) < (l.length : Int) := by omega
        by_cases he : x = y
        · have HT := Lib.hid (show B = true by rw [← hrest]; exact decide_eq_true (hn.2 (.inl he)))
          clear hb hrest hn
          go_wp2
          go_ret
          exact ⟨by rw [HT.out] <;> rfl, HB.out⟩
        · have HT := Lib.hid (show decide (x ∈ l.drop (j + 1)) = B by rw [← hrest]; exact decide_eq_decide.2 ⟨fun h => hn.2 (.inr h), fun h => (hn.1 h).resolve_left he⟩)
          clear hb hrest hn
          go_wp2
          go_roundw
          case rel => exact ⟨j + 1, by omega, by go_num, HT.out, HB.out⟩
          case measure => simp [intOf]; omega
      · have hnj : ¬ ((j : Int) < (l.length : Int)) := by omega
        have HF := Lib.hid (show B = false by rw [← hrest, show j = l.length by omega, HE.out]; rfl)
        clear hb hrest
        go_wp2
        go_ret
        exact ⟨by rw [HF.out] <;> rfl, HB.out⟩
/-- the list that is made so far -/
def RsRel (L : List Int) (w : World) (s : Value) (wr : World) : Prop := ∃ g c, s = .slice (some ⟨g, 0, none⟩) L.length c ∧ wr.ownsRow w.heap.size 3 1 (.slice (some ⟨g, 0, none⟩) L.length c) L.length (IntL.all L) ∧ Below w.heap.size w wr
theorem rs_app {L : List Int} {y : Int} {w w5 : World} {q5 : Option Addr} {c5 ln : Nat} (hl : L.length = ln) (ho : w5.ownsRow w.heap.size 3 1 (.slice q5 (ln + 1) c5) (ln + 1) (IntL.all L ++ [.int .i64 y])) (hb : Below w.heap.size w w5) : RsRel (L ++ [y]) w (.slice q5 (ln + 1) c5) w5 := by
  have hlen : (L ++ [y]).length = ln + 1 := by simp [hl]
  have hall : IntL.all (L ++ [y]) = IntL.all L ++ [.int .i64 y] := by simp [IntL.all_map]
  rcases ho.2 with ⟨h1, h2⟩ | ⟨g', c', cur, h1, _⟩
  · simp at h2
  · cases h1
    exact ⟨_, _, by rw [hlen], by rw [hlen, hall]; exact ho, hb⟩
theorem rs_ok {a b : List Int} {x : Int} (ha : ∀ y ∈ a, IntL.Ok y) (hb : ∀ y ∈ b, IntL.Ok y) {y : Int} (h : y ∈ rsList a b x) : IntL.Ok y := by
  unfold rsList at h
  rw [List.mem_append, List.mem_filter, List.mem_filter] at h
  rcases h with h | h
  · exact ha y h.1
  · exact hb y h.1
set_option maxRecDepth 100000 in
set_option maxHeartbeats 4000000 in
theorem s_resolve (a b : List Int) (x : Int) (v v2 : Value) (w : World) (hv : Cs.Shows w 0 1 v a.length (IntL.all a)) (hv2 : Cs.Shows w 0 1 v2 b.length (IntL.all b)) (hok : ∀ x ∈ a, IntL.Ok x) (hok2 : ∀ x ∈ b, IntL.Ok x) (hl : a.length ≤ 1048576) (hl2 : b.length ≤ 1048576) :
    Calls Try.prog 59 #[v, v2, .int .i64 x] w (RsShow a b x w) := by
  obtain ⟨i0, hi0, hz0, hzs, hzb⟩ := info_parts zero_Int
  have hml : maxLen = 9223372036854775807 := rfl
  have K1 := Lib.hid (fun W (hb : Below w.heap.size w W) => s_clause 400 (by omega) (by omega) a v W (hv.below hb) hok (by omega))
  have K2 := Lib.hid (fun W (hb : Below w.heap.size w W) => s_clause 400 (by omega) (by omega) b v2 W (hv2.below hb) hok2 (by omega))
  have K3 := Lib.hid (fun W (hb : Below w.heap.size w W) => s_has a x v W (hv.below hb) (by omega))
  have K4 := Lib.hid (fun W (hb : Below w.heap.size w W) => s_has b (-x) v2 W (hv2.below hb) (by omega))
  have HV := Lib.hid hv
  have HV2 := Lib.hid hv2
  have HOA := Lib.hid hok
  have HOB := Lib.hid hok2
  obtain ⟨_, q, cap, rfl, _⟩ := hv
  obtain ⟨_, q2, cap2, rfl, _⟩ := hv2
  clear hok hok2
  by_cases h1 : clB 400 a = true
  · by_cases h2 : clB 400 b = true
    · by_cases h3 : x < 1
      · have HN := Lib.hid (rs_no (a := a) (b := b) (v := x) (.inr (.inr (.inl h3))))
        rw [h1] at K1
        rw [h2] at K2
        clear h1 h2
        go_enter Try.func59, Try.ntmps59
        go_wp2_with fail
        refine (K1.out _ (Below.refl _ _)).mono ?_
        rintro e w1 ⟨rfl, hb1⟩
        have B1 := Lib.hid hb1
        clear hb1
        go_wp2_with fail
        refine (K2.out _ B1.out).mono ?_
        rintro e w2 ⟨rfl, hb2⟩
        have B2 := Lib.hid (B1.out.trans (hb2.mono B1.out.size))
        clear hb2
        go_wp2
        go_ret2
        exact rs_none HN.out B2.out
      · by_cases h4 : x ∈ a
        · have hx : -9223372036854775808 ≤ x ∧ x ≤ 9223372036854775807 := HOA.out x h4
          by_cases h5 : -x ∈ b
          · have HY := Lib.hid (rs_yes h1 h2 (by omega) h4 h5)
            have HRL := Lib.hid (show (rsList a b x).length ≤ 1048576 by have := rsList_len a b x; have := cl_len h1; have := cl_len h2; omega)
            rw [h1] at K1
            rw [h2] at K2
            rw [show decide (x ∈ a) = true from decide_eq_true h4] at K3
            rw [show decide (-x ∈ b) = true from decide_eq_true h5] at K4
            clear h1 h2
            rcases Cs.shows_cases HV.out with ⟨h0, _⟩ | ⟨hpa, b1, o1, cc1, hq1, _, _, hbl1, hr1⟩
            · have := List.length_eq_zero_iff.1 h0; subst this; simp at h4
            rcases Cs.shows_cases HV2.out with ⟨h0, _⟩ | ⟨hpb, b2, o2, cc2, hq2, _, _, hbl2, hr2⟩
            · have := List.length_eq_zero_iff.1 h0; subst this; simp at h5
            cases hq1
            cases hq2
            have HA := Lib.hid (fun (wr : World) (hb : Below w.heap.size w wr) j (h : j < a.length) => IntL.nth a j h (rangeAt_below hb hr1))
            have HB2 := Lib.hid (fun (wr : World) (hb : Below w.heap.size w wr) j (h : j < b.length) => IntL.nth b j h (rangeAt_below hb hr2))
            have HAL := Lib.hid (show (a.filter (fun y => y != x)).length ≤ 1048576 from Nat.le_trans (List.length_filter_le _ _) hl)
            have KM := Lib.hid (fun (L : List Int) (hL : rsList a b x = L) (v : Value) (W : World) (h : Cs.Shows W 0 1 v L.length (IntL.all L)) => s_mkcl L v W h (fun y hy => rs_ok HOA.out HOB.out (by rw [hL]; exact hy)) (by rw [← hL]; exact HRL.out))
            clear h4 h5 hr1 hr2 HV HV2
            go_enter Try.func59, Try.ntmps59
            go_wp2_with fail
            refine (K1.out _ (Below.refl _ _)).mono ?_
            rintro e w1 ⟨rfl, hb1⟩
            have B1 := Lib.hid hb1
            clear hb1
            go_wp2_with fail
            refine (K2.out _ B1.out).mono ?_
            rintro e w2 ⟨rfl, hb2⟩
            have B2 := Lib.hid (B1.out.trans (hb2.mono B1.out.size))
            clear hb2
            go_wp2_with fail
            refine (K3.out _ B2.out).mono ?_
            rintro e w3 ⟨rfl, hb3⟩
            have B3 := Lib.hid (B2.out.trans (hb3.mono B2.out.size))
            clear hb3
            go_wp2_with fail
            refine (K4.out _ B3.out).mono ?_
            rintro e w4 ⟨rfl, hb4⟩
            have B4 := Lib.hid (B3.out.trans (hb4.mono B3.out.size))
            clear hb4
            have R1 : Hid (RsRel [] w (.slice (some ⟨w4.heap.size, 0, none⟩) 0 0) (w4.alloc (.cells #[] 3))) := Lib.hid ⟨w4.heap.size, 0, rfl, ⟨rfl, .inr ⟨w4.heap.size, 0, #[], rfl, B4.out.size, heap_alloc_new w4 _, Nat.le_refl _, by omega, rfl, rfl⟩⟩, B4.out.alloc B4.out.size _⟩
            clear K1 K2 K3 K4 B1 B2 B3 B4
            go_wp2
            go_loopw [8, 41] (fun s i wr => ∃ j : Nat, j ≤ a.length ∧ i = .int .i64 j ∧ RsRel ((a.take j).filter (fun y => y != x)) w s wr) (fun _ i _ => a.length - (intOf i).toNat)
            case atStart => exact ⟨0, Nat.zero_le _, rfl, by simpa using R1.out⟩
            case round =>
              clear R1
              obtain ⟨j, hj, rfl, hrel⟩ := hrel
              have HRel := Lib.hid hrel
              by_cases hjn : j < a.length
              · obtain ⟨L, hL⟩ : ∃ L, ((a.take j).filter (fun y => y != x)) = L := ⟨_, rfl⟩
                have hft := filter_take (p := (fun y => y != x)) j hjn
                have hle := List.length_filter_le (fun y => y != x) (a.take j)
                have hle2 : (a.take j).length ≤ j := by rw [List.length_take]; omega
                have hLl : L.length ≤ 2097152 := by rw [← hL]; omega
                rw [hL] at HRel hrel
                obtain ⟨g, c, rfl, ho, hb⟩ := hrel
                have c0 := HA.out _ hb j hjn
                generalize a[j] = y at *
                have hki : (j : Int) < (a.length : Int) := by omega
                by_cases he : y = x
                · have HN := Lib.hid (show ((a.take (j + 1)).filter (fun y => y != x)) = L by rw [hft, he, ← hL]; simp)
                  clear ho hb hft hle hle2 hL
                  subst he
                  go_wp2
                  go_roundw
                  case rel => exact ⟨j + 1, by omega, by go_num, by rw [HN.out]; exact HRel.out⟩
                  case measure => simp [intOf]; omega
                · have HN := Lib.hid (show ((a.take (j + 1)).filter (fun y => y != x)) = L ++ [y] by rw [hft, ← hL]; simp [he])
                  have HO := Lib.hid ho
                  have HB := Lib.hid hb
                  have hsz := hb.size
                  clear ho hb hft hle hle2 hL HRel
                  generalize hLn : L.length = ln at *
                  have HLN := Lib.hid hLn
                  clear hLn
                  go_wp2_with (at_builtin; refine wpList_append_any rfl _ _ 47 rfl w.heap.size 3 i0 (.int .i64 0) 1 8 Try.underlying47 hi0 hz0 hzs hzb rfl (by decide) _ ln _ rfl (HO.out.alloc _) _ 1 1 [.int .i64 y] rfl rfl ?d1 ?d2 ?d3 ?d4 ?d5 ?_)
                  case d1 => exact fun _ => ⟨_, rfl, fun i u hu => by
                    have hi := (List.getElem?_eq_some_iff.1 hu).1
                    rw [Addr.add_mid, Nat.zero_add, cell_of_row _ _ _ _ _ _ (heap_alloc_new wr _)]
                    simpa using hu⟩
                  case d2 => intro u hu; simp at hu; subst hu; rfl
                  case d3 => unfold maxLen; omega
                  case d4 => omega
                  case d5 => simp; omega
                  intro q5 c5 w5 ho5 hb5
                  have HR5 := Lib.hid (rs_app HLN.out ho5 ((HB.out.alloc hsz (.cells #[.int .i64 y] 3)).trans hb5))
                  clear ho5 hb5 HO HB
                  go_wp2
                  go_roundw
                  case rel => exact ⟨j + 1, by omega, by go_num, by rw [HN.out]; exact HR5.out⟩
                  case measure => simp [intOf]; omega
              · have hnj : ¬ ((j : Int) < (a.length : Int)) := by omega
                obtain ⟨L, hL⟩ : ∃ L, ((a.take j).filter (fun y => y != x)) = L := ⟨_, rfl⟩
                have HLF := Lib.hid (show a.filter (fun y => y != x) = L by rw [← hL, List.take_of_length_le (by omega)])
                rw [hL] at HRel hrel
                have R2 := HRel
                obtain ⟨g, c, rfl, _, _⟩ := hrel
                clear HRel hL
                go_wp2
                go_loopw [8, 55] (fun s i wr => ∃ j : Nat, j ≤ b.length ∧ i = .int .i64 j ∧ RsRel (a.filter (fun y => y != x) ++ (b.take j).filter (fun y => y != -x)) w s wr) (fun _ i _ => b.length - (intOf i).toNat)
                case atStart => exact ⟨0, Nat.zero_le _, rfl, by rw [HLF.out]; simpa using R2.out⟩
                case round =>
                  clear R2
                  obtain ⟨j, hj, rfl, hrel⟩ := hrel
                  have HRel := Lib.hid hrel
                  by_cases hjn : j < b.length
                  · obtain ⟨L, hL⟩ : ∃ L, (a.filter (fun y => y != x) ++ (b.take j).filter (fun y => y != -x)) = L := ⟨_, rfl⟩
                    have hft := filter_take (p := (fun y => y != -x)) j hjn
                    have hle := List.length_filter_le (fun y => y != -x) (b.take j)
                    have hle2 : (b.take j).length ≤ j := by rw [List.length_take]; omega
                    have hLl : L.length ≤ 2097152 := by rw [← hL]; rw [List.length_append]; have := HAL.out; omega
                    rw [hL] at HRel hrel
                    obtain ⟨g, c, rfl, ho, hb⟩ := hrel
                    have c0 := HB2.out _ hb j hjn
                    generalize b[j] = y at *
                    have hki : (j : Int) < (b.length : Int) := by omega
                    by_cases he : y = -x
                    · have HN := Lib.hid (show (a.filter (fun y => y != x) ++ (b.take (j + 1)).filter (fun y => y != -x)) = L by rw [hft, he, ← hL]; simp)
                      clear ho hb hft hle hle2 hL
                      subst he
                      go_wp2
                      go_roundw
                      case rel => exact ⟨j + 1, by omega, by go_num, by rw [HN.out]; exact HRel.out⟩
                      case measure => simp [intOf]; omega
                    · have HN := Lib.hid (show (a.filter (fun y => y != x) ++ (b.take (j + 1)).filter (fun y => y != -x)) = L ++ [y] by rw [hft, ← hL]; simp [he])
                      have HO := Lib.hid ho
                      have HB := Lib.hid hb
                      have hsz := hb.size
                      clear ho hb hft hle hle2 hL HRel
                      generalize hLn : L.length = ln at *
                      have HLN := Lib.hid hLn
                      clear hLn
                      go_wp2_with (at_builtin; refine wpList_append_any rfl _ _ 47 rfl w.heap.size 3 i0 (.int .i64 0) 1 8 Try.underlying47 hi0 hz0 hzs hzb rfl (by decide) _ ln _ rfl (HO.out.alloc _) _ 1 1 [.int .i64 y] rfl rfl ?d1 ?d2 ?d3 ?d4 ?d5 ?_)
                      case d1 => exact fun _ => ⟨_, rfl, fun i u hu => by
                        have hi := (List.getElem?_eq_some_iff.1 hu).1
                        rw [Addr.add_mid, Nat.zero_add, cell_of_row _ _ _ _ _ _ (heap_alloc_new wr _)]
                        simpa using hu⟩
                      case d2 => intro u hu; simp at hu; subst hu; rfl
                      case d3 => unfold maxLen; omega
                      case d4 => omega
                      case d5 => simp; omega
                      intro q5 c5 w5 ho5 hb5
                      have HR5 := Lib.hid (rs_app HLN.out ho5 ((HB.out.alloc hsz (.cells #[.int .i64 y] 3)).trans hb5))
                      clear ho5 hb5 HO HB
                      go_wp2
                      go_roundw
                      case rel => exact ⟨j + 1, by omega, by go_num, by rw [HN.out]; exact HR5.out⟩
                      case measure => simp [intOf]; omega
                  · have hnj : ¬ ((j : Int) < (b.length : Int)) := by omega
                    obtain ⟨L, hL⟩ : ∃ L, (a.filter (fun y => y != x) ++ (b.take j).filter (fun y => y != -x)) = L := ⟨_, rfl⟩
                    have HLF := Lib.hid (show a.filter (fun y => y != x) ++ b.filter (fun y => y != -x) = L by rw [← hL, List.take_of_length_le (by omega)])
                    rw [hL] at HRel hrel
                    have R3 := HRel
                    obtain ⟨g, c, rfl, _, _⟩ := hrel
                    clear HRel hL
                    have hL : rsList a b x = L := HLF.out
                    have HL := Lib.hid hL
                    have KM2 := Lib.hid (KM.out L hL)
                    obtain ⟨g2, c2, he2, ho2, hb2⟩ := R3.out
                    cases he2
                    have HO2 := Lib.hid ho2
                    have HB3 := Lib.hid hb2
                    clear hL ho2 hb2 R3
                    go_wp2_with fail
                    refine (KM2.out _ _ ((Cs.shows_of_owns HO2.out).down (Nat.zero_le _))).mono ?_
                    rintro e w9 ⟨hb9, q9, c9, rfl, hs9⟩
                    have HS9 := Lib.hid hs9
                    have HB9 := Lib.hid (HB3.out.trans (hb9.mono HB3.out.size))
                    clear hs9 hb9
                    go_wp2
                    go_ret2
                    exact ⟨HB9.out, q9, c9, by unfold rsL; rw [HY.out, HL.out]; rfl, by unfold rsL; rw [HY.out, HL.out]; exact HS9.out⟩
          · have HN := Lib.hid (rs_no (a := a) (b := b) (v := x) (.inr (.inr (.inr (.inr h5)))))
            rw [h1] at K1
            rw [h2] at K2
            rw [show decide (x ∈ a) = true from decide_eq_true h4] at K3
            rw [show decide (-x ∈ b) = false from decide_eq_false h5] at K4
            clear h1 h2 h4 h5
            go_enter Try.func59, Try.ntmps59
            go_wp2_with fail
            refine (K1.out _ (Below.refl _ _)).mono ?_
            rintro e w1 ⟨rfl, hb1⟩
            have B1 := Lib.hid hb1
            clear hb1
            go_wp2_with fail
            refine (K2.out _ B1.out).mono ?_
            rintro e w2 ⟨rfl, hb2⟩
            have B2 := Lib.hid (B1.out.trans (hb2.mono B1.out.size))
            clear hb2
            go_wp2_with fail
            refine (K3.out _ B2.out).mono ?_
            rintro e w3 ⟨rfl, hb3⟩
            have B3 := Lib.hid (B2.out.trans (hb3.mono B2.out.size))
            clear hb3
            go_wp2_with fail
            refine (K4.out _ B3.out).mono ?_
            rintro e w4 ⟨rfl, hb4⟩
            have B4 := Lib.hid (B3.out.trans (hb4.mono B3.out.size))
            clear hb4
            go_wp2
            go_ret2
            exact rs_none HN.out B4.out
        · have HN := Lib.hid (rs_no (a := a) (b := b) (v := x) (.inr (.inr (.inr (.inl h4)))))
          rw [h1] at K1
          rw [h2] at K2
          rw [show decide (x ∈ a) = false from decide_eq_false h4] at K3
          clear h1 h2 h4
          go_enter Try.func59, Try.ntmps59
          go_wp2_with fail
          refine (K1.out _ (Below.refl _ _)).mono ?_
          rintro e w1 ⟨rfl, hb1⟩
          have B1 := Lib.hid hb1
          clear hb1
          go_wp2_with fail
          refine (K2.out _ B1.out).mono ?_
          rintro e w2 ⟨rfl, hb2⟩
          have B2 := Lib.hid (B1.out.trans (hb2.mono B1.out.size))
          clear hb2
          go_wp2_with fail
          refine (K3.out _ B2.out).mono ?_
          rintro e w3 ⟨rfl, hb3⟩
          have B3 := Lib.hid (B2.out.trans (hb3.mono B2.out.size))
          clear hb3
          go_wp2
          go_ret2
          exact rs_none HN.out B3.out
    · have h2' : clB 400 b = false := by simpa using h2
      have HN := Lib.hid (rs_no (a := a) (b := b) (v := x) (.inr (.inl h2')))
      rw [h1] at K1
      rw [h2'] at K2
      clear h1 h2 h2'
      go_enter Try.func59, Try.ntmps59
      go_wp2_with fail
      refine (K1.out _ (Below.refl _ _)).mono ?_
      rintro e w1 ⟨rfl, hb1⟩
      have B1 := Lib.hid hb1
      clear hb1
      go_wp2_with fail
      refine (K2.out _ B1.out).mono ?_
      rintro e w2 ⟨rfl, hb2⟩
      have B2 := Lib.hid (B1.out.trans (hb2.mono B1.out.size))
      clear hb2
      go_wp2
      go_ret2
      exact rs_none HN.out B2.out
  · have h1' : clB 400 a = false := by simpa using h1
    have HN := Lib.hid (rs_no (a := a) (b := b) (v := x) (.inl h1'))
    rw [h1'] at K1
    clear h1 h1'
    go_enter Try.func59, Try.ntmps59
    go_wp2_with fail
    refine (K1.out _ (Below.refl _ _)).mono ?_
    rintro e w1 ⟨rfl, hb1⟩
    have B1 := Lib.hid hb1
    clear hb1
    go_wp2
    go_ret2
    exact rs_none HN.out B1.out
end Go.Proofs.Ytkoeegeplginkaa
