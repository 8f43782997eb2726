/- What the specification's MakeClause returns. No condition. -/
import Derived.Test.YtkoeegeplginkaaFmOk
import Derived.Test.YtkoeegeplginkaaMcM
import Derived.Test.YtkoeegeplginkaaApAny
import Derived.Deep.RegionWith
namespace Go.Proofs.Ytkoeegeplginkaa
open Go.ChangeShapes Go.WideShapes Go.ChangeAt Go.RowKit
theorem IntL.one (L : List Int) : ∀ u ∈ IntL.all L, u.oneCell' = true := by
  intro u hu
  rw [IntL.all_map] at hu
  obtain ⟨x, _, rfl⟩ := List.mem_map.1 hu
  rfl
/-- the clause, or none -/
def mcL (l : List Int) : List Int := (mcV l).getD []
theorem mcL_len (l : List Int) : (mcL l).length ≤ l.length := by
  unfold mcL
  cases h : mcV l with
  | none => simp
  | some o => have := mkFold_len l [] o h; simpa using this
/-- what MakeClause returns, as it can be read -/
def McShow (l : List Int) (w : World) (e : Ending) (w' : World) : Prop := Below w.heap.size w w' ∧ ∃ q cap, e = .returned (.tuple #[.slice q (mcL l).length cap, .bool (mcV l).isSome]) ∧ Cs.Shows w' 0 1 (.slice q (mcL l).length cap) (mcL l).length (IntL.all (mcL l))
theorem mc_none {l : List Int} {w w' : World} (h : mcV l = none) (hb : Below w.heap.size w w') : McShow l w (.returned (.tuple #[.slice none 0 0, .bool false])) w' := by
  unfold McShow mcL
  rw [h]
  exact ⟨hb, none, 0, rfl, Cs.shows_of_owns (e := 3) ⟨rfl, .inl ⟨rfl, rfl⟩⟩⟩
theorem mc_some {l V : List Int} {w w' : World} {q : Option Addr} {cap : Nat} (h : mcV l = some V) (hb : Below w.heap.size w w') (hs : Cs.Shows w' 0 1 (.slice q V.length cap) V.length (IntL.all V)) : McShow l w (.returned (.tuple #[.slice q V.length cap, .bool true])) w' := by
  unfold McShow mcL
  rw [h]
  exact ⟨hb, q, cap, rfl, hs⟩
theorem mk_bad {O l : List Int} {x : Int} (h : litB 400 x = false) : mkFold O (x :: l) = none := by
  unfold mkFold
  rw [if_neg (by rw [h]; simp)]
theorem mk_in {O l : List Int} {x : Int} (h : litB 400 x = true) : mkFold O (x :: l) = (match insC O x with | none => none | some o => mkFold o l) := by
  conv => lhs; unfold mkFold
  rw [if_pos h]
  cases insC O x <;> rfl
theorem ins_here {O : List Int} {x : Int} (h : O[atOf x O]? = some x) : insC O x = some O := by unfold insC; rw [if_pos h]
theorem ins_opp {O : List Int} {x : Int} (h : O[atOf x O]? = some (-x)) (h0 : x ≠ 0) : insC O x = none := by
  unfold insC
  rw [if_neg (by rw [h]; intro e; injection e with e; omega), if_pos h]
theorem ins_new {O : List Int} {x : Int} (h1 : O[atOf x O]? ≠ some x) (h2 : O[atOf x O]? ≠ some (-x)) : insC O x = some (O.take (atOf x O) ++ x :: O.drop (atOf x O)) := by unfold insC; rw [if_neg h1, if_neg h2]
theorem lits_put {O : List Int} {x : Int} (t : Nat) (h : litsB 400 O = true) (hx : litB 400 x = true) : litsB 400 (O.take t ++ x :: O.drop t) = true := by
  unfold litsB at *
  rw [List.all_eq_true] at *
  intro y hy
  rw [List.mem_append, List.mem_cons] at hy
  rcases hy with hy | rfl | hy
  · exact h y (List.mem_of_mem_take hy)
  · exact hx
  · exact h y (List.mem_of_mem_drop hy)
set_option maxRecDepth 100000 in
set_option maxHeartbeats 4000000 in
theorem s_mkcl (l : List Int) (v : Value) (w : World) (hv : Cs.Shows w 0 1 v l.length (IntL.all l)) (hok : ∀ x ∈ l, IntL.Ok x) (hl : l.length ≤ 1048576) :
    Calls Try.prog 36 #[v] w (McShow l w) := by
  obtain ⟨i0, hi0, hz0, hzs, hzb⟩ := info_parts zero_Int
  have hml : maxLen = 9223372036854775807 := rfl
  have HO0 : Hid ((w.alloc (.cells #[] 3)).ownsRow w.heap.size 3 1 (.slice (some ⟨w.heap.size, 0, none⟩) 0 0) 0 []) := Lib.hid ⟨rfl, .inr ⟨w.heap.size, 0, #[], rfl, Nat.le_refl _, heap_alloc_new w _, Nat.le_refl _, by omega, rfl, rfl⟩⟩
  have HW0 := Lib.hid ((Below.refl w.heap.size w).alloc (Nat.le_refl _) (.cells #[] 3))
  rcases Cs.shows_cases hv with ⟨h0, q, cap, rfl⟩ | ⟨hpos, b, o, cap, rfl, _, _, hbl, hr⟩
  · have hL : l = [] := List.length_eq_zero_iff.1 h0
    subst hL
    clear hv hl h0 hok
    go_enter Try.func36, Try.ntmps36
    go_wp2
    refine wp_loop_rounds 1 ?_
    rw [rounds_succ]
    go_wp2
    go_ret2
    exact mc_some (V := []) rfl HW0.out ((Cs.shows_of_owns HO0.out).down (Nat.zero_le _))
  · have HR := Lib.hid (fun (wr : World) (hb : Below w.heap.size w wr) j (h : j < l.length) => IntL.nth l j h (rangeAt_below hb hr))
    have HX := Lib.hid (fun j (h : j < l.length) => List.drop_eq_getElem_cons h)
    have HOK := Lib.hid (fun j (h : j < l.length) => hok l[j] (List.getElem_mem h))
    clear hv hr hok
    go_enter Try.func36, Try.ntmps36
    go_wp2
    go_loopw [4, 12] (fun s i wr => ∃ (j : Nat) (O : List Int) (g c : Nat), j ≤ l.length ∧ i = .int .i64 j ∧ s = .slice (some ⟨g, 0, none⟩) O.length c ∧ O.length ≤ j ∧ litsB 400 O = true ∧ mkFold O (l.drop j) = mcV l ∧ wr.ownsRow w.heap.size 3 1 (.slice (some ⟨g, 0, none⟩) O.length c) O.length (IntL.all O) ∧ Below w.heap.size w wr) (fun _ i _ => l.length - (intOf i).toNat)
    case atStart => exact ⟨0, [], w.heap.size, 0, Nat.zero_le _, rfl, rfl, Nat.zero_le _, rfl, rfl, HO0.out, HW0.out⟩
    case round =>
      clear HO0 HW0
      obtain ⟨j, O, g, c, hj, rfl, rfl, hoj, hlits, hfold, hown, hb⟩ := hrel
      have HB := Lib.hid hb
      have HO := Lib.hid hown
      have HLI := Lib.hid hlits
      by_cases hjn : j < l.length
      · have c0 := HR.out wr hb j hjn
        have hx := HX.out j hjn
        have hok1 := HOK.out j hjn
        rw [hx] at hfold
        generalize l[j] = x at *
        unfold IntL.Ok at hok1
        have HQ := Lib.hid hfold
        have hki : (j : Int) < (l.length : Int) := by omega
        clear hb hown hlits hfold hx
        by_cases g0 : x = 0
        · have HF := Lib.hid (show mcV l = none by rw [← HQ.out, mk_bad (litB_f (.inl g0))])
          go_wp2
          go_ret2
          exact mc_none HF.out HB.out
        · by_cases g1 : x < -400
          · have HF := Lib.hid (show mcV l = none by rw [← HQ.out, mk_bad (litB_f (.inr (.inl g1)))])
            have KI := Lib.hid (fun W => s_in_lo x (-400) 400 g1 W)
            go_wp2_with (go_at_call 96; refine (KI.out _).mono ?_; rintro e w1 ⟨rfl, rfl⟩)
            go_ret2
            exact mc_none HF.out HB.out
          · by_cases g2 : 400 < x
            · have HF := Lib.hid (show mcV l = none by rw [← HQ.out, mk_bad (litB_f (.inr (.inr g2)))])
              have KI := Lib.hid (fun W => s_in_hi x (-400) 400 g2 W)
              go_wp2_with (go_at_call 96; refine (KI.out _).mono ?_; rintro e w1 ⟨rfl, rfl⟩)
              go_ret2
              exact mc_none HF.out HB.out
            · have HLX := Lib.hid (litB_t g0 (by omega : -400 ≤ x) (by omega : x ≤ 400))
              have HQ2 := Lib.hid (show (match insC O x with | none => none | some o => mkFold o (l.drop (j + 1))) = mcV l by rw [← HQ.out, mk_in HLX.out])
              have KI := Lib.hid (fun W => s_in_ok x (-400) 400 (by omega) (by omega) W)
              have KX := Lib.hid (fun W => s_abs x (by omega) W)
              have KO := Lib.hid (fun y (h : -9223372036854775807 ≤ y ∧ y ≤ 9223372036854775807) W => s_abs y h W)
              have HCELL : Hid (∀ i u, (IntL.all O)[i]? = some u → wr.cell? ⟨g, i, none⟩ = some u) := Lib.hid (fun i u hu => by
                have hi := (List.getElem?_eq_some_iff.1 hu).1
                rw [IntL.all_len] at hi
                rw [HO.out.cellAt i (by omega)]; exact hu)
              have HAT : Hid (∀ t, (ht : t < O.length) → wr.cell? ⟨g, t, none⟩ = some (.int .i64 O[t]) ∧ O[t]? = some O[t] ∧ (O[t] ≠ 0 ∧ -400 ≤ O[t] ∧ O[t] ≤ 400)) := Lib.hid (fun t ht => ⟨HCELL.out t _ (by rw [IntL.all_map, List.getElem?_map, List.getElem?_eq_getElem ht]; rfl), List.getElem?_eq_getElem ht, litsB_mem HLI.out (List.getElem_mem ht)⟩)
              have HLT := Lib.hid (fun t (ht : t < O.length) (h : t < atOf x O) => atOf_lt x O t ht h)
              have HGE := Lib.hid (atOf_ge x O)
              have HAL := Lib.hid (atOf_le x O)
              have hgb : w.heap.size ≤ g ∧ g < wr.heap.size := by
                rcases HO.out.2 with ⟨h, _⟩ | ⟨g', c', cur, h, h1, h2, _⟩
                · cases h
                · cases h; exact ⟨h1, (Array.getElem?_eq_some_iff.1 h2).1⟩
              have hcap : O.length ≤ c ∧ c ≤ 9223372036854775807 := by
                rcases HO.out.2 with ⟨h, _⟩ | ⟨g', c', cur, h, h1, h2, h3, h4, _⟩
                · cases h
                · cases h; exact ⟨h3, h4⟩
              clear HQ
              go_wp2_with (go_at_call 96; refine (KI.out _).mono ?_; rintro e w1 ⟨rfl, rfl⟩)
              clear KI c0
              simp only [show (x == 0) = false from by simpa using g0]
              go_loopw [7] (fun i wq => ∃ t : Nat, t ≤ atOf x O ∧ i = .int .i64 t ∧ wq = wr) (fun i _ => O.length - (intOf i).toNat)
              case atStart => exact ⟨0, Nat.zero_le _, rfl, rfl⟩
              case round =>
                obtain ⟨t, hta, rfl, rfl⟩ := hrel
                by_cases htn : t < O.length
                · obtain ⟨c0, hget, hy0, hy1, hy2⟩ := HAT.out t htn
                  have hlt := fun h => HLT.out t htn h
                  have hge : t = atOf x O → ¬ iabs O[t] < iabs x := by rintro rfl; have := HGE.out htn; omega
                  generalize O[t] = y at *
                  have hti : (t : Int) < (O.length : Int) := by omega
                  have hny := iabs_or y
                  have hnx := iabs_or x
                  have K1 := Lib.hid (fun W => KO.out y (by omega) W)
                  generalize hax : iabs x = ax at *
                  generalize hay : iabs y = ay at *
                  by_cases hc : ay < ax
                  · have HT := Lib.hid (show t < atOf x O by
                      rcases Nat.lt_or_ge t (atOf x O) with h | h
                      · exact h
                      · exact absurd hc (hge (by omega)))
                    clear hlt hge hget hax hay
                    go_wp2_with fail
                    refine (K1.out _).mono ?_
                    rintro e w1 ⟨rfl, rfl⟩
                    go_wp2_with fail
                    refine (KX.out _).mono ?_
                    rintro e w1 ⟨rfl, rfl⟩
                    go_wp2
                    go_roundw
                    case rel => exact ⟨t + 1, by have := HT.out; omega, by go_num, trivial⟩
                    case measure => simp [intOf]; omega
                  · have ht : t = atOf x O := by
                      rcases Nat.lt_or_ge t (atOf x O) with h | h
                      · exact absurd (hlt h) hc
                      · omega
                    have HG := Lib.hid (show O[atOf x O]? = some y by rw [← ht]; exact hget)
                    have HT := Lib.hid ht
                    clear hlt hge hget hax hay ht
                    by_cases he : y = x
                    · have HIN := Lib.hid (ins_here (by rw [HG.out, he]))
                      rw [he] at K1
                      go_wp2_with fail
                      refine (K1.out _).mono ?_
                      rintro e w1 ⟨rfl, rfl⟩
                      go_wp2_with fail
                      refine (KX.out _).mono ?_
                      rintro e w1 ⟨rfl, rfl⟩
                      go_wp2
                      go_roundw
                      case rel => exact ⟨j + 1, O, g, c, by omega, by go_num, rfl, by omega, HLI.out, by have h := HQ2.out; rw [HIN.out] at h; exact h, HO.out, HB.out⟩
                      case measure => simp [intOf]; omega
                    · by_cases hn : y = -x
                      · have HIN := Lib.hid (ins_opp (by rw [HG.out, hn]) g0)
                        rw [hn] at K1
                        go_wp2_with fail
                        refine (K1.out _).mono ?_
                        rintro e w1 ⟨rfl, rfl⟩
                        go_wp2_with fail
                        refine (KX.out _).mono ?_
                        rintro e w1 ⟨rfl, rfl⟩
                        go_wp2
                        go_ret2
                        exact mc_none (by have h := HQ2.out; rw [HIN.out] at h; exact h.symm) HB.out
                      · have HIN := Lib.hid (show insC O x = some (O.take t ++ x :: O.drop t) by
                          have h := ins_new (O := O) (x := x) (by rw [HG.out]; intro e; injection e with e; exact he e) (by rw [HG.out]; intro e; injection e with e; exact hn e)
                          rw [← HT.out] at h; exact h)
                        go_wp2_with fail
                        refine (K1.out _).mono ?_
                        rintro e w1 ⟨rfl, rfl⟩
                        go_wp2_with fail
                        refine (KX.out _).mono ?_
                        rintro e w1 ⟨rfl, rfl⟩
                        clear hny hnx K1 KX KO HG HT
                        have HOA : Hid ((wr.alloc (.cells #[] 3)).ownsRow wr.heap.size 3 1 (.slice (some ⟨wr.heap.size, 0, none⟩) 0 0) 0 []) := Lib.hid ⟨rfl, .inr ⟨wr.heap.size, 0, #[], rfl, Nat.le_refl _, heap_alloc_new wr _, Nat.le_refl _, by omega, rfl, rfl⟩⟩
                        have HBa := Lib.hid ((Below.refl wr.heap.size wr).alloc (Nat.le_refl _) (.cells #[] 3))
                        have HAC : Hid (∀ i u, (IntL.all O)[i]? = some u → (wr.alloc (.cells #[] 3)).cell? ⟨g, i, none⟩ = some u) := Lib.hid (fun i u hu => (HBa.out.cell (p := ⟨g, i, none⟩) hgb.2).trans (HCELL.out i u hu))
                        have htc : t ≤ c := by omega
                        have htl : t ≤ O.length := by omega
                        have hoc := hcap.1
                        go_wp2_with (at_builtin; refine wpList_append_any rfl _ _ 47 rfl wr.heap.size 3 i0 (.int .i64 0) 1 8 Try.underlying47 hi0 hz0 hzs hzb rfl (by decide) _ 0 [] rfl HOA.out _ t c (IntL.all (O.take t)) rfl ?c0 ?c1 ?c2 ?c3 ?c4 ?c5 ?_)
                        case c0 => rw [IntL.all_len, List.length_take]; omega
                        case c1 => exact fun h0 => ⟨_, rfl, fun i u hu => by
                          have hi := (List.getElem?_eq_some_iff.1 hu).1
                          rw [IntL.all_len, List.length_take] at hi
                          rw [Addr.add_mid, Nat.zero_add]
                          refine HAC.out i u ?_
                          rw [IntL.all_map, List.map_take, List.getElem?_take_of_lt (by omega)] at hu
                          rw [IntL.all_map]; exact hu⟩
                        case c2 => exact IntL.one _
                        case c3 => unfold maxLen; omega
                        case c4 => omega
                        case c5 => simp
                        intro q3 c3 w3 ho3 hb3
                        (try simp only [Nat.zero_add, List.nil_append] at ho3)
                        have HO3 := Lib.hid ho3
                        have HB4 := Lib.hid (HBa.out.trans hb3)
                        have hs4 := HB4.out.size
                        clear ho3 hb3 HOA HBa HAC
                        go_wp2_with (at_builtin; refine wpList_append_any rfl _ _ 47 rfl wr.heap.size 3 i0 (.int .i64 0) 1 8 Try.underlying47 hi0 hz0 hzs hzb rfl (by decide) _ t _ rfl (HO3.out.alloc _) _ 1 1 [.int .i64 x] rfl rfl ?d1 ?d2 ?d3 ?d4 ?d5 ?_)
                        case d1 => exact fun _ => ⟨_, rfl, fun i u hu => by
                          have hi := (List.getElem?_eq_some_iff.1 hu).1
                          rw [Addr.add_mid, Nat.zero_add, cell_of_row _ _ _ _ _ _ (heap_alloc_new w3 _)]
                          simpa using hu⟩
                        case d2 => intro u hu; simp at hu; subst hu; rfl
                        case d3 => unfold maxLen; omega
                        case d4 => omega
                        case d5 => simp; omega
                        intro q5 c5 w5 ho5 hb5
                        (try simp only [Nat.zero_add] at ho5)
                        have HO5 := Lib.hid ho5
                        have HB6 := Lib.hid ((HB4.out.alloc hs4 (.cells #[.int .i64 x] 3)).trans hb5)
                        clear ho5 hb5 HB4 HO3
                        have hs6 := HB6.out.size
                        have HAC : Hid (∀ i u, (IntL.all O)[i]? = some u → w5.cell? ⟨g, i, none⟩ = some u) := Lib.hid (fun i u hu => (HB6.out.cell (p := ⟨g, i, none⟩) hgb.2).trans (HCELL.out i u hu))
                        by_cases hcj : c = t
                        · go_wp2_with (at_builtin; refine wpList_append_any rfl _ _ 47 rfl wr.heap.size 3 i0 (.int .i64 0) 1 8 Try.underlying47 hi0 hz0 hzs hzb rfl (by decide) _ (t + 1) _ rfl HO5.out _ (O.length - t) _ (IntL.all (O.drop t)) rfl ?e1 ?e2 ?e3 ?e4 ?e5 ?e6 ?_)
                          case e1 => rw [IntL.all_len, List.length_drop]; omega
                          case e2 => exact fun h => absurd h (by omega)
                          case e3 => exact IntL.one _
                          case e4 => unfold maxLen; omega
                          case e5 => omega
                          case e6 => exact hs6
                          intro q7 c7 w7 ho7 hb7
                          have HO7 := Lib.hid ho7
                          have HB8 := Lib.hid (HB.out.trans ((HB6.out.trans hb7).mono HB.out.size))
                          clear ho7 hb7 HB6 HO5
                          have HEND : Hid (∃ g' c', (.slice q7 (t + 1 + (O.length - t)) c7 : Value) = .slice (some ⟨g', 0, none⟩) (O.take t ++ x :: O.drop t).length c' ∧ w7.ownsRow w.heap.size 3 1 (.slice (some ⟨g', 0, none⟩) (O.take t ++ x :: O.drop t).length c') (O.take t ++ x :: O.drop t).length (IntL.all (O.take t ++ x :: O.drop t))) := Lib.hid (by
                            have hlen : (O.take t ++ x :: O.drop t).length = t + 1 + (O.length - t) := by simp only [List.length_append, List.length_take, List.length_cons, List.length_drop]; omega
                            have hall : IntL.all (O.take t ++ x :: O.drop t) = IntL.all (O.take t) ++ .int .i64 x :: IntL.all (O.drop t) := by simp [IntL.all_map]
                            have h := HO7.out
                            rw [← hall, ← hlen] at h
                            rw [← hlen]
                            rcases h.2 with ⟨h1, h2⟩ | ⟨g', c', cur, h1, _⟩
                            · simp at h2
                            · cases h1; exact ⟨_, _, rfl, own_base h HB.out.size⟩)
                          have hln : t + 1 + (O.length - t) ≤ j + 1 := by omega
                          clear HO7
                          obtain ⟨g', c', hv', _⟩ := HEND.out
                          go_wp2
                          go_roundw
                          case rel => exact (by
                            obtain ⟨g', c', hv', ho'⟩ := HEND.out
                            exact ⟨j + 1, _, g', c', by omega, by go_num, hv', by simp only [List.length_append, List.length_take, List.length_cons, List.length_drop]; omega, lits_put t HLI.out HLX.out, by have h := HQ2.out; rw [HIN.out] at h; exact h, ho', HB8.out⟩)
                          case measure => simp [intOf]; omega
                        · go_wp2_with (at_builtin; refine wpList_append_any rfl _ _ 47 rfl wr.heap.size 3 i0 (.int .i64 0) 1 8 Try.underlying47 hi0 hz0 hzs hzb rfl (by decide) _ (t + 1) _ rfl HO5.out _ (O.length - t) _ (IntL.all (O.drop t)) rfl ?e1 ?e2 ?e3 ?e4 ?e5 ?e6 ?_)
                          case e1 => rw [IntL.all_len, List.length_drop]; omega
                          case e2 => exact fun _ => ⟨_, rfl, fun i u hu => by
                            rw [Addr.add_mid]
                            (try rw [Nat.zero_add])
                            refine HAC.out _ u ?_
                            rw [IntL.all_map, List.map_drop, List.getElem?_drop] at hu
                            rw [IntL.all_map]; exact hu⟩
                          case e3 => exact IntL.one _
                          case e4 => unfold maxLen; omega
                          case e5 => omega
                          case e6 => exact hs6
                          intro q7 c7 w7 ho7 hb7
                          have HO7 := Lib.hid ho7
                          have HB8 := Lib.hid (HB.out.trans ((HB6.out.trans hb7).mono HB.out.size))
                          clear ho7 hb7 HB6 HO5
                          have HEND : Hid (∃ g' c', (.slice q7 (t + 1 + (O.length - t)) c7 : Value) = .slice (some ⟨g', 0, none⟩) (O.take t ++ x :: O.drop t).length c' ∧ w7.ownsRow w.heap.size 3 1 (.slice (some ⟨g', 0, none⟩) (O.take t ++ x :: O.drop t).length c') (O.take t ++ x :: O.drop t).length (IntL.all (O.take t ++ x :: O.drop t))) := Lib.hid (by
                            have hlen : (O.take t ++ x :: O.drop t).length = t + 1 + (O.length - t) := by simp only [List.length_append, List.length_take, List.length_cons, List.length_drop]; omega
                            have hall : IntL.all (O.take t ++ x :: O.drop t) = IntL.all (O.take t) ++ .int .i64 x :: IntL.all (O.drop t) := by simp [IntL.all_map]
                            have h := HO7.out
                            rw [← hall, ← hlen] at h
                            rw [← hlen]
                            rcases h.2 with ⟨h1, h2⟩ | ⟨g', c', cur, h1, _⟩
                            · simp at h2
                            · cases h1; exact ⟨_, _, rfl, own_base h HB.out.size⟩)
                          have hln : t + 1 + (O.length - t) ≤ j + 1 := by omega
                          clear HO7
                          obtain ⟨g', c', hv', _⟩ := HEND.out
                          go_wp2
                          go_roundw
                          case rel => exact (by
                            obtain ⟨g', c', hv', ho'⟩ := HEND.out
                            exact ⟨j + 1, _, g', c', by omega, by go_num, hv', by simp only [List.length_append, List.length_take, List.length_cons, List.length_drop]; omega, lits_put t HLI.out HLX.out, by have h := HQ2.out; rw [HIN.out] at h; exact h, ho', HB8.out⟩)
                          case measure => simp [intOf]; omega
                · have et : t = O.length := by have := HAL.out; omega
                  have htd : decide ((t : Int) < (O.length : Int)) = false := by simp; omega
                  have HIN := Lib.hid (show insC O x = some (O.take t ++ x :: O.drop t) by
                    have ha : atOf x O = t := by have := HAL.out; omega
                    have hn : O[atOf x O]? = none := List.getElem?_eq_none (by omega)
                    have h := ins_new (O := O) (x := x) (by rw [hn]; simp) (by rw [hn]; simp)
                    rw [ha] at h; exact h)
                  have htl : t ≤ O.length := by omega
                  clear KX KO et
                  have HOA : Hid ((wr.alloc (.cells #[] 3)).ownsRow wr.heap.size 3 1 (.slice (some ⟨wr.heap.size, 0, none⟩) 0 0) 0 []) := Lib.hid ⟨rfl, .inr ⟨wr.heap.size, 0, #[], rfl, Nat.le_refl _, heap_alloc_new wr _, Nat.le_refl _, by omega, rfl, rfl⟩⟩
                  have HBa := Lib.hid ((Below.refl wr.heap.size wr).alloc (Nat.le_refl _) (.cells #[] 3))
                  have HAC : Hid (∀ i u, (IntL.all O)[i]? = some u → (wr.alloc (.cells #[] 3)).cell? ⟨g, i, none⟩ = some u) := Lib.hid (fun i u hu => (HBa.out.cell (p := ⟨g, i, none⟩) hgb.2).trans (HCELL.out i u hu))
                  have htc : t ≤ c := by omega
                  have htl : t ≤ O.length := by omega
                  have hoc := hcap.1
                  go_wp2_with (at_builtin; refine wpList_append_any rfl _ _ 47 rfl wr.heap.size 3 i0 (.int .i64 0) 1 8 Try.underlying47 hi0 hz0 hzs hzb rfl (by decide) _ 0 [] rfl HOA.out _ t c (IntL.all (O.take t)) rfl ?c0 ?c1 ?c2 ?c3 ?c4 ?c5 ?_)
                  case c0 => rw [IntL.all_len, List.length_take]; omega
                  case c1 => exact fun h0 => ⟨_, rfl, fun i u hu => by
                    have hi := (List.getElem?_eq_some_iff.1 hu).1
                    rw [IntL.all_len, List.length_take] at hi
                    rw [Addr.add_mid, Nat.zero_add]
                    refine HAC.out i u ?_
                    rw [IntL.all_map, List.map_take, List.getElem?_take_of_lt (by omega)] at hu
                    rw [IntL.all_map]; exact hu⟩
                  case c2 => exact IntL.one _
                  case c3 => unfold maxLen; omega
                  case c4 => omega
                  case c5 => simp
                  intro q3 c3 w3 ho3 hb3
                  (try simp only [Nat.zero_add, List.nil_append] at ho3)
                  have HO3 := Lib.hid ho3
                  have HB4 := Lib.hid (HBa.out.trans hb3)
                  have hs4 := HB4.out.size
                  clear ho3 hb3 HOA HBa HAC
                  go_wp2_with (at_builtin; refine wpList_append_any rfl _ _ 47 rfl wr.heap.size 3 i0 (.int .i64 0) 1 8 Try.underlying47 hi0 hz0 hzs hzb rfl (by decide) _ t _ rfl (HO3.out.alloc _) _ 1 1 [.int .i64 x] rfl rfl ?d1 ?d2 ?d3 ?d4 ?d5 ?_)
                  case d1 => exact fun _ => ⟨_, rfl, fun i u hu => by
                    have hi := (List.getElem?_eq_some_iff.1 hu).1
                    rw [Addr.add_mid, Nat.zero_add, cell_of_row _ _ _ _ _ _ (heap_alloc_new w3 _)]
                    simpa using hu⟩
                  case d2 => intro u hu; simp at hu; subst hu; rfl
                  case d3 => unfold maxLen; omega
                  case d4 => omega
                  case d5 => simp; omega
                  intro q5 c5 w5 ho5 hb5
                  (try simp only [Nat.zero_add] at ho5)
                  have HO5 := Lib.hid ho5
                  have HB6 := Lib.hid ((HB4.out.alloc hs4 (.cells #[.int .i64 x] 3)).trans hb5)
                  clear ho5 hb5 HB4 HO3
                  have hs6 := HB6.out.size
                  have HAC : Hid (∀ i u, (IntL.all O)[i]? = some u → w5.cell? ⟨g, i, none⟩ = some u) := Lib.hid (fun i u hu => (HB6.out.cell (p := ⟨g, i, none⟩) hgb.2).trans (HCELL.out i u hu))
                  by_cases hcj : c = t
                  · go_wp2_with (at_builtin; refine wpList_append_any rfl _ _ 47 rfl wr.heap.size 3 i0 (.int .i64 0) 1 8 Try.underlying47 hi0 hz0 hzs hzb rfl (by decide) _ (t + 1) _ rfl HO5.out _ (O.length - t) _ (IntL.all (O.drop t)) rfl ?e1 ?e2 ?e3 ?e4 ?e5 ?e6 ?_)
                    case e1 => rw [IntL.all_len, List.length_drop]; omega
                    case e2 => exact fun h => absurd h (by omega)
                    case e3 => exact IntL.one _
                    case e4 => unfold maxLen; omega
                    case e5 => omega
                    case e6 => exact hs6
                    intro q7 c7 w7 ho7 hb7
                    have HO7 := Lib.hid ho7
                    have HB8 := Lib.hid (HB.out.trans ((HB6.out.trans hb7).mono HB.out.size))
                    clear ho7 hb7 HB6 HO5
                    have HEND : Hid (∃ g' c', (.slice q7 (t + 1 + (O.length - t)) c7 : Value) = .slice (some ⟨g', 0, none⟩) (O.take t ++ x :: O.drop t).length c' ∧ w7.ownsRow w.heap.size 3 1 (.slice (some ⟨g', 0, none⟩) (O.take t ++ x :: O.drop t).length c') (O.take t ++ x :: O.drop t).length (IntL.all (O.take t ++ x :: O.drop t))) := Lib.hid (by
                      have hlen : (O.take t ++ x :: O.drop t).length = t + 1 + (O.length - t) := by simp only [List.length_append, List.length_take, List.length_cons, List.length_drop]; omega
                      have hall : IntL.all (O.take t ++ x :: O.drop t) = IntL.all (O.take t) ++ .int .i64 x :: IntL.all (O.drop t) := by simp [IntL.all_map]
                      have h := HO7.out
                      rw [← hall, ← hlen] at h
                      rw [← hlen]
                      rcases h.2 with ⟨h1, h2⟩ | ⟨g', c', cur, h1, _⟩
                      · simp at h2
                      · cases h1; exact ⟨_, _, rfl, own_base h HB.out.size⟩)
                    have hln : t + 1 + (O.length - t) ≤ j + 1 := by omega
                    clear HO7
                    obtain ⟨g', c', hv', _⟩ := HEND.out
                    go_wp2
                    go_roundw
                    case rel => exact (by
                      obtain ⟨g', c', hv', ho'⟩ := HEND.out
                      exact ⟨j + 1, _, g', c', by omega, by go_num, hv', by simp only [List.length_append, List.length_take, List.length_cons, List.length_drop]; omega, lits_put t HLI.out HLX.out, by have h := HQ2.out; rw [HIN.out] at h; exact h, ho', HB8.out⟩)
                    case measure => simp [intOf]; omega
                  · go_wp2_with (at_builtin; refine wpList_append_any rfl _ _ 47 rfl wr.heap.size 3 i0 (.int .i64 0) 1 8 Try.underlying47 hi0 hz0 hzs hzb rfl (by decide) _ (t + 1) _ rfl HO5.out _ (O.length - t) _ (IntL.all (O.drop t)) rfl ?e1 ?e2 ?e3 ?e4 ?e5 ?e6 ?_)
                    case e1 => rw [IntL.all_len, List.length_drop]; omega
                    case e2 => exact fun _ => ⟨_, rfl, fun i u hu => by
                      rw [Addr.add_mid]
                      (try rw [Nat.zero_add])
                      refine HAC.out _ u ?_
                      rw [IntL.all_map, List.map_drop, List.getElem?_drop] at hu
                      rw [IntL.all_map]; exact hu⟩
                    case e3 => exact IntL.one _
                    case e4 => unfold maxLen; omega
                    case e5 => omega
                    case e6 => exact hs6
                    intro q7 c7 w7 ho7 hb7
                    have HO7 := Lib.hid ho7
                    have HB8 := Lib.hid (HB.out.trans ((HB6.out.trans hb7).mono HB.out.size))
                    clear ho7 hb7 HB6 HO5
                    have HEND : Hid (∃ g' c', (.slice q7 (t + 1 + (O.length - t)) c7 : Value) = .slice (some ⟨g', 0, none⟩) (O.take t ++ x :: O.drop t).length c' ∧ w7.ownsRow w.heap.size 3 1 (.slice (some ⟨g', 0, none⟩) (O.take t ++ x :: O.drop t).length c') (O.take t ++ x :: O.drop t).length (IntL.all (O.take t ++ x :: O.drop t))) := Lib.hid (by
                      have hlen : (O.take t ++ x :: O.drop t).length = t + 1 + (O.length - t) := by simp only [List.length_append, List.length_take, List.length_cons, List.length_drop]; omega
                      have hall : IntL.all (O.take t ++ x :: O.drop t) = IntL.all (O.take t) ++ .int .i64 x :: IntL.all (O.drop t) := by simp [IntL.all_map]
                      have h := HO7.out
                      rw [← hall, ← hlen] at h
                      rw [← hlen]
                      rcases h.2 with ⟨h1, h2⟩ | ⟨g', c', cur, h1, _⟩
                      · simp at h2
                      · cases h1; exact ⟨_, _, rfl, own_base h HB.out.size⟩)
                    have hln : t + 1 + (O.length - t) ≤ j + 1 := by omega
                    clear HO7
                    obtain ⟨g', c', hv', _⟩ := HEND.out
                    go_wp2
                    go_roundw
                    case rel => exact (by
                      obtain ⟨g', c', hv', ho'⟩ := HEND.out
                      exact ⟨j + 1, _, g', c', by omega, by go_num, hv', by simp only [List.length_append, List.length_take, List.length_cons, List.length_drop]; omega, lits_put t HLI.out HLX.out, by have h := HQ2.out; rw [HIN.out] at h; exact h, ho', HB8.out⟩)
                    case measure => simp [intOf]; omega
      · have HF := Lib.hid (show mcV l = some O by rw [← hfold, List.drop_of_length_le (by omega)]; rfl)
        have hnj : ¬ ((j : Int) < (l.length : Int)) := by omega
        clear hb hown hlits hfold
        go_wp2
        go_ret2
        exact mc_some HF.out HB.out ((Cs.shows_of_owns HO.out).down (Nat.zero_le _))
end Go.Proofs.Ytkoeegeplginkaa
