/- What CountModels returns. No condition. -/
import Derived.Test.YtpcfjjjijknmmacCntM
namespace Go.Proofs.Ytpcfjjjijknmmac
open Go.ChangeShapes Go.WideShapes Go.ChangeAt Go.RowKit
set_option maxRecDepth 100000 in
theorem i_shut (n : Int) (L : List (List Int)) (v : Value) (w : World) (hv : (Cs.rows IntSS.c L).Is w 0 1 L.length v) (hok : (-9223372036854775808 ≤ n ∧ n ≤ 9223372036854775807) ∧ IntSS.Ok L ∧ L.length ≤ maxLen) (hc : IntSS.costs L ≤ 1048576) (h : ¬ (fmB n L = true ∧ n ≤ 12)) :
    Calls Try.prog 14 #[.agg #[.int .i64 n, v]] w fun e w' => e = .returned (.int .i64 (-1)) ∧ Below w.heap.size w w' := by
  have KF := Lib.hid (fun W (hb : Below w.heap.size w W) => i_fmok n L v W (hv.below hb) hok hc)
  obtain ⟨_, ⟨_, q, cap, rfl, _⟩, _⟩ := hv
  by_cases hf : fmB n L = true
  · have hn : 12 < n := by
      by_cases h12 : n ≤ 12
      · exact absurd ⟨hf, h12⟩ h
      · omega
    rw [hf] at KF
    clear h hf
    go_enter Try.func14, Try.ntmps14
    go_wp2_with fail
    refine (KF.out _ ((Below.refl _ _).alloc (Nat.le_refl _) _)).mono ?_
    rintro e w1 ⟨rfl, hb1⟩
    have B1 := Lib.hid (((Below.refl w.heap.size w).alloc (Nat.le_refl _) (.cells #[.int .i64 n, .slice q L.length cap] 27)).trans (hb1.mono (by simp)))
    obtain ⟨x0, x1⟩ := (cell2_alloc w 27 _ _).below hb1
    clear hb1
    go_wp2
    go_ret
    exact ⟨rfl, B1.out⟩
  · have hf : fmB n L = false := by simpa using hf
    rw [hf] at KF
    clear h hf
    go_enter Try.func14, Try.ntmps14
    go_wp2_with fail
    refine (KF.out _ ((Below.refl _ _).alloc (Nat.le_refl _) _)).mono ?_
    rintro e w1 ⟨rfl, hb1⟩
    have B1 := Lib.hid (((Below.refl w.heap.size w).alloc (Nat.le_refl _) (.cells #[.int .i64 n, .slice q L.length cap] 27)).trans (hb1.mono (by simp)))
    clear hb1
    go_wp2
    go_ret
    exact ⟨rfl, B1.out⟩
theorem bit_step {m k i g cap base : Nat} (hi : i < m) {wr : World} {cur : List Value} (ho : wr.ownsRow base 4 1 (.slice (some ⟨g, 0, none⟩) m cap) m cur) (hc : cur.take i = BoolL.all ((rowM m k).take i)) :
    ∃ cur', (wr.setCell ⟨g, i, none⟩ (.bool (bt k i))).ownsRow base 4 1 (.slice (some ⟨g, 0, none⟩) m cap) m cur' ∧ cur'.take (i + 1) = BoolL.all ((rowM m k).take (i + 1)) := by
  have hl := ho.1
  refine ⟨_, own_put [.bool (bt k i)] i wr cur ho, ?_⟩
  rw [putAt_take cur i [.bool (bt k i)] (i + 1) rfl (by omega), hc, rowM_take hi, BoolL.all_app]
  rfl
set_option maxRecDepth 100000 in
theorem i_bit (b : Bool) (w : World) : Calls Try.prog 45 #[.bool b] w fun e w' => e = .returned (.int .i64 (if b = true then 1 else 0)) ∧ w = w' := by
  cases b
  all_goals
    go_enter Try.func45, Try.ntmps45
    go_wp2
    go_ret
    exact ⟨rfl, rfl⟩
set_option maxRecDepth 100000 in
set_option maxHeartbeats 4000000 in
theorem i_cnt (n : Int) (L : List (List Int)) (v : Value) (w : World) (hv : (Cs.rows IntSS.c L).Is w 0 1 L.length v) (hok : (-9223372036854775808 ≤ n ∧ n ≤ 9223372036854775807) ∧ IntSS.Ok L ∧ L.length ≤ maxLen) (hc : IntSS.costs L ≤ 1048576) (hf : fmB n L = true) (h12 : n ≤ 12) :
    Calls Try.prog 14 #[.agg #[.int .i64 n, v]] w fun e w' => e = .returned (.int .i64 (cntM L n.toNat (2 ^ n.toNat) : Nat)) ∧ Below w.heap.size w w' := by
  obtain ⟨m, rfl⟩ : ∃ m : Nat, n = (m : Int) := ⟨n.toNat, by have := (fm_of hf).1; omega⟩
  rw [Int.toNat_natCast]
  have hm : m ≤ 12 := by omega
  obtain ⟨hp1, hp2⟩ := pow12 m hm
  have KF := Lib.hid (fun W (hb : Below w.heap.size w W) => i_fmok (m : Int) L v W (hv.below hb) hok hc)
  rw [hf] at KF
  have KE := Lib.hid (fun k (M : List Bool) (hM : M = rowM m k) (u : Value) (W : World) (hb : Below w.heap.size w W) (hu : Cs.Shows W 0 1 u M.length (BoolL.all M)) => show Calls Try.prog 46 #[.agg #[.int .i64 (m : Int), v], u] W (fun e w' => e = .returned (.bool (mdB L (rowM m k))) ∧ Below W.heap.size W w') from by
    have hl : M.length = m := by rw [hM, rowM_len]
    have := i_model (m : Int) (fm_of hf).2.1 L M v u W (hv.below hb) hu hc (lits_in hf) (by omega)
    rwa [hM] at this)
  have KB := Lib.hid i_bit
  obtain ⟨_, ⟨_, q, cap, rfl, _⟩, _⟩ := hv
  have hshl : wrap64 ((2 : Int) ^ m) = ((2 ^ m : Nat) : Int) := by rw [show (2 : Int) ^ m = ((2 ^ m : Nat) : Int) by simp, IntWalk.wrap64_in _ ⟨by omega, by omega⟩]
  generalize 2 ^ m = N at *
  obtain ⟨i0', hi', hz0, hz1, hz2⟩ := info_parts infoB
  clear hf hok hc
  go_enter Try.func14, Try.ntmps14
  go_wp2_with fail
  refine (KF.out _ ((Below.refl _ _).alloc (Nat.le_refl _) _)).mono ?_
  rintro e w1 ⟨rfl, hb1⟩
  have B1 := Lib.hid (((Below.refl w.heap.size w).alloc (Nat.le_refl _) (.cells #[.int .i64 (m : Int), .slice q L.length cap] 27)).trans (hb1.mono (by simp)))
  have X1 := Lib.hid ((cell2_alloc w 27 (.int .i64 (m : Int)) (.slice q L.length cap)).below hb1)
  clear hb1
  obtain ⟨x0, x1⟩ := X1.out
  have hbs : w.heap.size + 1 ≤ w1.heap.size := World.block_lt_of_cell? _ _ x0
  go_wp2_with (refine wpList_make_full _ rfl _ _ 63 rfl (w.heap.size + 1) 4 i0' (.bool false) 1 Try.underlying63 hi' hz0 hz1 .i64 .i64 _ _ m rfl rfl rfl rfl (by rw [hz2]; omega) (by unfold maxLen; omega) hbs ?_; intro w2 hown hgrow; have hb2 := (Below.refl (w.heap.size + 1) w1).grown hgrow hbs (fun k e => by cases e); have HO := Lib.hid hown; have B2 := Lib.hid (B1.out.trans (hb2.mono (by omega))); have X2 := Lib.hid (show Cell2 w2 w.heap.size (.int .i64 (m : Int)) (.slice q L.length cap) from ⟨(hb2.cell (p := ⟨w.heap.size, 0, none⟩) (Nat.lt_succ_self _)).trans X1.out.1, (hb2.cell (p := ⟨w.heap.size, 1, none⟩) (Nat.lt_succ_self _)).trans X1.out.2⟩); clear hown hgrow hb2; clear x0 x1; obtain ⟨x0, x1⟩ := X2.out)
  try rw [hshl]
  clear hshl x0 x1
  generalize w1.heap.size = g at *
  go_loopw [3, 21] (fun c i wr => ∃ (k t : Nat) (cur : List Value), k ≤ N ∧ i = .int .i64 k ∧ c = .int .i64 t ∧ t = cntM L m k ∧ t ≤ k ∧ wr.ownsRow (w.heap.size + 1) 4 1 (.slice (some ⟨g, 0, none⟩) m m) m cur ∧ Below w.heap.size w wr ∧ Cell2 wr w.heap.size (.int .i64 (m : Int)) (.slice q L.length cap)) (fun _ i _ => N - (intOf i).toNat)
  case atStart => exact ⟨0, 0, _, Nat.zero_le _, rfl, rfl, rfl, Nat.le_refl _, HO.out, B2.out, X2.out⟩
  case round =>
    obtain ⟨k, t, cur, hk, rfl, rfl, ht, htk, ho, hb, hx⟩ := hrel
    have HX := Lib.hid hx
    have HB := Lib.hid hb
    have HO1 := Lib.hid ho
    have HTT := Lib.hid (And.intro ht htk)
    clear hx hb ho ht htk
    by_cases hkn : k < N
    · have hki : (k : Int) < (N : Int) := by omega
      go_wp2
      go_loopw [26] (fun i wq => ∃ (i0 : Nat) (cur : List Value), i0 ≤ m ∧ i = .int .i64 i0 ∧ wq.ownsRow (w.heap.size + 1) 4 1 (.slice (some ⟨g, 0, none⟩) m m) m cur ∧ cur.take i0 = BoolL.all ((rowM m k).take i0) ∧ Below w.heap.size w wq ∧ Cell2 wq w.heap.size (.int .i64 (m : Int)) (.slice q L.length cap)) (fun i _ => m - (intOf i).toNat)
      case atStart => exact ⟨0, _, Nat.zero_le _, rfl, HO1.out, rfl, HB.out, HX.out⟩
      case round =>
        obtain ⟨i0, cur, hi0, rfl, ho, hcur, hb, hx⟩ := hrel
        have HX2 := Lib.hid hx
        have HB2 := Lib.hid hb
        have HO2 := Lib.hid ho
        have hgb : w.heap.size + 1 ≤ g := (ho.lt g rfl).1
        by_cases hin : i0 < m
        · have hii : (i0 : Int) < (m : Int) := by omega
          have HST := Lib.hid (bit_step hin ho hcur)
          have hcl := ho.1
          obtain ⟨old, hold⟩ : ∃ old, wr.cell? ⟨g, i0, none⟩ = some old := ⟨cur[i0]'(by omega), by
            rw [ho.cellAt i0 (by omega)]; exact List.getElem?_eq_getElem (by omega)⟩
          have hfz := ho.frozenAt i0
          have HB3 := Lib.hid (hb.setCell (p := ⟨g, i0, none⟩) (show w.heap.size ≤ g by omega) (.bool (bt k i0)))
          have HX3 := Lib.hid (show Cell2 (wr.setCell ⟨g, i0, none⟩ (.bool (bt k i0))) w.heap.size (.int .i64 (m : Int)) (.slice q L.length cap) from by
            have hs : Below g wr (wr.setCell ⟨g, i0, none⟩ (.bool (bt k i0))) := (Below.refl g wr).setCell (Nat.le_refl _) _
            exact ⟨(hs.cell (p := ⟨w.heap.size, 0, none⟩) (by show w.heap.size < g; omega)).trans hx.1, (hs.cell (p := ⟨w.heap.size, 1, none⟩) (by show w.heap.size < g; omega)).trans hx.2⟩)
          clear ho hcur hb hx hcl
          go_wp2
          go_roundw
          case rel =>
            obtain ⟨cur', h1, h2⟩ := HST.out
            exact ⟨i0 + 1, cur', by omega, by go_num, h1, h2, HB3.out, HX3.out⟩
          case measure => simp [intOf]; omega
        · have hni : ¬ ((i0 : Int) < (m : Int)) := by omega
          have ei : i0 = m := by omega
          have HS := Lib.hid (show Cs.Shows wr 0 1 (.slice (some ⟨g, 0, none⟩) m m) (rowM m k).length (BoolL.all (rowM m k)) by
            rw [ei, List.take_of_length_le (by rw [ho.1]; omega), rowM_all] at hcur
            have := (Cs.shows_of_owns ho).down (Nat.zero_le _)
            rw [hcur] at this
            rw [rowM_len]
            exact this)
          obtain ⟨x0, x1⟩ := hx
          clear ho hcur hb
          have KB1 := Lib.hid (KB.out (mdB L (rowM m k)))
          have KE1 := Lib.hid (KE.out k (rowM m k) rfl _ wr HB2.out HS.out)
          have hstep : ∃ s : Nat, s ≤ 1 ∧ (if mdB L (rowM m k) = true then (1 : Int) else 0) = (s : Int) ∧ t + s = cntM L m (k + 1) := by
            unfold cntM
            rw [← HTT.out.1]
            by_cases hg : mdB L (rowM m k) = true
            · exact ⟨1, Nat.le_refl _, by rw [if_pos hg]; rfl, by rw [if_pos hg]⟩
            · exact ⟨0, by omega, by rw [if_neg hg]; rfl, by rw [if_neg hg]⟩
          obtain ⟨s, hs1, hs2, hs3⟩ := hstep
          rw [hs2] at KB1
          have HT1 := Lib.hid hs3
          have htk := HTT.out.2
          generalize mdB L (rowM m k) = bb at *
          clear hs2 hs3
          go_wp2_with fail
          refine KE1.out.mono ?_
          rintro e w3 ⟨rfl, hb3⟩
          have HB3 := Lib.hid (HB2.out.trans (hb3.mono HB2.out.size))
          have HX3 := Lib.hid (HX2.out.below hb3)
          have HO3 := Lib.hid (own_keep HO2.out hb3)
          clear hb3 x0 x1
          go_wp2_with fail
          refine (KB1.out _).mono ?_
          rintro e w4 ⟨rfl, rfl⟩
          go_wp2
          go_roundw
          case rel => exact ⟨k + 1, t + s, cur, by omega, by go_num, by go_num, HT1.out, by omega, HO3.out, HB3.out, HX3.out⟩
          case measure => simp [intOf]; omega
    · have hnk : ¬ ((k : Int) < (N : Int)) := by omega
      have ek : k = N := by omega
      go_wp2
      go_ret
      exact ⟨by rw [HTT.out.1, ek] <;> rfl, HB.out⟩
theorem i_cmodels (n : Int) (L : List (List Int)) (v : Value) (w : World) (hv : (Cs.rows IntSS.c L).Is w 0 1 L.length v) (hok : (-9223372036854775808 ≤ n ∧ n ≤ 9223372036854775807) ∧ IntSS.Ok L ∧ L.length ≤ maxLen) (hc : IntSS.costs L ≤ 1048576) :
    Calls Try.prog 14 #[.agg #[.int .i64 n, v]] w fun e w' => e = .returned (.int .i64 (cmB n L)) ∧ Below w.heap.size w w' := by
  unfold cmB
  by_cases h : fmB n L = true ∧ n ≤ 12
  · rw [if_pos h]; exact i_cnt n L v w hv hok hc h.1 h.2
  · rw [if_neg h]; exact i_shut n L v w hv hok hc h
theorem s_cmodels (n : Int) (L : List (List Int)) (v : Value) (w : World) (hv : (Cs.rows IntSS.c L).Is w 0 1 L.length v) (hok : (-9223372036854775808 ≤ n ∧ n ≤ 9223372036854775807) ∧ IntSS.Ok L ∧ L.length ≤ maxLen) (hc : IntSS.costs L ≤ 1048576) :
    Calls Try.prog 12 #[.agg #[.int .i64 n, v]] w fun e w' => e = .returned (.int .i64 (cmB n L)) ∧ Below w.heap.size w w' := by
  unfold cmB
  by_cases h : fmB n L = true ∧ n ≤ 12
  · rw [if_pos h]; exact s_cnt n L v w hv hok hc h.1 h.2
  · rw [if_neg h]; exact s_shut n L v w hv hok hc h
end Go.Proofs.Ytpcfjjjijknmmac
