/- What ProofSize returns for a value that lies in memory: countNodes with the kids of a node. No condition. -/
import Derived.Test.YtpcfjjjijknmmacProofSize
namespace Go.Proofs.Ytpcfjjjijknmmac
open Go.ChangeShapes Go.WideShapes Go.ChangeAt Go.RowKit
theorem infoPS : (Try.prog.info? 31).map (fun i => (i.zero, i.size, i.bytes)) = some (some (.slice none 0 0), 1, 24) := by kernel_rfl
/-- the stack between two rounds: what has been counted, and what stands open -/
def CtPOut (k : Pf) (w : World) (kx : Nat) (m v : Value) (wr : World) : Prop := ∃ (L : List Pf) (xs : List Value) (s : Nat), m = .int .i64 (1 + s) ∧ s + Pf.total L = k.nodes ∧ L.length + Pf.total L ≤ kx ∧ kx ≤ k.nodes + 1 ∧ wr.ownsRow w.heap.size 31 1 v L.length xs ∧ (Pf.stk 33 L).Vs w 0 xs ∧ Below w.heap.size w wr
/-- .. while the nodes of one slice are looked at -/
def CtPIn (F : Pf) (L : List Pf) (w : World) (j : Nat) (v : Value) (wr : World) : Prop := ∃ (M : List Pf) (xs : List Value), M.length ≤ j ∧ Pf.total M + (F.drop j).deep = F.deep ∧ wr.ownsRow w.heap.size 31 1 v (L ++ M).length xs ∧ (Pf.stk 33 (L ++ M)).Vs w 0 xs ∧ Below w.heap.size w wr
set_option maxRecDepth 100000 in
theorem kids_ofP (vr : Int) (s : Value) (w : World) (hs : ∃ q m c, s = .slice q m c) :
    Calls Try.prog 63 #[.agg #[.int .i64 vr, s]] w fun e w' => e = .returned s ∧ Below w.heap.size w w' := by
  obtain ⟨q, m, c, rfl⟩ := hs
  go_enter Try.func63, Try.ntmps63
  go_wp2
  go_ret
  exact ⟨rfl, (Below.refl _ _).alloc (Nat.le_refl _) _⟩
set_option maxRecDepth 100000 in
set_option maxHeartbeats 4000000 in
theorem i_countP (k0 : Pf) (vr0 : Int) (s0 : Value) (w : World) (hv : (k0.cs 33).Is w 0 2 k0.len s0) (hn : k0.nodes ≤ 1048576) :
    Calls Try.prog 62 #[.agg #[.int .i64 vr0, s0], .func (.func 63) #[] #[]] w fun e w' => e = .returned (.int .i64 (1 + k0.nodes)) ∧ Below w.heap.size w w' := by
  have hml : maxLen = 9223372036854775807 := rfl
  have HV := Lib.hid hv
  obtain ⟨_, ⟨_, q0, cap0, rfl, _⟩, _⟩ := hv
  have H0 : Hid (∀ w1, Below w.heap.size w w1 → CtPOut k0 w (k0.nodes + 1) (.int .i64 1) (.slice (some ⟨w1.heap.size, 0, none⟩) 1 1) (w1.alloc (.cells #[.slice q0 k0.len cap0] 31))) := Lib.hid (by
    intro w1 hb1
    obtain ⟨ys, h1, h2⟩ := HV.out
    refine ⟨[k0], [.slice q0 k0.len cap0], 0, rfl, by simp [Pf.total], by simp [Pf.total]; omega, Nat.le_refl _, ?_, ⟨_, [], ys, rfl, h1, h2, rfl⟩, hb1.alloc hb1.size _⟩
    have := World.ownsRow_lit (base := w.heap.size) (e := 31) (size := 1) w1 #[.slice q0 k0.len cap0] 1 hb1.size (by decide) rfl
    simpa using this)
  have KO := Lib.hid (fun (vr : Int) s W h => kids_ofP vr s W h)
  clear HV
  go_enter Try.func62, Try.ntmps62
  go_wp2_with fail
  refine (KO.out _ _ _ ⟨_, _, _, rfl⟩).mono ?_
  rintro e w1 ⟨rfl, hb1⟩
  have H1 := Lib.hid (H0.out w1 (((Below.refl _ w).alloc (Nat.le_refl _) _).trans (hb1.mono (by simp))))
  clear hb1 H0
  go_wp2
  go_loopg [5, 6] (k0.nodes + 1) (fun kx m v wr => CtPOut k0 w kx m v wr)
  case atStart => exact H1.out
  case round =>
    clear H1
    obtain ⟨L, xs, s, rfl, hs, hk1, hk2, hown, hst, hb⟩ := hrel
    rcases List.eq_nil_or_concat L with rfl | ⟨L', F, rfl⟩
    · have HS : Hid (s = k0.nodes) := Lib.hid (by simpa [Pf.total] using hs)
      have HB := Lib.hid hb
      obtain ⟨q, cap, rfl⟩ : ∃ q cap, u6 = .slice q 0 cap := by
        rcases hown.2 with ⟨rfl, _⟩ | ⟨g, cap, _, rfl, _⟩
        · exact ⟨none, 0, rfl⟩
        · exact ⟨_, cap, rfl⟩
      clear hs hk1 hk2 hown hst hb
      go_wp2
      go_ret
      exact ⟨by rw [HS.out]; rfl, HB.out⟩
    · rw [List.concat_eq_append] at hs hk1 hown hst
      rw [List.length_append] at hown hk1
      simp only [List.length_singleton] at hown hk1
      rw [Pf.total_app] at hs hk1
      simp only [Pf.total, Nat.add_zero] at hs hk1
      obtain ⟨g, cap, rfl, hgb, hcap, hcm⟩ : ∃ g cap, u6 = .slice (some ⟨g, 0, none⟩) (L'.length + 1) cap ∧ w.heap.size ≤ g ∧ L'.length + 1 ≤ cap ∧ cap ≤ 9223372036854775807 := by
        rcases hown.2 with ⟨_, h⟩ | ⟨g, cap, _, rfl, h1, _, h2, h3, _⟩
        · omega
        · exact ⟨g, cap, rfl, h1, h2, h3⟩
      rw [Pf.stk_app] at hst
      obtain ⟨xs', ys', rfl, hst1, hst2⟩ := Cs.vs_split hst
      obtain ⟨sv, _, rfl, his, rfl⟩ := Cs.vs_sl.1 hst2
      have hxl : xs'.length = L'.length := by rw [Cs.vs_len _ _ hst1, Pf.stk_len]
      have hcell : wr.cell? ⟨g, L'.length, none⟩ = some sv := by
        rw [hown.cellAt L'.length (by omega), ← hxl]
        simp
      have hcut := own_cut hown L'.length (by omega)
      rw [Nat.mul_one, ← hxl, List.take_left, hxl] at hcut
      have hnn := F.nodes_eq
      have HCUT := Lib.hid hcut
      have HST := Lib.hid hst1
      have HB := Lib.hid hb
      have HNUM := Lib.hid (And.intro hs (And.intro hk1 (And.intro hk2 hnn)))
      have hb1 : s ≤ 1048576 := by omega
      have hb2 : L'.length ≤ 1048577 := by omega
      have hb3 : F.len ≤ 1048576 := by omega
      have hb4 : s + F.len ≤ 1048576 := by omega
      rcases Pf.is_cases his with ⟨h0, q, c, rfl⟩ | ⟨hpos, b, o, c, ys, rfl, _, _, _, hbl, hvs, hr⟩
      · have hn0 : F.nodes = 0 := by cases F with | nil => rfl | cons => simp [Pf.len] at h0
        have HREL : Hid (CtPOut k0 w (L'.length + Pf.total L') (.int .i64 (1 + s)) (.slice (some ⟨g, 0, none⟩) L'.length cap) wr) := Lib.hid ⟨L', xs', s, rfl, by omega, Nat.le_refl _, by omega, HCUT.out, HST.out, HB.out⟩
        have HME : Hid (L'.length + Pf.total L' < gk) := Lib.hid (by omega)
        clear hst hst1 hst2 hown hcut hb hs hk1 hk2 hnn his hn0 hxl HCUT HST HB HNUM
        generalize L'.length = m at *
        go_wp2
        refine wp_loop_rounds 1 ?_
        rw [rounds_succ]
        go_wp2
        go_roundg (m + Pf.total L')
        case measure => exact HME.out
        case rel => exact HREL.out
      · have HI := Lib.hid (fun j (hj : j < F.len) => Pf.nth F hvs hr j hj)
        have HIN : Hid (CtPIn F L' w 0 (.slice (some ⟨g, 0, none⟩) L'.length cap) wr) := Lib.hid ⟨[], xs', by simp, by rw [F.drop_zero]; simp [Pf.total], by simpa using HCUT.out, by simpa using HST.out, HB.out⟩
        have HD := Lib.hid F.drop_all
        clear hst hst1 hst2 hown hcut hb hs hk1 hk2 hnn his hvs hr hxl HCUT HST HB
        generalize hLm : L'.length = m at *
        have HLM := Lib.hid hLm
        clear hLm
        go_wp2
        go_loopw [6, 35] (fun v i wq => ∃ (j : Nat), j ≤ F.len ∧ i = .int .i64 j ∧ CtPIn F L' w j v wq) (fun _ i _ => F.len - (intOf i).toNat)
        case atStart => exact ⟨0, Nat.zero_le _, rfl, HIN.out⟩
        case round =>
          clear HIN hcell
          obtain ⟨j, hj, rfl, M, xs, hM, hdeep, hown, hst, hb⟩ := hrel
          by_cases hjn : j < F.len
          · obtain ⟨vr, k, sv, hat, his, hrr⟩ := HI.out j hjn
            have hd1 := Pf.at_deep F j hat
            have hkl0 := k.len_le
            have HIS := Lib.hid his
            obtain ⟨_, ⟨_, q', cap', rfl, _⟩, _⟩ := his
            have hrr := rangeAt_below hb hrr
            have c0 : wr.cell? ⟨b, o + j * 2, none⟩ = some (.int .i64 vr) := hrr 0 _ rfl
            have c1 : wr.cell? ⟨b, o + j * 2 + 1, none⟩ = some (.slice q' k.len cap') := hrr 1 _ rfl
            have hki : (j : Int) < (F.len : Int) := by omega
            have hsz := hb.size
            have hml2 : (L' ++ M).length = m + M.length := by rw [List.length_append, HLM.out]
            rw [hml2] at hown
            obtain ⟨W, hW⟩ : ∃ W, W = wr.alloc (.cells #[.int .i64 vr, .slice q' k.len cap'] 33) := ⟨_, rfl⟩
            have hbW : Below wr.heap.size wr W := by rw [hW]; exact (Below.refl _ _).alloc (Nat.le_refl _) _
            have HBW := Lib.hid hbW
            have HW := Lib.hid hW
            have HO := Lib.hid hown
            have HB := Lib.hid hb
            have HST := Lib.hid hst
            have HNU := Lib.hid (And.intro hM (And.intro hdeep (And.intro hd1 hml2)))
            have hbnd : m + M.length ≤ 2097153 := by omega
            have hkb : k.len ≤ 1048576 := by obtain ⟨h1, h2, h3, h4⟩ := HNUM.out; omega
            clear hown hb hst hM hdeep hd1 hml2 hat hrr hW hbW
            generalize hq : m + M.length = nn at *
            have HQ := Lib.hid hq
            clear hq
            go_wp2_with fail
            rw [← HW.out]
            clear HW c0 c1
            refine (KO.out _ _ _ ⟨_, _, _, rfl⟩).mono ?_
            rintro e w2 ⟨rfl, hb2⟩
            have HB2 := Lib.hid (HBW.out.trans (hb2.mono HBW.out.size))
            have HO2 := Lib.hid (own_keep HO.out HB2.out)
            have HBB := Lib.hid (HB.out.trans (HB2.out.mono hsz))
            have hz2 := HBB.out.size
            clear hb2 HBW HB HO
            by_cases hk0 : 0 < k.len
            · go_wp2_with (at_builtin; refine wpList_append_one rfl (.tmp 45) (.tmp 47) 115 rfl w.heap.size 31 (.slice none 0 0) 1 24 Try.underlying115 infoPS rfl (by decide) _ nn xs rfl HO2.out [.slice q' k.len cap'] _ rfl (by simp) rfl ?c1 (by omega) (by omega) ?c2 ?_)
              case c1 => intro u hu; simp at hu; subst hu; rfl
              case c2 => exact hz2
              intro v' w3 hown3 hb3 _
              have HREL : Hid (CtPIn F L' w (j + 1) v' w3) := by
                obtain ⟨hM, hdeep, hd1, hml2⟩ := HNU.out
                have h2 := HIS.out
                refine Lib.hid ⟨M ++ [k], xs ++ [.slice q' k.len cap'], by simp; omega, by rw [Pf.total_app]; simp only [Pf.total]; omega, ?_, ?_, HBB.out.trans hb3⟩
                · have : (L' ++ (M ++ [k])).length = nn + 1 := by rw [← List.append_assoc, List.length_append, hml2]; rfl
                  rw [this]; exact hown3
                · rw [← List.append_assoc, Pf.stk_app]
                  exact Cs.vs_app HST.out (Cs.vs_sl.2 ⟨_, [], rfl, h2, rfl⟩)
              clear hown3 hb3
              go_wp2
              go_roundw
              case rel => exact ⟨j + 1, by omega, by go_num, HREL.out⟩
              case measure => simp [intOf]; omega
            · have hkn : k.nodes = 0 := by cases k with | nil => rfl | cons => simp [Pf.len] at hk0
              have HREL : Hid (CtPIn F L' w (j + 1) u6 w2) := by
                obtain ⟨hM, hdeep, hd1, hml2⟩ := HNU.out
                refine Lib.hid ⟨M, xs, by omega, by omega, ?_, HST.out, HBB.out⟩
                rw [hml2]; exact HO2.out
              clear hkn
              go_wp2
              go_roundw
              case rel => exact ⟨j + 1, by omega, by go_num, HREL.out⟩
              case measure => simp [intOf]; omega
          · have ej : j = F.len := by omega
            have hnj : ¬ ((j : Int) < (F.len : Int)) := by omega
            have HM := Lib.hid (And.intro hM hdeep)
            have HB := Lib.hid hb
            have HO := Lib.hid hown
            have HST := Lib.hid hst
            clear hown hb hst hM hdeep
            go_wp2
            go_roundg ((L' ++ M).length + Pf.total (L' ++ M))
            case measure =>
              obtain ⟨h1, h2⟩ := HM.out
              obtain ⟨h3, h4, h5, h6⟩ := HNUM.out
              have h7 := HLM.out
              rw [ej, HD.out] at h2
              simp only [Pf.deep, Nat.add_zero] at h2
              rw [Pf.total_app, List.length_append]
              omega
            case rel =>
              obtain ⟨h1, h2⟩ := HM.out
              obtain ⟨h3, h4, h5, h6⟩ := HNUM.out
              have h7 := HLM.out
              rw [ej, HD.out] at h2
              simp only [Pf.deep, Nat.add_zero] at h2
              refine ⟨L' ++ M, xs, s + F.len, by go_num, ?_, Nat.le_refl _, ?_, HO.out, HST.out, HB.out⟩
              · rw [Pf.total_app]; omega
              · rw [Pf.total_app, List.length_append]; omega
set_option maxRecDepth 100000 in
theorem i_sizeP (k0 : Pf) (vr0 : Int) (s0 : Value) (w : World) (hv : (k0.cs 33).Is w 0 2 k0.len s0) (hn : k0.nodes ≤ 1048576) :
    Calls Try.prog 29 #[.agg #[.int .i64 vr0, s0]] w fun e w' => e = .returned (.int .i64 (1 + k0.nodes)) ∧ Below w.heap.size w w' := by
  have CN := Lib.hid (fun W h => i_countP k0 vr0 s0 W h hn)
  have HV := Lib.hid hv
  obtain ⟨_, ⟨_, q0, cap0, rfl, _⟩, _⟩ := hv
  go_enter Try.func29, Try.ntmps29
  go_wp2_with fail
  refine (CN.out _ (HV.out.below ((Below.refl _ _).alloc (Nat.le_refl _) _))).mono ?_
  rintro e w1 ⟨rfl, hb1⟩
  go_wp2
  go_ret
  exact ⟨rfl, ((Below.refl _ _).alloc (Nat.le_refl _) _).trans (hb1.mono (by simp))⟩
end Go.Proofs.Ytpcfjjjijknmmac
