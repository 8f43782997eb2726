/- DRAFT: what the program's CompareTerms returns: its loop. -/
import Derived.Test.YtimjkgciakbolaaCmP
import Derived.Test.YtimjkgciakbolaaReg
import Derived.Test.YtimjkgciakbolaaApAny
import Derived.Deep.CutRange
namespace Go.Proofs.Ytimjkgciakbolaa
open Go.ChangeShapes Go.WideShapes Go.ChangeAt Go.RowKit
/-- the stack between two rounds -/
def CmOut (R : Int) (w : World) (kx : Nat) (v : Value) (wr : World) : Prop := ∃ (L : List (Fo × Fo)) (xs : List Value), R = cmpL L ∧ leftL L ≤ kx ∧ kx ≤ 2097153 ∧ wr.ownsRow w.heap.size 71 2 v L.length xs ∧ (Fo.stk 28 (lieL L)).Vs w 0 xs ∧ Below w.heap.size w wr
theorem len_leftL : ∀ L : List (Fo × Fo), L.length ≤ leftL L
  | [] => Nat.le_refl _
  | (F, G) :: L => by have := len_leftL L; simp only [leftL, List.length_cons]; omega
theorem cell5_same {w w' : World} {b : Nat} {c0 c1 c2 c3 c4 : Value} (h : Cell5 w b c0 c1 c2 c3 c4) (e : w'.heap[b]? = w.heap[b]?) : Cell5 w' b c0 c1 c2 c3 c4 := by
  have hc : ∀ o, w'.cell? ⟨b, o, none⟩ = w.cell? ⟨b, o, none⟩ := fun o => by simp only [World.cell?, e]
  obtain ⟨h0, h1, h2, h3, h4⟩ := h
  exact ⟨(hc 0).trans h0, (hc 1).trans h1, (hc 2).trans h2, (hc 3).trans h3, (hc 4).trans h4⟩
theorem zero_pair : (Try.prog.info? 71).map (fun i => (i.zero, i.size, i.bytes)) = some (some (.agg #[.slice none 0 0, .slice none 0 0]), 2, 48) := by kernel_rfl
/-- what is left of a slice of terms behind its first -/
theorem is_tail {T : TypeId} {w : World} {b o cap : Nat} {F : Fo} (h : (F.cs T).Is w 0 5 F.len (.slice (some ⟨b, o, none⟩) F.len cap)) (hn : 0 < F.len) (p : Option Addr) (hp : (F.len = 1 ∧ p = some ⟨b, o, none⟩) ∨ p = some ⟨b, o + 5, none⟩) :
    ((F.drop 1).cs T).Is w 0 5 (F.drop 1).len (.slice p (F.len - 1) (cap - 1)) := by
  cases F with
  | nil => simp [Fo.len] at hn
  | cons op wd n nm k r =>
    obtain ⟨ys, ⟨h1, q', c', e, h2, h3, h4, h5⟩, h6⟩ := h
    injection e with e1 e2 e3
    subst e1 e3
    obtain ⟨hb, hsp, hr⟩ := h5 _ rfl
    obtain ⟨y1, rfl, g1⟩ := h6
    obtain ⟨y2, rfl, g2⟩ := g1
    obtain ⟨y3, rfl, g3⟩ := g2
    obtain ⟨y4, rfl, g4⟩ := g3
    obtain ⟨s, y5, rfl, _, g5⟩ := Cs.vs_sl.1 g4
    have hd : Fo.drop (.cons op wd n nm k r) 1 = r := Fo.drop_zero r
    have hlen : y5.length = r.len * 5 := by simp only [List.length_cons, Fo.len] at h1; omega
    rw [hd]
    refine ⟨y5, ⟨hlen, p, cap - 1, by simp [Fo.len], by simp only [Fo.len] at h2; omega, by omega, ?_, ?_⟩, g5⟩
    · rintro rfl
      rcases hp with ⟨_, hp⟩ | hp <;> cases hp
    · rintro a rfl
      rcases hp with ⟨h7, hp⟩ | hp
      · injection hp with hp
        subst hp
        have : y5 = [] := List.length_eq_zero_iff.1 (by simp only [Fo.len] at h7; omega)
        subst this
        exact ⟨Nat.zero_le _, fun h => absurd rfl h, fun i u hu => by simp at hu⟩
      · injection hp with hp
        subst hp
        exact ⟨Nat.zero_le _, fun _ => rfl, fun i u hu => by
          have := hr (i + 5) u (by simpa using hu)
          rwa [show o + (i + 5) = o + 5 + i by omega] at this⟩
set_option maxRecDepth 100000 in
set_option maxHeartbeats 4000000 in
theorem i_cmp (F G : Fo) (op wd n op' wd' n' : Int) (nm nm' : ByteArray) (s s' : Value) (w : World) (his : (F.cs 28).Is w 0 5 F.len s) (his' : (G.cs 28).Is w 0 5 G.len s') (hc : F.cost ≤ 1048576) (hc' : G.cost ≤ 1048576) :
    Calls Try.prog 16 #[.agg #[.int .i64 op, .int .i64 wd, .int .i64 n, .string nm, s], .agg #[.int .i64 op', .int .i64 wd', .int .i64 n', .string nm', s']] w fun e w' => e = .returned (.int .i64 (cmpOne op wd n nm F op' wd' n' nm' G)) ∧ Below w.heap.size w w' := by
  have hml : maxLen = 9223372036854775807 := rfl
  have hnn := F.nodes_le
  obtain ⟨i0, hi0, hz0, hzs, hzb⟩ := info_parts zero_pair
  have HIS := Lib.hid his
  have HIS2 := Lib.hid his'
  obtain ⟨_, ⟨_, q, cap, rfl, _⟩, _⟩ := his
  obtain ⟨_, ⟨_, q', cap', rfl, _⟩, _⟩ := his'
  obtain ⟨R, hR⟩ : ∃ R, cmpOne op wd n nm F op' wd' n' nm' G = R := ⟨_, rfl⟩
  have HR := Lib.hid hR
  rw [hR]
  clear hR
  have KN := Lib.hid (fun op wd n op' wd' n' nm nm' s s' W hs hs' => i_nodes op wd n op' wd' n' nm nm' s s' W hs hs')
  go_enter Try.func16, Try.ntmps16
  have X1 := Lib.hid ((cell5_alloc w 28 (.int .i64 op) (.int .i64 wd) (.int .i64 n) (.string nm) (.slice q F.len cap)).below ((Below.refl _ _).alloc (Nat.le_refl _) (.cells #[.int .i64 op', .int .i64 wd', .int .i64 n', .string nm', .slice q' G.len cap'] 28)))
  have X2 := Lib.hid (cell5_alloc (w.alloc (.cells #[.int .i64 op, .int .i64 wd, .int .i64 n, .string nm, .slice q F.len cap] 28)) 28 (.int .i64 op') (.int .i64 wd') (.int .i64 n') (.string nm') (.slice q' G.len cap'))
  have B1 := Lib.hid (((Below.refl w.heap.size w).alloc (Nat.le_refl _) (.cells #[.int .i64 op, .int .i64 wd, .int .i64 n, .string nm, .slice q F.len cap] 28)).alloc (by simp) (.cells #[.int .i64 op', .int .i64 wd', .int .i64 n', .string nm', .slice q' G.len cap'] 28))
  obtain ⟨w1, hw1⟩ : ∃ w1, w1 = (w.alloc (.cells #[.int .i64 op, .int .i64 wd, .int .i64 n, .string nm, .slice q F.len cap] 28)).alloc (.cells #[.int .i64 op', .int .i64 wd', .int .i64 n', .string nm', .slice q' G.len cap'] 28) := ⟨_, rfl⟩
  have hs1 : w1.heap.size = w.heap.size + 2 := by rw [hw1]; simp
  have hsz0 : (w.alloc (.cells #[.int .i64 op, .int .i64 wd, .int .i64 n, .string nm, .slice q F.len cap] 28)).heap.size = w.heap.size + 1 := by simp
  rw [hsz0] at X2
  rw [← hw1] at X1 X2 B1
  clear hsz0
  go_wp2_with fail
  rw [← hw1]
  clear hw1
  refine (KN.out _ _ _ _ _ _ _ _ _ _ _ ⟨_, _, _, rfl⟩ ⟨_, _, _, rfl⟩).mono ?_
  rintro e w2 ⟨rfl, hb⟩
  have HB2 := Lib.hid (B1.out.trans (hb.mono B1.out.size))
  have HX1 := Lib.hid (X1.out.below hb)
  have HX2 := Lib.hid (X2.out.below hb)
  clear hb X1 X2
  by_cases hN : cmpN op wd n nm op' wd' n' nm' ≠ 0
  · have HV := Lib.hid (show R = cmpN op wd n nm op' wd' n' nm' from HR.out.symm.trans (cmpOne_n rfl hN))
    have eN : (cmpN op wd n nm op' wd' n' nm' == 0) = false := by simpa using hN
    clear HR HIS HIS2 HX1 HX2
    generalize cmpN op wd n nm op' wd' n' nm' = C at *
    go_wp2
    go_ret
    exact ⟨by rw [HV.out]; rfl, HB2.out⟩
  have HV := Lib.hid (show R = cmpL [(F, G)] by rw [cmpL_one, ← HR.out]; unfold cmpOne; rw [if_neg hN])
  have hN : cmpN op wd n nm op' wd' n' nm' = 0 := by simpa using hN
  rw [hN]
  clear HR hN
  have hzF : F.nodes ≤ 1048576 := by omega
  obtain ⟨y0, y1, y2, y3, y4⟩ := HX1.out
  obtain ⟨z0, z1, z2, z3, z4⟩ := HX2.out
  go_wp2
  clear y0 y1 y2 y3 y4 z0 z1 z2 z3 z4
  have H1 : Hid (CmOut R w (leftL [(F, G)]) (.slice (some ⟨w2.heap.size, 0, none⟩) 1 1) (w2.alloc (.cells #[.slice q F.len cap, .slice q' G.len cap'] 71))) := Lib.hid (by
    have h := World.ownsRow_lit (base := w.heap.size) (e := 71) (size := 2) w2 #[.slice q F.len cap, .slice q' G.len cap'] 1 HB2.out.size (by decide) rfl
    refine ⟨[(F, G)], _, HV.out, Nat.le_refl _, by simp only [leftL]; omega, h, ?_, HB2.out.alloc HB2.out.size _⟩
    obtain ⟨ys, h1, h2⟩ := HIS.out
    obtain ⟨ys', h1', h2'⟩ := HIS2.out
    exact ⟨_, _, ys, rfl, h1, h2, ⟨_, [], ys', rfl, h1', h2', rfl⟩⟩)
  have hlL : leftL [(F, G)] ≤ 2097153 := by simp only [leftL]; omega
  generalize leftL [(F, G)] = K0 at *
  clear HV HIS HIS2 HX1 HX2 HB2
  go_loopg [6] K0 (fun kx v wr => CmOut R w kx v wr)
  case atStart => exact H1.out
  case round =>
    clear H1
    obtain ⟨L, xs, hR, hk, hkx, hown, hst, hb⟩ := hrel
    have hl := Nat.le_trans (len_leftL L) (Nat.le_trans hk hkx)
    rcases L with _ | ⟨⟨A, B⟩, L⟩
    · have HV := Lib.hid (show R = 0 from hR)
      have HB := Lib.hid hb
      obtain ⟨q, cap, rfl⟩ : ∃ q cap, u6 = .slice q 0 cap := by
        rcases hown.2 with ⟨rfl, _⟩ | ⟨g, cap, _, rfl, _⟩
        · exact ⟨none, 0, rfl⟩
        · exact ⟨_, cap, rfl⟩
      clear hR hk hl hown hst hb
      go_wp2
      go_ret
      exact ⟨by rw [HV.out]; rfl, HB.out⟩
    · simp only [List.length_cons] at hown hl
      obtain ⟨g, cap, rfl, hgb, hcap, hcm⟩ : ∃ g cap, u6 = .slice (some ⟨g, 0, none⟩) (L.length + 1) cap ∧ w.heap.size ≤ g ∧ L.length + 1 ≤ cap ∧ cap ≤ 9223372036854775807 := by
        rcases hown.2 with ⟨_, h⟩ | ⟨g, cap, _, rfl, h1, _, h2, h3, _⟩
        · omega
        · exact ⟨g, cap, rfl, h1, h2, h3⟩
      simp only [lieL] at hst
      rw [Fo.stk_app] at hst
      obtain ⟨xs', ys', rfl, hst1, hst2⟩ := Cs.vs_split hst
      obtain ⟨sa, _, rfl, hisa, hst3⟩ := Cs.vs_sl.1 hst2
      obtain ⟨sb, _, rfl, hisb, rfl⟩ := Cs.vs_sl.1 hst3
      have hxl : xs'.length = L.length * 2 := by rw [Cs.vs_len _ _ hst1, Fo.stk_len, lieL_len]; omega
      have cA : wr.cell? ⟨g, L.length * 2, none⟩ = some sa := by
        rw [hown.cellAt (L.length * 2) (by omega), ← hxl]
        simp
      have cB : wr.cell? ⟨g, L.length * 2 + 1, none⟩ = some sb := by
        rw [hown.cellAt (L.length * 2 + 1) (by omega), ← hxl]
        simp
      have hcut := own_cut hown L.length (by omega)
      rw [← hxl, List.take_left] at hcut
      have HCUT := Lib.hid hcut
      have HOWN := Lib.hid hown
      have HST := Lib.hid hst1
      have HB := Lib.hid hb
      have HISA := Lib.hid hisa
      have HISB := Lib.hid hisb
      obtain ⟨_, ⟨_, qa, ca, rfl, _⟩, _⟩ := hisa
      obtain ⟨_, ⟨_, qb, cb, rfl, _⟩, _⟩ := hisb
      have HRL := Lib.hid hR
      have HKX := Lib.hid hk
      have hL1 : L.length + 1 ≤ 2097153 := by omega
      clear hst hst1 hst2 hst3 hown hcut hb hR hk hxl
      generalize hLm : L.length = m at *
      have HLM := Lib.hid hLm
      clear hLm
      have HE0 := Lib.hid (fun hA => cmp_end (F := A) (G := B) hA)
      have HKA := Lib.hid (fun (h : 0 < A.len) => kid_at HISA.out 0 h)
      have HKB := Lib.hid (fun (h : 0 < B.len) => kid_at HISB.out 0 h)
      generalize hla : A.len = la at *
      generalize hlb : B.len = lb at *
      have HLA := Lib.hid hla
      have HLB := Lib.hid hlb
      clear hla hlb
      by_cases hA0 : la = 0
      · subst hA0
        obtain ⟨C, hC0⟩ : ∃ C, sgn 0 (lb : Int) = C := ⟨_, rfl⟩
        have HE := Lib.hid (show A.cmp B = C from (HE0.out (.inl rfl)).trans hC0)
        have KS := Lib.hid (fun W => i_sign 0 lb W)
        rw [hC0] at KS
        clear hC0 HE0
        by_cases hC : C ≠ 0
        · have eC : (C == 0) = false := by simpa using hC
          have eC2 : (C != 0) = true := by simpa using hC
          have HV := Lib.hid (show R = C by rw [HRL.out, cmpL_out (by rw [HE.out]; exact hC), HE.out])
          clear HRL HKX HST HCUT HOWN HISA HISB HLM HE HLA HLB HKA HKB
          go_wp2
          go_still_tail 10, (by kernel_rfl)
          go_wp2_with (go_at_call 48; refine (KS.out _).mono ?_; rintro e w9 ⟨rfl, rfl⟩)
          go_ret
          exact ⟨by rw [HV.out]; rfl, HB.out.drew⟩
        · obtain rfl : C = 0 := by simpa using hC
          have HREL : Hid (CmOut R w (leftL L) (.slice (some ⟨g, 0, none⟩) m cap) wr.drew) := Lib.hid ⟨L, xs', HRL.out.trans (cmpL_pop HE.out), Nat.le_refl _, by have h1 := HKX.out; simp only [leftL] at h1; omega, by rw [HLM.out]; exact HCUT.out, HST.out, HB.out.drew⟩
          have HME : Hid (leftL L < gk) := Lib.hid (by have := HKX.out; simp only [leftL] at this; omega)
          clear hC HRL HKX HST HCUT HOWN HISA HISB HLM HE HLA HLB HB
          generalize leftL L = kn at *
          go_wp2
          go_still_tail 10, (by kernel_rfl)
          go_wp2_with (go_at_call 48; refine (KS.out _).mono ?_; rintro e w9 ⟨rfl, rfl⟩)
          go_roundg kn
          case measure => exact HME.out
          case rel => exact HREL.out
      · by_cases hB0 : lb = 0
        · subst hB0
          have ea : ((la : Int) == 0) = false := by simp; omega
          obtain ⟨C, hC0⟩ : ∃ C, sgn (la : Int) 0 = C := ⟨_, rfl⟩
          have HE := Lib.hid (show A.cmp B = C from (HE0.out (.inr rfl)).trans hC0)
          have KS := Lib.hid (fun W => i_sign la 0 W)
          rw [hC0] at KS
          clear hC0 HE0
          by_cases hC : C ≠ 0
          · have eC : (C == 0) = false := by simpa using hC
            have eC2 : (C != 0) = true := by simpa using hC
            have HV := Lib.hid (show R = C by rw [HRL.out, cmpL_out (by rw [HE.out]; exact hC), HE.out])
            clear HRL HKX HST HCUT HOWN HISA HISB HLM HE HLA HLB HKA HKB
            go_wp2
            go_still_tail 10, (by kernel_rfl)
            go_wp2_with (go_at_call 48; refine (KS.out _).mono ?_; rintro e w9 ⟨rfl, rfl⟩)
            go_ret
            exact ⟨by rw [HV.out]; rfl, HB.out.drew⟩
          · obtain rfl : C = 0 := by simpa using hC
            have HREL : Hid (CmOut R w (leftL L) (.slice (some ⟨g, 0, none⟩) m cap) wr.drew) := Lib.hid ⟨L, xs', HRL.out.trans (cmpL_pop HE.out), Nat.le_refl _, by have h1 := HKX.out; simp only [leftL] at h1; omega, by rw [HLM.out]; exact HCUT.out, HST.out, HB.out.drew⟩
            have HME : Hid (leftL L < gk) := Lib.hid (by have := HKX.out; simp only [leftL] at this; omega)
            clear hC HRL HKX HST HCUT HOWN HISA HISB HLM HE HLA HLB HB
            generalize leftL L = kn at *
            go_wp2
            go_still_tail 10, (by kernel_rfl)
            go_wp2_with (go_at_call 48; refine (KS.out _).mono ?_; rintro e w9 ⟨rfl, rfl⟩)
            go_roundg kn
            case measure => exact HME.out
            case rel => exact HREL.out
        · have ea : ((la : Int) == 0) = false := by simp; omega
          have eb : ((lb : Int) == 0) = false := by simp; omega
          clear HE0
          obtain ⟨ba, oa, rfl, op1, wd1, n1, nm1, k1, u1, hat1, his1, hr1⟩ := HKA.out (by omega)
          obtain ⟨bb, ob, rfl, op2, wd2, n2, nm2, k2, u2, hat2, his2, hr2⟩ := HKB.out (by omega)
          simp only [Nat.zero_mul, Nat.add_zero] at hr1 hr2
          have HRA := Lib.hid (rangeAt_below HB.out hr1)
          have HRB := Lib.hid (rangeAt_below HB.out hr2)
          have HAT1 := Lib.hid hat1
          have HAT2 := Lib.hid hat2
          have HI1 := Lib.hid his1
          have HI2 := Lib.hid his2
          obtain ⟨_, ⟨_, q1, c1, rfl, _⟩, _⟩ := his1
          obtain ⟨_, ⟨_, q2, c2, rfl, _⟩, _⟩ := his2
          clear hat1 hat2 hr1 hr2 HKA HKB
          have hla0 : 0 < la := by omega
          have hlb0 : 0 < lb := by omega
          go_wp2
          have HCW := Lib.hid ((Below.refl wr.heap.size wr).drew)
          refine region_c (fun W => Below wr.heap.size wr W) (by kernel_rfl) ?_
          refine take_c (i := 0) (v := .pointer (some ⟨g, m * 2, none⟩)) rfl (by kernel_rfl) (by kernel_rfl) (by kernel_rfl) (fun _ _ _ h => h) HCW.out rfl (fun W hW => ?_) ?_
          · go_simp
            all_goals (first | omega | (simp; omega))
          refine take_c (i := 1) (v := .pointer (some ⟨g, m * 2, none⟩)) rfl (by kernel_rfl) (by kernel_rfl) (by kernel_rfl) (fun _ _ _ h => h) HCW.out rfl (fun W hW => ?_) ?_
          · go_simp
            all_goals (first | omega | (simp; omega))
          refine take_c (i := 2) (v := .pointer (some ⟨g, m * 2, none⟩)) rfl (by kernel_rfl) (by kernel_rfl) (by kernel_rfl) (fun _ _ _ h => h) HCW.out rfl (fun W hW => ?_) ?_
          · go_simp
            all_goals (first | omega | (simp; omega))
          refine take_c (i := 3) (v := .slice (some ⟨ba, oa, none⟩) la ca) rfl (by kernel_rfl) (by kernel_rfl) (by kernel_rfl) (fun _ _ _ h => h) HCW.out rfl (fun W hW => ?_) ?_
          · have t0 := (hW.cell (p := ⟨g, m * 2, none⟩) (World.block_lt_of_cell? _ _ cA)).trans cA
            go_simp
            all_goals (first | omega | (simp; omega))
          refine take_c (i := 4) (v := .pointer (some ⟨ba, oa, none⟩)) rfl (by kernel_rfl) (by kernel_rfl) (by kernel_rfl) (fun _ _ _ h => h) HCW.out rfl (fun W hW => ?_) ?_
          · go_simp
            all_goals (first | omega | (simp; omega))
          refine take_c (i := 5) (v := .agg #[.int .i64 op1, .int .i64 wd1, .int .i64 n1, .string nm1, .slice q1 k1.len c1]) rfl (by kernel_rfl) (by kernel_rfl) (by kernel_rfl) (fun _ _ _ h => h) HCW.out rfl (fun W hW => ?_) ?_
          · have hh := rangeAt_below hW HRA.out
            have d0 := hh 0 _ rfl
            have d1 := hh 1 _ rfl
            have d2 := hh 2 _ rfl
            have d3 := hh 3 _ rfl
            have d4 := hh 4 _ rfl
            simp only [Nat.add_zero] at d0
            go_simp
            all_goals (first | omega | (simp; omega))
          refine take_c (i := 6) (v := .pointer (some ⟨g, m * 2, none⟩)) rfl (by kernel_rfl) (by kernel_rfl) (by kernel_rfl) (fun _ _ _ h => h) HCW.out rfl (fun W hW => ?_) ?_
          · go_simp
            all_goals (first | omega | (simp; omega))
          refine take_c (i := 7) (v := .pointer (some ⟨g, m * 2, none⟩)) rfl (by kernel_rfl) (by kernel_rfl) (by kernel_rfl) (fun _ _ _ h => h) HCW.out rfl (fun W hW => ?_) ?_
          · go_simp
            all_goals (first | omega | (simp; omega))
          refine take_c (i := 8) (v := .pointer (some ⟨g, m * 2 + 1, none⟩)) rfl (by kernel_rfl) (by kernel_rfl) (by kernel_rfl) (fun _ _ _ h => h) HCW.out rfl (fun W hW => ?_) ?_
          · go_simp
            all_goals (first | omega | (simp; omega))
          refine take_c (i := 9) (v := .slice (some ⟨bb, ob, none⟩) lb cb) rfl (by kernel_rfl) (by kernel_rfl) (by kernel_rfl) (fun _ _ _ h => h) HCW.out rfl (fun W hW => ?_) ?_
          · have t0 := (hW.cell (p := ⟨g, m * 2 + 1, none⟩) (World.block_lt_of_cell? _ _ cB)).trans cB
            go_simp
            all_goals (first | omega | (simp; omega))
          refine take_c (i := 10) (v := .pointer (some ⟨bb, ob, none⟩)) rfl (by kernel_rfl) (by kernel_rfl) (by kernel_rfl) (fun _ _ _ h => h) HCW.out rfl (fun W hW => ?_) ?_
          · go_simp
            all_goals (first | omega | (simp; omega))
          refine take_c (i := 11) (v := .agg #[.int .i64 op2, .int .i64 wd2, .int .i64 n2, .string nm2, .slice q2 k2.len c2]) rfl (by kernel_rfl) (by kernel_rfl) (by kernel_rfl) (fun _ _ _ h => h) HCW.out rfl (fun W hW => ?_) ?_
          · have hh := rangeAt_below hW HRB.out
            have d0 := hh 0 _ rfl
            have d1 := hh 1 _ rfl
            have d2 := hh 2 _ rfl
            have d3 := hh 3 _ rfl
            have d4 := hh 4 _ rfl
            simp only [Nat.add_zero] at d0
            go_simp
            all_goals (first | omega | (simp; omega))
          refine two_c (i := 12) (k := 13) (by kernel_rfl) (op_list rfl ?_) (op_list rfl ?_)
          · go_wp2
            refine ⟨by go_grown, ?_⟩
            refine one_c (i := 13) (by kernel_rfl) (op_list rfl ?_)
            go_wp2
            refine ⟨by go_grown, ?_⟩
            refine one_c (i := 14) (by kernel_rfl) (op_list rfl ?_)
            go_wp2
            refine ⟨by go_grown, ?_⟩
            refine one_c (i := 15) (by kernel_rfl) (op_list rfl ?_)
            go_wp2
            refine ⟨by go_grown, ?_⟩
            refine done_c (by kernel_rfl) ?_ _
            go_wp2
            obtain ⟨W, hW⟩ : ∃ W, W = ((wr.alloc (.cells #[.int .i64 op1, .int .i64 wd1, .int .i64 n1, .string nm1, .slice q1 k1.len c1] 28)).alloc (.cells #[.int .i64 op2, .int .i64 wd2, .int .i64 n2, .string nm2, .slice q2 k2.len c2] 28)).drew := ⟨_, rfl⟩
            have HBW : Hid (Below wr.heap.size wr W) := Lib.hid (by rw [hW]; exact (((Below.refl _ _).alloc (Nat.le_refl _) _).alloc (by simp) _).drew)
            have XA : Hid (Cell5 W wr.heap.size (.int .i64 op1) (.int .i64 wd1) (.int .i64 n1) (.string nm1) (.slice q1 k1.len c1)) := Lib.hid (by rw [hW]; exact (cell5_alloc wr 28 _ _ _ _ _).below ((Below.refl _ _).alloc (Nat.le_refl _) _).drew)
            have XB : Hid (Cell5 W (wr.heap.size + 1) (.int .i64 op2) (.int .i64 wd2) (.int .i64 n2) (.string nm2) (.slice q2 k2.len c2)) := Lib.hid (by
              have h := cell5_alloc (wr.alloc (.cells #[.int .i64 op1, .int .i64 wd1, .int .i64 n1, .string nm1, .slice q1 k1.len c1] 28)) 28 (.int .i64 op2) (.int .i64 wd2) (.int .i64 n2) (.string nm2) (.slice q2 k2.len c2)
              rw [show (wr.alloc (.cells #[.int .i64 op1, .int .i64 wd1, .int .i64 n1, .string nm1, .slice q1 k1.len c1] 28)).heap.size = wr.heap.size + 1 by simp] at h
              rw [hW]
              exact h)
            have hWs : W.heap.size = wr.heap.size + 2 := by rw [hW]; show ((wr.alloc _).alloc _).heap.size = _; simp
            have HOW := Lib.hid (own_keep HOWN.out HBW.out)
            have hgS : g < wr.heap.size := World.block_lt_of_cell? _ _ cA
            have cA2 : W.cell? ⟨g, m * 2, none⟩ = some (.slice (some ⟨ba, oa, none⟩) la ca) := (HBW.out.cell (p := ⟨g, m * 2, none⟩) hgS).trans cA
            have cB2 : W.cell? ⟨g, m * 2 + 1, none⟩ = some (.slice (some ⟨bb, ob, none⟩) lb cb) := (HBW.out.cell (p := ⟨g, m * 2 + 1, none⟩) hgS).trans cB
            have HBS := Lib.hid (HB.out.trans (HBW.out.mono HB.out.size))
            have hwS := HB.out.size
            rw [← hW]
            clear hW HCW HRA HRB cA cB HB
            generalize wr.heap.size = S0 at *
            have HC := Lib.hid (show W.drew.cell? ⟨g, m * 2, none⟩ = some (.slice (some ⟨ba, oa, none⟩) la ca) ∧ W.drew.cell? ⟨g, m * 2 + 1, none⟩ = some (.slice (some ⟨bb, ob, none⟩) lb cb) from ⟨cA2, cB2⟩)
            have hfz : W.frozen? ⟨g, m * 2, none⟩ = false ∧ W.frozen? ⟨g, m * 2 + 1, none⟩ = false := ⟨HOW.out.frozenAt _, HOW.out.frozenAt _⟩
            have hca : la ≤ ca ∧ ca ≤ 9223372036854775807 ∧ lb ≤ cb ∧ cb ≤ 9223372036854775807 := by
              obtain ⟨_, ⟨_, _, _, ea, h1, h2, _⟩, _⟩ := HISA.out
              obtain ⟨_, ⟨_, _, _, eb, h3, h4, _⟩, _⟩ := HISB.out
              cases ea
              cases eb
              have := HLA.out
              have := HLB.out
              exact ⟨by omega, h2, by omega, h4⟩
            obtain ⟨pA, hpA⟩ : ∃ p, p = (if ca = 1 then (some ⟨ba, oa, none⟩ : Option Addr) else some ⟨ba, oa + 5, none⟩) := ⟨_, rfl⟩
            obtain ⟨pB, hpB⟩ : ∃ p, p = (if cb = 1 then (some ⟨bb, ob, none⟩ : Option Addr) else some ⟨bb, ob + 5, none⟩) := ⟨_, rfl⟩
            have HPA := Lib.hid hpA
            have HPB := Lib.hid hpB
            clear hpA hpB
            refine region_s [14, 17] (fun V => V.cell? ⟨g, m * 2, none⟩ = some (.slice (some ⟨ba, oa, none⟩) la ca) ∧ V.cell? ⟨g, m * 2 + 1, none⟩ = some (.slice (some ⟨bb, ob, none⟩) lb cb)) (by kernel_rfl) ?_
            refine take_p (i := 0) (v := .pointer (some ⟨g, m * 2, none⟩)) rfl (by kernel_rfl) (fun _ _ _ h => h) HC.out rfl (fun V => ?_) ?_
            · go_simp
              all_goals (first | omega | (simp; omega))
            refine take_p (i := 1) (v := .pointer (some ⟨g, m * 2, none⟩)) rfl (by kernel_rfl) (fun _ _ _ h => h) HC.out rfl (fun V => ?_) ?_
            · go_simp
              all_goals (first | omega | (simp; omega))
            refine take_p (i := 2) (v := .pointer (some ⟨g, m * 2, none⟩)) rfl (by kernel_rfl) (fun _ _ _ h => h) HC.out rfl (fun V => ?_) ?_
            · go_simp
              all_goals (first | omega | (simp; omega))
            refine take_p (i := 3) (v := .pointer (some ⟨g, m * 2, none⟩)) rfl (by kernel_rfl) (fun _ _ _ h => h) HC.out rfl (fun V => ?_) ?_
            · go_simp
              all_goals (first | omega | (simp; omega))
            refine take_p (i := 4) (v := .pointer (some ⟨g, m * 2, none⟩)) rfl (by kernel_rfl) (fun _ _ _ h => h) HC.out rfl (fun V => ?_) ?_
            · go_simp
              all_goals (first | omega | (simp; omega))
            refine take_s (i := 5) (v := .slice (some ⟨ba, oa, none⟩) la ca) rfl (by kernel_rfl) (fun _ _ _ h => h) HC.out rfl (fun V hV => ?_) ?_
            · obtain ⟨t1, t2⟩ := hV
              go_simp
              all_goals (first | omega | (simp; omega))
            refine take_p (i := 6) (v := .slice pA (la - 1) (ca - 1)) rfl (by kernel_rfl) (fun _ _ _ h => h) HC.out rfl (fun V => ?_) ?_
            · rw [HPA.out]
              go_simp
              all_goals (first | omega | (simp; omega))
            refine take_p (i := 7) (v := .pointer (some ⟨g, m * 2, none⟩)) rfl (by kernel_rfl) (fun _ _ _ h => h) HC.out rfl (fun V => ?_) ?_
            · go_simp
              all_goals (first | omega | (simp; omega))
            refine take_p (i := 8) (v := .pointer (some ⟨g, m * 2, none⟩)) rfl (by kernel_rfl) (fun _ _ _ h => h) HC.out rfl (fun V => ?_) ?_
            · go_simp
              all_goals (first | omega | (simp; omega))
            refine take_p (i := 9) (v := .pointer (some ⟨g, m * 2 + 1, none⟩)) rfl (by kernel_rfl) (fun _ _ _ h => h) HC.out rfl (fun V => ?_) ?_
            · go_simp
              all_goals (first | omega | (simp; omega))
            refine take_s (i := 10) (v := .slice (some ⟨bb, ob, none⟩) lb cb) rfl (by kernel_rfl) (fun _ _ _ h => h) HC.out rfl (fun V hV => ?_) ?_
            · obtain ⟨t1, t2⟩ := hV
              go_simp
              all_goals (first | omega | (simp; omega))
            refine take_p (i := 11) (v := .slice pB (lb - 1) (cb - 1)) rfl (by kernel_rfl) (fun _ _ _ h => h) HC.out rfl (fun V => ?_) ?_
            · rw [HPB.out]
              go_simp
              all_goals (first | omega | (simp; omega))
            refine take_p (i := 12) (v := .pointer (some ⟨g, m * 2, none⟩)) rfl (by kernel_rfl) (fun _ _ _ h => h) HC.out rfl (fun V => ?_) ?_
            · go_simp
              all_goals (first | omega | (simp; omega))
            refine take_p (i := 13) (v := .pointer (some ⟨g, m * 2, none⟩)) rfl (by kernel_rfl) (fun _ _ _ h => h) HC.out rfl (fun V => ?_) ?_
            · go_simp
              all_goals (first | omega | (simp; omega))
            refine one_s (i := 14) (by kernel_rfl) (op_list rfl ?_)
            go_wp2
            refine ⟨late_s (by kernel_rfl), ?_⟩
            refine one_s (i := 15) (by kernel_rfl) (op_list rfl ?_)
            go_wp2
            refine ⟨late_s (by kernel_rfl), ?_⟩
            refine one_s (i := 16) (by kernel_rfl) (op_list rfl ?_)
            go_wp2
            refine ⟨late_s (by kernel_rfl), ?_⟩
            refine one_s (i := 17) (by kernel_rfl) (op_list rfl ?_)
            go_wp2
            refine ⟨late_s (by kernel_rfl), done_s (by kernel_rfl) ?_ _⟩
            obtain ⟨W5, hW5⟩ : ∃ W5, W5 = ((W.setCell ⟨g, m * 2, none⟩ (.slice pA (la - 1) (ca - 1))).setCell ⟨g, m * 2 + 1, none⟩ (.slice pB (lb - 1) (cb - 1))).drew := ⟨_, rfl⟩
            have HB5 : Hid (Below w.heap.size w W5) := Lib.hid (by rw [hW5]; exact ((HBS.out.setCell hgb _).setCell hgb _).drew)
            have hoth : ∀ k, k ≠ g → W5.heap[k]? = W.heap[k]? := fun k hk => by rw [hW5]; exact (heap_setCell_other _ _ _ _ hk).trans (heap_setCell_other _ _ _ _ hk)
            have hs5 : W5.heap.size = W.heap.size := by rw [hW5]; show ((W.setCell _ _).setCell _ _).heap.size = _; simp [World.setCell]
            have hxl : xs'.length = m * 2 := HCUT.out.1
            have HO5 : Hid (W5.ownsRow w.heap.size 71 2 (.slice (some ⟨g, 0, none⟩) (m + 1) cap) (m + 1) (xs' ++ [.slice pA (la - 1) (ca - 1), .slice pB (lb - 1) (cb - 1)])) := Lib.hid (by
              have h := own_put [.slice pA (la - 1) (ca - 1), .slice pB (lb - 1) (cb - 1)] (m * 2) W _ HOW.out
              rw [← hxl, putAt_mid _ _ _ (by simp)] at h
              simp only [List.length_cons, List.length_nil, List.drop_succ_cons, List.drop_zero, List.append_nil] at h
              rw [hxl] at h
              rw [hW5]
              exact h)
            have HY9 := Lib.hid (cell5_same XA.out (hoth S0 (by omega)))
            have HY10 := Lib.hid (cell5_same XB.out (hoth (S0 + 1) (by omega)))
            have HTA : Hid (((A.drop 1).cs 28).Is w 0 5 (A.drop 1).len (.slice pA (la - 1) (ca - 1))) := Lib.hid (by
              have h := HISA.out
              have hl := HLA.out
              rw [← hl] at h ⊢
              exact is_tail h (by omega) pA (by
                have hp := HPA.out
                by_cases e : ca = 1
                · rw [if_pos e] at hp
                  exact .inl ⟨by omega, hp⟩
                · rw [if_neg e] at hp
                  exact .inr hp))
            have HTB : Hid (((B.drop 1).cs 28).Is w 0 5 (B.drop 1).len (.slice pB (lb - 1) (cb - 1))) := Lib.hid (by
              have h := HISB.out
              have hl := HLB.out
              rw [← hl] at h ⊢
              exact is_tail h (by omega) pB (by
                have hp := HPB.out
                by_cases e : cb = 1
                · rw [if_pos e] at hp
                  exact .inl ⟨by omega, hp⟩
                · rw [if_neg e] at hp
                  exact .inr hp))
            have HSTEP := Lib.hid (cmpL_step (L := L) HAT1.out HAT2.out)
            have HLEFT := Lib.hid (leftL_step (G := B) (L := L) (k' := k2) HAT1.out)
            have hgS5 : S0 + 2 ≤ W5.heap.size := by omega
            rw [← hW5]
            clear hW5 hoth XA XB HOW cA2 cB2 HC hfz hca HBS HBW HAT1 HAT2 hWs
            obtain ⟨y0, y1, y2, y3, y4⟩ := HY9.out
            obtain ⟨z0, z1, z2, z3, z4⟩ := HY10.out
            go_wp2_with fail
            refine (KN.out _ _ _ _ _ _ _ _ _ _ _ ⟨_, _, _, rfl⟩ ⟨_, _, _, rfl⟩).mono ?_
            rintro e W6 ⟨rfl, hb6⟩
            clear y0 y1 y2 y3 y4 z0 z1 z2 z3 z4
            have HB6 := Lib.hid (HB5.out.trans (hb6.mono HB5.out.size))
            have HO6 := Lib.hid (own_keep HO5.out hb6)
            have HZ9 := Lib.hid (HY9.out.below hb6)
            have HZ10 := Lib.hid (HY10.out.below hb6)
            clear hb6 HY9 HY10 HO5 HB5
            by_cases hN : cmpN op1 wd1 n1 nm1 op2 wd2 n2 nm2 ≠ 0
            · have HV := Lib.hid (show R = cmpN op1 wd1 n1 nm1 op2 wd2 n2 nm2 by rw [HRL.out, HSTEP.out, if_pos hN])
              have eN : (cmpN op1 wd1 n1 nm1 op2 wd2 n2 nm2 == 0) = false := by simpa using hN
              have eN2 : (cmpN op1 wd1 n1 nm1 op2 wd2 n2 nm2 != 0) = true := by simpa using hN
              clear HRL HKX HST HCUT HOWN HISA HISB HLM HLA HLB HTA HTB HSTEP HLEFT HO6 HZ9 HZ10 KN
              generalize cmpN op1 wd1 n1 nm1 op2 wd2 n2 nm2 = C at *
              go_wp2
              go_ret
              exact ⟨by rw [HV.out] <;> rfl, HB6.out⟩
            · have HNEW := Lib.hid (show R = cmpL ((k1, k2) :: (A.drop 1, B.drop 1) :: L) by rw [HRL.out, HSTEP.out, if_neg hN])
              have hN0 : cmpN op1 wd1 n1 nm1 op2 wd2 n2 nm2 = 0 := by simpa using hN
              obtain ⟨kn, hkn⟩ : ∃ kn, leftL ((k1, k2) :: (A.drop 1, B.drop 1) :: L) = kn := ⟨_, rfl⟩
              have HKN := Lib.hid (show leftL ((k1, k2) :: (A.drop 1, B.drop 1) :: L) = kn ∧ kn < gk ∧ kn ≤ 2097153 by
                have h1 := HLEFT.out
                have h2 := HKX.out
                rw [hkn] at h1
                exact ⟨hkn, by omega, by omega⟩)
              clear hkn hN HRL HKX HCUT HOWN HISA HISB HLA HLB HSTEP HLEFT KN
              rw [hN0]
              obtain ⟨y0, y1, y2, y3, y4⟩ := HZ9.out
              obtain ⟨z0, z1, z2, z3, z4⟩ := HZ10.out
              have hs6 := HB6.out.size
              go_wp2_with (at_builtin; refine wpList_append_any rfl _ _ 72 rfl w.heap.size 71 i0 (.agg #[.slice none 0 0, .slice none 0 0]) 2 48 Try.underlying72 hi0 hz0 hzs hzb rfl (by decide) _ (m + 1) _ rfl (HO6.out.alloc _) _ 1 1 [.slice q1 k1.len c1, .slice q2 k2.len c2] rfl rfl ?c1 ?c2 ?c3 ?c4 ?c5 ?_)
              case c1 => exact fun _ => ⟨_, rfl, fun i u hu => by
                have hi := (List.getElem?_eq_some_iff.1 hu).1
                rw [Addr.add_mid, Nat.zero_add, cell_of_row _ _ _ _ _ _ (heap_alloc_new W6 _)]
                simpa using hu⟩
              case c2 => intro u hu; simp at hu; rcases hu with rfl | rfl <;> rfl
              case c3 => unfold maxLen; omega
              case c4 => omega
              case c5 => simp; omega
              clear y0 y1 y2 y3 y4 z0 z1 z2 z3 z4
              intro q7 c7 w7 ho7 hb7
              have HREL : Hid (CmOut R w kn (.slice q7 (m + 1 + 1) c7) w7) := Lib.hid (by
                refine ⟨(k1, k2) :: (A.drop 1, B.drop 1) :: L, (xs' ++ [.slice pA (la - 1) (ca - 1), .slice pB (lb - 1) (cb - 1)]) ++ [.slice q1 k1.len c1, .slice q2 k2.len c2], HNEW.out, Nat.le_of_eq HKN.out.1, HKN.out.2.2, ?_, ?_, ((HB6.out.alloc hs6 _).trans hb7)⟩
                · have hm := HLM.out
                  rw [show ((k1, k2) :: (A.drop 1, B.drop 1) :: L).length = m + 1 + 1 by simp [hm], List.append_assoc]
                  exact ho7
                · simp only [lieL]
                  rw [Fo.stk_app, Fo.stk_app]
                  exact Cs.vs_app (Cs.vs_app HST.out (Cs.vs_sl.2 ⟨_, _, rfl, HTA.out, Cs.vs_sl.2 ⟨_, [], rfl, HTB.out, rfl⟩⟩)) (Cs.vs_sl.2 ⟨_, _, rfl, HI1.out, Cs.vs_sl.2 ⟨_, [], rfl, HI2.out, rfl⟩⟩))
              clear ho7 hb7 HO6 HZ9 HZ10
              go_wp2
              go_roundg kn
              case measure => exact HKN.out.2.1
              case rel => exact HREL.out
          · go_wp2
            refine ⟨by go_grown, ?_⟩
            refine one_c (i := 12) (by kernel_rfl) (op_list rfl ?_)
            go_wp2
            refine ⟨by go_grown, ?_⟩
            refine one_c (i := 14) (by kernel_rfl) (op_list rfl ?_)
            go_wp2
            refine ⟨by go_grown, ?_⟩
            refine one_c (i := 15) (by kernel_rfl) (op_list rfl ?_)
            go_wp2
            refine ⟨by go_grown, ?_⟩
            refine done_c (by kernel_rfl) ?_ _
            go_wp2
            obtain ⟨W, hW⟩ : ∃ W, W = ((wr.alloc (.cells #[.int .i64 op2, .int .i64 wd2, .int .i64 n2, .string nm2, .slice q2 k2.len c2] 28)).alloc (.cells #[.int .i64 op1, .int .i64 wd1, .int .i64 n1, .string nm1, .slice q1 k1.len c1] 28)).drew := ⟨_, rfl⟩
            have HBW : Hid (Below wr.heap.size wr W) := Lib.hid (by rw [hW]; exact (((Below.refl _ _).alloc (Nat.le_refl _) _).alloc (by simp) _).drew)
            have XA : Hid (Cell5 W wr.heap.size (.int .i64 op2) (.int .i64 wd2) (.int .i64 n2) (.string nm2) (.slice q2 k2.len c2)) := Lib.hid (by rw [hW]; exact (cell5_alloc wr 28 _ _ _ _ _).below ((Below.refl _ _).alloc (Nat.le_refl _) _).drew)
            have XB : Hid (Cell5 W (wr.heap.size + 1) (.int .i64 op1) (.int .i64 wd1) (.int .i64 n1) (.string nm1) (.slice q1 k1.len c1)) := Lib.hid (by
              have h := cell5_alloc (wr.alloc (.cells #[.int .i64 op2, .int .i64 wd2, .int .i64 n2, .string nm2, .slice q2 k2.len c2] 28)) 28 (.int .i64 op1) (.int .i64 wd1) (.int .i64 n1) (.string nm1) (.slice q1 k1.len c1)
              rw [show (wr.alloc (.cells #[.int .i64 op2, .int .i64 wd2, .int .i64 n2, .string nm2, .slice q2 k2.len c2] 28)).heap.size = wr.heap.size + 1 by simp] at h
              rw [hW]
              exact h)
            have hWs : W.heap.size = wr.heap.size + 2 := by rw [hW]; show ((wr.alloc _).alloc _).heap.size = _; simp
            have HOW := Lib.hid (own_keep HOWN.out HBW.out)
            have hgS : g < wr.heap.size := World.block_lt_of_cell? _ _ cA
            have cA2 : W.cell? ⟨g, m * 2, none⟩ = some (.slice (some ⟨ba, oa, none⟩) la ca) := (HBW.out.cell (p := ⟨g, m * 2, none⟩) hgS).trans cA
            have cB2 : W.cell? ⟨g, m * 2 + 1, none⟩ = some (.slice (some ⟨bb, ob, none⟩) lb cb) := (HBW.out.cell (p := ⟨g, m * 2 + 1, none⟩) hgS).trans cB
            have HBS := Lib.hid (HB.out.trans (HBW.out.mono HB.out.size))
            have hwS := HB.out.size
            rw [← hW]
            clear hW HCW HRA HRB cA cB HB
            generalize wr.heap.size = S0 at *
            have HC := Lib.hid (show W.drew.cell? ⟨g, m * 2, none⟩ = some (.slice (some ⟨ba, oa, none⟩) la ca) ∧ W.drew.cell? ⟨g, m * 2 + 1, none⟩ = some (.slice (some ⟨bb, ob, none⟩) lb cb) from ⟨cA2, cB2⟩)
            have hfz : W.frozen? ⟨g, m * 2, none⟩ = false ∧ W.frozen? ⟨g, m * 2 + 1, none⟩ = false := ⟨HOW.out.frozenAt _, HOW.out.frozenAt _⟩
            have hca : la ≤ ca ∧ ca ≤ 9223372036854775807 ∧ lb ≤ cb ∧ cb ≤ 9223372036854775807 := by
              obtain ⟨_, ⟨_, _, _, ea, h1, h2, _⟩, _⟩ := HISA.out
              obtain ⟨_, ⟨_, _, _, eb, h3, h4, _⟩, _⟩ := HISB.out
              cases ea
              cases eb
              have := HLA.out
              have := HLB.out
              exact ⟨by omega, h2, by omega, h4⟩
            obtain ⟨pA, hpA⟩ : ∃ p, p = (if ca = 1 then (some ⟨ba, oa, none⟩ : Option Addr) else some ⟨ba, oa + 5, none⟩) := ⟨_, rfl⟩
            obtain ⟨pB, hpB⟩ : ∃ p, p = (if cb = 1 then (some ⟨bb, ob, none⟩ : Option Addr) else some ⟨bb, ob + 5, none⟩) := ⟨_, rfl⟩
            have HPA := Lib.hid hpA
            have HPB := Lib.hid hpB
            clear hpA hpB
            refine region_s [14, 17] (fun V => V.cell? ⟨g, m * 2, none⟩ = some (.slice (some ⟨ba, oa, none⟩) la ca) ∧ V.cell? ⟨g, m * 2 + 1, none⟩ = some (.slice (some ⟨bb, ob, none⟩) lb cb)) (by kernel_rfl) ?_
            refine take_p (i := 0) (v := .pointer (some ⟨g, m * 2, none⟩)) rfl (by kernel_rfl) (fun _ _ _ h => h) HC.out rfl (fun V => ?_) ?_
            · go_simp
              all_goals (first | omega | (simp; omega))
            refine take_p (i := 1) (v := .pointer (some ⟨g, m * 2, none⟩)) rfl (by kernel_rfl) (fun _ _ _ h => h) HC.out rfl (fun V => ?_) ?_
            · go_simp
              all_goals (first | omega | (simp; omega))
            refine take_p (i := 2) (v := .pointer (some ⟨g, m * 2, none⟩)) rfl (by kernel_rfl) (fun _ _ _ h => h) HC.out rfl (fun V => ?_) ?_
            · go_simp
              all_goals (first | omega | (simp; omega))
            refine take_p (i := 3) (v := .pointer (some ⟨g, m * 2, none⟩)) rfl (by kernel_rfl) (fun _ _ _ h => h) HC.out rfl (fun V => ?_) ?_
            · go_simp
              all_goals (first | omega | (simp; omega))
            refine take_p (i := 4) (v := .pointer (some ⟨g, m * 2, none⟩)) rfl (by kernel_rfl) (fun _ _ _ h => h) HC.out rfl (fun V => ?_) ?_
            · go_simp
              all_goals (first | omega | (simp; omega))
            refine take_s (i := 5) (v := .slice (some ⟨ba, oa, none⟩) la ca) rfl (by kernel_rfl) (fun _ _ _ h => h) HC.out rfl (fun V hV => ?_) ?_
            · obtain ⟨t1, t2⟩ := hV
              go_simp
              all_goals (first | omega | (simp; omega))
            refine take_p (i := 6) (v := .slice pA (la - 1) (ca - 1)) rfl (by kernel_rfl) (fun _ _ _ h => h) HC.out rfl (fun V => ?_) ?_
            · rw [HPA.out]
              go_simp
              all_goals (first | omega | (simp; omega))
            refine take_p (i := 7) (v := .pointer (some ⟨g, m * 2, none⟩)) rfl (by kernel_rfl) (fun _ _ _ h => h) HC.out rfl (fun V => ?_) ?_
            · go_simp
              all_goals (first | omega | (simp; omega))
            refine take_p (i := 8) (v := .pointer (some ⟨g, m * 2, none⟩)) rfl (by kernel_rfl) (fun _ _ _ h => h) HC.out rfl (fun V => ?_) ?_
            · go_simp
              all_goals (first | omega | (simp; omega))
            refine take_p (i := 9) (v := .pointer (some ⟨g, m * 2 + 1, none⟩)) rfl (by kernel_rfl) (fun _ _ _ h => h) HC.out rfl (fun V => ?_) ?_
            · go_simp
              all_goals (first | omega | (simp; omega))
            refine take_s (i := 10) (v := .slice (some ⟨bb, ob, none⟩) lb cb) rfl (by kernel_rfl) (fun _ _ _ h => h) HC.out rfl (fun V hV => ?_) ?_
            · obtain ⟨t1, t2⟩ := hV
              go_simp
              all_goals (first | omega | (simp; omega))
            refine take_p (i := 11) (v := .slice pB (lb - 1) (cb - 1)) rfl (by kernel_rfl) (fun _ _ _ h => h) HC.out rfl (fun V => ?_) ?_
            · rw [HPB.out]
              go_simp
              all_goals (first | omega | (simp; omega))
            refine take_p (i := 12) (v := .pointer (some ⟨g, m * 2, none⟩)) rfl (by kernel_rfl) (fun _ _ _ h => h) HC.out rfl (fun V => ?_) ?_
            · go_simp
              all_goals (first | omega | (simp; omega))
            refine take_p (i := 13) (v := .pointer (some ⟨g, m * 2, none⟩)) rfl (by kernel_rfl) (fun _ _ _ h => h) HC.out rfl (fun V => ?_) ?_
            · go_simp
              all_goals (first | omega | (simp; omega))
            refine one_s (i := 14) (by kernel_rfl) (op_list rfl ?_)
            go_wp2
            refine ⟨late_s (by kernel_rfl), ?_⟩
            refine one_s (i := 15) (by kernel_rfl) (op_list rfl ?_)
            go_wp2
            refine ⟨late_s (by kernel_rfl), ?_⟩
            refine one_s (i := 16) (by kernel_rfl) (op_list rfl ?_)
            go_wp2
            refine ⟨late_s (by kernel_rfl), ?_⟩
            refine one_s (i := 17) (by kernel_rfl) (op_list rfl ?_)
            go_wp2
            refine ⟨late_s (by kernel_rfl), done_s (by kernel_rfl) ?_ _⟩
            obtain ⟨W5, hW5⟩ : ∃ W5, W5 = ((W.setCell ⟨g, m * 2, none⟩ (.slice pA (la - 1) (ca - 1))).setCell ⟨g, m * 2 + 1, none⟩ (.slice pB (lb - 1) (cb - 1))).drew := ⟨_, rfl⟩
            have HB5 : Hid (Below w.heap.size w W5) := Lib.hid (by rw [hW5]; exact ((HBS.out.setCell hgb _).setCell hgb _).drew)
            have hoth : ∀ k, k ≠ g → W5.heap[k]? = W.heap[k]? := fun k hk => by rw [hW5]; exact (heap_setCell_other _ _ _ _ hk).trans (heap_setCell_other _ _ _ _ hk)
            have hs5 : W5.heap.size = W.heap.size := by rw [hW5]; show ((W.setCell _ _).setCell _ _).heap.size = _; simp [World.setCell]
            have hxl : xs'.length = m * 2 := HCUT.out.1
            have HO5 : Hid (W5.ownsRow w.heap.size 71 2 (.slice (some ⟨g, 0, none⟩) (m + 1) cap) (m + 1) (xs' ++ [.slice pA (la - 1) (ca - 1), .slice pB (lb - 1) (cb - 1)])) := Lib.hid (by
              have h := own_put [.slice pA (la - 1) (ca - 1), .slice pB (lb - 1) (cb - 1)] (m * 2) W _ HOW.out
              rw [← hxl, putAt_mid _ _ _ (by simp)] at h
              simp only [List.length_cons, List.length_nil, List.drop_succ_cons, List.drop_zero, List.append_nil] at h
              rw [hxl] at h
              rw [hW5]
              exact h)
            have HY9 := Lib.hid (cell5_same XB.out (hoth (S0 + 1) (by omega)))
            have HY10 := Lib.hid (cell5_same XA.out (hoth S0 (by omega)))
            have HTA : Hid (((A.drop 1).cs 28).Is w 0 5 (A.drop 1).len (.slice pA (la - 1) (ca - 1))) := Lib.hid (by
              have h := HISA.out
              have hl := HLA.out
              rw [← hl] at h ⊢
              exact is_tail h (by omega) pA (by
                have hp := HPA.out
                by_cases e : ca = 1
                · rw [if_pos e] at hp
                  exact .inl ⟨by omega, hp⟩
                · rw [if_neg e] at hp
                  exact .inr hp))
            have HTB : Hid (((B.drop 1).cs 28).Is w 0 5 (B.drop 1).len (.slice pB (lb - 1) (cb - 1))) := Lib.hid (by
              have h := HISB.out
              have hl := HLB.out
              rw [← hl] at h ⊢
              exact is_tail h (by omega) pB (by
                have hp := HPB.out
                by_cases e : cb = 1
                · rw [if_pos e] at hp
                  exact .inl ⟨by omega, hp⟩
                · rw [if_neg e] at hp
                  exact .inr hp))
            have HSTEP := Lib.hid (cmpL_step (L := L) HAT1.out HAT2.out)
            have HLEFT := Lib.hid (leftL_step (G := B) (L := L) (k' := k2) HAT1.out)
            have hgS5 : S0 + 2 ≤ W5.heap.size := by omega
            rw [← hW5]
            clear hW5 hoth XA XB HOW cA2 cB2 HC hfz hca HBS HBW HAT1 HAT2 hWs
            obtain ⟨y0, y1, y2, y3, y4⟩ := HY9.out
            obtain ⟨z0, z1, z2, z3, z4⟩ := HY10.out
            go_wp2_with fail
            refine (KN.out _ _ _ _ _ _ _ _ _ _ _ ⟨_, _, _, rfl⟩ ⟨_, _, _, rfl⟩).mono ?_
            rintro e W6 ⟨rfl, hb6⟩
            clear y0 y1 y2 y3 y4 z0 z1 z2 z3 z4
            have HB6 := Lib.hid (HB5.out.trans (hb6.mono HB5.out.size))
            have HO6 := Lib.hid (own_keep HO5.out hb6)
            have HZ9 := Lib.hid (HY9.out.below hb6)
            have HZ10 := Lib.hid (HY10.out.below hb6)
            clear hb6 HY9 HY10 HO5 HB5
            by_cases hN : cmpN op1 wd1 n1 nm1 op2 wd2 n2 nm2 ≠ 0
            · have HV := Lib.hid (show R = cmpN op1 wd1 n1 nm1 op2 wd2 n2 nm2 by rw [HRL.out, HSTEP.out, if_pos hN])
              have eN : (cmpN op1 wd1 n1 nm1 op2 wd2 n2 nm2 == 0) = false := by simpa using hN
              have eN2 : (cmpN op1 wd1 n1 nm1 op2 wd2 n2 nm2 != 0) = true := by simpa using hN
              clear HRL HKX HST HCUT HOWN HISA HISB HLM HLA HLB HTA HTB HSTEP HLEFT HO6 HZ9 HZ10 KN
              generalize cmpN op1 wd1 n1 nm1 op2 wd2 n2 nm2 = C at *
              go_wp2
              go_ret
              exact ⟨by rw [HV.out] <;> rfl, HB6.out⟩
            · have HNEW := Lib.hid (show R = cmpL ((k1, k2) :: (A.drop 1, B.drop 1) :: L) by rw [HRL.out, HSTEP.out, if_neg hN])
              have hN0 : cmpN op1 wd1 n1 nm1 op2 wd2 n2 nm2 = 0 := by simpa using hN
              obtain ⟨kn, hkn⟩ : ∃ kn, leftL ((k1, k2) :: (A.drop 1, B.drop 1) :: L) = kn := ⟨_, rfl⟩
              have HKN := Lib.hid (show leftL ((k1, k2) :: (A.drop 1, B.drop 1) :: L) = kn ∧ kn < gk ∧ kn ≤ 2097153 by
                have h1 := HLEFT.out
                have h2 := HKX.out
                rw [hkn] at h1
                exact ⟨hkn, by omega, by omega⟩)
              clear hkn hN HRL HKX HCUT HOWN HISA HISB HLA HLB HSTEP HLEFT KN
              rw [hN0]
              obtain ⟨y0, y1, y2, y3, y4⟩ := HZ9.out
              obtain ⟨z0, z1, z2, z3, z4⟩ := HZ10.out
              have hs6 := HB6.out.size
              go_wp2_with (at_builtin; refine wpList_append_any rfl _ _ 72 rfl w.heap.size 71 i0 (.agg #[.slice none 0 0, .slice none 0 0]) 2 48 Try.underlying72 hi0 hz0 hzs hzb rfl (by decide) _ (m + 1) _ rfl (HO6.out.alloc _) _ 1 1 [.slice q1 k1.len c1, .slice q2 k2.len c2] rfl rfl ?c1 ?c2 ?c3 ?c4 ?c5 ?_)
              case c1 => exact fun _ => ⟨_, rfl, fun i u hu => by
                have hi := (List.getElem?_eq_some_iff.1 hu).1
                rw [Addr.add_mid, Nat.zero_add, cell_of_row _ _ _ _ _ _ (heap_alloc_new W6 _)]
                simpa using hu⟩
              case c2 => intro u hu; simp at hu; rcases hu with rfl | rfl <;> rfl
              case c3 => unfold maxLen; omega
              case c4 => omega
              case c5 => simp; omega
              clear y0 y1 y2 y3 y4 z0 z1 z2 z3 z4
              intro q7 c7 w7 ho7 hb7
              have HREL : Hid (CmOut R w kn (.slice q7 (m + 1 + 1) c7) w7) := Lib.hid (by
                refine ⟨(k1, k2) :: (A.drop 1, B.drop 1) :: L, (xs' ++ [.slice pA (la - 1) (ca - 1), .slice pB (lb - 1) (cb - 1)]) ++ [.slice q1 k1.len c1, .slice q2 k2.len c2], HNEW.out, Nat.le_of_eq HKN.out.1, HKN.out.2.2, ?_, ?_, ((HB6.out.alloc hs6 _).trans hb7)⟩
                · have hm := HLM.out
                  rw [show ((k1, k2) :: (A.drop 1, B.drop 1) :: L).length = m + 1 + 1 by simp [hm], List.append_assoc]
                  exact ho7
                · simp only [lieL]
                  rw [Fo.stk_app, Fo.stk_app]
                  exact Cs.vs_app (Cs.vs_app HST.out (Cs.vs_sl.2 ⟨_, _, rfl, HTA.out, Cs.vs_sl.2 ⟨_, [], rfl, HTB.out, rfl⟩⟩)) (Cs.vs_sl.2 ⟨_, _, rfl, HI1.out, Cs.vs_sl.2 ⟨_, [], rfl, HI2.out, rfl⟩⟩))
              clear ho7 hb7 HO6 HZ9 HZ10
              go_wp2
              go_roundg kn
              case measure => exact HKN.out.2.1
              case rel => exact HREL.out
end Go.Proofs.Ytimjkgciakbolaa
