/- What the specification's EvalFormula returns. No condition. -/
import Derived.Test.YtpcfjjjijknmmacFmEv
namespace Go.Proofs.Ytpcfjjjijknmmac
open Go.ChangeShapes Go.WideShapes Go.ChangeAt Go.RowKit
theorem ev_f {n : Int} {L : List (List Int)} {M : List Bool} (h : fmB n L = false) : evB n L M = false := by unfold evB; rw [h]; rfl
theorem ev_l {n : Int} {L : List (List Int)} {M : List Bool} (h : (M.length : Int) ≠ n) : evB n L M = false := by unfold evB; rw [show decide ((M.length : Int) = n) = false by simpa using h]; simp
theorem ev_t {n : Int} {L : List (List Int)} {M : List Bool} (h : fmB n L = true) (h2 : (M.length : Int) = n) : evB n L M = mdB L M := by unfold evB; rw [h, show decide ((M.length : Int) = n) = true by simpa using h2]; simp
set_option maxRecDepth 100000 in
set_option maxHeartbeats 4000000 in
theorem s_fmev (n : Int) (L : List (List Int)) (M : List Bool) (v m : Value) (w : World) (hv : (Cs.rows IntSS.c L).Is w 0 1 L.length v) (hm : Cs.Shows w 0 1 m M.length (BoolL.all M)) (hok : (-9223372036854775808 ≤ n ∧ n ≤ 9223372036854775807) ∧ IntSS.Ok L ∧ L.length ≤ maxLen) (hc : IntSS.costs L ≤ 1048576) (_hl : M.length ≤ 1048576) :
    Calls Try.prog 42 #[.agg #[.int .i64 n, v], m] w fun e w' => e = .returned (.bool (evB n L M)) ∧ Below w.heap.size w w' := by
  have hll := IntSS.len_le L
  have HV := Lib.hid hv
  have KF := Lib.hid (fun W (hb : Below w.heap.size w W) => s_fmok n L v W (hv.below hb) hok hc)
  have HMM := Lib.hid hm
  obtain ⟨_, qm, cm, rfl, _⟩ := hm
  by_cases hf : fmB n L = true
  · rw [hf] at KF
    by_cases hM : (M.length : Int) = n
    · have HF := Lib.hid (ev_t hf hM)
      have HIN := Lib.hid (lits_in hf)
      have hn4 := (fm_of hf).2.1
      have HNN := Lib.hid hM
      have hMn : ((M.length : Int) == n) = true := by simpa using hM
      unfold mdB at HF
      clear hf
      clear hv
      rcases IntSS.cases HV.out with ⟨hL, q, cap, rfl⟩ | ⟨hpos, b, o, cap, rfl, _, _, hbl, hr⟩
      · have HE := Lib.hid (show L.all (fun l => l.any (litT M)) = true by rw [hL]; rfl)
        clear HV hL
        go_enter Try.func42, Try.ntmps42
        go_wp2_with fail
        refine (KF.out _ ((Below.refl _ _).alloc (Nat.le_refl _) _)).mono ?_
        rintro e w1 ⟨rfl, hb1⟩
        have B1 := Lib.hid (((Below.refl w.heap.size w).alloc (Nat.le_refl _) (.cells #[.int .i64 n, .slice q 0 cap] 27)).trans (hb1.mono (by simp)))
        obtain ⟨x0, x1⟩ := (cell2_alloc w 27 _ _).below hb1
        clear hb1
        go_wp2
        refine wp_loop_rounds 1 ?_
        rw [rounds_succ]
        go_wp2
        go_ret
        exact ⟨by rw [HF.out, HE.out] <;> rfl, B1.out⟩
      · have HR := Lib.hid hr
        have HX := Lib.hid (fun j (h : j < L.length) => all_at (fun l => l.any (litT M)) L j h)
        have HCO := Lib.hid (fun j h => IntSS.cost_lt L j h)
        have HME := Lib.hid (fun j (h : j < L.length) => HIN.out L[j] (List.getElem_mem h))
        clear hr HV HIN
        go_enter Try.func42, Try.ntmps42
        go_wp2_with fail
        refine (KF.out _ ((Below.refl _ _).alloc (Nat.le_refl _) _)).mono ?_
        rintro e w1 ⟨rfl, hb1⟩
        have B1 := Lib.hid (((Below.refl w.heap.size w).alloc (Nat.le_refl _) (.cells #[.int .i64 n, .slice (some ⟨b, o, none⟩) L.length cap] 27)).trans (hb1.mono (by simp)))
        obtain ⟨x0, x1⟩ := (cell2_alloc w 27 _ _).below hb1
        clear hb1
        go_wp2
        clear x0 x1
        go_loopw [23] (fun i wr => ∃ (j : Nat), j ≤ L.length ∧ i = .int .i64 j ∧ (L.drop j).all (fun l => l.any (litT M)) = L.all (fun l => l.any (litT M)) ∧ Below w.heap.size w wr) (fun i _ => L.length - (intOf i).toNat)
        case atStart => exact ⟨0, Nat.zero_le _, rfl, rfl, B1.out⟩
        case round =>
          obtain ⟨j, hj, rfl, hrest, hb⟩ := hrel
          by_cases hjn : j < L.length
          · obtain ⟨qe, me, cpe, hme, c0, hsh⟩ := HR.out wr hb j hjn
            have hx := HX.out j hjn
            have hco := HCO.out j hjn
            have hin := HME.out j hjn
            generalize L[j] = l at *
            rw [hrest] at hx
            have HQ := Lib.hid hx
            have HB := Lib.hid hb
            have HSH := Lib.hid hsh
            have HLI := Lib.hid hin
            have hki : (j : Int) < (L.length : Int) := by omega
            have hml : maxLen = 9223372036854775807 := rfl
            clear hb hrest hx hsh hin
            have key : ∀ (f : Bool) (k : Nat), (f || (l.drop k).any (litT M)) = l.any (litT M) → k = l.length → f = l.any (litT M) := by
              intro f k h hk
              rw [hk, List.drop_length] at h
              simpa using h
            have KEY := Lib.hid key
            clear key
            rcases Cs.shows_cases HSH.out with ⟨h0, q', cap', hqq⟩ | ⟨hpos', b', o', cap', hqq, _, _, hbl', hr'⟩
            · have hl0 : l = [] := List.length_eq_zero_iff.1 h0
              have hme0 : me = 0 := by rw [← hme, h0]
              subst hme0
              have HFA := Lib.hid (show L.all (fun l => l.any (litT M)) = false by rw [HQ.out, hl0]; rfl)
              clear hqq hl0 h0 hme HSH HLI KEY HQ
              go_wp2
              refine wp_loop_rounds 1 ?_
              rw [rounds_succ]
              go_wp2
              go_ret
              exact ⟨by rw [HF.out, HFA.out] <;> rfl, HB.out⟩
            · obtain ⟨rfl, -, rfl⟩ : qe = some ⟨b', o', none⟩ ∧ True ∧ cpe = cap' := by injection hqq with h1 h2 h3; exact ⟨h1, trivial, h3⟩
              have HLR := Lib.hid (fun (wq : World) (hb : Below wr.heap.size wr wq) k (h : k < l.length) => IntL.nth l k h (rangeAt_below hb hr'))
              have HLX := Lib.hid (fun k (h : k < l.length) => any_at (litT M) l k h)
              have HLM := Lib.hid (fun k (h : k < l.length) => HLI.out l[k] (List.getElem_mem h))
              have hmx : me = l.length := hme.symm
              subst hmx
              clear hqq hr' HSH HLI hme
              go_wp2
              go_loopw [7, 29] (fun f i wq => ∃ (k : Nat) (fb : Bool), k ≤ l.length ∧ i = .int .i64 k ∧ f = .bool fb ∧ (fb || (l.drop k).any (litT M)) = l.any (litT M) ∧ Below wr.heap.size wr wq) (fun _ i _ => l.length - (intOf i).toNat)
              case atStart => exact ⟨0, false, Nat.zero_le _, rfl, rfl, by simp, Below.refl _ _⟩
              case round =>
                obtain ⟨k, fb, hk, rfl, rfl, hrest, hb⟩ := hrel
                by_cases hkn : k < l.length
                · have c0 := HLR.out _ hb k hkn
                  have hx := HLX.out k hkn
                  have hlm := HLM.out k hkn
                  generalize l[k] = x at *
                  rw [hx] at hrest
                  have HB2 := Lib.hid hb
                  have HQ2 := Lib.hid hrest
                  have hki2 : (k : Int) < (l.length : Int) := by omega
                  clear hrest hx
                  cases fb with
                  | true =>
                    have HT := Lib.hid (show (true || (l.drop (k + 1)).any (litT M)) = l.any (litT M) by rw [← HQ2.out]; simp)
                    clear hb
                    go_wp2
                    go_roundw
                    case rel => exact ⟨k + 1, true, by omega, by go_num, rfl, HT.out, HB2.out⟩
                    case measure => simp [intOf]; omega
                  | false =>
                    obtain ⟨ha1, ha2, hlt, hlit⟩ := lit_at hlm.1 hlm.2.1 hlm.2.2 HNN.out
                    have hmr := HB.out.size
                    have hmrr : ∃ bm om, qm = some ⟨bm, om, none⟩ ∧ w.rangeAt bm om (BoolL.all M) := by
                      rcases Cs.shows_cases HMM.out with ⟨h0, _⟩ | ⟨_, b, o, cap, h, _, _, _, hr⟩
                      · omega
                      · injection h with h1 h2 h3; exact ⟨b, o, h1, hr⟩
                    obtain ⟨bm, om, rfl, hmr2⟩ := hmrr
                    have d0 := BoolL.nth M _ hlt (rangeAt_below (HB.out.trans (hb.mono hmr)) hmr2)
                    have KV := Lib.hid (fun W => s_abs x (by omega) W)
                    have HT := Lib.hid (show (litT M x || (l.drop (k + 1)).any (litT M)) = l.any (litT M) by rw [← HQ2.out]; simp)
                    rw [hlit] at HT
                    generalize M[(iabs x - 1).toNat] = bx at *
                    clear hlit hb hmr2 HQ2
                    generalize hax : iabs x = ax at *
                    obtain ⟨a, ha⟩ : ∃ a : Nat, (ax - 1).toNat = a := ⟨_, rfl⟩
                    rw [ha] at d0 hlt
                    have hwr : ax - 1 = (a : Int) := by omega
                    have hax1 : ax = (a : Int) + 1 := by omega
                    subst hax1
                    have hi1 : (a : Int) < (M.length : Int) := by omega
                    have hi0 : 0 ≤ (a : Int) := by omega
                    clear ha hax hlm
                    by_cases hs : 0 < x
                    · have hd : decide (0 < x) = true := by simpa using hs
                      rw [hd] at HT
                      go_wp2_with (go_at_call 78; refine (KV.out _).mono ?_; rintro e w2 ⟨rfl, rfl⟩)
                      go_roundw
                      case rel => exact ⟨k + 1, bx == true, by omega, by go_num, by cases bx <;> rfl, HT.out, HB2.out⟩
                      case measure => simp [intOf]; omega
                    · have hd : decide (0 < x) = false := by simpa using hs
                      rw [hd] at HT
                      go_wp2_with (go_at_call 78; refine (KV.out _).mono ?_; rintro e w2 ⟨rfl, rfl⟩)
                      go_roundw
                      case rel => exact ⟨k + 1, bx == false, by omega, by go_num, by cases bx <;> rfl, HT.out, HB2.out⟩
                      case measure => simp [intOf]; omega
                · have hfin := KEY.out fb k hrest (by omega)
                  have hnk : ¬ ((k : Int) < (l.length : Int)) := by omega
                  have HB2 := Lib.hid (HB.out.trans (hb.mono HB.out.size))
                  clear hb hrest
                  cases fb with
                  | true =>
                    have HT := Lib.hid (show (L.drop (j + 1)).all (fun l => l.any (litT M)) = L.all (fun l => l.any (litT M)) by rw [HQ.out, ← hfin]; rfl)
                    clear hfin
                    go_wp2
                    go_roundw
                    case rel => exact ⟨j + 1, by omega, by go_num, HT.out, HB2.out⟩
                    case measure => simp [intOf]; omega
                  | false =>
                    have HFA := Lib.hid (show L.all (fun l => l.any (litT M)) = false by rw [HQ.out, ← hfin]; rfl)
                    clear hfin
                    go_wp2
                    go_ret
                    exact ⟨by rw [HF.out, HFA.out] <;> rfl, HB2.out⟩
          · have HB := Lib.hid hb
            have hnj : ¬ ((j : Int) < (L.length : Int)) := by omega
            have HFA := Lib.hid (show L.all (fun l => l.any (litT M)) = true by rw [← hrest, List.drop_of_length_le (by omega)]; rfl)
            clear hb hrest
            go_wp2
            go_ret
            exact ⟨by rw [HF.out, HFA.out] <;> rfl, HB.out⟩
    · have HF := Lib.hid (ev_l (L := L) hM)
      clear hf
      obtain ⟨_, ⟨_, q, cap, rfl, _⟩, _⟩ := hv
      go_enter Try.func42, Try.ntmps42
      go_wp2_with fail
      refine (KF.out _ ((Below.refl _ _).alloc (Nat.le_refl _) _)).mono ?_
      rintro e w1 ⟨rfl, hb1⟩
      have B1 := Lib.hid (((Below.refl w.heap.size w).alloc (Nat.le_refl _) (.cells #[.int .i64 n, .slice q L.length cap] 27)).trans (hb1.mono (by simp)))
      obtain ⟨x0, x1⟩ := (cell2_alloc w 27 _ _).below hb1
      clear hb1
      go_wp2
      go_ret
      exact ⟨by rw [HF.out] <;> rfl, B1.out⟩
  · have hf : fmB n L = false := by simpa using hf
    have HF := Lib.hid (ev_f (M := M) hf)
    rw [hf] at KF
    clear hf
    obtain ⟨_, ⟨_, q, cap, rfl, _⟩, _⟩ := hv
    go_enter Try.func42, Try.ntmps42
    go_wp2_with fail
    refine (KF.out _ ((Below.refl _ _).alloc (Nat.le_refl _) _)).mono ?_
    rintro e w1 ⟨rfl, hb1⟩
    have B1 := Lib.hid (((Below.refl w.heap.size w).alloc (Nat.le_refl _) (.cells #[.int .i64 n, .slice q L.length cap] 27)).trans (hb1.mono (by simp)))
    clear hb1
    go_wp2
    go_ret
    exact ⟨by rw [HF.out] <;> rfl, B1.out⟩
end Go.Proofs.Ytpcfjjjijknmmac
