/- What the program's inputValues returns, where the table lies. What the program's (Path).holds returns. No condition. -/
import Derived.Test.YtpojldocjaieoaaGreatDoorHmGHvM
import Derived.Test.YtpojldocjaieoaaGreatDoorHmGItB
import Derived.Test.YtpojldocjaieoaaGreatDoorHmGReg
import Derived.Test.YtpojldocjaieoaaGreatDoorHmGHpM
import Derived.Test.YtpojldocjaieoaaGreatDoorHmGEvR
import Derived.Test.YtpojldocjaieoaaGreatDoorHmGOpenT
namespace Go.Proofs.YtpojldocjaieoaaGreatDoor
open Go.ChangeShapes Go.WideShapes Go.ChangeAt Go.RowKit
open ValueR (all costs)
set_option maxRecDepth 100000 in
theorem i_inName (j : Nat) (h : j < 3) (w : World) (htab : Lib.TabIs Tryz.prog w "internal/strconv.uint64pow10" .u64 Lib.pow10Tab) :
    Calls Tryz.prog 59 #[.int .i64 j] w fun e w' => e = .returned (.string (inNm j)) ∧ Below w.heap.size w w' := by
  have hz := itB_sz (j : Int) (by omega) (by omega)
  have KF : Hid (Calls Tryz.prog 80 #[.int .i64 j] w fun e w' => e = .returned (.string (itB j)) ∧ Below w.heap.size w w') := Lib.hid (i_fmt j (by omega) (by omega) w htab)
  have HE := Lib.hid (in_text h)
  clear htab
  generalize itB (j : Int) = t at *
  have hz2 : (⟨#[105]⟩ : ByteArray).size = 1 := rfl
  go_enter Tryz.func59, Tryz.ntmps59
  go_wp2_with (go_at_call 80; refine KF.out.mono ?_; rintro e w1 ⟨rfl, hb⟩)
  go_ret
  exact ⟨by rw [← HE.out] <;> rfl, hb⟩
set_option maxRecDepth 100000 in
set_option maxHeartbeats 4000000 in
theorem i_values (vw vm vi : Int) (nL : Nat) (q : Option Addr) (cap : Nat) (l : List Int) (li : Value) (w : World) (hls : Cs.Shows w 0 1 li l.length (IntL.all l)) (h3 : l.length ≤ 3) (htab : Lib.TabIs Tryz.prog w "internal/strconv.uint64pow10" .u64 Lib.pow10Tab) :
    Calls Tryz.prog 35 #[.agg #[.int .i64 vw, .int .i64 vm, .int .i64 vi, .slice q nL cap], li] w (ValEnd (inV vw l) w) := by
  have hml : maxLen = 9223372036854775807 := rfl
  obtain ⟨i0, hi, hz0, hz1, hz2⟩ := info_parts zero_Value
  have KN := Lib.hid (fun j (h : j < 3) W (hb : Below w.heap.size w W) => i_inName j h W (var_below hb htab))
  clear htab
  have HSH := Lib.hid hls
  obtain ⟨_, lq, lcap, rfl, _⟩ := hls
  have HR := Lib.hid (in_row HSH.out)
  have HL := Lib.hid (inV_len vw l)
  have HG := Lib.hid (fun j (h : j < l.length) => inV_get vw l j h)
  unfold ValEnd
  have HB0 := Lib.hid ((Below.refl w.heap.size w).alloc (Nat.le_refl _) (.cells #[.int .i64 vw, .int .i64 vm, .int .i64 vi, .slice q nL cap] 34))
  have X0 := Lib.hid (cell4_alloc w 34 (.int .i64 vw) (.int .i64 vm) (.int .i64 vi) (.slice q nL cap))
  obtain ⟨w0, hw0⟩ : ∃ w0, w0 = w.alloc (.cells #[.int .i64 vw, .int .i64 vm, .int .i64 vi, .slice q nL cap] 34) := ⟨_, rfl⟩
  have HS0 := Lib.hid (show w0.heap.size = w.heap.size + 1 by rw [hw0]; simp)
  rw [← hw0] at HB0 X0
  obtain ⟨n, hn⟩ : ∃ n, l.length = n := ⟨_, rfl⟩
  have HN := Lib.hid hn
  have HV := Lib.hid (show (inV vw l).length = n from HL.out.trans hn)
  have HI := Lib.hid (fun j (h : j < n) => show j < l.length by rw [hn]; exact h)
  rw [HL.out]
  rw [hn] at h3 ⊢
  clear hn HL
  have hz3 : n ≤ 3 := h3
  go_enter Tryz.func35, Tryz.ntmps35
  go_wp2_with (rw [← hw0]; refine wpList_make_full _ rfl _ _ 60 rfl w0.heap.size 85 i0 (.agg #[.string ByteArray.empty, .int .i64 0, .int .i64 0]) 3 Tryz.underlying60 hi hz0 hz1 .i64 .i64 _ _ n rfl rfl rfl rfl (by rw [hz2]; omega) (by unfold maxLen; omega) (Nat.le_refl _) ?_; intro w1 hown hgrow; have hb1 := (Below.refl w0.heap.size w0).grown hgrow (Nat.le_refl _) (fun k e => by cases e); have HO := Lib.hid hown; have HB1 := Lib.hid hb1; clear hown hgrow hb1)
  rw [← HS0.out]
  clear hw0
  go_loopw [13] (fun i wr => ∃ (j : Nat), j ≤ n ∧ i = .int .i64 j ∧ HvRel (inV vw l) w0 n j wr) (fun i _ => n - (intOf i).toNat)
  case atStart => exact ⟨0, Nat.zero_le _, rfl, _, HO.out, by simp [all], HB1.out⟩
  case round =>
    obtain ⟨j, hj, rfl, hrel⟩ := hrel
    by_cases hjn : j < n
    · have hjl := HI.out j hjn
      have HSTEP := Lib.hid (fun w1 (hb : Below wr.heap.size wr w1) => hv_step (show j < (inV vw l).length by rw [HV.out]; exact hjn) HV.out hrel hb)
      have hbw : Below w0.heap.size w0 wr := by obtain ⟨_, _, _, h⟩ := hrel; exact h
      have HBW := Lib.hid hbw
      have HWB := Lib.hid (HB0.out.trans (hbw.mono HB0.out.size))
      have HX := Lib.hid (X0.out.below hbw)
      obtain ⟨b, o, rfl, hbl, hc⟩ := HR.out j hjl
      have c0 := hc wr HWB.out
      have hg := HG.out j hjl
      have hge : (inV vw l)[j]'(by rw [HV.out]; exact hjn) = ⟨inNm j, vw, l[j]⟩ := by
        have h2 := List.getElem?_eq_getElem (show j < (inV vw l).length by rw [HV.out]; exact hjn)
        rw [h2] at hg
        exact Option.some.inj hg
      rw [hge] at HSTEP
      clear hge hg hc hbw
      obtain ⟨cur, ho, _, _⟩ := hrel
      have HO := Lib.hid ho
      have hws := HBW.out.size
      have hbl2 : b < wr.heap.size := by have := HS0.out; omega
      have hwl : w.heap.size < wr.heap.size := by have := HS0.out; omega
      generalize l[j] = y at *
      have KX := Lib.hid (fun W (hb : Below w.heap.size w W) => KN.out j (by omega) W hb)
      generalize inNm j = nm at *
      have hki : (j : Int) < (n : Int) := by omega
      clear ho hjl
      go_wp2
      clear c0
      have CD := Lib.hid (show Below wr.heap.size wr wr.drew from (Below.refl _ _).drew)
      have CH := Lib.hid (Below.refl wr.drew.heap.size wr.drew)
      have hX0 := HX.out.1
      refine region_s [9] (fun V => V.cell? ⟨w.heap.size, 0, none⟩ = some (.int .i64 vw)) (by kernel_rfl) ?_
      refine take_s (i := 0) (v := .slice (some ⟨w0.heap.size, 0, none⟩) n n) rfl (by kernel_rfl) (fun _ _ _ h => h) hX0 rfl (fun V hV => ?_) ?_
      · clear hX0
        go_simp
      refine take_s (i := 1) (v := .int .i64 j) rfl (by kernel_rfl) (fun _ _ _ h => h) hX0 rfl (fun V hV => ?_) ?_
      · clear hX0
        go_simp
      refine take_s (i := 2) (v := .int .i64 j) rfl (by kernel_rfl) (fun _ _ _ h => h) hX0 rfl (fun V hV => ?_) ?_
      · clear hX0
        go_simp
      refine take_s (i := 4) (v := .pointer (some ⟨w.heap.size, 0, none⟩)) rfl (by kernel_rfl) (fun _ _ _ h => h) hX0 rfl (fun V hV => ?_) ?_
      · clear hX0
        go_simp
      refine take_s (i := 5) (v := .int .i64 vw) rfl (by kernel_rfl) (fun _ _ _ h => h) hX0 rfl (fun V hV => ?_) ?_
      · clear hX0
        go_simp
      refine take_s (i := 6) (v := .int .i64 y) rfl (by kernel_rfl) (fun _ _ _ h => h) hX0 rfl (fun V hV => ?_) ?_
      · clear hX0
        go_simp
      refine one_s (i := 3) (by kernel_rfl) (op_list rfl ?_)
      go_wp2_with fail
      refine (KX.out _ (HWB.out.trans (CD.out.mono HWB.out.size))).mono ?_
      rintro e w1 ⟨rfl, hb1⟩
      have hbd := CD.out.trans hb1
      have HST := Lib.hid (HSTEP.out _ hbd)
      have HO1 := Lib.hid (own_keep HO.out hbd)
      have hX1 := (hbd.cell (p := ⟨w.heap.size, 0, none⟩) hwl).trans HX.out.1
      clear hb1 hbd hX0
      go_wp2
      refine ⟨fun _ => hX1, ?_⟩
      refine one_s (i := 7) (by kernel_rfl) (op_list rfl ?_)
      go_wp2
      refine ⟨fun _ => hX1, ?_⟩
      refine one_s (i := 8) (by kernel_rfl) (op_list rfl ?_)
      go_wp2
      refine ⟨fun _ => hX1, ?_⟩
      obtain ⟨a0, a1, a2, ⟨t0, t1, t2⟩, u0, u1, u2⟩ := there3 (own_there HO1.out (j * 3) 3 (by omega))
      refine one_s (i := 9) (by kernel_rfl) (op_list rfl ?_)
      go_wp2
      refine ⟨late_s (by kernel_rfl), done_s (by kernel_rfl) ?_ _⟩
      go_wp2
      go_roundw
      case rel => exact ⟨j + 1, by omega, by go_num, HST.out⟩
      case measure => simp [intOf]; omega
    · have ej : j = n := by omega
      subst ej
      have HREL := Lib.hid hrel
      clear hrel
      go_wp2
      go_ret
      obtain ⟨cur, ho, hc, hb⟩ := HREL.out
      have hcl : cur = all (inV vw l) := by
        rw [← HV.out, List.take_length, List.take_of_length_le (by rw [ho.1, HV.out]; exact Nat.le_refl _)] at hc
        exact hc
      subst hcl
      exact ⟨HB0.out.trans (hb.mono HB0.out.size), _, _, rfl, (Cs.shows_of_owns ho).down (Nat.zero_le _)⟩
end Go.Proofs.YtpojldocjaieoaaGreatDoor
namespace Go.Proofs.YtpojldocjaieoaaGreatDoor
open Go.ChangeShapes Go.WideShapes Go.ChangeAt Go.RowKit
open ValueR (all costs)
set_option maxRecDepth 100000 in
set_option maxHeartbeats 4000000 in
theorem i_pholds (V : List ValueR) (hV : VlOk V) (x : PaR) (hF : tmB x.C 1 = true) (r m sk o c u v : Value) (w : World) (hx : PaI w 0 x r m sk o c u) (hv : Cs.Shows w 0 3 v V.length (all V)) (hcc : x.cost ≤ 1048576) :
    Calls Tryz.prog 34 #[.agg #[.int .i64 x.pc, r, m, sk, .int .i64 x.inn, o, .int .i64 x.cd, .int .i64 x.st, c, u], v] w fun e w' => e = .returned (.bool (cdB V x.C)) ∧ Below w.heap.size w w' := by
  have hml : maxLen = 9223372036854775807 := rfl
  have hcx : x.cost = x.R.cost + x.M.cost + x.S.length + x.O.cost + x.C.cost + x.U.length := rfl
  have HV := Lib.hid hv
  obtain ⟨_, qv, cv, rfl, _⟩ := hv
  obtain ⟨hr, hm, hsk, ho, hc, hu⟩ := hx
  have his := hc
  clear hc
  obtain ⟨_, ⟨_, qr, cr, rfl, _⟩, _⟩ := hr
  obtain ⟨_, ⟨_, qm, cm, rfl, _⟩, _⟩ := hm
  obtain ⟨_, qsk, csk, rfl, _⟩ := hsk
  obtain ⟨_, ⟨_, qo, co, rfl, _⟩, _⟩ := ho
  obtain ⟨_, qu, cu, rfl, _⟩ := hu
  obtain ⟨F, hFx⟩ : ∃ F, x.C = F := ⟨_, rfl⟩
  have hFc : F.cost ≤ 1048576 := by rw [← hFx]; omega
  rw [hFx] at his hF ⊢
  obtain ⟨pc, hpc⟩ : ∃ n, x.pc = n := ⟨_, rfl⟩
  obtain ⟨inn, hinn⟩ : ∃ n, x.inn = n := ⟨_, rfl⟩
  obtain ⟨cd, hcd⟩ : ∃ n, x.cd = n := ⟨_, rfl⟩
  obtain ⟨st, hst⟩ : ∃ n, x.st = n := ⟨_, rfl⟩
  obtain ⟨lR, hlR⟩ : ∃ n, x.R.len = n := ⟨_, rfl⟩
  obtain ⟨lM, hlM⟩ : ∃ n, x.M.len = n := ⟨_, rfl⟩
  obtain ⟨lS, hlS⟩ : ∃ n, x.S.length = n := ⟨_, rfl⟩
  obtain ⟨lO, hlO⟩ : ∃ n, x.O.len = n := ⟨_, rfl⟩
  obtain ⟨lU, hlU⟩ : ∃ n, x.U.length = n := ⟨_, rfl⟩
  rw [hpc, hinn, hcd, hst, hlR, hlM, hlS, hlO, hlU]
  clear hpc hinn hcd hst hlR hlM hlS hlO hlU hcx hFx hcc
  have hFn := F.nodes_le
  have hFl := F.len_le
  rcases Fo.is_cases his with ⟨h0, qc, cc, rfl⟩ | ⟨hpos, b, o, cc, ys, rfl, hc1, hc2, _, hbl, hvs, hr⟩
  · have hFe : F = .nil := by cases F with | nil => rfl | cons => simp [Fo.len] at h0
    subst hFe
    clear his h0 hFc hFn hFl hF
    go_enter Tryz.func34, Tryz.ntmps34
    go_wp2
    refine wp_loop_rounds 1 ?_
    rw [rounds_succ]
    go_wp2
    go_ret
    exact ⟨rfl, (Below.refl _ _).alloc (Nat.le_refl _) _⟩
  · have HI := Lib.hid (fun j (hj : j < F.len) => Fo.nth F hvs hr j hj)
    have HTM := Lib.hid (fun j op wd' n nm k (h : F.At j op wd' n nm k) => tm_at hF j h)
    have HTA := Lib.hid F.take_all
    have HCZ := Lib.hid (cd_zero V F)
    have HCT := Lib.hid (fun j op wd n nm k (h : F.At j op wd n nm k) => cd_take V F j h)
    have HCB := Lib.hid (fun j op wd n nm k (h : F.At j op wd n nm k) hne => cd_bad V F j h hne)
    have HND := Lib.hid (fun j op wd n nm k (h : F.At j op wd n nm k) => (Fo.at_nodes F j h).2)
    have HWD := Lib.hid (fun op n nm k y (h : tkB op 1 n nm k = true) (hy : evOne V op 1 n nm k = some y) => cd_word hV h hy)
    clear his hvs hr hF
    have HB0 := Lib.hid ((Below.refl w.heap.size w).alloc (Nat.le_refl _) (.cells #[.int .i64 pc, .slice qr lR cr, .slice qm lM cm, .slice qsk lS csk, .int .i64 inn, .slice qo lO co, .int .i64 cd, .int .i64 st, .slice (some ⟨b, o, none⟩) F.len cc, .slice qu lU cu] 38))
    go_enter Tryz.func34, Tryz.ntmps34
    go_wp2
    go_loopw [12] (fun i wr => ∃ (j : Nat), j ≤ F.len ∧ i = .int .i64 j ∧ cdB V (F.take j) = true ∧ Below w.heap.size w wr) (fun i _ => F.len - (intOf i).toNat)
    case atStart => exact ⟨0, Nat.zero_le _, rfl, HCZ.out, HB0.out⟩
    case round =>
      obtain ⟨j, hj, rfl, hcd, hb⟩ := hrel
      have HCD := Lib.hid hcd
      have HB := Lib.hid hb
      clear hcd hb
      by_cases hjn : j < F.len
      · obtain ⟨op', wd2, n', nm', k, u, hat, his, hrr⟩ := HI.out j hjn
        obtain ⟨hwd, hT⟩ := HTM.out _ _ _ _ _ _ hat
        subst hwd
        have HW1 := Lib.hid (fun y hy => HWD.out _ _ _ _ y hT hy)
        obtain ⟨hf1, hf2⟩ := tk_ok hT
        have hnd := HND.out _ _ _ _ _ _ hat
        have HE1 := Lib.hid (HCT.out _ _ _ _ _ _ hat)
        have HE2 := Lib.hid (HCB.out _ _ _ _ _ _ hat)
        have hrr := rangeAt_below HB.out hrr
        have HISK := Lib.hid his
        obtain ⟨_, ⟨_, q', cap', rfl, _⟩, _⟩ := his
        have c0 : wr.cell? ⟨b, o + j * 5, none⟩ = some (.int .i64 op') := hrr 0 _ rfl
        have c1 : wr.cell? ⟨b, o + j * 5 + 1, none⟩ = some (.int .i64 1) := hrr 1 _ rfl
        have c2 : wr.cell? ⟨b, o + j * 5 + 2, none⟩ = some (.int .i64 n') := hrr 2 _ rfl
        have c3 : wr.cell? ⟨b, o + j * 5 + 3, none⟩ = some (.string nm') := hrr 3 _ rfl
        have c4 : wr.cell? ⟨b, o + j * 5 + 4, none⟩ = some (.slice q' k.len cap') := hrr 4 _ rfl
        have SO := Lib.hid (fun W (hW : Below w.heap.size w W) => i_eval_any V hV k op' 1 n' nm' _ _ W (HISK.out.below hW) (HV.out.below hW) hf1 hf2 (by omega))
        have hsz := HB.out.size
        have hki : (j : Int) < (F.len : Int) := by omega
        have HBA := Lib.hid (HB.out.alloc hsz (.cells #[.int .i64 op', .int .i64 1, .int .i64 n', .string nm', .slice q' k.len cap'] 69))
        clear hrr hat hf1 hf2
        cases hev : evOne V op' 1 n' nm' k with
        | none =>
          rw [hev] at SO
          have HN := Lib.hid (HE2.out (by rw [hev]; simp))
          have hr0 : evV none = .tuple #[.int .i64 0, .bool false] := rfl
          rw [hr0] at SO
          clear hev hr0 hT
          go_wp2_with fail
          refine (SO.out _ HBA.out).mono ?_
          rintro e w1 ⟨rfl, hb1⟩
          have HB1 := Lib.hid (HBA.out.trans (hb1.mono (by simp; omega)))
          clear hb1
          go_wp2
          go_ret
          exact ⟨by rw [HN.out] <;> rfl, HB1.out⟩
        | some y =>
          have hy01 := HW1.out y hev
          rw [hev] at SO
          have hr0 : evV (some y) = .tuple #[.int .i64 y, .bool true] := rfl
          rw [hr0] at SO
          rcases hy01 with rfl | rfl
          · have HN := Lib.hid (HE2.out (by rw [hev]; simp))
            clear hev hr0 hT
            go_wp2_with fail
            refine (SO.out _ HBA.out).mono ?_
            rintro e w1 ⟨rfl, hb1⟩
            have HB1 := Lib.hid (HBA.out.trans (hb1.mono (by simp; omega)))
            clear hb1
            go_wp2
            go_ret
            exact ⟨by rw [HN.out] <;> rfl, HB1.out⟩
          · have HN := Lib.hid (show cdB V (F.take (j + 1)) = true by rw [HE1.out, HCD.out, hev]; simp)
            clear hev hr0 hT
            go_wp2_with fail
            refine (SO.out _ HBA.out).mono ?_
            rintro e w1 ⟨rfl, hb1⟩
            have HB1 := Lib.hid (HBA.out.trans (hb1.mono (by simp; omega)))
            clear hb1 c0 c1 c2 c3 c4
            go_wp2
            go_roundw
            case rel => exact ⟨j + 1, by omega, by go_num, HN.out, HB1.out⟩
            case measure => simp [intOf]; omega
      · have hnj : ¬ ((j : Int) < (F.len : Int)) := by omega
        have ej : j = F.len := by omega
        have HXA := Lib.hid (show cdB V F = true by have h := HCD.out; rw [ej, HTA.out] at h; exact h)
        clear ej
        go_wp2
        go_ret
        exact ⟨by rw [HXA.out] <;> rfl, HB.out⟩
end Go.Proofs.YtpojldocjaieoaaGreatDoor
