/- What the program's HoldsPath returns, where the table lies. The law FnExactHoldsPath, walked by the contracts of all that it calls. -/
import Derived.Test.YtpojldocjaieoaaGreatDoorHmGHvI
import Derived.Test.YtpojldocjaieoaaGreatDoorHmGPaI
import Derived.Test.YtpojldocjaieoaaGreatDoorHmGInA
import Derived.Deep.RegionWith
import Derived.Test.YtpojldocjaieoaaGreatDoorHmGPf
import Derived.Test.YtpojldocjaieoaaGreatDoorHmGOpenT
import Derived.Test.YtpojldocjaieoaaGreatDoorHmGFlInt
import Derived.Test.YtpojldocjaieoaaGreatDoorHmGPaS
import Derived.Test.YtpojldocjaieoaaGreatDoorHmGReg
namespace Go.Proofs.YtpojldocjaieoaaGreatDoor
open Go.ChangeShapes Go.WideShapes Go.ChangeAt Go.RowKit
open ValueR (all costs)
set_option maxRecDepth 100000 in
set_option maxHeartbeats 1500000 in
theorem i_hpath (vw vm vi : Int) (L : List InsR) (x : PaR) (l : List Int) (s r m sk o c u li : Value) (w : World) (hs : Cs.Shows w 0 4 s L.length (InsR.all L)) (hx : PaI w 0 x r m sk o c u) (hls : Cs.Shows w 0 1 li l.length (IntL.all l)) (hok : ∀ r ∈ L, r.Ok) (hL : L.length ≤ maxLen) (hl : x.Long) (hcc : x.cost ≤ 1048576) (hll : l.length ≤ maxLen) (htab : Lib.TabIs Tryz.prog w "internal/strconv.uint64pow10" .u64 Lib.pow10Tab) :
    Calls Tryz.prog 11 #[.agg #[.int .i64 vw, .int .i64 vm, .int .i64 vi, s], .agg #[.int .i64 x.pc, r, m, sk, .int .i64 x.inn, o, .int .i64 x.cd, .int .i64 x.st, c, u], li] w fun e w' => e = .returned (.bool (hpB vw vm vi L x l)) ∧ Below w.heap.size w w' := by
  have hml : maxLen = 9223372036854775807 := rfl
  have K1 := Lib.hid (fun W (hb : Below w.heap.size w W) => i_path vw vm vi L x s r m sk o c u W (hs.below hb) (hx.below hb) hok hL hl hcc)
  have K2 := Lib.hid (fun W (hb : Below w.heap.size w W) => i_inputs vw vm vi L l s li W (hs.below hb) (hls.below hb) hok hL hll)
  have K3 := Lib.hid (fun q cap W (hb : Below w.heap.size w W) (h3 : l.length ≤ 3) => i_values vw vm vi L.length q cap l li W (hls.below hb) h3 (var_below hb htab))
  have K4 := Lib.hid (fun V (hV : VlOk V) (hF : tmB x.C 1 = true) v W (hb : Below w.heap.size w W) hv => i_pholds V hV x hF r m sk o c u v W (hx.below hb) hv hcc)
  clear htab
  obtain ⟨_, q, cap, rfl, _⟩ := hs
  obtain ⟨_, lq, lcap, rfl, _⟩ := hls
  obtain ⟨hr, hm, hsk, ho, hc, hu⟩ := hx
  have HIC := Lib.hid hc
  obtain ⟨_, ⟨_, qr, cr, rfl, _⟩, _⟩ := hr
  obtain ⟨_, ⟨_, qm, cm, rfl, _⟩, _⟩ := hm
  obtain ⟨_, qsk, csk, rfl, _⟩ := hsk
  obtain ⟨_, ⟨_, qo, co, rfl, _⟩, _⟩ := ho
  obtain ⟨_, ⟨_, qc, cc, rfl, _⟩, _⟩ := hc
  obtain ⟨_, qu, cu, rfl, _⟩ := hu
  clear HIC
  obtain ⟨V, hV⟩ : ∃ V, hpB vw vm vi L x l = V := ⟨_, rfl⟩
  rw [hV]
  unfold hpB at hV
  obtain ⟨b1, hb1⟩ : ∃ y, paB vw vm vi L x = y := ⟨_, rfl⟩
  obtain ⟨b2, hb2⟩ : ∃ y, inB vw vm vi L l = y := ⟨_, rfl⟩
  rw [hb1] at K1
  rw [hb2] at K2
  rw [hb1, hb2] at hV
  have HV := Lib.hid hV
  clear hV
  have HB0 := Lib.hid (((Below.refl w.heap.size w).alloc (Nat.le_refl _) (.cells #[.int .i64 vw, .int .i64 vm, .int .i64 vi, .slice q L.length cap] 34)).alloc (by simp) (.cells #[.int .i64 x.pc, .slice qr x.R.len cr, .slice qm x.M.len cm, .slice qsk x.S.length csk, .int .i64 x.inn, .slice qo x.O.len co, .int .i64 x.cd, .int .i64 x.st, .slice qc x.C.len cc, .slice qu x.U.length cu] 38))
  have X0 := Lib.hid ((cell4_alloc w 34 (.int .i64 vw) (.int .i64 vm) (.int .i64 vi) (.slice q L.length cap)).below ((Below.refl _ _).alloc (Nat.le_refl _) (.cells #[.int .i64 x.pc, .slice qr x.R.len cr, .slice qm x.M.len cm, .slice qsk x.S.length csk, .int .i64 x.inn, .slice qo x.O.len co, .int .i64 x.cd, .int .i64 x.st, .slice qc x.C.len cc, .slice qu x.U.length cu] 38)))
  have Y0 := Lib.hid (cell10_alloc (w.alloc (.cells #[.int .i64 vw, .int .i64 vm, .int .i64 vi, .slice q L.length cap] 34)) 38 (.int .i64 x.pc) (.slice qr x.R.len cr) (.slice qm x.M.len cm) (.slice qsk x.S.length csk) (.int .i64 x.inn) (.slice qo x.O.len co) (.int .i64 x.cd) (.int .i64 x.st) (.slice qc x.C.len cc) (.slice qu x.U.length cu))
  rw [show (w.alloc (.cells #[.int .i64 vw, .int .i64 vm, .int .i64 vi, .slice q L.length cap] 34)).heap.size = w.heap.size + 1 by simp] at Y0
  obtain ⟨w0, hw0⟩ : ∃ w0, w0 = (w.alloc (.cells #[.int .i64 vw, .int .i64 vm, .int .i64 vi, .slice q L.length cap] 34)).alloc (.cells #[.int .i64 x.pc, .slice qr x.R.len cr, .slice qm x.M.len cm, .slice qsk x.S.length csk, .int .i64 x.inn, .slice qo x.O.len co, .int .i64 x.cd, .int .i64 x.st, .slice qc x.C.len cc, .slice qu x.U.length cu] 38) := ⟨_, rfl⟩
  rw [← hw0] at HB0 X0 Y0
  go_enter Tryz.func11, Tryz.ntmps11
  go_wp2
  rw [← hw0]
  clear hw0
  have CD := Lib.hid (show Below w0.heap.size w0 w0.drew from (Below.refl _ _).drew)
  have CH := Lib.hid (Below.refl w0.drew.heap.size w0.drew)
  refine region_s [] (fun V => Below w0.drew.heap.size w0.drew V) (by kernel_rfl) ?_
  refine take_s (i := 0) (v := .agg #[.int .i64 vw, .int .i64 vm, .int .i64 vi, .slice q L.length cap]) rfl (by kernel_rfl) (fun _ _ _ h => h) CH.out rfl (fun V hV => ?_) ?_
  · obtain ⟨x0, x1, x2, x3⟩ := X0.out.below (CD.out.trans (hV.mono (Nat.le_refl _)))
    obtain ⟨y0, y1, y2, y3, y4, y5, y6, y7, y8, y9⟩ := Y0.out.below (CD.out.trans (hV.mono (Nat.le_refl _)))
    go_simp
  refine take_s (i := 1) (v := .agg #[.int .i64 x.pc, .slice qr x.R.len cr, .slice qm x.M.len cm, .slice qsk x.S.length csk, .int .i64 x.inn, .slice qo x.O.len co, .int .i64 x.cd, .int .i64 x.st, .slice qc x.C.len cc, .slice qu x.U.length cu]) rfl (by kernel_rfl) (fun _ _ _ h => h) CH.out rfl (fun V hV => ?_) ?_
  · obtain ⟨x0, x1, x2, x3⟩ := X0.out.below (CD.out.trans (hV.mono (Nat.le_refl _)))
    obtain ⟨y0, y1, y2, y3, y4, y5, y6, y7, y8, y9⟩ := Y0.out.below (CD.out.trans (hV.mono (Nat.le_refl _)))
    go_simp
  refine one_s (i := 2) (by kernel_rfl) (op_list rfl ?_)
  go_wp2_with fail
  refine (K1.out _ (HB0.out.trans ((CD.out.trans (CH.out.mono (Nat.le_refl _))).mono HB0.out.size))).mono ?_
  rintro e w1 ⟨rfl, hb⟩
  replace CH := Lib.hid (CH.out.trans (hb.mono CH.out.size))
  clear hb
  cases b1
  case false =>
    have hv : V = false := HV.out.symm
    subst hv
    go_wp2
    refine ⟨fun _ => CH.out, ?_⟩
    refine take_s (i := 3) (v := .bool false) rfl (by kernel_rfl) (fun _ _ _ h => h) CH.out rfl (fun V hV => ?_) ?_
    · go_simp
    refine skip_s (i := 4) rfl (by kernel_rfl) (fun _ _ _ h => h) CH.out rfl ?_
    refine skip_s (i := 5) rfl (by kernel_rfl) (fun _ _ _ h => h) CH.out rfl ?_
    refine one_skip (i := 6) rfl (by kernel_rfl) CH.out rfl ?_
    refine one_s (i := 7) (by kernel_rfl) (op_list rfl ?_)
    go_wp2
    refine ⟨fun _ => CH.out, ?_⟩
    refine one_s (i := 8) (by kernel_rfl) (op_list rfl ?_)
    go_wp2
    refine ⟨fun _ => CH.out, ?_⟩
    refine skip_s (i := 9) rfl (by kernel_rfl) (fun _ _ _ h => h) CH.out rfl ?_
    refine skip_s (i := 10) rfl (by kernel_rfl) (fun _ _ _ h => h) CH.out rfl ?_
    refine skip_s (i := 11) rfl (by kernel_rfl) (fun _ _ _ h => h) CH.out rfl ?_
    refine one_skip (i := 12) rfl (by kernel_rfl) CH.out rfl ?_
    refine one_skip (i := 13) rfl (by kernel_rfl) CH.out rfl ?_
    refine one_s (i := 14) (by kernel_rfl) (op_list rfl ?_)
    go_wp2
    refine ⟨fun _ => CH.out, ?_⟩
    refine one_s (i := 15) (by kernel_rfl) (op_list rfl ?_)
    go_wp2
    refine ⟨fun _ => CH.out, done_s (by kernel_rfl) ?_ _⟩
    go_wp2
    go_ret
    exact ⟨rfl, (HB0.out.trans ((CD.out.trans (CH.out.mono (Nat.le_refl _))).mono HB0.out.size))⟩
  case true =>
    go_wp2
    refine ⟨fun _ => CH.out, ?_⟩
    refine take_s (i := 3) (v := .bool true) rfl (by kernel_rfl) (fun _ _ _ h => h) CH.out rfl (fun V hV => ?_) ?_
    · go_simp
    refine take_s (i := 4) (v := .agg #[.int .i64 vw, .int .i64 vm, .int .i64 vi, .slice q L.length cap]) rfl (by kernel_rfl) (fun _ _ _ h => h) CH.out rfl (fun V hV => ?_) ?_
    · obtain ⟨x0, x1, x2, x3⟩ := X0.out.below (CD.out.trans (hV.mono (Nat.le_refl _)))
      obtain ⟨y0, y1, y2, y3, y4, y5, y6, y7, y8, y9⟩ := Y0.out.below (CD.out.trans (hV.mono (Nat.le_refl _)))
      go_simp
    refine take_s (i := 5) (v := .slice lq l.length lcap) rfl (by kernel_rfl) (fun _ _ _ h => h) CH.out rfl (fun V hV => ?_) ?_
    · obtain ⟨x0, x1, x2, x3⟩ := X0.out.below (CD.out.trans (hV.mono (Nat.le_refl _)))
      obtain ⟨y0, y1, y2, y3, y4, y5, y6, y7, y8, y9⟩ := Y0.out.below (CD.out.trans (hV.mono (Nat.le_refl _)))
      go_simp
    refine one_s (i := 6) (by kernel_rfl) (op_list rfl ?_)
    go_wp2_with fail
    refine (K2.out _ (HB0.out.trans ((CD.out.trans (CH.out.mono (Nat.le_refl _))).mono HB0.out.size))).mono ?_
    rintro e w2 ⟨rfl, hb⟩
    replace CH := Lib.hid (CH.out.trans (hb.mono CH.out.size))
    clear hb
    cases b2
    case false =>
      have hv : V = false := HV.out.symm
      subst hv
      go_wp2
      refine ⟨fun _ => CH.out, ?_⟩
      refine one_s (i := 7) (by kernel_rfl) (op_list rfl ?_)
      go_wp2
      refine ⟨fun _ => CH.out, ?_⟩
      refine one_s (i := 8) (by kernel_rfl) (op_list rfl ?_)
      go_wp2
      refine ⟨fun _ => CH.out, ?_⟩
      refine skip_s (i := 9) rfl (by kernel_rfl) (fun _ _ _ h => h) CH.out rfl ?_
      refine skip_s (i := 10) rfl (by kernel_rfl) (fun _ _ _ h => h) CH.out rfl ?_
      refine skip_s (i := 11) rfl (by kernel_rfl) (fun _ _ _ h => h) CH.out rfl ?_
      refine one_skip (i := 12) rfl (by kernel_rfl) CH.out rfl ?_
      refine one_skip (i := 13) rfl (by kernel_rfl) CH.out rfl ?_
      refine one_s (i := 14) (by kernel_rfl) (op_list rfl ?_)
      go_wp2
      refine ⟨fun _ => CH.out, ?_⟩
      refine one_s (i := 15) (by kernel_rfl) (op_list rfl ?_)
      go_wp2
      refine ⟨fun _ => CH.out, done_s (by kernel_rfl) ?_ _⟩
      go_wp2
      go_ret
      exact ⟨rfl, (HB0.out.trans ((CD.out.trans (CH.out.mono (Nat.le_refl _))).mono HB0.out.size))⟩
    case true =>
      have KV := Lib.hid (fun W hb => K3.out q cap W hb (in_facts hb2).1)
      have KE := Lib.hid (K4.out (inV vw l) (inV_ok hb2) (pa_tm hb1).2.2.2)
      obtain ⟨VL, hVL⟩ : ∃ VL, inV vw l = VL := ⟨_, rfl⟩
      rw [hVL] at KV KE HV
      clear hVL K3 K4 hb1 hb2 K1 K2
      obtain ⟨BB, hBB⟩ : ∃ R, cdB VL x.C = R := ⟨_, rfl⟩
      rw [hBB] at KE HV
      clear hBB
      unfold ValEnd at KV
      have hv : BB = V := HV.out
      subst hv
      go_wp2
      refine ⟨fun _ => CH.out, ?_⟩
      refine take_s (i := 7) (v := .bool true) rfl (by kernel_rfl) (fun _ _ _ h => h) CH.out rfl (fun V hV => ?_) ?_
      · go_simp
      refine take_s (i := 8) (v := .bool true) rfl (by kernel_rfl) (fun _ _ _ h => h) CH.out rfl (fun V hV => ?_) ?_
      · go_simp
      refine take_s (i := 9) (v := .agg #[.int .i64 x.pc, .slice qr x.R.len cr, .slice qm x.M.len cm, .slice qsk x.S.length csk, .int .i64 x.inn, .slice qo x.O.len co, .int .i64 x.cd, .int .i64 x.st, .slice qc x.C.len cc, .slice qu x.U.length cu]) rfl (by kernel_rfl) (fun _ _ _ h => h) CH.out rfl (fun V hV => ?_) ?_
      · obtain ⟨x0, x1, x2, x3⟩ := X0.out.below (CD.out.trans (hV.mono (Nat.le_refl _)))
        obtain ⟨y0, y1, y2, y3, y4, y5, y6, y7, y8, y9⟩ := Y0.out.below (CD.out.trans (hV.mono (Nat.le_refl _)))
        go_simp
      refine take_s (i := 10) (v := .agg #[.int .i64 vw, .int .i64 vm, .int .i64 vi, .slice q L.length cap]) rfl (by kernel_rfl) (fun _ _ _ h => h) CH.out rfl (fun V hV => ?_) ?_
      · obtain ⟨x0, x1, x2, x3⟩ := X0.out.below (CD.out.trans (hV.mono (Nat.le_refl _)))
        obtain ⟨y0, y1, y2, y3, y4, y5, y6, y7, y8, y9⟩ := Y0.out.below (CD.out.trans (hV.mono (Nat.le_refl _)))
        go_simp
      refine take_s (i := 11) (v := .slice lq l.length lcap) rfl (by kernel_rfl) (fun _ _ _ h => h) CH.out rfl (fun V hV => ?_) ?_
      · obtain ⟨x0, x1, x2, x3⟩ := X0.out.below (CD.out.trans (hV.mono (Nat.le_refl _)))
        obtain ⟨y0, y1, y2, y3, y4, y5, y6, y7, y8, y9⟩ := Y0.out.below (CD.out.trans (hV.mono (Nat.le_refl _)))
        go_simp
      refine one_s (i := 12) (by kernel_rfl) (op_list rfl ?_)
      go_wp2_with fail
      refine (KV.out _ (HB0.out.trans ((CD.out.trans (CH.out.mono (Nat.le_refl _))).mono HB0.out.size))).mono ?_
      rintro e w3 ⟨hb, q3, c3, rfl, hsh⟩
      replace CH := Lib.hid (CH.out.trans (hb.mono CH.out.size))
      have KE2 := Lib.hid (KE.out _ w3 (HB0.out.trans ((CD.out.trans (CH.out.mono (Nat.le_refl _))).mono HB0.out.size)) hsh)
      clear hb hsh
      go_wp2
      refine ⟨fun _ => CH.out, ?_⟩
      refine one_s (i := 13) (by kernel_rfl) (op_list rfl ?_)
      go_wp2_with fail
      refine KE2.out.mono ?_
      rintro e w4 ⟨rfl, hb⟩
      replace CH := Lib.hid (CH.out.trans (hb.mono CH.out.size))
      clear hb
      go_wp2
      refine ⟨fun _ => CH.out, ?_⟩
      refine one_s (i := 14) (by kernel_rfl) (op_list rfl ?_)
      go_wp2
      refine ⟨fun _ => CH.out, ?_⟩
      refine one_s (i := 15) (by kernel_rfl) (op_list rfl ?_)
      go_wp2
      refine ⟨fun _ => CH.out, done_s (by kernel_rfl) ?_ _⟩
      go_wp2
      go_ret
      exact ⟨rfl, (HB0.out.trans ((CD.out.trans (CH.out.mono (Nat.le_refl _))).mono HB0.out.size))⟩
end Go.Proofs.YtpojldocjaieoaaGreatDoor
namespace Go.Proofs.YtpojldocjaieoaaGreatDoor
open Go.ChangeShapes Go.WideShapes Go.ChangeAt Go.RowKit
set_option maxRecDepth 100000 in
set_option maxHeartbeats 4000000 in
theorem law_FnExactHoldsPath (vw0 vm0 vi0 : Int) (L0 : List InsR) (s0 : Value) (x1 : PaR) (r1 m1 s1 o1 c1 u1 : Value) (L2 : List Int) (s2 : Value) (w : World) (hs0 : Cs.Shows w 0 4 s0 L0.length (InsR.all L0)) (hok0 : (-9223372036854775808 ≤ vw0 ∧ vw0 ≤ 9223372036854775807) ∧ (-9223372036854775808 ≤ vm0 ∧ vm0 ≤ 9223372036854775807) ∧ (-9223372036854775808 ≤ vi0 ∧ vi0 ≤ 9223372036854775807) ∧ (∀ r ∈ L0, r.Ok) ∧ L0.length ≤ maxLen) (hs1 : PaS w 0 x1 r1 m1 s1 o1 c1 u1) (hok1 : x1.Ok) (hl1 : x1.Long) (hs2 : Cs.Shows w 0 1 s2 L2.length (IntL.all L2)) (hok2 : ∀ x ∈ L2, IntL.Ok x) (hl2 : L2.length ≤ maxLen) (htab : Lib.TabIs Tryz.prog w "internal/strconv.uint64pow10" .u64 Lib.pow10Tab) :
    Calls Tryz.prog 3 #[.agg #[.int .i64 vw0, .int .i64 vm0, .int .i64 vi0, s0], .agg #[.int .i64 x1.pc, r1, m1, s1, .int .i64 x1.inn, o1, .int .i64 x1.cd, .int .i64 x1.st, c1, u1], s2] w fun e w' => e = .returned (.bool true) ∧ Below w.heap.size w w' := by
  have hml : maxLen = 9223372036854775807 := rfl
  have IS0 := Lib.hid hs0
  have OK0 := Lib.hid hok0
  obtain ⟨_, q0, cap0, rfl, _⟩ := hs0
  clear hok0
  have IS1 := Lib.hid hs1
  have OK1 := Lib.hid hok1
  have LE1 := Lib.hid hl1
  obtain ⟨⟨_, ⟨_, qr1, cr1, rfl, _⟩, _⟩, ⟨_, ⟨_, qm1, cm1, rfl, _⟩, _⟩, ⟨_, qs1, cs1, rfl, _⟩, ⟨_, ⟨_, qo1, co1, rfl, _⟩, _⟩, ⟨_, ⟨_, qc1, cc1, rfl, _⟩, _⟩, ⟨_, qu1, cu1, rfl, _⟩⟩ := hs1
  clear hok1 hl1
  have IS2 := Lib.hid hs2
  have OK2 := Lib.hid hok2
  obtain ⟨_, q2, cap2, rfl, _⟩ := hs2
  clear hok2
  by_cases hlen2 : L2.length ≤ 1048576
  · have hleni2 : ¬ ((1048576 : Int) < (L2.length : Int)) := by omega
    have SZ0 := Lib.hid (fun W (h : Cs.Shows W 0 4 (.slice q0 L0.length cap0) L0.length (InsR.all L0)) => sz_Program vw0 vm0 vi0 L0 _ 1048576 W (by omega) h OK0.out.2.2.2.1 OK0.out.2.2.2.2)
    by_cases hc0 : (InsR.costs L0) ≤ 1048576
    · obtain ⟨l0, hl0, hm0⟩ : ∃ l : Nat, left 1048576 (InsR.costs L0) = (l : Int) ∧ l + (InsR.costs L0) = 1048576 := ⟨1048576 - (InsR.costs L0), by unfold left; rw [if_pos hc0]; omega, by omega⟩
      rw [hl0] at SZ0
      have hq0 : l0 ≤ 1048576 := by omega
      clear hl0 hm0
      have SZ1 := Lib.hid (fun W (h : PaS W 0 x1 (.slice qr1 x1.R.len cr1) (.slice qm1 x1.M.len cm1) (.slice qs1 x1.S.length cs1) (.slice qo1 x1.O.len co1) (.slice qc1 x1.C.len cc1) (.slice qu1 x1.U.length cu1)) => sz_Path x1 _ _ _ _ _ _ l0 W (by omega) h OK1.out LE1.out)
      by_cases hc1 : x1.cost ≤ l0
      · obtain ⟨l1, hl1, hm1⟩ : ∃ l : Nat, left l0 x1.cost = (l : Int) ∧ l + x1.cost = l0 := ⟨l0 - x1.cost, by unfold left; rw [if_pos hc1]; omega, by omega⟩
        rw [hl1] at SZ1
        have hq1 : l1 ≤ 1048576 := by omega
        clear hl1 hm1
        have hnl0 := InsR.len_le L0
        have hlc0 : L0.length ≤ 1048576 := by omega
        have hcc0 : InsR.costs L0 ≤ 1048576 := by omega
        clear hnl0
        have hxx1 : x1.cost = x1.R.cost + x1.M.cost + x1.S.length + x1.O.cost + x1.C.cost + x1.U.length := rfl
        have hcc1 : x1.cost ≤ 1048576 := by omega
        have hnR1 := x1.R.nodes_le
        have hnM1 := x1.M.nodes_le
        have hnO1 := x1.O.nodes_le
        have hnC1 := x1.C.nodes_le
        have hlR1 := x1.R.len_le
        have hlM1 := x1.M.len_le
        have hlO1 := x1.O.len_le
        have hlC1 := x1.C.len_le
        have NB1 := Lib.hid (show x1.R.nodes ≤ 1048576 ∧ x1.M.nodes ≤ 1048576 ∧ x1.S.length ≤ 1048576 ∧ x1.O.nodes ≤ 1048576 ∧ x1.C.nodes ≤ 1048576 ∧ x1.U.length ≤ 1048576 from ⟨by omega, by omega, by omega, by omega, by omega, by omega⟩)
        have NE1 := Lib.hid (show x1.R.nodes ≤ 2097152 ∧ x1.M.nodes ≤ 2097152 ∧ x1.S.length ≤ 2097152 ∧ x1.O.nodes ≤ 2097152 ∧ x1.C.nodes ≤ 2097152 ∧ x1.U.length ≤ 2097152 from ⟨by omega, by omega, by omega, by omega, by omega, by omega⟩)
        clear hnR1 hlR1
        clear hnM1 hlM1
        clear hnO1 hlO1
        clear hnC1 hlC1
        have hll2 : L2.length ≤ maxLen := by omega
        obtain ⟨B, hB⟩ : ∃ B, hpB vw0 vm0 vi0 L0 x1 L2 = B := ⟨_, rfl⟩
        have KS := Lib.hid (fun s r m sk o c u s' W h h' h2 => s_hpath vw0 vm0 vi0 L0 x1 L2 s r m sk o c u s' W h h' h2 OK0.out.2.2.2.1 OK0.out.2.2.2.2 LE1.out hcc1 hll2)
        have KI := Lib.hid (fun s r m sk o c u s' W h h' h2 (hb : Below w.heap.size w W) => i_hpath vw0 vm0 vi0 L0 x1 L2 s r m sk o c u s' W h h' h2 OK0.out.2.2.2.1 OK0.out.2.2.2.2 LE1.out hcc1 hll2 (var_below hb htab))
        rw [hB] at KS KI
        clear hB htab
        clear hc0
        clear hc1
        go_enter Tryz.func3, Tryz.ntmps3
        have C0 := Lib.hid (Below.refl w.heap.size w)
        obtain ⟨w1, hW⟩ : ∃ W, W = w.alloc (.cells #[.int .i64 vw0, .int .i64 vm0, .int .i64 vi0, .slice q0 L0.length cap0] 24) := ⟨_, rfl⟩
        have hb : Below w.heap.size w w1 := by rw [hW]; exact (Below.refl _ _).alloc (Nat.le_refl _) _
        have Ba0 := Lib.hid (show Cell4 w1 w.heap.size (.int .i64 vw0) (.int .i64 vm0) (.int .i64 vi0) (.slice q0 L0.length cap0) by rw [hW]; exact cell4_alloc _ _ _ _ _ _)
        have HW := Lib.hid hW
        clear hW
        replace C0 := Lib.hid (C0.out.trans (hb.mono C0.out.size))
        clear hb
        have C1 := Lib.hid (Below.refl w1.heap.size w1)
        have hV := HW.out
        clear HW
        obtain ⟨w2, hW⟩ : ∃ W, W = w1.alloc (.cells #[.int .i64 x1.pc, .slice qr1 x1.R.len cr1, .slice qm1 x1.M.len cm1, .slice qs1 x1.S.length cs1, .int .i64 x1.inn, .slice qo1 x1.O.len co1, .int .i64 x1.cd, .int .i64 x1.st, .slice qc1 x1.C.len cc1, .slice qu1 x1.U.length cu1] 28) := ⟨_, rfl⟩
        have hb : Below w1.heap.size w1 w2 := by rw [hW]; exact (Below.refl _ _).alloc (Nat.le_refl _) _
        have Ba1 := Lib.hid (show Cell10 w2 w1.heap.size (.int .i64 x1.pc) (.slice qr1 x1.R.len cr1) (.slice qm1 x1.M.len cm1) (.slice qs1 x1.S.length cs1) (.int .i64 x1.inn) (.slice qo1 x1.O.len co1) (.int .i64 x1.cd) (.int .i64 x1.st) (.slice qc1 x1.C.len cc1) (.slice qu1 x1.U.length cu1) by rw [hW]; exact cell10_alloc _ _ _ _ _ _ _ _ _ _ _ _)
        have hS : w1.heap.size = w.heap.size + 1 := by rw [hV]; simp
        rw [hS] at Ba1
        rw [hV] at hW
        clear hV hS
        have HW := Lib.hid hW
        clear hW
        replace C0 := Lib.hid (C0.out.trans (hb.mono C0.out.size))
        replace C1 := Lib.hid (C1.out.trans (hb.mono C1.out.size))
        clear hb
        have C2 := Lib.hid (Below.refl w2.heap.size w2)
        go_wp2_with fail
        rw [← HW.out]
        clear HW
        refine (SZ0.out _ (IS0.out.below C0.out)).mono ?_
        rintro e w3 ⟨rfl, hb⟩
        replace C0 := Lib.hid (C0.out.trans (hb.mono C0.out.size))
        replace C1 := Lib.hid (C1.out.trans (hb.mono C1.out.size))
        replace C2 := Lib.hid (C2.out.trans (hb.mono C2.out.size))
        clear hb
        obtain ⟨z0_0, z0_1, z0_2, z0_3, z0_4, z0_5, z0_6, z0_7, z0_8, z0_9⟩ := (Ba1.out.below C2.out)
        go_wp2_with fail
        clear z0_0 z0_1 z0_2 z0_3 z0_4 z0_5 z0_6 z0_7 z0_8 z0_9
        refine (SZ1.out _ (IS1.out.below C0.out)).mono ?_
        rintro e w4 ⟨rfl, hb⟩
        replace C0 := Lib.hid (C0.out.trans (hb.mono C0.out.size))
        replace C1 := Lib.hid (C1.out.trans (hb.mono C1.out.size))
        replace C2 := Lib.hid (C2.out.trans (hb.mono C2.out.size))
        clear hb
        go_wp2
        replace C0 := Lib.hid C0.out.drew
        replace C1 := Lib.hid C1.out.drew
        replace C2 := Lib.hid C2.out.drew
        have C3 := Lib.hid (Below.refl w4.drew.heap.size w4.drew)
        refine region_s [] (fun V => Below w4.drew.heap.size w4.drew V) (by kernel_rfl) ?_
        refine take_s (i := 0) (v := .agg #[.int .i64 vw0, .int .i64 vm0, .int .i64 vi0, .slice q0 L0.length cap0]) rfl (by kernel_rfl) (fun _ _ _ h => h) C3.out rfl (fun V hV => ?_) ?_
        · obtain ⟨z0, z1, z2, z3⟩ := (Ba0.out.below C1.out).below hV
          go_simp
        refine take_s (i := 2) (v := .agg #[.int .i64 x1.pc, .slice qr1 x1.R.len cr1, .slice qm1 x1.M.len cm1, .slice qs1 x1.S.length cs1, .int .i64 x1.inn, .slice qo1 x1.O.len co1, .int .i64 x1.cd, .int .i64 x1.st, .slice qc1 x1.C.len cc1, .slice qu1 x1.U.length cu1]) rfl (by kernel_rfl) (fun _ _ _ h => h) C3.out rfl (fun V hV => ?_) ?_
        · obtain ⟨z0, z1, z2, z3, z4, z5, z6, z7, z8, z9⟩ := (Ba1.out.below C2.out).below hV
          go_simp
        refine take_s (i := 4) (v := .slice q2 L2.length cap2) rfl (by kernel_rfl) (fun _ _ _ h => h) C3.out rfl (fun V hV => ?_) ?_
        · go_simp
        refine one_s (i := 1) (by kernel_rfl) (op_list rfl ?_)
        go_wp2_with fail
        refine (to_Program vw0 vm0 vi0 L0 _ _ (IS0.out.below C0.out) (by omega)).mono ?_
        rintro e w5 ⟨gp0, rfl, hh, hb⟩
        have Hp0 := Lib.hid hh
        clear hh
        replace C0 := Lib.hid (C0.out.trans (hb.mono C0.out.size))
        replace C1 := Lib.hid (C1.out.trans (hb.mono C1.out.size))
        replace C2 := Lib.hid (C2.out.trans (hb.mono C2.out.size))
        replace C3 := Lib.hid (C3.out.trans (hb.mono C3.out.size))
        clear hb
        have C4 := Lib.hid (Below.refl w5.heap.size w5)
        go_wp2
        refine ⟨fun _ => C3.out, ?_⟩
        refine one_s (i := 3) (by kernel_rfl) (op_list rfl ?_)
        go_wp2_with fail
        refine (to_Path x1 _ _ _ _ _ _ _ (IS1.out.below C0.out) NB1.out).mono ?_
        rintro e w6 ⟨grp1, gmp1, gsp1, gop1, gcp1, gup1, Bp1, rfl, hh, hb⟩
        have Hp1 := Lib.hid hh
        clear hh
        replace C0 := Lib.hid (C0.out.trans (hb.mono C0.out.size))
        replace C1 := Lib.hid (C1.out.trans (hb.mono C1.out.size))
        replace C2 := Lib.hid (C2.out.trans (hb.mono C2.out.size))
        replace C3 := Lib.hid (C3.out.trans (hb.mono C3.out.size))
        replace C4 := Lib.hid (C4.out.trans (hb.mono C4.out.size))
        clear hb
        have C5 := Lib.hid (Below.refl w6.heap.size w6)
        go_wp2
        refine ⟨fun _ => C3.out, ?_⟩
        refine one_s (i := 5) (by kernel_rfl) (op_list rfl ?_)
        go_wp2_with fail
        refine (to_Int L2 _ _ (IS2.out.below C0.out) (by omega)).mono ?_
        rintro e w7 ⟨gp2, rfl, hh, hb⟩
        have Hp2 := Lib.hid hh
        clear hh
        replace C0 := Lib.hid (C0.out.trans (hb.mono C0.out.size))
        replace C1 := Lib.hid (C1.out.trans (hb.mono C1.out.size))
        replace C2 := Lib.hid (C2.out.trans (hb.mono C2.out.size))
        replace C3 := Lib.hid (C3.out.trans (hb.mono C3.out.size))
        replace C4 := Lib.hid (C4.out.trans (hb.mono C4.out.size))
        replace C5 := Lib.hid (C5.out.trans (hb.mono C5.out.size))
        clear hb
        have C6 := Lib.hid (Below.refl w7.heap.size w7)
        go_wp2
        refine ⟨fun _ => C3.out, ?_⟩
        refine one_s (i := 6) (by kernel_rfl) (op_list rfl ?_)
        go_wp2_with fail
        refine (KS.out _ _ _ _ _ _ _ _ _ ((Cs.shows_of_owns (own_keep Hp0.out C4.out)).down (Nat.zero_le _)) ((Hp1.out.keep C5.out).shows) ((Cs.shows_of_owns (own_keep Hp2.out C6.out)).down (Nat.zero_le _))).mono ?_
        rintro e w8 ⟨rfl, hb⟩
        replace C0 := Lib.hid (C0.out.trans (hb.mono C0.out.size))
        replace C1 := Lib.hid (C1.out.trans (hb.mono C1.out.size))
        replace C2 := Lib.hid (C2.out.trans (hb.mono C2.out.size))
        replace C3 := Lib.hid (C3.out.trans (hb.mono C3.out.size))
        replace C4 := Lib.hid (C4.out.trans (hb.mono C4.out.size))
        replace C5 := Lib.hid (C5.out.trans (hb.mono C5.out.size))
        replace C6 := Lib.hid (C6.out.trans (hb.mono C6.out.size))
        clear hb
        go_wp2
        refine ⟨fun _ => C3.out, ?_⟩
        refine one_s (i := 7) (by kernel_rfl) (op_list rfl ?_)
        go_wp2
        refine ⟨fun _ => C3.out, done_s (by kernel_rfl) ?_ _⟩
        clear C3
        clear C4
        clear C5
        clear C6
        obtain ⟨z0_0, z0_1, z0_2, z0_3⟩ := (Ba0.out.below C1.out)
        go_wp2_with fail
        clear z0_0 z0_1 z0_2 z0_3
        have Zx0C0 := Lib.hid C0.out.size
        have Zx0C1 := Lib.hid C1.out.size
        have Zx0C2 := Lib.hid C2.out.size
        refine (to_Program vw0 vm0 vi0 L0 _ _ (IS0.out.below C0.out) (by omega)).mono ?_
        rintro e w9 ⟨gx0, rfl, hh, hb⟩
        have Hx0 := Lib.hid hh
        clear hh
        replace C0 := Lib.hid (C0.out.trans (hb.mono C0.out.size))
        replace C1 := Lib.hid (C1.out.trans (hb.mono C1.out.size))
        replace C2 := Lib.hid (C2.out.trans (hb.mono C2.out.size))
        clear hb
        have C7 := Lib.hid (Below.refl w9.heap.size w9)
        obtain ⟨yy0, yy1, yy2, yy3, yy4, yy5, yy6, yy7, yy8, yy9⟩ := (Ba1.out.below C2.out)
        have hyl := World.block_lt_of_cell? _ _ yy0
        obtain ⟨w10, hW⟩ : ∃ W, W = w9.alloc (.cells #[.int .i64 vw0, .int .i64 vm0, .int .i64 vi0, .slice (some ⟨gx0, 0, none⟩) L0.length L0.length] 34) := ⟨_, rfl⟩
        have hb : Below w9.heap.size w9 w10 := by rw [hW]; exact (Below.refl _ _).alloc (Nat.le_refl _) _
        have Bx0 := Lib.hid (show Cell4 w10 w9.heap.size (.int .i64 vw0) (.int .i64 vm0) (.int .i64 vi0) (.slice (some ⟨gx0, 0, none⟩) L0.length L0.length) by rw [hW]; exact cell4_alloc _ _ _ _ _ _)
        have HW := Lib.hid hW
        clear hW
        replace C0 := Lib.hid (C0.out.trans (hb.mono C0.out.size))
        replace C1 := Lib.hid (C1.out.trans (hb.mono C1.out.size))
        replace C2 := Lib.hid (C2.out.trans (hb.mono C2.out.size))
        replace C7 := Lib.hid (C7.out.trans (hb.mono C7.out.size))
        clear hb
        have C8 := Lib.hid (Below.refl w10.heap.size w10)
        go_wp2_with fail
        rw [← HW.out]
        clear HW
        clear yy0 yy1 yy2 yy3 yy4 yy5 yy6 yy7 yy8 yy9 hyl
        have Zx1C0 := Lib.hid C0.out.size
        have Zx1C1 := Lib.hid C1.out.size
        have Zx1C2 := Lib.hid C2.out.size
        have Qx0x1 := Lib.hid C7.out.size
        refine (to_Path x1 _ _ _ _ _ _ _ (IS1.out.below C0.out) NB1.out).mono ?_
        rintro e w11 ⟨grx1, gmx1, gsx1, gox1, gcx1, gux1, Bx1, rfl, hh, hb⟩
        have Hx1 := Lib.hid hh
        clear hh
        replace C0 := Lib.hid (C0.out.trans (hb.mono C0.out.size))
        replace C1 := Lib.hid (C1.out.trans (hb.mono C1.out.size))
        replace C2 := Lib.hid (C2.out.trans (hb.mono C2.out.size))
        replace C7 := Lib.hid (C7.out.trans (hb.mono C7.out.size))
        replace C8 := Lib.hid (C8.out.trans (hb.mono C8.out.size))
        clear hb
        have C9 := Lib.hid (Below.refl w11.heap.size w11)
        obtain ⟨yy0_0, yy0_1, yy0_2, yy0_3⟩ := (Bx0.out.below C8.out)
        have hyl0 := World.block_lt_of_cell? _ _ yy0_0
        obtain ⟨w12, hW⟩ : ∃ W, W = w11.alloc (.cells #[.int .i64 x1.pc, .slice (some ⟨grx1, 0, none⟩) x1.R.len x1.R.len, .slice (some ⟨gmx1, 0, none⟩) x1.M.len x1.M.len, .slice (some ⟨gsx1, 0, none⟩) x1.S.length x1.S.length, .int .i64 x1.inn, .slice (some ⟨gox1, 0, none⟩) x1.O.len x1.O.len, .int .i64 x1.cd, .int .i64 x1.st, .slice (some ⟨gcx1, 0, none⟩) x1.C.len x1.C.len, .slice (some ⟨gux1, 0, none⟩) x1.U.length x1.U.length] 38) := ⟨_, rfl⟩
        have hb : Below w11.heap.size w11 w12 := by rw [hW]; exact (Below.refl _ _).alloc (Nat.le_refl _) _
        have Bx1 := Lib.hid (show Cell10 w12 w11.heap.size (.int .i64 x1.pc) (.slice (some ⟨grx1, 0, none⟩) x1.R.len x1.R.len) (.slice (some ⟨gmx1, 0, none⟩) x1.M.len x1.M.len) (.slice (some ⟨gsx1, 0, none⟩) x1.S.length x1.S.length) (.int .i64 x1.inn) (.slice (some ⟨gox1, 0, none⟩) x1.O.len x1.O.len) (.int .i64 x1.cd) (.int .i64 x1.st) (.slice (some ⟨gcx1, 0, none⟩) x1.C.len x1.C.len) (.slice (some ⟨gux1, 0, none⟩) x1.U.length x1.U.length) by rw [hW]; exact cell10_alloc _ _ _ _ _ _ _ _ _ _ _ _)
        have HW := Lib.hid hW
        clear hW
        replace C0 := Lib.hid (C0.out.trans (hb.mono C0.out.size))
        replace C1 := Lib.hid (C1.out.trans (hb.mono C1.out.size))
        replace C2 := Lib.hid (C2.out.trans (hb.mono C2.out.size))
        replace C7 := Lib.hid (C7.out.trans (hb.mono C7.out.size))
        replace C8 := Lib.hid (C8.out.trans (hb.mono C8.out.size))
        replace C9 := Lib.hid (C9.out.trans (hb.mono C9.out.size))
        clear hb
        have C10 := Lib.hid (Below.refl w12.heap.size w12)
        go_wp2_with fail
        rw [← HW.out]
        clear HW
        clear yy0_0 yy0_1 yy0_2 yy0_3 hyl0
        have Zx2C0 := Lib.hid C0.out.size
        have Zx2C1 := Lib.hid C1.out.size
        have Zx2C2 := Lib.hid C2.out.size
        have Qx0x2 := Lib.hid C7.out.size
        have Qx1x2 := Lib.hid C9.out.size
        refine (to_Int L2 _ _ (IS2.out.below C0.out) (by omega)).mono ?_
        rintro e w13 ⟨gx2, rfl, hh, hb⟩
        have Hx2 := Lib.hid hh
        clear hh
        replace C0 := Lib.hid (C0.out.trans (hb.mono C0.out.size))
        replace C1 := Lib.hid (C1.out.trans (hb.mono C1.out.size))
        replace C2 := Lib.hid (C2.out.trans (hb.mono C2.out.size))
        replace C7 := Lib.hid (C7.out.trans (hb.mono C7.out.size))
        replace C8 := Lib.hid (C8.out.trans (hb.mono C8.out.size))
        replace C9 := Lib.hid (C9.out.trans (hb.mono C9.out.size))
        replace C10 := Lib.hid (C10.out.trans (hb.mono C10.out.size))
        clear hb
        have C11 := Lib.hid (Below.refl w13.heap.size w13)
        obtain ⟨z0_0, z0_1, z0_2, z0_3⟩ := (Bx0.out.below C8.out)
        obtain ⟨z1_0, z1_1, z1_2, z1_3, z1_4, z1_5, z1_6, z1_7, z1_8, z1_9⟩ := (Bx1.out.below C10.out)
        go_wp2_with fail
        clear z0_0 z0_1 z0_2 z0_3 z1_0 z1_1 z1_2 z1_3 z1_4 z1_5 z1_6 z1_7 z1_8 z1_9
        refine (KI.out _ _ _ _ _ _ _ _ _ ((Cs.shows_of_owns (own_keep Hx0.out C7.out)).down (Nat.zero_le _)) ((Hx1.out.keep C9.out).shows) ((Cs.shows_of_owns (own_keep Hx2.out C11.out)).down (Nat.zero_le _)) C0.out).mono ?_
        rintro e w14 ⟨rfl, hb⟩
        replace C0 := Lib.hid (C0.out.trans (hb.mono C0.out.size))
        replace C1 := Lib.hid (C1.out.trans (hb.mono C1.out.size))
        replace C2 := Lib.hid (C2.out.trans (hb.mono C2.out.size))
        replace C7 := Lib.hid (C7.out.trans (hb.mono C7.out.size))
        replace C8 := Lib.hid (C8.out.trans (hb.mono C8.out.size))
        replace C9 := Lib.hid (C9.out.trans (hb.mono C9.out.size))
        replace C10 := Lib.hid (C10.out.trans (hb.mono C10.out.size))
        replace C11 := Lib.hid (C11.out.trans (hb.mono C11.out.size))
        clear hb
        obtain ⟨z0_0, z0_1, z0_2, z0_3⟩ := (Ba0.out.below C1.out)
        obtain ⟨z1_0, z1_1, z1_2, z1_3⟩ := (Bx0.out.below C8.out)
        go_wp2
        go_region_with (first | (go_at_call 8; replace C0 := Lib.hid C0.out.drew; replace C1 := Lib.hid C1.out.drew; replace C2 := Lib.hid C2.out.drew; replace C7 := Lib.hid C7.out.drew; replace C8 := Lib.hid C8.out.drew; replace C9 := Lib.hid C9.out.drew; replace C10 := Lib.hid C10.out.drew; replace C11 := Lib.hid C11.out.drew; refine (to_Program vw0 vm0 vi0 L0 _ _ (IS0.out.below C0.out) (by omega)).mono ?_; rintro e w15 ⟨ge0, rfl, hh, hb⟩; replace C0 := Lib.hid (C0.out.trans (hb.mono C0.out.size)); replace C1 := Lib.hid (C1.out.trans (hb.mono C1.out.size)); replace C2 := Lib.hid (C2.out.trans (hb.mono C2.out.size)); replace C7 := Lib.hid (C7.out.trans (hb.mono C7.out.size)); replace C8 := Lib.hid (C8.out.trans (hb.mono C8.out.size)); replace C9 := Lib.hid (C9.out.trans (hb.mono C9.out.size)); replace C10 := Lib.hid (C10.out.trans (hb.mono C10.out.size)); replace C11 := Lib.hid (C11.out.trans (hb.mono C11.out.size)); have HR := Lib.hid ((Cs.shows_of_owns hh).down (Nat.zero_le _)); obtain ⟨z1_0, z1_1, z1_2, z1_3⟩ := (Bx0.out.below C8.out); clear hh hb) | (go_at_call 12; refine (eq_Program vw0 vm0 vi0 L0 _ _ _ ((Cs.shows_of_owns (own_keep Hx0.out C7.out)).down (Nat.zero_le _)) HR.out (by omega)).mono ?_; rintro e w16 ⟨rfl, hb⟩; replace C0 := Lib.hid (C0.out.trans (hb.mono C0.out.size)); replace C1 := Lib.hid (C1.out.trans (hb.mono C1.out.size)); replace C2 := Lib.hid (C2.out.trans (hb.mono C2.out.size)); replace C7 := Lib.hid (C7.out.trans (hb.mono C7.out.size)); replace C8 := Lib.hid (C8.out.trans (hb.mono C8.out.size)); replace C9 := Lib.hid (C9.out.trans (hb.mono C9.out.size)); replace C10 := Lib.hid (C10.out.trans (hb.mono C10.out.size)); replace C11 := Lib.hid (C11.out.trans (hb.mono C11.out.size)); clear hb HR))
        all_goals
          clear z0_0 z0_1 z0_2 z0_3 z1_0 z1_1 z1_2 z1_3
          obtain ⟨z0_0, z0_1, z0_2, z0_3, z0_4, z0_5, z0_6, z0_7, z0_8, z0_9⟩ := (Ba1.out.below C2.out)
          obtain ⟨z1_0, z1_1, z1_2, z1_3, z1_4, z1_5, z1_6, z1_7, z1_8, z1_9⟩ := (Bx1.out.below C10.out)
          go_wp2
          go_region_with (first | (go_at_call 9; replace C0 := Lib.hid C0.out.drew; replace C1 := Lib.hid C1.out.drew; replace C2 := Lib.hid C2.out.drew; replace C7 := Lib.hid C7.out.drew; replace C8 := Lib.hid C8.out.drew; replace C9 := Lib.hid C9.out.drew; replace C10 := Lib.hid C10.out.drew; replace C11 := Lib.hid C11.out.drew; refine (to_Path x1 _ _ _ _ _ _ _ (IS1.out.below C0.out) NB1.out).mono ?_; rintro e w17 ⟨gre1, gme1, gse1, goe1, gce1, gue1, Be1, rfl, hh, hb⟩; replace C0 := Lib.hid (C0.out.trans (hb.mono C0.out.size)); replace C1 := Lib.hid (C1.out.trans (hb.mono C1.out.size)); replace C2 := Lib.hid (C2.out.trans (hb.mono C2.out.size)); replace C7 := Lib.hid (C7.out.trans (hb.mono C7.out.size)); replace C8 := Lib.hid (C8.out.trans (hb.mono C8.out.size)); replace C9 := Lib.hid (C9.out.trans (hb.mono C9.out.size)); replace C10 := Lib.hid (C10.out.trans (hb.mono C10.out.size)); replace C11 := Lib.hid (C11.out.trans (hb.mono C11.out.size)); have HR := Lib.hid (hh.shows); obtain ⟨z1_0, z1_1, z1_2, z1_3, z1_4, z1_5, z1_6, z1_7, z1_8, z1_9⟩ := (Bx1.out.below C10.out); clear hh hb) | (go_at_call 13; refine (eq_Path x1 _ _ _ _ _ _ _ _ _ _ _ _ _ ((Hx1.out.keep C9.out).shows) HR.out NE1.out).mono ?_; rintro e w18 ⟨rfl, hb⟩; replace C0 := Lib.hid (C0.out.trans (hb.mono C0.out.size)); replace C1 := Lib.hid (C1.out.trans (hb.mono C1.out.size)); replace C2 := Lib.hid (C2.out.trans (hb.mono C2.out.size)); replace C7 := Lib.hid (C7.out.trans (hb.mono C7.out.size)); replace C8 := Lib.hid (C8.out.trans (hb.mono C8.out.size)); replace C9 := Lib.hid (C9.out.trans (hb.mono C9.out.size)); replace C10 := Lib.hid (C10.out.trans (hb.mono C10.out.size)); replace C11 := Lib.hid (C11.out.trans (hb.mono C11.out.size)); clear hb HR))
          all_goals
            clear z0_0 z0_1 z0_2 z0_3 z0_4 z0_5 z0_6 z0_7 z0_8 z0_9 z1_0 z1_1 z1_2 z1_3 z1_4 z1_5 z1_6 z1_7 z1_8 z1_9
            go_wp2_with fail
            refine (to_Int L2 _ _ (IS2.out.below C0.out) (by omega)).mono ?_
            rintro e w19 ⟨ge2, rfl, hh, hb⟩
            have He2 := Lib.hid hh
            clear hh
            replace C0 := Lib.hid (C0.out.trans (hb.mono C0.out.size))
            replace C1 := Lib.hid (C1.out.trans (hb.mono C1.out.size))
            replace C2 := Lib.hid (C2.out.trans (hb.mono C2.out.size))
            replace C7 := Lib.hid (C7.out.trans (hb.mono C7.out.size))
            replace C8 := Lib.hid (C8.out.trans (hb.mono C8.out.size))
            replace C9 := Lib.hid (C9.out.trans (hb.mono C9.out.size))
            replace C10 := Lib.hid (C10.out.trans (hb.mono C10.out.size))
            replace C11 := Lib.hid (C11.out.trans (hb.mono C11.out.size))
            clear hb
            have C12 := Lib.hid (Below.refl w19.heap.size w19)
            go_wp2_with fail
            refine (eq_Int L2 _ _ _ ((Cs.shows_of_owns (own_keep Hx2.out C11.out)).down (Nat.zero_le _)) ((Cs.shows_of_owns (own_keep He2.out C12.out)).down (Nat.zero_le _)) (by omega)).mono ?_
            rintro e w20 ⟨rfl, hb⟩
            replace C0 := Lib.hid (C0.out.trans (hb.mono C0.out.size))
            replace C1 := Lib.hid (C1.out.trans (hb.mono C1.out.size))
            replace C2 := Lib.hid (C2.out.trans (hb.mono C2.out.size))
            replace C7 := Lib.hid (C7.out.trans (hb.mono C7.out.size))
            replace C8 := Lib.hid (C8.out.trans (hb.mono C8.out.size))
            replace C9 := Lib.hid (C9.out.trans (hb.mono C9.out.size))
            replace C10 := Lib.hid (C10.out.trans (hb.mono C10.out.size))
            replace C11 := Lib.hid (C11.out.trans (hb.mono C11.out.size))
            replace C12 := Lib.hid (C12.out.trans (hb.mono C12.out.size))
            clear hb
            go_wp2
            go_ret
            exact ⟨rfl, C0.out⟩
      · have hl : left l0 x1.cost = -1 := by unfold left; rw [if_neg hc1]
        rw [hl] at SZ1
        clear hl hc1
        go_enter Tryz.func3, Tryz.ntmps3
        have C0 := Lib.hid (Below.refl w.heap.size w)
        obtain ⟨w1, hW⟩ : ∃ W, W = w.alloc (.cells #[.int .i64 vw0, .int .i64 vm0, .int .i64 vi0, .slice q0 L0.length cap0] 24) := ⟨_, rfl⟩
        have hb : Below w.heap.size w w1 := by rw [hW]; exact (Below.refl _ _).alloc (Nat.le_refl _) _
        have Ba0 := Lib.hid (show Cell4 w1 w.heap.size (.int .i64 vw0) (.int .i64 vm0) (.int .i64 vi0) (.slice q0 L0.length cap0) by rw [hW]; exact cell4_alloc _ _ _ _ _ _)
        have HW := Lib.hid hW
        clear hW
        replace C0 := Lib.hid (C0.out.trans (hb.mono C0.out.size))
        clear hb
        have C1 := Lib.hid (Below.refl w1.heap.size w1)
        have hV := HW.out
        clear HW
        obtain ⟨w2, hW⟩ : ∃ W, W = w1.alloc (.cells #[.int .i64 x1.pc, .slice qr1 x1.R.len cr1, .slice qm1 x1.M.len cm1, .slice qs1 x1.S.length cs1, .int .i64 x1.inn, .slice qo1 x1.O.len co1, .int .i64 x1.cd, .int .i64 x1.st, .slice qc1 x1.C.len cc1, .slice qu1 x1.U.length cu1] 28) := ⟨_, rfl⟩
        have hb : Below w1.heap.size w1 w2 := by rw [hW]; exact (Below.refl _ _).alloc (Nat.le_refl _) _
        have Ba1 := Lib.hid (show Cell10 w2 w1.heap.size (.int .i64 x1.pc) (.slice qr1 x1.R.len cr1) (.slice qm1 x1.M.len cm1) (.slice qs1 x1.S.length cs1) (.int .i64 x1.inn) (.slice qo1 x1.O.len co1) (.int .i64 x1.cd) (.int .i64 x1.st) (.slice qc1 x1.C.len cc1) (.slice qu1 x1.U.length cu1) by rw [hW]; exact cell10_alloc _ _ _ _ _ _ _ _ _ _ _ _)
        have hS : w1.heap.size = w.heap.size + 1 := by rw [hV]; simp
        rw [hS] at Ba1
        rw [hV] at hW
        clear hV hS
        have HW := Lib.hid hW
        clear hW
        replace C0 := Lib.hid (C0.out.trans (hb.mono C0.out.size))
        replace C1 := Lib.hid (C1.out.trans (hb.mono C1.out.size))
        clear hb
        have C2 := Lib.hid (Below.refl w2.heap.size w2)
        go_wp2_with fail
        rw [← HW.out]
        clear HW
        refine (SZ0.out _ (IS0.out.below C0.out)).mono ?_
        rintro e w3 ⟨rfl, hb⟩
        replace C0 := Lib.hid (C0.out.trans (hb.mono C0.out.size))
        replace C1 := Lib.hid (C1.out.trans (hb.mono C1.out.size))
        replace C2 := Lib.hid (C2.out.trans (hb.mono C2.out.size))
        clear hb
        obtain ⟨z0_0, z0_1, z0_2, z0_3, z0_4, z0_5, z0_6, z0_7, z0_8, z0_9⟩ := (Ba1.out.below C2.out)
        go_wp2_with fail
        clear z0_0 z0_1 z0_2 z0_3 z0_4 z0_5 z0_6 z0_7 z0_8 z0_9
        refine (SZ1.out _ (IS1.out.below C0.out)).mono ?_
        rintro e w4 ⟨rfl, hb⟩
        replace C0 := Lib.hid (C0.out.trans (hb.mono C0.out.size))
        replace C1 := Lib.hid (C1.out.trans (hb.mono C1.out.size))
        replace C2 := Lib.hid (C2.out.trans (hb.mono C2.out.size))
        clear hb
        go_wp2
        go_ret
        exact ⟨rfl, C0.out⟩
    · have hl : left 1048576 (InsR.costs L0) = -1 := by unfold left; rw [if_neg hc0]
      rw [hl] at SZ0
      clear hl hc0
      go_enter Tryz.func3, Tryz.ntmps3
      have C0 := Lib.hid (Below.refl w.heap.size w)
      obtain ⟨w1, hW⟩ : ∃ W, W = w.alloc (.cells #[.int .i64 vw0, .int .i64 vm0, .int .i64 vi0, .slice q0 L0.length cap0] 24) := ⟨_, rfl⟩
      have hb : Below w.heap.size w w1 := by rw [hW]; exact (Below.refl _ _).alloc (Nat.le_refl _) _
      have Ba0 := Lib.hid (show Cell4 w1 w.heap.size (.int .i64 vw0) (.int .i64 vm0) (.int .i64 vi0) (.slice q0 L0.length cap0) by rw [hW]; exact cell4_alloc _ _ _ _ _ _)
      have HW := Lib.hid hW
      clear hW
      replace C0 := Lib.hid (C0.out.trans (hb.mono C0.out.size))
      clear hb
      have C1 := Lib.hid (Below.refl w1.heap.size w1)
      have hV := HW.out
      clear HW
      obtain ⟨w2, hW⟩ : ∃ W, W = w1.alloc (.cells #[.int .i64 x1.pc, .slice qr1 x1.R.len cr1, .slice qm1 x1.M.len cm1, .slice qs1 x1.S.length cs1, .int .i64 x1.inn, .slice qo1 x1.O.len co1, .int .i64 x1.cd, .int .i64 x1.st, .slice qc1 x1.C.len cc1, .slice qu1 x1.U.length cu1] 28) := ⟨_, rfl⟩
      have hb : Below w1.heap.size w1 w2 := by rw [hW]; exact (Below.refl _ _).alloc (Nat.le_refl _) _
      have Ba1 := Lib.hid (show Cell10 w2 w1.heap.size (.int .i64 x1.pc) (.slice qr1 x1.R.len cr1) (.slice qm1 x1.M.len cm1) (.slice qs1 x1.S.length cs1) (.int .i64 x1.inn) (.slice qo1 x1.O.len co1) (.int .i64 x1.cd) (.int .i64 x1.st) (.slice qc1 x1.C.len cc1) (.slice qu1 x1.U.length cu1) by rw [hW]; exact cell10_alloc _ _ _ _ _ _ _ _ _ _ _ _)
      have hS : w1.heap.size = w.heap.size + 1 := by rw [hV]; simp
      rw [hS] at Ba1
      rw [hV] at hW
      clear hV hS
      have HW := Lib.hid hW
      clear hW
      replace C0 := Lib.hid (C0.out.trans (hb.mono C0.out.size))
      replace C1 := Lib.hid (C1.out.trans (hb.mono C1.out.size))
      clear hb
      have C2 := Lib.hid (Below.refl w2.heap.size w2)
      go_wp2_with fail
      rw [← HW.out]
      clear HW
      refine (SZ0.out _ (IS0.out.below C0.out)).mono ?_
      rintro e w3 ⟨rfl, hb⟩
      replace C0 := Lib.hid (C0.out.trans (hb.mono C0.out.size))
      replace C1 := Lib.hid (C1.out.trans (hb.mono C1.out.size))
      replace C2 := Lib.hid (C2.out.trans (hb.mono C2.out.size))
      clear hb
      go_wp2
      go_ret
      exact ⟨rfl, C0.out⟩
  · have hlong2 : (1048576 : Int) < (L2.length : Int) := by omega
    go_enter Tryz.func3, Tryz.ntmps3
    have C0 := Lib.hid (Below.refl w.heap.size w)
    obtain ⟨w1, hW⟩ : ∃ W, W = w.alloc (.cells #[.int .i64 vw0, .int .i64 vm0, .int .i64 vi0, .slice q0 L0.length cap0] 24) := ⟨_, rfl⟩
    have hb : Below w.heap.size w w1 := by rw [hW]; exact (Below.refl _ _).alloc (Nat.le_refl _) _
    have Ba0 := Lib.hid (show Cell4 w1 w.heap.size (.int .i64 vw0) (.int .i64 vm0) (.int .i64 vi0) (.slice q0 L0.length cap0) by rw [hW]; exact cell4_alloc _ _ _ _ _ _)
    have HW := Lib.hid hW
    clear hW
    replace C0 := Lib.hid (C0.out.trans (hb.mono C0.out.size))
    clear hb
    have C1 := Lib.hid (Below.refl w1.heap.size w1)
    have hV := HW.out
    clear HW
    obtain ⟨w2, hW⟩ : ∃ W, W = w1.alloc (.cells #[.int .i64 x1.pc, .slice qr1 x1.R.len cr1, .slice qm1 x1.M.len cm1, .slice qs1 x1.S.length cs1, .int .i64 x1.inn, .slice qo1 x1.O.len co1, .int .i64 x1.cd, .int .i64 x1.st, .slice qc1 x1.C.len cc1, .slice qu1 x1.U.length cu1] 28) := ⟨_, rfl⟩
    have hb : Below w1.heap.size w1 w2 := by rw [hW]; exact (Below.refl _ _).alloc (Nat.le_refl _) _
    have Ba1 := Lib.hid (show Cell10 w2 w1.heap.size (.int .i64 x1.pc) (.slice qr1 x1.R.len cr1) (.slice qm1 x1.M.len cm1) (.slice qs1 x1.S.length cs1) (.int .i64 x1.inn) (.slice qo1 x1.O.len co1) (.int .i64 x1.cd) (.int .i64 x1.st) (.slice qc1 x1.C.len cc1) (.slice qu1 x1.U.length cu1) by rw [hW]; exact cell10_alloc _ _ _ _ _ _ _ _ _ _ _ _)
    have hS : w1.heap.size = w.heap.size + 1 := by rw [hV]; simp
    rw [hS] at Ba1
    rw [hV] at hW
    clear hV hS
    have HW := Lib.hid hW
    clear hW
    replace C0 := Lib.hid (C0.out.trans (hb.mono C0.out.size))
    replace C1 := Lib.hid (C1.out.trans (hb.mono C1.out.size))
    clear hb
    have C2 := Lib.hid (Below.refl w2.heap.size w2)
    go_wp2
    go_ret
    exact ⟨rfl, by rw [← HW.out]; exact C0.out⟩
end Go.Proofs.YtpojldocjaieoaaGreatDoor
