/- What the program's HoldsPath returns, where the table lies. -/
import Derived.Test.YthmababifgaejaaGreatDoorEmGEwI
import Derived.Test.YthmababifgaejaaGreatDoorEmHeI
import Derived.Test.YthmababifgaejaaGreatDoorEmGAtI
import Derived.Test.YthmababifgaejaaGreatDoorEmGInA
import Derived.Deep.RegionWith
namespace Go.Proofs.YthmababifgaejaaGreatDoor
open Go.ChangeShapes Go.WideShapes Go.ChangeAt Go.RowKit
open ValueR (all costs)
set_option maxRecDepth 100000 in
set_option maxHeartbeats 1500000 in
theorem i_hpath (vw vm vi : Int) (L : List InsR) (x : PaR) (l : List Int) (s r m sk o c u li : Value) (w : World) (hs : Cs.Shows w 0 4 s L.length (InsR.all L)) (hx : PaI w 0 x r m sk o c u) (hls : Cs.Shows w 0 1 li l.length (IntL.all l)) (hok : ∀ r ∈ L, r.Ok) (hL : L.length ≤ maxLen) (hl : x.Long) (hcc : x.cost ≤ 1048576) (hll : l.length ≤ maxLen) (htab : Lib.TabIs Tryz.prog w "internal/strconv.uint64pow10" .u64 Lib.pow10Tab) :
    Calls Tryz.prog 28 #[.agg #[.int .i64 vw, .int .i64 vm, .int .i64 vi, s], .agg #[.int .i64 x.pc, r, m, sk, .int .i64 x.inn, o, .int .i64 x.cd, .int .i64 x.st, c, u], li] w fun e w' => e = .returned (.bool (hpB vw vm vi L x l)) ∧ Below w.heap.size w w' := by
  have hml : maxLen = 9223372036854775807 := rfl
  have K1 := Lib.hid (fun W (hb : Below w.heap.size w W) => i_path vw vm vi L x s r m sk o c u W (hs.below hb) (hx.below hb) hok hL hl hcc)
  have K2 := Lib.hid (fun W (hb : Below w.heap.size w W) => i_inputs vw vm vi L l s li W (hs.below hb) (hls.below hb) hok hL hll)
  have K3 := Lib.hid (fun q cap W (hb : Below w.heap.size w W) (h3 : l.length ≤ 3) => i_values vw vm vi L.length q cap l li W (hls.below hb) h3 (var_below hb htab))
  have K4 := Lib.hid (fun V (hV : VlOk V) (hF : tmB x.C 1 = true) v W (hb : Below w.heap.size w W) hv => i_pholds V hV x hF r m sk o c u v W (hx.below hb) hv hcc)
  clear htab
  obtain ⟨_, q, cap, rfl, _⟩ := hs
  obtain ⟨_, lq, lcap, rfl, _⟩ := hls
  obtain ⟨hr, hm, hsk, ho, hc, hu⟩ := hx
  have HIC := Lib.hid hc
  obtain ⟨_, ⟨_, qr, cr, rfl, _⟩, _⟩ := hr
  obtain ⟨_, ⟨_, qm, cm, rfl, _⟩, _⟩ := hm
  obtain ⟨_, qsk, csk, rfl, _⟩ := hsk
  obtain ⟨_, ⟨_, qo, co, rfl, _⟩, _⟩ := ho
  obtain ⟨_, ⟨_, qc, cc, rfl, _⟩, _⟩ := hc
  obtain ⟨_, qu, cu, rfl, _⟩ := hu
  clear HIC
  obtain ⟨V, hV⟩ : ∃ V, hpB vw vm vi L x l = V := ⟨_, rfl⟩
  rw [hV]
  unfold hpB at hV
  obtain ⟨b1, hb1⟩ : ∃ y, paB vw vm vi L x = y := ⟨_, rfl⟩
  obtain ⟨b2, hb2⟩ : ∃ y, inB vw vm vi L l = y := ⟨_, rfl⟩
  rw [hb1] at K1
  rw [hb2] at K2
  rw [hb1, hb2] at hV
  have HV := Lib.hid hV
  clear hV
  have HB0 := Lib.hid (((Below.refl w.heap.size w).alloc (Nat.le_refl _) (.cells #[.int .i64 vw, .int .i64 vm, .int .i64 vi, .slice q L.length cap] 37)).alloc (by simp) (.cells #[.int .i64 x.pc, .slice qr x.R.len cr, .slice qm x.M.len cm, .slice qsk x.S.length csk, .int .i64 x.inn, .slice qo x.O.len co, .int .i64 x.cd, .int .i64 x.st, .slice qc x.C.len cc, .slice qu x.U.length cu] 41))
  have X0 := Lib.hid ((cell4_alloc w 37 (.int .i64 vw) (.int .i64 vm) (.int .i64 vi) (.slice q L.length cap)).below ((Below.refl _ _).alloc (Nat.le_refl _) (.cells #[.int .i64 x.pc, .slice qr x.R.len cr, .slice qm x.M.len cm, .slice qsk x.S.length csk, .int .i64 x.inn, .slice qo x.O.len co, .int .i64 x.cd, .int .i64 x.st, .slice qc x.C.len cc, .slice qu x.U.length cu] 41)))
  have Y0 := Lib.hid (cell10_alloc (w.alloc (.cells #[.int .i64 vw, .int .i64 vm, .int .i64 vi, .slice q L.length cap] 37)) 41 (.int .i64 x.pc) (.slice qr x.R.len cr) (.slice qm x.M.len cm) (.slice qsk x.S.length csk) (.int .i64 x.inn) (.slice qo x.O.len co) (.int .i64 x.cd) (.int .i64 x.st) (.slice qc x.C.len cc) (.slice qu x.U.length cu))
  rw [show (w.alloc (.cells #[.int .i64 vw, .int .i64 vm, .int .i64 vi, .slice q L.length cap] 37)).heap.size = w.heap.size + 1 by simp] at Y0
  obtain ⟨w0, hw0⟩ : ∃ w0, w0 = (w.alloc (.cells #[.int .i64 vw, .int .i64 vm, .int .i64 vi, .slice q L.length cap] 37)).alloc (.cells #[.int .i64 x.pc, .slice qr x.R.len cr, .slice qm x.M.len cm, .slice qsk x.S.length csk, .int .i64 x.inn, .slice qo x.O.len co, .int .i64 x.cd, .int .i64 x.st, .slice qc x.C.len cc, .slice qu x.U.length cu] 41) := ⟨_, rfl⟩
  rw [← hw0] at HB0 X0 Y0
  go_enter Tryz.func28, Tryz.ntmps28
  go_wp2
  rw [← hw0]
  clear hw0
  have CD := Lib.hid (show Below w0.heap.size w0 w0.drew from (Below.refl _ _).drew)
  have CH := Lib.hid (Below.refl w0.drew.heap.size w0.drew)
  refine region_s [] (fun V => Below w0.drew.heap.size w0.drew V) (by kernel_rfl) ?_
  refine take_s (i := 0) (v := .agg #[.int .i64 vw, .int .i64 vm, .int .i64 vi, .slice q L.length cap]) rfl (by kernel_rfl) (fun _ _ _ h => h) CH.out rfl (fun V hV => ?_) ?_
  · obtain ⟨x0, x1, x2, x3⟩ := X0.out.below (CD.out.trans (hV.mono (Nat.le_refl _)))
    obtain ⟨y0, y1, y2, y3, y4, y5, y6, y7, y8, y9⟩ := Y0.out.below (CD.out.trans (hV.mono (Nat.le_refl _)))
    go_simp
  refine take_s (i := 1) (v := .agg #[.int .i64 x.pc, .slice qr x.R.len cr, .slice qm x.M.len cm, .slice qsk x.S.length csk, .int .i64 x.inn, .slice qo x.O.len co, .int .i64 x.cd, .int .i64 x.st, .slice qc x.C.len cc, .slice qu x.U.length cu]) rfl (by kernel_rfl) (fun _ _ _ h => h) CH.out rfl (fun V hV => ?_) ?_
  · obtain ⟨x0, x1, x2, x3⟩ := X0.out.below (CD.out.trans (hV.mono (Nat.le_refl _)))
    obtain ⟨y0, y1, y2, y3, y4, y5, y6, y7, y8, y9⟩ := Y0.out.below (CD.out.trans (hV.mono (Nat.le_refl _)))
    go_simp
  refine one_s (i := 2) (by kernel_rfl) (op_list rfl ?_)
  go_wp2_with fail
  refine (K1.out _ (HB0.out.trans ((CD.out.trans (CH.out.mono (Nat.le_refl _))).mono HB0.out.size))).mono ?_
  rintro e w1 ⟨rfl, hb⟩
  replace CH := Lib.hid (CH.out.trans (hb.mono CH.out.size))
  clear hb
  cases b1
  case false =>
    have hv : V = false := HV.out.symm
    subst hv
    go_wp2
    refine ⟨fun _ => CH.out, ?_⟩
    refine take_s (i := 3) (v := .bool false) rfl (by kernel_rfl) (fun _ _ _ h => h) CH.out rfl (fun V hV => ?_) ?_
    · go_simp
    refine skip_s (i := 4) rfl (by kernel_rfl) (fun _ _ _ h => h) CH.out rfl ?_
    refine skip_s (i := 5) rfl (by kernel_rfl) (fun _ _ _ h => h) CH.out rfl ?_
    refine one_skip (i := 6) rfl (by kernel_rfl) CH.out rfl ?_
    refine one_s (i := 7) (by kernel_rfl) (op_list rfl ?_)
    go_wp2
    refine ⟨fun _ => CH.out, ?_⟩
    refine one_s (i := 8) (by kernel_rfl) (op_list rfl ?_)
    go_wp2
    refine ⟨fun _ => CH.out, ?_⟩
    refine skip_s (i := 9) rfl (by kernel_rfl) (fun _ _ _ h => h) CH.out rfl ?_
    refine skip_s (i := 10) rfl (by kernel_rfl) (fun _ _ _ h => h) CH.out rfl ?_
    refine skip_s (i := 11) rfl (by kernel_rfl) (fun _ _ _ h => h) CH.out rfl ?_
    refine one_skip (i := 12) rfl (by kernel_rfl) CH.out rfl ?_
    refine one_skip (i := 13) rfl (by kernel_rfl) CH.out rfl ?_
    refine one_s (i := 14) (by kernel_rfl) (op_list rfl ?_)
    go_wp2
    refine ⟨fun _ => CH.out, ?_⟩
    refine one_s (i := 15) (by kernel_rfl) (op_list rfl ?_)
    go_wp2
    refine ⟨fun _ => CH.out, done_s (by kernel_rfl) ?_ _⟩
    go_wp2
    go_ret
    exact ⟨rfl, (HB0.out.trans ((CD.out.trans (CH.out.mono (Nat.le_refl _))).mono HB0.out.size))⟩
  case true =>
    go_wp2
    refine ⟨fun _ => CH.out, ?_⟩
    refine take_s (i := 3) (v := .bool true) rfl (by kernel_rfl) (fun _ _ _ h => h) CH.out rfl (fun V hV => ?_) ?_
    · go_simp
    refine take_s (i := 4) (v := .agg #[.int .i64 vw, .int .i64 vm, .int .i64 vi, .slice q L.length cap]) rfl (by kernel_rfl) (fun _ _ _ h => h) CH.out rfl (fun V hV => ?_) ?_
    · obtain ⟨x0, x1, x2, x3⟩ := X0.out.below (CD.out.trans (hV.mono (Nat.le_refl _)))
      obtain ⟨y0, y1, y2, y3, y4, y5, y6, y7, y8, y9⟩ := Y0.out.below (CD.out.trans (hV.mono (Nat.le_refl _)))
      go_simp
    refine take_s (i := 5) (v := .slice lq l.length lcap) rfl (by kernel_rfl) (fun _ _ _ h => h) CH.out rfl (fun V hV => ?_) ?_
    · obtain ⟨x0, x1, x2, x3⟩ := X0.out.below (CD.out.trans (hV.mono (Nat.le_refl _)))
      obtain ⟨y0, y1, y2, y3, y4, y5, y6, y7, y8, y9⟩ := Y0.out.below (CD.out.trans (hV.mono (Nat.le_refl _)))
      go_simp
    refine one_s (i := 6) (by kernel_rfl) (op_list rfl ?_)
    go_wp2_with fail
    refine (K2.out _ (HB0.out.trans ((CD.out.trans (CH.out.mono (Nat.le_refl _))).mono HB0.out.size))).mono ?_
    rintro e w2 ⟨rfl, hb⟩
    replace CH := Lib.hid (CH.out.trans (hb.mono CH.out.size))
    clear hb
    cases b2
    case false =>
      have hv : V = false := HV.out.symm
      subst hv
      go_wp2
      refine ⟨fun _ => CH.out, ?_⟩
      refine one_s (i := 7) (by kernel_rfl) (op_list rfl ?_)
      go_wp2
      refine ⟨fun _ => CH.out, ?_⟩
      refine one_s (i := 8) (by kernel_rfl) (op_list rfl ?_)
      go_wp2
      refine ⟨fun _ => CH.out, ?_⟩
      refine skip_s (i := 9) rfl (by kernel_rfl) (fun _ _ _ h => h) CH.out rfl ?_
      refine skip_s (i := 10) rfl (by kernel_rfl) (fun _ _ _ h => h) CH.out rfl ?_
      refine skip_s (i := 11) rfl (by kernel_rfl) (fun _ _ _ h => h) CH.out rfl ?_
      refine one_skip (i := 12) rfl (by kernel_rfl) CH.out rfl ?_
      refine one_skip (i := 13) rfl (by kernel_rfl) CH.out rfl ?_
      refine one_s (i := 14) (by kernel_rfl) (op_list rfl ?_)
      go_wp2
      refine ⟨fun _ => CH.out, ?_⟩
      refine one_s (i := 15) (by kernel_rfl) (op_list rfl ?_)
      go_wp2
      refine ⟨fun _ => CH.out, done_s (by kernel_rfl) ?_ _⟩
      go_wp2
      go_ret
      exact ⟨rfl, (HB0.out.trans ((CD.out.trans (CH.out.mono (Nat.le_refl _))).mono HB0.out.size))⟩
    case true =>
      have KV := Lib.hid (fun W hb => K3.out q cap W hb (in_facts hb2).1)
      have KE := Lib.hid (K4.out (inV vw l) (inV_ok hb2) (pa_tm hb1).2.2.2)
      obtain ⟨VL, hVL⟩ : ∃ VL, inV vw l = VL := ⟨_, rfl⟩
      rw [hVL] at KV KE HV
      clear hVL K3 K4 hb1 hb2 K1 K2
      obtain ⟨BB, hBB⟩ : ∃ R, cdB VL x.C = R := ⟨_, rfl⟩
      rw [hBB] at KE HV
      clear hBB
      unfold ValEnd at KV
      have hv : BB = V := HV.out
      subst hv
      go_wp2
      refine ⟨fun _ => CH.out, ?_⟩
      refine take_s (i := 7) (v := .bool true) rfl (by kernel_rfl) (fun _ _ _ h => h) CH.out rfl (fun V hV => ?_) ?_
      · go_simp
      refine take_s (i := 8) (v := .bool true) rfl (by kernel_rfl) (fun _ _ _ h => h) CH.out rfl (fun V hV => ?_) ?_
      · go_simp
      refine take_s (i := 9) (v := .agg #[.int .i64 x.pc, .slice qr x.R.len cr, .slice qm x.M.len cm, .slice qsk x.S.length csk, .int .i64 x.inn, .slice qo x.O.len co, .int .i64 x.cd, .int .i64 x.st, .slice qc x.C.len cc, .slice qu x.U.length cu]) rfl (by kernel_rfl) (fun _ _ _ h => h) CH.out rfl (fun V hV => ?_) ?_
      · obtain ⟨x0, x1, x2, x3⟩ := X0.out.below (CD.out.trans (hV.mono (Nat.le_refl _)))
        obtain ⟨y0, y1, y2, y3, y4, y5, y6, y7, y8, y9⟩ := Y0.out.below (CD.out.trans (hV.mono (Nat.le_refl _)))
        go_simp
      refine take_s (i := 10) (v := .agg #[.int .i64 vw, .int .i64 vm, .int .i64 vi, .slice q L.length cap]) rfl (by kernel_rfl) (fun _ _ _ h => h) CH.out rfl (fun V hV => ?_) ?_
      · obtain ⟨x0, x1, x2, x3⟩ := X0.out.below (CD.out.trans (hV.mono (Nat.le_refl _)))
        obtain ⟨y0, y1, y2, y3, y4, y5, y6, y7, y8, y9⟩ := Y0.out.below (CD.out.trans (hV.mono (Nat.le_refl _)))
        go_simp
      refine take_s (i := 11) (v := .slice lq l.length lcap) rfl (by kernel_rfl) (fun _ _ _ h => h) CH.out rfl (fun V hV => ?_) ?_
      · obtain ⟨x0, x1, x2, x3⟩ := X0.out.below (CD.out.trans (hV.mono (Nat.le_refl _)))
        obtain ⟨y0, y1, y2, y3, y4, y5, y6, y7, y8, y9⟩ := Y0.out.below (CD.out.trans (hV.mono (Nat.le_refl _)))
        go_simp
      refine one_s (i := 12) (by kernel_rfl) (op_list rfl ?_)
      go_wp2_with fail
      refine (KV.out _ (HB0.out.trans ((CD.out.trans (CH.out.mono (Nat.le_refl _))).mono HB0.out.size))).mono ?_
      rintro e w3 ⟨hb, q3, c3, rfl, hsh⟩
      replace CH := Lib.hid (CH.out.trans (hb.mono CH.out.size))
      have KE2 := Lib.hid (KE.out _ w3 (HB0.out.trans ((CD.out.trans (CH.out.mono (Nat.le_refl _))).mono HB0.out.size)) hsh)
      clear hb hsh
      go_wp2
      refine ⟨fun _ => CH.out, ?_⟩
      refine one_s (i := 13) (by kernel_rfl) (op_list rfl ?_)
      go_wp2_with fail
      refine KE2.out.mono ?_
      rintro e w4 ⟨rfl, hb⟩
      replace CH := Lib.hid (CH.out.trans (hb.mono CH.out.size))
      clear hb
      go_wp2
      refine ⟨fun _ => CH.out, ?_⟩
      refine one_s (i := 14) (by kernel_rfl) (op_list rfl ?_)
      go_wp2
      refine ⟨fun _ => CH.out, ?_⟩
      refine one_s (i := 15) (by kernel_rfl) (op_list rfl ?_)
      go_wp2
      refine ⟨fun _ => CH.out, done_s (by kernel_rfl) ?_ _⟩
      go_wp2
      go_ret
      exact ⟨rfl, (HB0.out.trans ((CD.out.trans (CH.out.mono (Nat.le_refl _))).mono HB0.out.size))⟩
end Go.Proofs.YthmababifgaejaaGreatDoor
