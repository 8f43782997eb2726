/- What the specification's FormatProgram returns. No condition. -/
import Derived.Test.YtmmcpjdcfhgkiabDoorFpM
import Derived.Test.YtmmcpjdcfhgkiabDoorFiF
import Derived.Deep.CutRange
namespace Go.Proofs.YtmmcpjdcfhgkiabDoor
open Go.ChangeShapes Go.WideShapes Go.ChangeAt Go.RowKit
theorem at_lit3 (W : World) (a b c : Int) : At (W.alloc (.cells #[.int .i64 a, .int .i64 b, .int .i64 c] 3)) W.heap.size 0 ([a, b, c].map (Value.int .i64)) := fun j u hu => by
  rw [Nat.zero_add, cell_of_row _ W.heap.size j _ 3 (0, 0) (heap_alloc_new W _)]
  simpa using hu
theorem u_lit (W : World) : (W.alloc (.cells #[.int .u8 10] 5)).cell? ⟨W.heap.size, 0, none⟩ = some (.int .u8 10) := cell_of_row _ W.heap.size 0 _ 5 (0, 0) (heap_alloc_new W _)
/-- a world in which the numbers and the newline may already lie -/
def RgC (base : Nat) (w0 W : World) : Prop := Below base w0 W
set_option maxRecDepth 100000 in
set_option maxHeartbeats 8000000 in
theorem s_fprog (vw vm vi : Int) (L : List InsR) (s : Value) (w : World) (hs : Cs.Shows w 0 4 s L.length (InsR.all L)) (hok : ∀ r ∈ L, r.Ok) (hL : L.length ≤ maxLen) :
    Calls Tryd.prog 5 #[.agg #[.int .i64 vw, .int .i64 vm, .int .i64 vi, s]] w fun e w' => e = .returned (.string (fpV vw vm vi L)) ∧ Below w.heap.size w w' := by
  have hml : maxLen = 9223372036854775807 := rfl
  have HS := Lib.hid hs
  have HOK := Lib.hid hok
  have KP := Lib.hid (fun W (hb : Below w.heap.size w W) => s_prog vw vm vi L s W (hs.below hb) hok hL)
  obtain ⟨_, q, cap, rfl, hcap, _⟩ := hs
  have HB0 := Lib.hid ((Below.refl w.heap.size w).alloc (Nat.le_refl _) (.cells #[.int .i64 vw, .int .i64 vm, .int .i64 vi, .slice q L.length cap] 29))
  have X0 := Lib.hid (cell4_alloc w 29 (.int .i64 vw) (.int .i64 vm) (.int .i64 vi) (.slice q L.length cap))
  obtain ⟨w0, hw0⟩ : ∃ w0, w0 = w.alloc (.cells #[.int .i64 vw, .int .i64 vm, .int .i64 vi, .slice q L.length cap] 29) := ⟨_, rfl⟩
  have hs0 : w0.heap.size = w.heap.size + 1 := by rw [hw0]; simp
  rw [← hw0] at HB0 X0
  obtain ⟨B, hB⟩ : ∃ B, prB vw vm vi L = B := ⟨_, rfl⟩
  obtain ⟨V, hV⟩ : ∃ V, fpV vw vm vi L = V := ⟨_, rfl⟩
  rw [hV]
  unfold fpV at hV
  rw [hB] at KP hV
  cases B
  case false =>
    have hv : V = ⟨#[]⟩ := hV.symm
    subst hv
    clear hV hok hB
    obtain ⟨x0, x1, x2, x3⟩ := X0.out
    rw [hw0] at x0 x1 x2 x3
    go_enter Tryd.func5, Tryd.ntmps5
    go_wp2_with fail
    rw [← hw0]
    clear hw0
    refine (KP.out _ HB0.out).mono ?_
    rintro e w1 ⟨rfl, hb⟩
    have HB1 := Lib.hid (HB0.out.trans (hb.mono HB0.out.size))
    clear hb x0 x1 x2 x3
    go_wp2
    go_ret
    exact ⟨rfl, HB1.out⟩
  case true =>
    have hv : V = fpPre vw vm vi L L.length := hV.symm
    subst hv
    obtain ⟨⟨hw2, hw8, hm1, hm6, _, hi0, hi3, hl1, hl40⟩, _⟩ := pr_in hB
    have hin : ∀ z ∈ [vw, vm, vi], InR z := fun z hz => by
      simp only [List.mem_cons, List.not_mem_nil, or_false] at hz
      unfold InR
      rcases hz with rfl | rfl | rfl <;> omega
    have HR : Hid (∀ j, (h : j < L.length) → ∃ b o, q = some ⟨b, o, none⟩ ∧ b < w.heap.size ∧ ∀ W, Below w.heap.size w W → W.cell? ⟨b, o + j * 4, none⟩ = some (.int .i64 L[j].f0) ∧ W.cell? ⟨b, o + j * 4 + 1, none⟩ = some (.int .i64 L[j].f1) ∧ W.cell? ⟨b, o + j * 4 + 2, none⟩ = some (.int .i64 L[j].f2) ∧ W.cell? ⟨b, o + j * 4 + 3, none⟩ = some (.int .i64 L[j].f3)) := Lib.hid (fun j h => by
      rcases Cs.shows_cases HS.out with ⟨h0, _⟩ | ⟨_, b, o, c, hq, _, _, hbl, hr⟩
      · omega
      · injection hq with e1 e2 e3
        refine ⟨b, o, e1, hbl, fun W hW => ?_⟩
        have hh := flat_nth InsR.cells 4 (fun _ => rfl) L j h (rangeAt_below hW hr)
        exact ⟨hh 0 _ rfl, hh 1 _ rfl, hh 2 _ rfl, hh 3 _ rfl⟩)
    have KF := Lib.hid (fun (g : Nat) W (hl : g < W.heap.size) (h : At W g 0 ([vw, vm, vi].map (Value.int .i64))) => show Calls Tryd.prog 11 #[.slice (some ⟨g, 0, none⟩) 3 3] W fun e w' => e = .returned (.string (fsB vw vm vi)) ∧ Below W.heap.size W w' from s_fmts g 0 3 3 [vw, vm, vi] rfl hin (by omega) W hl h)
    have hz := fsB_size vw vm vi hin
    have HSZ := Lib.hid (fpPre_size vw vm vi L hin hok)
    have hcv := conv2 10 10 rfl
    have HH := Lib.hid (show fpHead vw vm vi = ⟨#[109, 97, 99, 104, 105, 110, 101, 32]⟩ ++ fsB vw vm vi ++ ⟨#[10]⟩ from rfl)
    have H0 := Lib.hid (fpPre_zero vw vm vi L)
    have HN := Lib.hid (fun j hj => fpPre_succ vw vm vi L j hj)
    have HFZ := Lib.hid (fun j (hj : j < L.length) => fiV_size L[j] vw L.length (hok _ (List.getElem_mem hj)))
    have hz1 : (⟨#[109, 97, 99, 104, 105, 110, 101, 32]⟩ ++ fsB vw vm vi : ByteArray).size ≤ 80 := by
      rw [ByteArray.size_append]
      have e1 : (⟨#[109, 97, 99, 104, 105, 110, 101, 32]⟩ : ByteArray).size = 8 := rfl
      omega
    obtain ⟨F, hF⟩ : ∃ F, fsB vw vm vi = F := ⟨_, rfl⟩
    rw [hF] at KF hz HH hz1
    obtain ⟨M, hM⟩ : ∃ M : ByteArray, ⟨#[109, 97, 99, 104, 105, 110, 101, 32]⟩ ++ F = M := ⟨_, rfl⟩
    have HM := Lib.hid hM
    have hzM : M.size ≤ 80 := by rw [← hM]; exact hz1
    have hz8 : (⟨#[109, 97, 99, 104, 105, 110, 101, 32]⟩ : ByteArray).size = 8 := rfl
    have hz9 : (⟨#[10]⟩ : ByteArray).size = 1 := rfl
    have HX := Lib.hid (show ∀ j (hj : j < L.length), ∃ op a b c, L[j] = (⟨op, a, b, c⟩ : InsR) ∧ (-9223372036854775808 ≤ a ∧ a ≤ 9223372036854775807) ∧ (-9223372036854775808 ≤ b ∧ b ≤ 9223372036854775807) from fun j hj => ⟨_, _, _, _, rfl, (hok _ (List.getElem_mem hj)).2.1, (hok _ (List.getElem_mem hj)).2.2.1⟩)
    clear hV hok hB hF hin HS hM
    obtain ⟨x0, x1, x2, x3⟩ := X0.out
    rw [hw0] at x0 x1 x2 x3
    go_enter Tryd.func5, Tryd.ntmps5
    go_wp2_with fail
    rw [← hw0]
    clear hw0
    refine (KP.out _ HB0.out).mono ?_
    rintro e w1 ⟨rfl, hb⟩
    have HB1 := Lib.hid (HB0.out.trans (hb.mono HB0.out.size))
    have XX := Lib.hid (X0.out.below hb)
    have hs1 := hb.size
    clear hb x0 x1 x2 x3
    go_upto_region 3 with fail
    go_cut [3] from 9 to 20 (fun v wx => v = .string (fpHead vw vm vi) ∧ Below w1.heap.size w1 wx)
    case first =>
      have CD := Lib.hid (show Below w1.heap.size w1 w1.drew from (Below.refl _ _).drew)
      have CH := Lib.hid (Below.refl w1.drew.heap.size w1.drew)
      refine region_s [] (fun V => Below w1.drew.heap.size w1.drew V) (by kernel_rfl) ?_
      refine take_s (i := 0) (v := .pointer (some ⟨w.heap.size, 0, none⟩)) rfl (by kernel_rfl) (fun _ _ _ h => h) CH.out rfl (fun V hV => ?_) ?_
      · obtain ⟨x0, x1, x2, x3⟩ := XX.out.below (CD.out.trans (hV.mono (Nat.le_refl _))); go_simp
      refine take_s (i := 1) (v := .int .i64 vw) rfl (by kernel_rfl) (fun _ _ _ h => h) CH.out rfl (fun V hV => ?_) ?_
      · obtain ⟨x0, x1, x2, x3⟩ := XX.out.below (CD.out.trans (hV.mono (Nat.le_refl _))); go_simp
      refine take_s (i := 2) (v := .pointer (some ⟨w.heap.size, 1, none⟩)) rfl (by kernel_rfl) (fun _ _ _ h => h) CH.out rfl (fun V hV => ?_) ?_
      · obtain ⟨x0, x1, x2, x3⟩ := XX.out.below (CD.out.trans (hV.mono (Nat.le_refl _))); go_simp
      refine take_s (i := 3) (v := .int .i64 vm) rfl (by kernel_rfl) (fun _ _ _ h => h) CH.out rfl (fun V hV => ?_) ?_
      · obtain ⟨x0, x1, x2, x3⟩ := XX.out.below (CD.out.trans (hV.mono (Nat.le_refl _))); go_simp
      refine take_s (i := 4) (v := .pointer (some ⟨w.heap.size, 2, none⟩)) rfl (by kernel_rfl) (fun _ _ _ h => h) CH.out rfl (fun V hV => ?_) ?_
      · obtain ⟨x0, x1, x2, x3⟩ := XX.out.below (CD.out.trans (hV.mono (Nat.le_refl _))); go_simp
      refine take_s (i := 5) (v := .int .i64 vi) rfl (by kernel_rfl) (fun _ _ _ h => h) CH.out rfl (fun V hV => ?_) ?_
      · obtain ⟨x0, x1, x2, x3⟩ := XX.out.below (CD.out.trans (hV.mono (Nat.le_refl _))); go_simp
      refine two_s (i := 6) (k := 9) (by kernel_rfl) (op_list rfl ?_) (op_list rfl ?_)
      · go_wp2
        have hbb : Below w1.drew.heap.size w1.drew ((w1.alloc (.cells #[.int .i64 vw, .int .i64 vm, .int .i64 vi] 3)).drew) := (show Below w1.drew.heap.size w1.drew (w1.drew.alloc _) from (Below.refl _ _).alloc (Nat.le_refl _) _)
        have HA := Lib.hid (show At ((w1.alloc (.cells #[.int .i64 vw, .int .i64 vm, .int .i64 vi] 3)).drew) w1.heap.size 0 ([vw, vm, vi].map (Value.int .i64)) ∧ w1.heap.size < ((w1.alloc (.cells #[.int .i64 vw, .int .i64 vm, .int .i64 vi] 3)).drew).heap.size from ⟨at_lit3 w1.drew vw vm vi, by simp⟩)
        replace CH := Lib.hid (CH.out.trans (hbb.mono CH.out.size))
        obtain ⟨ga, hga⟩ : ∃ g, g = w1.heap.size := ⟨_, rfl⟩
        obtain ⟨wn2, hwn⟩ : ∃ W, W = ((w1.alloc (.cells #[.int .i64 vw, .int .i64 vm, .int .i64 vi] 3)).drew) := ⟨_, rfl⟩
        rw [← hwn, ← hga] at HA
        rw [← hwn] at CH ⊢
        rw [← hga]
        clear hwn hga hbb
        refine ⟨fun _ => CH.out, ?_⟩
        refine two_s (i := 7) (k := 9) (by kernel_rfl) (op_list rfl ?_) (op_list rfl ?_)
        · go_wp2_with fail
          refine (KF.out _ _ HA.out.2 HA.out.1).mono ?_
          rintro e wn3 ⟨rfl, hbb⟩
          clear HA
          replace CH := Lib.hid (CH.out.trans (hbb.mono CH.out.size))
          clear hbb
          go_wp2
          refine ⟨fun _ => CH.out, ?_⟩
          refine take_s (i := 8) (v := .string M) rfl (by kernel_rfl) (fun _ _ _ h => h) CH.out rfl (fun V hV => ?_) ?_
          · have hM := HM.out; rw [← hM]; go_simp; omega
          refine one_s (i := 9) (by kernel_rfl) (op_list rfl ?_)
          go_wp2
          have hbb : Below wn3.heap.size wn3 (wn3.alloc (.cells #[.int .u8 10] 5)) := (show Below wn3.heap.size wn3 (wn3.alloc _) from (Below.refl _ _).alloc (Nat.le_refl _) _)
          have HU := Lib.hid (show (wn3.alloc (.cells #[.int .u8 10] 5)).cell? ⟨wn3.heap.size, 0, none⟩ = some (.int .u8 10) ∧ wn3.heap.size < (wn3.alloc (.cells #[.int .u8 10] 5)).heap.size from ⟨u_lit wn3, by simp⟩)
          replace CH := Lib.hid (CH.out.trans (hbb.mono CH.out.size))
          obtain ⟨gu, hgu⟩ : ∃ g, g = wn3.heap.size := ⟨_, rfl⟩
          obtain ⟨wn4, hwn⟩ : ∃ W, W = (wn3.alloc (.cells #[.int .u8 10] 5)) := ⟨_, rfl⟩
          rw [← hwn, ← hgu] at HU
          rw [← hwn] at CH ⊢
          rw [← hgu]
          clear hwn hgu hbb
          refine ⟨fun _ => CH.out, ?_⟩
          refine one_s (i := 10) (by kernel_rfl) (op_list rfl ?_)
          have hu := HU.out.1
          go_wp2
          clear hu
          clear HU
          refine ⟨fun _ => CH.out, ?_⟩
          refine one_s (i := 11) (by kernel_rfl) (op_list rfl ?_)
          go_wp2
          refine ⟨fun _ => CH.out, ?_⟩
          refine one_s (i := 12) (by kernel_rfl) (op_list rfl ?_)
          go_wp2
          refine ⟨fun _ => CH.out, done_s (by kernel_rfl) ?_ _⟩
          go_wp2_with fail
          go_meet
          exact ⟨by rw [HH.out, HM.out], CD.out.trans (CH.out.mono (Nat.le_refl _))⟩
        · go_wp2
          have hbb : Below wn2.heap.size wn2 (wn2.alloc (.cells #[.int .u8 10] 5)) := (show Below wn2.heap.size wn2 (wn2.alloc _) from (Below.refl _ _).alloc (Nat.le_refl _) _)
          replace HA := Lib.hid (show _ ∧ _ from ⟨HA.out.1.below hbb HA.out.2, Nat.lt_of_lt_of_le HA.out.2 (hbb).size⟩)
          have HU := Lib.hid (show (wn2.alloc (.cells #[.int .u8 10] 5)).cell? ⟨wn2.heap.size, 0, none⟩ = some (.int .u8 10) ∧ wn2.heap.size < (wn2.alloc (.cells #[.int .u8 10] 5)).heap.size from ⟨u_lit wn2, by simp⟩)
          replace CH := Lib.hid (CH.out.trans (hbb.mono CH.out.size))
          obtain ⟨gu, hgu⟩ : ∃ g, g = wn2.heap.size := ⟨_, rfl⟩
          obtain ⟨wn3, hwn⟩ : ∃ W, W = (wn2.alloc (.cells #[.int .u8 10] 5)) := ⟨_, rfl⟩
          rw [← hwn, ← hgu] at HU
          rw [← hwn] at HA
          rw [← hwn] at CH ⊢
          rw [← hgu]
          clear hwn hgu hbb
          refine ⟨fun _ => CH.out, ?_⟩
          refine two_s (i := 7) (k := 10) (by kernel_rfl) (op_list rfl ?_) (op_list rfl ?_)
          · go_wp2_with fail
            refine (KF.out _ _ HA.out.2 HA.out.1).mono ?_
            rintro e wn4 ⟨rfl, hbb⟩
            clear HA
            replace HU := Lib.hid (show _ ∧ _ from ⟨((hbb).cell HU.out.2).trans HU.out.1, Nat.lt_of_lt_of_le HU.out.2 (hbb).size⟩)
            replace CH := Lib.hid (CH.out.trans (hbb.mono CH.out.size))
            clear hbb
            go_wp2
            refine ⟨fun _ => CH.out, ?_⟩
            refine take_s (i := 8) (v := .string M) rfl (by kernel_rfl) (fun _ _ _ h => h) CH.out rfl (fun V hV => ?_) ?_
            · have hM := HM.out; rw [← hM]; go_simp; omega
            refine one_s (i := 10) (by kernel_rfl) (op_list rfl ?_)
            have hu := HU.out.1
            go_wp2
            clear hu
            clear HU
            refine ⟨fun _ => CH.out, ?_⟩
            refine one_s (i := 11) (by kernel_rfl) (op_list rfl ?_)
            go_wp2
            refine ⟨fun _ => CH.out, ?_⟩
            refine one_s (i := 12) (by kernel_rfl) (op_list rfl ?_)
            go_wp2
            refine ⟨fun _ => CH.out, done_s (by kernel_rfl) ?_ _⟩
            go_wp2_with fail
            go_meet
            exact ⟨by rw [HH.out, HM.out], CD.out.trans (CH.out.mono (Nat.le_refl _))⟩
          · have hu := HU.out.1
            go_wp2
            clear hu
            clear HU
            refine ⟨fun _ => CH.out, ?_⟩
            refine one_s (i := 7) (by kernel_rfl) (op_list rfl ?_)
            go_wp2_with fail
            refine (KF.out _ _ HA.out.2 HA.out.1).mono ?_
            rintro e wn4 ⟨rfl, hbb⟩
            clear HA
            replace CH := Lib.hid (CH.out.trans (hbb.mono CH.out.size))
            clear hbb
            go_wp2
            refine ⟨fun _ => CH.out, ?_⟩
            refine take_s (i := 8) (v := .string M) rfl (by kernel_rfl) (fun _ _ _ h => h) CH.out rfl (fun V hV => ?_) ?_
            · have hM := HM.out; rw [← hM]; go_simp; omega
            refine one_s (i := 11) (by kernel_rfl) (op_list rfl ?_)
            go_wp2
            refine ⟨fun _ => CH.out, ?_⟩
            refine one_s (i := 12) (by kernel_rfl) (op_list rfl ?_)
            go_wp2
            refine ⟨fun _ => CH.out, done_s (by kernel_rfl) ?_ _⟩
            go_wp2_with fail
            go_meet
            exact ⟨by rw [HH.out, HM.out], CD.out.trans (CH.out.mono (Nat.le_refl _))⟩
      · go_wp2
        have hbb : Below w1.drew.heap.size w1.drew ((w1.alloc (.cells #[.int .u8 10] 5)).drew) := (show Below w1.drew.heap.size w1.drew (w1.drew.alloc _) from (Below.refl _ _).alloc (Nat.le_refl _) _)
        have HU := Lib.hid (show ((w1.alloc (.cells #[.int .u8 10] 5)).drew).cell? ⟨w1.heap.size, 0, none⟩ = some (.int .u8 10) ∧ w1.heap.size < ((w1.alloc (.cells #[.int .u8 10] 5)).drew).heap.size from ⟨u_lit w1.drew, by simp⟩)
        replace CH := Lib.hid (CH.out.trans (hbb.mono CH.out.size))
        obtain ⟨gu, hgu⟩ : ∃ g, g = w1.heap.size := ⟨_, rfl⟩
        obtain ⟨wn2, hwn⟩ : ∃ W, W = ((w1.alloc (.cells #[.int .u8 10] 5)).drew) := ⟨_, rfl⟩
        rw [← hwn, ← hgu] at HU
        rw [← hwn] at CH ⊢
        rw [← hgu]
        clear hwn hgu hbb
        refine ⟨fun _ => CH.out, ?_⟩
        refine two_s (i := 6) (k := 10) (by kernel_rfl) (op_list rfl ?_) (op_list rfl ?_)
        · go_wp2
          have hbb : Below wn2.heap.size wn2 (wn2.alloc (.cells #[.int .i64 vw, .int .i64 vm, .int .i64 vi] 3)) := (show Below wn2.heap.size wn2 (wn2.alloc _) from (Below.refl _ _).alloc (Nat.le_refl _) _)
          replace HU := Lib.hid (show _ ∧ _ from ⟨((hbb).cell HU.out.2).trans HU.out.1, Nat.lt_of_lt_of_le HU.out.2 (hbb).size⟩)
          have HA := Lib.hid (show At (wn2.alloc (.cells #[.int .i64 vw, .int .i64 vm, .int .i64 vi] 3)) wn2.heap.size 0 ([vw, vm, vi].map (Value.int .i64)) ∧ wn2.heap.size < (wn2.alloc (.cells #[.int .i64 vw, .int .i64 vm, .int .i64 vi] 3)).heap.size from ⟨at_lit3 wn2 vw vm vi, by simp⟩)
          replace CH := Lib.hid (CH.out.trans (hbb.mono CH.out.size))
          obtain ⟨ga, hga⟩ : ∃ g, g = wn2.heap.size := ⟨_, rfl⟩
          obtain ⟨wn3, hwn⟩ : ∃ W, W = (wn2.alloc (.cells #[.int .i64 vw, .int .i64 vm, .int .i64 vi] 3)) := ⟨_, rfl⟩
          rw [← hwn, ← hga] at HA
          rw [← hwn] at HU
          rw [← hwn] at CH ⊢
          rw [← hga]
          clear hwn hga hbb
          refine ⟨fun _ => CH.out, ?_⟩
          refine two_s (i := 7) (k := 10) (by kernel_rfl) (op_list rfl ?_) (op_list rfl ?_)
          · go_wp2_with fail
            refine (KF.out _ _ HA.out.2 HA.out.1).mono ?_
            rintro e wn4 ⟨rfl, hbb⟩
            clear HA
            replace HU := Lib.hid (show _ ∧ _ from ⟨((hbb).cell HU.out.2).trans HU.out.1, Nat.lt_of_lt_of_le HU.out.2 (hbb).size⟩)
            replace CH := Lib.hid (CH.out.trans (hbb.mono CH.out.size))
            clear hbb
            go_wp2
            refine ⟨fun _ => CH.out, ?_⟩
            refine take_s (i := 8) (v := .string M) rfl (by kernel_rfl) (fun _ _ _ h => h) CH.out rfl (fun V hV => ?_) ?_
            · have hM := HM.out; rw [← hM]; go_simp; omega
            refine one_s (i := 10) (by kernel_rfl) (op_list rfl ?_)
            have hu := HU.out.1
            go_wp2
            clear hu
            clear HU
            refine ⟨fun _ => CH.out, ?_⟩
            refine one_s (i := 11) (by kernel_rfl) (op_list rfl ?_)
            go_wp2
            refine ⟨fun _ => CH.out, ?_⟩
            refine one_s (i := 12) (by kernel_rfl) (op_list rfl ?_)
            go_wp2
            refine ⟨fun _ => CH.out, done_s (by kernel_rfl) ?_ _⟩
            go_wp2_with fail
            go_meet
            exact ⟨by rw [HH.out, HM.out], CD.out.trans (CH.out.mono (Nat.le_refl _))⟩
          · have hu := HU.out.1
            go_wp2
            clear hu
            clear HU
            refine ⟨fun _ => CH.out, ?_⟩
            refine one_s (i := 7) (by kernel_rfl) (op_list rfl ?_)
            go_wp2_with fail
            refine (KF.out _ _ HA.out.2 HA.out.1).mono ?_
            rintro e wn4 ⟨rfl, hbb⟩
            clear HA
            replace CH := Lib.hid (CH.out.trans (hbb.mono CH.out.size))
            clear hbb
            go_wp2
            refine ⟨fun _ => CH.out, ?_⟩
            refine take_s (i := 8) (v := .string M) rfl (by kernel_rfl) (fun _ _ _ h => h) CH.out rfl (fun V hV => ?_) ?_
            · have hM := HM.out; rw [← hM]; go_simp; omega
            refine one_s (i := 11) (by kernel_rfl) (op_list rfl ?_)
            go_wp2
            refine ⟨fun _ => CH.out, ?_⟩
            refine one_s (i := 12) (by kernel_rfl) (op_list rfl ?_)
            go_wp2
            refine ⟨fun _ => CH.out, done_s (by kernel_rfl) ?_ _⟩
            go_wp2_with fail
            go_meet
            exact ⟨by rw [HH.out, HM.out], CD.out.trans (CH.out.mono (Nat.le_refl _))⟩
        · have hu := HU.out.1
          go_wp2
          clear hu
          clear HU
          refine ⟨fun _ => CH.out, ?_⟩
          refine one_s (i := 6) (by kernel_rfl) (op_list rfl ?_)
          go_wp2
          have hbb : Below wn2.heap.size wn2 (wn2.alloc (.cells #[.int .i64 vw, .int .i64 vm, .int .i64 vi] 3)) := (show Below wn2.heap.size wn2 (wn2.alloc _) from (Below.refl _ _).alloc (Nat.le_refl _) _)
          have HA := Lib.hid (show At (wn2.alloc (.cells #[.int .i64 vw, .int .i64 vm, .int .i64 vi] 3)) wn2.heap.size 0 ([vw, vm, vi].map (Value.int .i64)) ∧ wn2.heap.size < (wn2.alloc (.cells #[.int .i64 vw, .int .i64 vm, .int .i64 vi] 3)).heap.size from ⟨at_lit3 wn2 vw vm vi, by simp⟩)
          replace CH := Lib.hid (CH.out.trans (hbb.mono CH.out.size))
          obtain ⟨ga, hga⟩ : ∃ g, g = wn2.heap.size := ⟨_, rfl⟩
          obtain ⟨wn3, hwn⟩ : ∃ W, W = (wn2.alloc (.cells #[.int .i64 vw, .int .i64 vm, .int .i64 vi] 3)) := ⟨_, rfl⟩
          rw [← hwn, ← hga] at HA
          rw [← hwn] at CH ⊢
          rw [← hga]
          clear hwn hga hbb
          refine ⟨fun _ => CH.out, ?_⟩
          refine one_s (i := 7) (by kernel_rfl) (op_list rfl ?_)
          go_wp2_with fail
          refine (KF.out _ _ HA.out.2 HA.out.1).mono ?_
          rintro e wn4 ⟨rfl, hbb⟩
          clear HA
          replace CH := Lib.hid (CH.out.trans (hbb.mono CH.out.size))
          clear hbb
          go_wp2
          refine ⟨fun _ => CH.out, ?_⟩
          refine take_s (i := 8) (v := .string M) rfl (by kernel_rfl) (fun _ _ _ h => h) CH.out rfl (fun V hV => ?_) ?_
          · have hM := HM.out; rw [← hM]; go_simp; omega
          refine one_s (i := 11) (by kernel_rfl) (op_list rfl ?_)
          go_wp2
          refine ⟨fun _ => CH.out, ?_⟩
          refine one_s (i := 12) (by kernel_rfl) (op_list rfl ?_)
          go_wp2
          refine ⟨fun _ => CH.out, done_s (by kernel_rfl) ?_ _⟩
          go_wp2_with fail
          go_meet
          exact ⟨by rw [HH.out, HM.out], CD.out.trans (CH.out.mono (Nat.le_refl _))⟩
    case rest =>
      obtain ⟨hvs, hbc⟩ := hcut
      subst hvs
      have HBC := Lib.hid (HB1.out.trans (hbc.mono HB1.out.size))
      have XC := Lib.hid (XX.out.below hbc)
      have hsc := HBC.out.size
      have hzc : w.heap.size < wc.heap.size := World.block_lt_of_cell? _ _ XC.out.1
      clear XX HB1 hbc
      rw [← H0.out]
      obtain ⟨x0, x1, x2, x3⟩ := XC.out
      go_wp2
      clear x0 x1 x2 x3
      go_loopw [3, 24] (fun v i wr => ∃ j : Nat, j ≤ L.length ∧ v = .string (fpPre vw vm vi L j) ∧ i = .int .i64 j ∧ Below wc.heap.size wc wr) (fun _ i _ => L.length - (intOf i).toNat)
      case atStart => exact ⟨0, Nat.zero_le _, rfl, rfl, Below.refl _ _⟩
      case round =>
        obtain ⟨j, hj, rfl, rfl, hb⟩ := hrel
        have HB := Lib.hid hb
        have hsz := hb.size
        by_cases hjn : j < L.length
        · obtain ⟨b, o, rfl, hbl, hcells⟩ := HR.out j hjn
          obtain ⟨c0, c1, c2, c3⟩ := hcells wr (HBC.out.trans (hb.mono HBC.out.size))
          have hzp := HSZ.out j (by omega)
          have hzf := HFZ.out j hjn
          have HNJ := Lib.hid (HN.out j hjn)
          obtain ⟨op, a, b', c, hLj, ha, hb'⟩ := HX.out j hjn
          rw [hLj] at c0 c1 c2 c3 hzf HNJ
          simp only at c0 c1 c2 c3
          have KX := Lib.hid (fun W => s_format op a b' c vw L.length ha hb' W)
          obtain ⟨t, ht⟩ : ∃ t, fiV ⟨op, a, b', c⟩ vw L.length = t := ⟨_, rfl⟩
          rw [ht] at KX hzf HNJ
          obtain ⟨p, hp⟩ : ∃ p, fpPre vw vm vi L j = p := ⟨_, rfl⟩
          rw [hp] at hzp HNJ ⊢
          have hzm : (p ++ t).size ≤ 4000 := by rw [ByteArray.size_append]; omega
          obtain ⟨M2, hM2⟩ : ∃ M : ByteArray, p ++ t = M := ⟨_, rfl⟩
          have HM2 := Lib.hid hM2
          rw [hM2] at hzm HNJ
          have XR := Lib.hid (XC.out.below hb)
          clear hb hLj ht hp ha hb' hcells hM2
          have hki : decide ((j : Int) < (L.length : Int)) = true := by simp; omega
          have hlt : w.heap.size < wr.heap.size := by omega
          have hbw : b < wr.heap.size := by omega
          obtain ⟨x0, x1, x2, x3⟩ := XR.out
          go_upto_region 7 with fail
          clear c0 c1 c2 c3 x0 x1 x2 x3
          obtain ⟨wb, hwb⟩ : ∃ W, W = wr.alloc (.cells #[.int .i64 op, .int .i64 a, .int .i64 b', .int .i64 c] 39) := ⟨_, rfl⟩
          have HBB := Lib.hid (show Below wr.heap.size wr wb by rw [hwb]; exact (Below.refl _ _).alloc (Nat.le_refl _) _)
          have XX := Lib.hid (XR.out.below HBB.out)
          have YY := Lib.hid (show Cell4 wb wr.heap.size (.int .i64 op) (.int .i64 a) (.int .i64 b') (.int .i64 c) by rw [hwb]; exact cell4_alloc _ _ _ _ _ _)
          rw [← hwb]
          clear hwb
          have CD := Lib.hid (show Below wb.heap.size wb wb.drew from (Below.refl _ _).drew)
          have CH := Lib.hid (Below.refl wb.drew.heap.size wb.drew)
          refine region_s [] (fun V => Below wb.drew.heap.size wb.drew V) (by kernel_rfl) ?_
          refine take_s (i := 0) (v := .string p) rfl (by kernel_rfl) (fun _ _ _ h => h) CH.out rfl (fun V hV => ?_) ?_
          · go_simp
          refine take_s (i := 1) (v := .agg #[.int .i64 op, .int .i64 a, .int .i64 b', .int .i64 c]) rfl (by kernel_rfl) (fun _ _ _ h => h) CH.out rfl (fun V hV => ?_) ?_
          · obtain ⟨y0, y1, y2, y3⟩ := YY.out.below (CD.out.trans (hV.mono (Nat.le_refl _))); go_simp
          refine take_s (i := 2) (v := .pointer (some ⟨w.heap.size, 0, none⟩)) rfl (by kernel_rfl) (fun _ _ _ h => h) CH.out rfl (fun V hV => ?_) ?_
          · obtain ⟨x0, x1, x2, x3⟩ := XX.out.below (CD.out.trans (hV.mono (Nat.le_refl _))); go_simp
          refine take_s (i := 3) (v := .int .i64 vw) rfl (by kernel_rfl) (fun _ _ _ h => h) CH.out rfl (fun V hV => ?_) ?_
          · obtain ⟨x0, x1, x2, x3⟩ := XX.out.below (CD.out.trans (hV.mono (Nat.le_refl _))); go_simp
          refine take_s (i := 4) (v := .pointer (some ⟨w.heap.size, 3, none⟩)) rfl (by kernel_rfl) (fun _ _ _ h => h) CH.out rfl (fun V hV => ?_) ?_
          · obtain ⟨x0, x1, x2, x3⟩ := XX.out.below (CD.out.trans (hV.mono (Nat.le_refl _))); go_simp
          refine take_s (i := 5) (v := .slice (some ⟨b, o, none⟩) L.length cap) rfl (by kernel_rfl) (fun _ _ _ h => h) CH.out rfl (fun V hV => ?_) ?_
          · obtain ⟨x0, x1, x2, x3⟩ := XX.out.below (CD.out.trans (hV.mono (Nat.le_refl _))); go_simp
          refine take_s (i := 6) (v := .int .i64 (L.length : Int)) rfl (by kernel_rfl) (fun _ _ _ h => h) CH.out rfl (fun V hV => ?_) ?_
          · go_simp
          refine two_s (i := 7) (k := 9) (by kernel_rfl) (op_list rfl ?_) (op_list rfl ?_)
          · go_wp2_with fail
            refine (KX.out _).mono ?_
            rintro e wn2 ⟨rfl, hbb⟩
            replace CH := Lib.hid (CH.out.trans (hbb.mono CH.out.size))
            clear hbb
            go_wp2
            refine ⟨fun _ => CH.out, ?_⟩
            refine take_s (i := 8) (v := .string M2) rfl (by kernel_rfl) (fun _ _ _ h => h) CH.out rfl (fun V hV => ?_) ?_
            · have hM2 := HM2.out; rw [← hM2]; go_simp; omega
            refine one_s (i := 9) (by kernel_rfl) (op_list rfl ?_)
            go_wp2
            have hbb : Below wn2.heap.size wn2 (wn2.alloc (.cells #[.int .u8 10] 5)) := (show Below wn2.heap.size wn2 (wn2.alloc _) from (Below.refl _ _).alloc (Nat.le_refl _) _)
            have HU := Lib.hid (show (wn2.alloc (.cells #[.int .u8 10] 5)).cell? ⟨wn2.heap.size, 0, none⟩ = some (.int .u8 10) ∧ wn2.heap.size < (wn2.alloc (.cells #[.int .u8 10] 5)).heap.size from ⟨u_lit wn2, by simp⟩)
            replace CH := Lib.hid (CH.out.trans (hbb.mono CH.out.size))
            obtain ⟨gu, hgu⟩ : ∃ g, g = wn2.heap.size := ⟨_, rfl⟩
            obtain ⟨wn3, hwn⟩ : ∃ W, W = (wn2.alloc (.cells #[.int .u8 10] 5)) := ⟨_, rfl⟩
            rw [← hwn, ← hgu] at HU
            rw [← hwn] at CH ⊢
            rw [← hgu]
            clear hwn hgu hbb
            refine ⟨fun _ => CH.out, ?_⟩
            refine one_s (i := 10) (by kernel_rfl) (op_list rfl ?_)
            have hu := HU.out.1
            go_wp2
            clear hu
            clear HU
            refine ⟨fun _ => CH.out, ?_⟩
            refine one_s (i := 11) (by kernel_rfl) (op_list rfl ?_)
            go_wp2
            refine ⟨fun _ => CH.out, ?_⟩
            refine one_s (i := 12) (by kernel_rfl) (op_list rfl ?_)
            go_wp2
            refine ⟨fun _ => CH.out, done_s (by kernel_rfl) ?_ _⟩
            have HBE := Lib.hid (HB.out.trans ((HBB.out.trans ((CD.out.trans (CH.out.mono (Nat.le_refl _))).mono HBB.out.size)).mono hsz))
            go_wp2
            go_roundw
            case rel => exact ⟨j + 1, by omega, by rw [HNJ.out], by go_num, HBE.out⟩
            case measure => simp [intOf]; omega
          · go_wp2
            have hbb : Below wb.drew.heap.size wb.drew ((wb.alloc (.cells #[.int .u8 10] 5)).drew) := (show Below wb.drew.heap.size wb.drew (wb.drew.alloc _) from (Below.refl _ _).alloc (Nat.le_refl _) _)
            have HU := Lib.hid (show ((wb.alloc (.cells #[.int .u8 10] 5)).drew).cell? ⟨wb.heap.size, 0, none⟩ = some (.int .u8 10) ∧ wb.heap.size < ((wb.alloc (.cells #[.int .u8 10] 5)).drew).heap.size from ⟨u_lit wb.drew, by simp⟩)
            replace CH := Lib.hid (CH.out.trans (hbb.mono CH.out.size))
            obtain ⟨gu, hgu⟩ : ∃ g, g = wb.heap.size := ⟨_, rfl⟩
            obtain ⟨wn2, hwn⟩ : ∃ W, W = ((wb.alloc (.cells #[.int .u8 10] 5)).drew) := ⟨_, rfl⟩
            rw [← hwn, ← hgu] at HU
            rw [← hwn] at CH ⊢
            rw [← hgu]
            clear hwn hgu hbb
            refine ⟨fun _ => CH.out, ?_⟩
            refine two_s (i := 7) (k := 10) (by kernel_rfl) (op_list rfl ?_) (op_list rfl ?_)
            · go_wp2_with fail
              refine (KX.out _).mono ?_
              rintro e wn3 ⟨rfl, hbb⟩
              replace HU := Lib.hid (show _ ∧ _ from ⟨((hbb).cell HU.out.2).trans HU.out.1, Nat.lt_of_lt_of_le HU.out.2 (hbb).size⟩)
              replace CH := Lib.hid (CH.out.trans (hbb.mono CH.out.size))
              clear hbb
              go_wp2
              refine ⟨fun _ => CH.out, ?_⟩
              refine take_s (i := 8) (v := .string M2) rfl (by kernel_rfl) (fun _ _ _ h => h) CH.out rfl (fun V hV => ?_) ?_
              · have hM2 := HM2.out; rw [← hM2]; go_simp; omega
              refine one_s (i := 10) (by kernel_rfl) (op_list rfl ?_)
              have hu := HU.out.1
              go_wp2
              clear hu
              clear HU
              refine ⟨fun _ => CH.out, ?_⟩
              refine one_s (i := 11) (by kernel_rfl) (op_list rfl ?_)
              go_wp2
              refine ⟨fun _ => CH.out, ?_⟩
              refine one_s (i := 12) (by kernel_rfl) (op_list rfl ?_)
              go_wp2
              refine ⟨fun _ => CH.out, done_s (by kernel_rfl) ?_ _⟩
              have HBE := Lib.hid (HB.out.trans ((HBB.out.trans ((CD.out.trans (CH.out.mono (Nat.le_refl _))).mono HBB.out.size)).mono hsz))
              go_wp2
              go_roundw
              case rel => exact ⟨j + 1, by omega, by rw [HNJ.out], by go_num, HBE.out⟩
              case measure => simp [intOf]; omega
            · have hu := HU.out.1
              go_wp2
              clear hu
              clear HU
              refine ⟨fun _ => CH.out, ?_⟩
              refine one_s (i := 7) (by kernel_rfl) (op_list rfl ?_)
              go_wp2_with fail
              refine (KX.out _).mono ?_
              rintro e wn3 ⟨rfl, hbb⟩
              replace CH := Lib.hid (CH.out.trans (hbb.mono CH.out.size))
              clear hbb
              go_wp2
              refine ⟨fun _ => CH.out, ?_⟩
              refine take_s (i := 8) (v := .string M2) rfl (by kernel_rfl) (fun _ _ _ h => h) CH.out rfl (fun V hV => ?_) ?_
              · have hM2 := HM2.out; rw [← hM2]; go_simp; omega
              refine one_s (i := 11) (by kernel_rfl) (op_list rfl ?_)
              go_wp2
              refine ⟨fun _ => CH.out, ?_⟩
              refine one_s (i := 12) (by kernel_rfl) (op_list rfl ?_)
              go_wp2
              refine ⟨fun _ => CH.out, done_s (by kernel_rfl) ?_ _⟩
              have HBE := Lib.hid (HB.out.trans ((HBB.out.trans ((CD.out.trans (CH.out.mono (Nat.le_refl _))).mono HBB.out.size)).mono hsz))
              go_wp2
              go_roundw
              case rel => exact ⟨j + 1, by omega, by rw [HNJ.out], by go_num, HBE.out⟩
              case measure => simp [intOf]; omega
        · have hje : j = L.length := by omega
          subst hje
          have hki : decide ((L.length : Int) < (L.length : Int)) = false := by simp
          clear hb
          go_wp2
          go_ret
          exact ⟨rfl, HBC.out.trans (HB.out.mono HBC.out.size)⟩
end Go.Proofs.YtmmcpjdcfhgkiabDoor
