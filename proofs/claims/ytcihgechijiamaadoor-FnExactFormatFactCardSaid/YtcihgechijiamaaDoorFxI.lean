/- What the program's FormatFact returns, where the tables lie as the program lays them. -/
import Derived.Test.YtcihgechijiamaaDoorFxM
import Derived.Test.YtcihgechijiamaaDoorFcI
import Derived.Test.YtcihgechijiamaaDoorWrI
import Derived.Test.YtcihgechijiamaaDoorReg
import Derived.Deep.RegionWith
namespace Go.Proofs.YtcihgechijiamaaDoor
open Go.ChangeShapes Go.WideShapes Go.ChangeAt Go.RowKit
set_option maxRecDepth 100000 in
theorem i_regname (n : Int) (h0 : -9223372036854775808 ≤ n) (h1 : n ≤ 9223372036854775807) (w : World) (htab : Lib.TabIs Tryd.prog w "internal/strconv.uint64pow10" .u64 Lib.pow10Tab) :
    Calls Tryd.prog 48 #[.int .i64 n] w fun e w' => e = .returned (.string ((⟨#[114]⟩ : ByteArray) ++ itB n)) ∧ Below w.heap.size w w' := by
  have hz := itB_size n h0 h1
  have KF : Hid (Calls Tryd.prog 73 #[.int .i64 n] w fun e w' => e = .returned (.string (itB n)) ∧ Below w.heap.size w w') := Lib.hid (i_fmt n h0 h1 w htab)
  clear htab
  generalize itB n = t at *
  have hz2 : (⟨#[114]⟩ : ByteArray).size = 1 := rfl
  go_enter Tryd.func48, Tryd.ntmps48
  go_wp2_with (go_at_call 73; refine KF.out.mono ?_; rintro e w1 ⟨rfl, hb⟩)
  go_ret
  exact ⟨rfl, hb⟩
set_option maxRecDepth 100000 in
set_option maxHeartbeats 4000000 in
theorem i_ffact1 (vw vm vi : Int) (L : List InsR) (a b n : Int) (s : Value) (w : World) (hs : Cs.Shows w 0 4 s L.length (InsR.all L)) (hok : ∀ r ∈ L, r.Ok) (hL : L.length ≤ maxLen) (ha : (-9223372036854775808 ≤ a ∧ a ≤ 9223372036854775807)) (hb0 : (-9223372036854775808 ≤ b ∧ b ≤ 9223372036854775807)) (hn0 : (-9223372036854775808 ≤ n ∧ n ≤ 9223372036854775807)) (hvar : w.var? Tryd.prog "loop.example/g03219/impl.factForms" = some fmCells) (htab : Lib.TabIs Tryd.prog w "internal/strconv.uint64pow10" .u64 Lib.pow10Tab) :
    Calls Tryd.prog 18 #[.agg #[.int .i64 vw, .int .i64 vm, .int .i64 vi, s], .agg #[.int .i64 1, .int .i64 a, .int .i64 b, .int .i64 n]] w fun e w' => e = .returned (.string (fxV vw vm vi L 1 a b n)) ∧ Below w.heap.size w w' := by
  have hml : maxLen = 9223372036854775807 := rfl
  have K1 := Lib.hid (fun W (hb : Below w.heap.size w W) => i_fact vw vm vi L 1 a b n s W (hs.below hb) hok hL (forms_below hb hvar))
  obtain ⟨_, q, cap, rfl, _⟩ := hs
  obtain ⟨b1, hb1⟩ : ∃ x, fcB vw vm vi L 1 a b n = x := ⟨_, rfl⟩
  obtain ⟨V, hV⟩ : ∃ V, fxV vw vm vi L 1 a b n = V := ⟨_, rfl⟩
  rw [hV]
  unfold fxV at hV
  rw [hb1] at hV K1
  have HV := Lib.hid hV
  clear hV hb1
  have HB0 := Lib.hid (((Below.refl w.heap.size w).alloc (Nat.le_refl _) (.cells #[.int .i64 vw, .int .i64 vm, .int .i64 vi, .slice q L.length cap] 31)).alloc (by simp) (.cells #[.int .i64 1, .int .i64 a, .int .i64 b, .int .i64 n] 33))
  have X0 := Lib.hid ((cell4_alloc w 31 (.int .i64 vw) (.int .i64 vm) (.int .i64 vi) (.slice q L.length cap)).below ((Below.refl _ _).alloc (Nat.le_refl _) (.cells #[.int .i64 1, .int .i64 a, .int .i64 b, .int .i64 n] 33)))
  have Y0 := Lib.hid (cell4_alloc (w.alloc (.cells #[.int .i64 vw, .int .i64 vm, .int .i64 vi, .slice q L.length cap] 31)) 33 (.int .i64 1) (.int .i64 a) (.int .i64 b) (.int .i64 n))
  rw [show (w.alloc (.cells #[.int .i64 vw, .int .i64 vm, .int .i64 vi, .slice q L.length cap] 31)).heap.size = w.heap.size + 1 by simp] at Y0
  obtain ⟨w0, hw0⟩ : ∃ w0, w0 = (w.alloc (.cells #[.int .i64 vw, .int .i64 vm, .int .i64 vi, .slice q L.length cap] 31)).alloc (.cells #[.int .i64 1, .int .i64 a, .int .i64 b, .int .i64 n] 33) := ⟨_, rfl⟩
  have hs0 : w0.heap.size = w.heap.size + 2 := by rw [hw0]; simp
  rw [← hw0] at HB0 X0 Y0
  have HVR := Lib.hid (fun W (hb : Below w.heap.size w W) => forms_below hb hvar)
  have HTB := Lib.hid (fun W (hb : Below w.heap.size w W) => var_below hb htab)
  clear hvar htab
  obtain ⟨x0, x1, x2, x3⟩ := X0.out
  obtain ⟨y0, y1, y2, y3⟩ := Y0.out
  rw [hw0] at x0 x1 x2 x3 y0 y1 y2 y3
  go_enter Tryd.func18, Tryd.ntmps18
  go_wp2_with fail
  rw [← hw0] at x0 x1 x2 x3 y0 y1 y2 y3 ⊢
  clear hw0
  refine (K1.out _ HB0.out).mono ?_
  rintro e w1 ⟨rfl, hb⟩
  have HB1 := Lib.hid (HB0.out.trans (hb.mono HB0.out.size))
  have Y1 := Lib.hid (Y0.out.below hb)
  have hsz := hb.size
  clear hb x0 x1 x2 x3 y0 y1 y2 y3
  obtain ⟨y0, y1, y2, y3⟩ := Y1.out
  cases b1
  case false =>
    have hv : V = ⟨#[]⟩ := HV.out.symm
    subst hv
    go_wp2
    go_ret
    exact ⟨rfl, HB1.out⟩
  case true =>
    have g0 : w1.cell? ⟨0, 3, none⟩ = some (.string ⟨#[105, 115]⟩) := form_cells (HVR.out _ HB1.out) 3 (by omega)
    have g1 : w1.cell? ⟨0, 4, none⟩ = some (.int .i64 0) := form_cells (HVR.out _ HB1.out) 4 (by omega)
    have g2 : w1.cell? ⟨0, 5, none⟩ = some (.int .i64 2) := form_cells (HVR.out _ HB1.out) 5 (by omega)
    have hz1 : w.heap.size + 1 < w1.heap.size := by omega
    have hzg : 0 < w1.heap.size := World.block_lt_of_cell? _ _ g0
    have HVV : Hid (wrV 2 (wrV 0 ((⟨#[114]⟩ : ByteArray) ++ itB a ++ ⟨#[32]⟩ ++ ⟨#[105, 115]⟩) b) n = V) := Lib.hid HV.out
    have z1 := itB_size a ha.1 ha.2
    have z2 : ((⟨#[114]⟩ : ByteArray) ++ itB a).size ≤ 22 := by rw [ByteArray.size_append]; have : (⟨#[114]⟩ : ByteArray).size = 1 := rfl; omega
    have z3 : ((⟨#[114]⟩ : ByteArray) ++ itB a ++ ⟨#[32]⟩).size ≤ 23 := by rw [ByteArray.size_append]; have : (⟨#[32]⟩ : ByteArray).size = 1 := rfl; omega
    have z4 : ((⟨#[114]⟩ : ByteArray) ++ itB a ++ ⟨#[32]⟩ ++ ⟨#[105, 115]⟩).size ≤ 28 := by rw [ByteArray.size_append]; have : (⟨#[105, 115]⟩ : ByteArray).size = 2 := rfl; omega
    have KR := Lib.hid (fun W (hb : Below w.heap.size w W) => i_regname a ha.1 ha.2 W (HTB.out W hb))
    have hz5 : (⟨#[32]⟩ : ByteArray).size = 1 := rfl
    have hz6 : (⟨#[105, 115]⟩ : ByteArray).size = 2 := rfl
    have KW1 := Lib.hid (fun W (hb : Below w.heap.size w W) => i_write 0 ((⟨#[114]⟩ : ByteArray) ++ itB a ++ ⟨#[32]⟩ ++ ⟨#[105, 115]⟩) b (by omega) hb0.1 hb0.2 (by omega) W (HTB.out W hb))
    have z7 := wr_size 0 ((⟨#[114]⟩ : ByteArray) ++ itB a ++ ⟨#[32]⟩ ++ ⟨#[105, 115]⟩) b hb0.1 hb0.2
    have KW2 := Lib.hid (fun W (hb : Below w.heap.size w W) => i_write 2 (wrV 0 ((⟨#[114]⟩ : ByteArray) ++ itB a ++ ⟨#[32]⟩ ++ ⟨#[105, 115]⟩) b) n (by omega) hn0.1 hn0.2 (by omega) W (HTB.out W hb))
    clear HV
    generalize itB a = ta at *
    generalize wrV 0 ((⟨#[114]⟩ : ByteArray) ++ ta ++ ⟨#[32]⟩ ++ ⟨#[105, 115]⟩) b = t1 at *
    generalize wrV 2 t1 n = t2 at *
    obtain ⟨w2, hw2⟩ : ∃ x, x = w1.alloc (.cells #[.string ⟨#[105, 115]⟩, .int .i64 0, .int .i64 2] 63) := ⟨_, rfl⟩
    have hb2 : Below w1.heap.size w1 w2 := by rw [hw2]; exact (Below.refl _ _).alloc (Nat.le_refl _) _
    have HB2 := Lib.hid (HB1.out.trans (hb2.mono HB1.out.size))
    have Y2 := Lib.hid (Y1.out.below hb2)
    have hs2 : w2.heap.size = w1.heap.size + 1 := by rw [hw2]; simp
    have Z := Lib.hid (show ∀ j, w2.cell? ⟨w1.heap.size, j, none⟩ = #[(.string ⟨#[105, 115]⟩ : Value), (.int .i64 0 : Value), (.int .i64 2 : Value)][j]? from fun j => by rw [hw2]; exact cell_of_row _ w1.heap.size j _ 63 (0, 0) (heap_alloc_new w1 _))
    have ZF := Lib.hid (fun V (hV : Below w2.heap.size w2 V) => show V.cell? ⟨w1.heap.size, 0, none⟩ = some (.string ⟨#[105, 115]⟩) ∧ V.cell? ⟨w1.heap.size, 1, none⟩ = some (.int .i64 0) ∧ V.cell? ⟨w1.heap.size, 2, none⟩ = some (.int .i64 2) from ⟨(hV.cell (p := ⟨w1.heap.size, 0, none⟩) (show w1.heap.size < _ by omega)).trans (Z.out 0), (hV.cell (p := ⟨w1.heap.size, 1, none⟩) (show w1.heap.size < _ by omega)).trans (Z.out 1), (hV.cell (p := ⟨w1.heap.size, 2, none⟩) (show w1.heap.size < _ by omega)).trans (Z.out 2)⟩)
    clear hb2
    go_wp2
    rw [← hw2]
    clear hw2 g0 g1 g2 y0 y1 y2 y3
    have CD := Lib.hid (show Below w2.heap.size w2 w2.drew from (Below.refl _ _).drew)
    have CH := Lib.hid (Below.refl w2.drew.heap.size w2.drew)
    refine region_s [] (fun V => Below w2.drew.heap.size w2.drew V) (by kernel_rfl) ?_
    refine take_s (i := 0) (v := .pointer (some ⟨w1.heap.size, 2, none⟩)) rfl (by kernel_rfl) (fun _ _ _ h => h) CH.out rfl (fun V hV => ?_) ?_
    · obtain ⟨y0, y1, y2, y3⟩ := Y2.out.below (CD.out.trans (hV.mono (Nat.le_refl _)))
      obtain ⟨f0, f1, f2⟩ := ZF.out _ (CD.out.trans (hV.mono (Nat.le_refl _)))
      go_simp
    refine take_s (i := 1) (v := .int .i64 2) rfl (by kernel_rfl) (fun _ _ _ h => h) CH.out rfl (fun V hV => ?_) ?_
    · obtain ⟨y0, y1, y2, y3⟩ := Y2.out.below (CD.out.trans (hV.mono (Nat.le_refl _)))
      obtain ⟨f0, f1, f2⟩ := ZF.out _ (CD.out.trans (hV.mono (Nat.le_refl _)))
      go_simp
    refine take_s (i := 2) (v := .pointer (some ⟨w1.heap.size, 1, none⟩)) rfl (by kernel_rfl) (fun _ _ _ h => h) CH.out rfl (fun V hV => ?_) ?_
    · obtain ⟨y0, y1, y2, y3⟩ := Y2.out.below (CD.out.trans (hV.mono (Nat.le_refl _)))
      obtain ⟨f0, f1, f2⟩ := ZF.out _ (CD.out.trans (hV.mono (Nat.le_refl _)))
      go_simp
    refine take_s (i := 3) (v := .int .i64 0) rfl (by kernel_rfl) (fun _ _ _ h => h) CH.out rfl (fun V hV => ?_) ?_
    · obtain ⟨y0, y1, y2, y3⟩ := Y2.out.below (CD.out.trans (hV.mono (Nat.le_refl _)))
      obtain ⟨f0, f1, f2⟩ := ZF.out _ (CD.out.trans (hV.mono (Nat.le_refl _)))
      go_simp
    refine take_s (i := 4) (v := .pointer (some ⟨w.heap.size + 1, 1, none⟩)) rfl (by kernel_rfl) (fun _ _ _ h => h) CH.out rfl (fun V hV => ?_) ?_
    · obtain ⟨y0, y1, y2, y3⟩ := Y2.out.below (CD.out.trans (hV.mono (Nat.le_refl _)))
      obtain ⟨f0, f1, f2⟩ := ZF.out _ (CD.out.trans (hV.mono (Nat.le_refl _)))
      go_simp
    refine take_s (i := 5) (v := .int .i64 a) rfl (by kernel_rfl) (fun _ _ _ h => h) CH.out rfl (fun V hV => ?_) ?_
    · obtain ⟨y0, y1, y2, y3⟩ := Y2.out.below (CD.out.trans (hV.mono (Nat.le_refl _)))
      obtain ⟨f0, f1, f2⟩ := ZF.out _ (CD.out.trans (hV.mono (Nat.le_refl _)))
      go_simp
    refine take_s (i := 8) (v := .pointer (some ⟨w1.heap.size, 0, none⟩)) rfl (by kernel_rfl) (fun _ _ _ h => h) CH.out rfl (fun V hV => ?_) ?_
    · obtain ⟨y0, y1, y2, y3⟩ := Y2.out.below (CD.out.trans (hV.mono (Nat.le_refl _)))
      obtain ⟨f0, f1, f2⟩ := ZF.out _ (CD.out.trans (hV.mono (Nat.le_refl _)))
      go_simp
    refine take_s (i := 9) (v := .string ⟨#[105, 115]⟩) rfl (by kernel_rfl) (fun _ _ _ h => h) CH.out rfl (fun V hV => ?_) ?_
    · obtain ⟨y0, y1, y2, y3⟩ := Y2.out.below (CD.out.trans (hV.mono (Nat.le_refl _)))
      obtain ⟨f0, f1, f2⟩ := ZF.out _ (CD.out.trans (hV.mono (Nat.le_refl _)))
      go_simp
    refine take_s (i := 11) (v := .pointer (some ⟨w.heap.size + 1, 2, none⟩)) rfl (by kernel_rfl) (fun _ _ _ h => h) CH.out rfl (fun V hV => ?_) ?_
    · obtain ⟨y0, y1, y2, y3⟩ := Y2.out.below (CD.out.trans (hV.mono (Nat.le_refl _)))
      obtain ⟨f0, f1, f2⟩ := ZF.out _ (CD.out.trans (hV.mono (Nat.le_refl _)))
      go_simp
    refine take_s (i := 12) (v := .int .i64 b) rfl (by kernel_rfl) (fun _ _ _ h => h) CH.out rfl (fun V hV => ?_) ?_
    · obtain ⟨y0, y1, y2, y3⟩ := Y2.out.below (CD.out.trans (hV.mono (Nat.le_refl _)))
      obtain ⟨f0, f1, f2⟩ := ZF.out _ (CD.out.trans (hV.mono (Nat.le_refl _)))
      go_simp
    refine take_s (i := 14) (v := .pointer (some ⟨w.heap.size + 1, 3, none⟩)) rfl (by kernel_rfl) (fun _ _ _ h => h) CH.out rfl (fun V hV => ?_) ?_
    · obtain ⟨y0, y1, y2, y3⟩ := Y2.out.below (CD.out.trans (hV.mono (Nat.le_refl _)))
      obtain ⟨f0, f1, f2⟩ := ZF.out _ (CD.out.trans (hV.mono (Nat.le_refl _)))
      go_simp
    refine take_s (i := 15) (v := .int .i64 n) rfl (by kernel_rfl) (fun _ _ _ h => h) CH.out rfl (fun V hV => ?_) ?_
    · obtain ⟨y0, y1, y2, y3⟩ := Y2.out.below (CD.out.trans (hV.mono (Nat.le_refl _)))
      obtain ⟨f0, f1, f2⟩ := ZF.out _ (CD.out.trans (hV.mono (Nat.le_refl _)))
      go_simp
    refine one_s (i := 6) (by kernel_rfl) (op_list rfl ?_)
    go_wp2_with fail
    refine (KR.out _ (HB2.out.trans ((CD.out.trans (CH.out.mono (Nat.le_refl _))).mono HB2.out.size))).mono ?_
    rintro e wx6 ⟨rfl, hb⟩
    replace CH := Lib.hid (CH.out.trans (hb.mono CH.out.size))
    clear hb
    go_wp2
    refine ⟨fun _ => CH.out, ?_⟩
    refine one_s (i := 7) (by kernel_rfl) (op_list rfl ?_)
    go_wp2
    refine ⟨fun _ => CH.out, ?_⟩
    refine one_s (i := 10) (by kernel_rfl) (op_list rfl ?_)
    go_wp2
    refine ⟨fun _ => CH.out, ?_⟩
    refine one_s (i := 13) (by kernel_rfl) (op_list rfl ?_)
    go_wp2_with fail
    refine (KW1.out _ (HB2.out.trans ((CD.out.trans (CH.out.mono (Nat.le_refl _))).mono HB2.out.size))).mono ?_
    rintro e wx13 ⟨rfl, hb⟩
    replace CH := Lib.hid (CH.out.trans (hb.mono CH.out.size))
    clear hb
    go_wp2
    refine ⟨fun _ => CH.out, ?_⟩
    refine one_s (i := 16) (by kernel_rfl) (op_list rfl ?_)
    go_wp2_with fail
    refine (KW2.out _ (HB2.out.trans ((CD.out.trans (CH.out.mono (Nat.le_refl _))).mono HB2.out.size))).mono ?_
    rintro e wx16 ⟨rfl, hb⟩
    replace CH := Lib.hid (CH.out.trans (hb.mono CH.out.size))
    clear hb
    go_wp2
    refine ⟨fun _ => CH.out, ?_⟩
    refine one_s (i := 17) (by kernel_rfl) (op_list rfl ?_)
    go_wp2
    refine ⟨fun _ => CH.out, done_s (by kernel_rfl) ?_ _⟩
    go_wp2
    go_ret
    exact ⟨by rw [← HVV.out] <;> rfl, (HB2.out.trans ((CD.out.trans (CH.out.mono (Nat.le_refl _))).mono HB2.out.size))⟩
set_option maxRecDepth 100000 in
set_option maxHeartbeats 4000000 in
theorem i_ffact2 (vw vm vi : Int) (L : List InsR) (a b n : Int) (s : Value) (w : World) (hs : Cs.Shows w 0 4 s L.length (InsR.all L)) (hok : ∀ r ∈ L, r.Ok) (hL : L.length ≤ maxLen) (ha : (-9223372036854775808 ≤ a ∧ a ≤ 9223372036854775807)) (hb0 : (-9223372036854775808 ≤ b ∧ b ≤ 9223372036854775807)) (hn0 : (-9223372036854775808 ≤ n ∧ n ≤ 9223372036854775807)) (hvar : w.var? Tryd.prog "loop.example/g03219/impl.factForms" = some fmCells) (htab : Lib.TabIs Tryd.prog w "internal/strconv.uint64pow10" .u64 Lib.pow10Tab) :
    Calls Tryd.prog 18 #[.agg #[.int .i64 vw, .int .i64 vm, .int .i64 vi, s], .agg #[.int .i64 2, .int .i64 a, .int .i64 b, .int .i64 n]] w fun e w' => e = .returned (.string (fxV vw vm vi L 2 a b n)) ∧ Below w.heap.size w w' := by
  have hml : maxLen = 9223372036854775807 := rfl
  have K1 := Lib.hid (fun W (hb : Below w.heap.size w W) => i_fact vw vm vi L 2 a b n s W (hs.below hb) hok hL (forms_below hb hvar))
  obtain ⟨_, q, cap, rfl, _⟩ := hs
  obtain ⟨b1, hb1⟩ : ∃ x, fcB vw vm vi L 2 a b n = x := ⟨_, rfl⟩
  obtain ⟨V, hV⟩ : ∃ V, fxV vw vm vi L 2 a b n = V := ⟨_, rfl⟩
  rw [hV]
  unfold fxV at hV
  rw [hb1] at hV K1
  have HV := Lib.hid hV
  clear hV hb1
  have HB0 := Lib.hid (((Below.refl w.heap.size w).alloc (Nat.le_refl _) (.cells #[.int .i64 vw, .int .i64 vm, .int .i64 vi, .slice q L.length cap] 31)).alloc (by simp) (.cells #[.int .i64 2, .int .i64 a, .int .i64 b, .int .i64 n] 33))
  have X0 := Lib.hid ((cell4_alloc w 31 (.int .i64 vw) (.int .i64 vm) (.int .i64 vi) (.slice q L.length cap)).below ((Below.refl _ _).alloc (Nat.le_refl _) (.cells #[.int .i64 2, .int .i64 a, .int .i64 b, .int .i64 n] 33)))
  have Y0 := Lib.hid (cell4_alloc (w.alloc (.cells #[.int .i64 vw, .int .i64 vm, .int .i64 vi, .slice q L.length cap] 31)) 33 (.int .i64 2) (.int .i64 a) (.int .i64 b) (.int .i64 n))
  rw [show (w.alloc (.cells #[.int .i64 vw, .int .i64 vm, .int .i64 vi, .slice q L.length cap] 31)).heap.size = w.heap.size + 1 by simp] at Y0
  obtain ⟨w0, hw0⟩ : ∃ w0, w0 = (w.alloc (.cells #[.int .i64 vw, .int .i64 vm, .int .i64 vi, .slice q L.length cap] 31)).alloc (.cells #[.int .i64 2, .int .i64 a, .int .i64 b, .int .i64 n] 33) := ⟨_, rfl⟩
  have hs0 : w0.heap.size = w.heap.size + 2 := by rw [hw0]; simp
  rw [← hw0] at HB0 X0 Y0
  have HVR := Lib.hid (fun W (hb : Below w.heap.size w W) => forms_below hb hvar)
  have HTB := Lib.hid (fun W (hb : Below w.heap.size w W) => var_below hb htab)
  clear hvar htab
  obtain ⟨x0, x1, x2, x3⟩ := X0.out
  obtain ⟨y0, y1, y2, y3⟩ := Y0.out
  rw [hw0] at x0 x1 x2 x3 y0 y1 y2 y3
  go_enter Tryd.func18, Tryd.ntmps18
  go_wp2_with fail
  rw [← hw0] at x0 x1 x2 x3 y0 y1 y2 y3 ⊢
  clear hw0
  refine (K1.out _ HB0.out).mono ?_
  rintro e w1 ⟨rfl, hb⟩
  have HB1 := Lib.hid (HB0.out.trans (hb.mono HB0.out.size))
  have Y1 := Lib.hid (Y0.out.below hb)
  have hsz := hb.size
  clear hb x0 x1 x2 x3 y0 y1 y2 y3
  obtain ⟨y0, y1, y2, y3⟩ := Y1.out
  cases b1
  case false =>
    have hv : V = ⟨#[]⟩ := HV.out.symm
    subst hv
    go_wp2
    go_ret
    exact ⟨rfl, HB1.out⟩
  case true =>
    have g0 : w1.cell? ⟨0, 6, none⟩ = some (.string ⟨#[115, 97, 109, 101]⟩) := form_cells (HVR.out _ HB1.out) 6 (by omega)
    have g1 : w1.cell? ⟨0, 7, none⟩ = some (.int .i64 1) := form_cells (HVR.out _ HB1.out) 7 (by omega)
    have g2 : w1.cell? ⟨0, 8, none⟩ = some (.int .i64 0) := form_cells (HVR.out _ HB1.out) 8 (by omega)
    have hz1 : w.heap.size + 1 < w1.heap.size := by omega
    have hzg : 0 < w1.heap.size := World.block_lt_of_cell? _ _ g0
    have HVV : Hid (wrV 0 (wrV 1 ((⟨#[114]⟩ : ByteArray) ++ itB a ++ ⟨#[32]⟩ ++ ⟨#[115, 97, 109, 101]⟩) b) n = V) := Lib.hid HV.out
    have z1 := itB_size a ha.1 ha.2
    have z2 : ((⟨#[114]⟩ : ByteArray) ++ itB a).size ≤ 22 := by rw [ByteArray.size_append]; have : (⟨#[114]⟩ : ByteArray).size = 1 := rfl; omega
    have z3 : ((⟨#[114]⟩ : ByteArray) ++ itB a ++ ⟨#[32]⟩).size ≤ 23 := by rw [ByteArray.size_append]; have : (⟨#[32]⟩ : ByteArray).size = 1 := rfl; omega
    have z4 : ((⟨#[114]⟩ : ByteArray) ++ itB a ++ ⟨#[32]⟩ ++ ⟨#[115, 97, 109, 101]⟩).size ≤ 28 := by rw [ByteArray.size_append]; have : (⟨#[115, 97, 109, 101]⟩ : ByteArray).size = 4 := rfl; omega
    have KR := Lib.hid (fun W (hb : Below w.heap.size w W) => i_regname a ha.1 ha.2 W (HTB.out W hb))
    have hz5 : (⟨#[32]⟩ : ByteArray).size = 1 := rfl
    have hz6 : (⟨#[115, 97, 109, 101]⟩ : ByteArray).size = 4 := rfl
    have KW1 := Lib.hid (fun W (hb : Below w.heap.size w W) => i_write 1 ((⟨#[114]⟩ : ByteArray) ++ itB a ++ ⟨#[32]⟩ ++ ⟨#[115, 97, 109, 101]⟩) b (by omega) hb0.1 hb0.2 (by omega) W (HTB.out W hb))
    have z7 := wr_size 1 ((⟨#[114]⟩ : ByteArray) ++ itB a ++ ⟨#[32]⟩ ++ ⟨#[115, 97, 109, 101]⟩) b hb0.1 hb0.2
    have KW2 := Lib.hid (fun W (hb : Below w.heap.size w W) => i_write 0 (wrV 1 ((⟨#[114]⟩ : ByteArray) ++ itB a ++ ⟨#[32]⟩ ++ ⟨#[115, 97, 109, 101]⟩) b) n (by omega) hn0.1 hn0.2 (by omega) W (HTB.out W hb))
    clear HV
    generalize itB a = ta at *
    generalize wrV 1 ((⟨#[114]⟩ : ByteArray) ++ ta ++ ⟨#[32]⟩ ++ ⟨#[115, 97, 109, 101]⟩) b = t1 at *
    generalize wrV 0 t1 n = t2 at *
    obtain ⟨w2, hw2⟩ : ∃ x, x = w1.alloc (.cells #[.string ⟨#[115, 97, 109, 101]⟩, .int .i64 1, .int .i64 0] 63) := ⟨_, rfl⟩
    have hb2 : Below w1.heap.size w1 w2 := by rw [hw2]; exact (Below.refl _ _).alloc (Nat.le_refl _) _
    have HB2 := Lib.hid (HB1.out.trans (hb2.mono HB1.out.size))
    have Y2 := Lib.hid (Y1.out.below hb2)
    have hs2 : w2.heap.size = w1.heap.size + 1 := by rw [hw2]; simp
    have Z := Lib.hid (show ∀ j, w2.cell? ⟨w1.heap.size, j, none⟩ = #[(.string ⟨#[115, 97, 109, 101]⟩ : Value), (.int .i64 1 : Value), (.int .i64 0 : Value)][j]? from fun j => by rw [hw2]; exact cell_of_row _ w1.heap.size j _ 63 (0, 0) (heap_alloc_new w1 _))
    have ZF := Lib.hid (fun V (hV : Below w2.heap.size w2 V) => show V.cell? ⟨w1.heap.size, 0, none⟩ = some (.string ⟨#[115, 97, 109, 101]⟩) ∧ V.cell? ⟨w1.heap.size, 1, none⟩ = some (.int .i64 1) ∧ V.cell? ⟨w1.heap.size, 2, none⟩ = some (.int .i64 0) from ⟨(hV.cell (p := ⟨w1.heap.size, 0, none⟩) (show w1.heap.size < _ by omega)).trans (Z.out 0), (hV.cell (p := ⟨w1.heap.size, 1, none⟩) (show w1.heap.size < _ by omega)).trans (Z.out 1), (hV.cell (p := ⟨w1.heap.size, 2, none⟩) (show w1.heap.size < _ by omega)).trans (Z.out 2)⟩)
    clear hb2
    go_wp2
    rw [← hw2]
    clear hw2 g0 g1 g2 y0 y1 y2 y3
    have CD := Lib.hid (show Below w2.heap.size w2 w2.drew from (Below.refl _ _).drew)
    have CH := Lib.hid (Below.refl w2.drew.heap.size w2.drew)
    refine region_s [] (fun V => Below w2.drew.heap.size w2.drew V) (by kernel_rfl) ?_
    refine take_s (i := 0) (v := .pointer (some ⟨w1.heap.size, 2, none⟩)) rfl (by kernel_rfl) (fun _ _ _ h => h) CH.out rfl (fun V hV => ?_) ?_
    · obtain ⟨y0, y1, y2, y3⟩ := Y2.out.below (CD.out.trans (hV.mono (Nat.le_refl _)))
      obtain ⟨f0, f1, f2⟩ := ZF.out _ (CD.out.trans (hV.mono (Nat.le_refl _)))
      go_simp
    refine take_s (i := 1) (v := .int .i64 0) rfl (by kernel_rfl) (fun _ _ _ h => h) CH.out rfl (fun V hV => ?_) ?_
    · obtain ⟨y0, y1, y2, y3⟩ := Y2.out.below (CD.out.trans (hV.mono (Nat.le_refl _)))
      obtain ⟨f0, f1, f2⟩ := ZF.out _ (CD.out.trans (hV.mono (Nat.le_refl _)))
      go_simp
    refine take_s (i := 2) (v := .pointer (some ⟨w1.heap.size, 1, none⟩)) rfl (by kernel_rfl) (fun _ _ _ h => h) CH.out rfl (fun V hV => ?_) ?_
    · obtain ⟨y0, y1, y2, y3⟩ := Y2.out.below (CD.out.trans (hV.mono (Nat.le_refl _)))
      obtain ⟨f0, f1, f2⟩ := ZF.out _ (CD.out.trans (hV.mono (Nat.le_refl _)))
      go_simp
    refine take_s (i := 3) (v := .int .i64 1) rfl (by kernel_rfl) (fun _ _ _ h => h) CH.out rfl (fun V hV => ?_) ?_
    · obtain ⟨y0, y1, y2, y3⟩ := Y2.out.below (CD.out.trans (hV.mono (Nat.le_refl _)))
      obtain ⟨f0, f1, f2⟩ := ZF.out _ (CD.out.trans (hV.mono (Nat.le_refl _)))
      go_simp
    refine take_s (i := 4) (v := .pointer (some ⟨w.heap.size + 1, 1, none⟩)) rfl (by kernel_rfl) (fun _ _ _ h => h) CH.out rfl (fun V hV => ?_) ?_
    · obtain ⟨y0, y1, y2, y3⟩ := Y2.out.below (CD.out.trans (hV.mono (Nat.le_refl _)))
      obtain ⟨f0, f1, f2⟩ := ZF.out _ (CD.out.trans (hV.mono (Nat.le_refl _)))
      go_simp
    refine take_s (i := 5) (v := .int .i64 a) rfl (by kernel_rfl) (fun _ _ _ h => h) CH.out rfl (fun V hV => ?_) ?_
    · obtain ⟨y0, y1, y2, y3⟩ := Y2.out.below (CD.out.trans (hV.mono (Nat.le_refl _)))
      obtain ⟨f0, f1, f2⟩ := ZF.out _ (CD.out.trans (hV.mono (Nat.le_refl _)))
      go_simp
    refine take_s (i := 8) (v := .pointer (some ⟨w1.heap.size, 0, none⟩)) rfl (by kernel_rfl) (fun _ _ _ h => h) CH.out rfl (fun V hV => ?_) ?_
    · obtain ⟨y0, y1, y2, y3⟩ := Y2.out.below (CD.out.trans (hV.mono (Nat.le_refl _)))
      obtain ⟨f0, f1, f2⟩ := ZF.out _ (CD.out.trans (hV.mono (Nat.le_refl _)))
      go_simp
    refine take_s (i := 9) (v := .string ⟨#[115, 97, 109, 101]⟩) rfl (by kernel_rfl) (fun _ _ _ h => h) CH.out rfl (fun V hV => ?_) ?_
    · obtain ⟨y0, y1, y2, y3⟩ := Y2.out.below (CD.out.trans (hV.mono (Nat.le_refl _)))
      obtain ⟨f0, f1, f2⟩ := ZF.out _ (CD.out.trans (hV.mono (Nat.le_refl _)))
      go_simp
    refine take_s (i := 11) (v := .pointer (some ⟨w.heap.size + 1, 2, none⟩)) rfl (by kernel_rfl) (fun _ _ _ h => h) CH.out rfl (fun V hV => ?_) ?_
    · obtain ⟨y0, y1, y2, y3⟩ := Y2.out.below (CD.out.trans (hV.mono (Nat.le_refl _)))
      obtain ⟨f0, f1, f2⟩ := ZF.out _ (CD.out.trans (hV.mono (Nat.le_refl _)))
      go_simp
    refine take_s (i := 12) (v := .int .i64 b) rfl (by kernel_rfl) (fun _ _ _ h => h) CH.out rfl (fun V hV => ?_) ?_
    · obtain ⟨y0, y1, y2, y3⟩ := Y2.out.below (CD.out.trans (hV.mono (Nat.le_refl _)))
      obtain ⟨f0, f1, f2⟩ := ZF.out _ (CD.out.trans (hV.mono (Nat.le_refl _)))
      go_simp
    refine take_s (i := 14) (v := .pointer (some ⟨w.heap.size + 1, 3, none⟩)) rfl (by kernel_rfl) (fun _ _ _ h => h) CH.out rfl (fun V hV => ?_) ?_
    · obtain ⟨y0, y1, y2, y3⟩ := Y2.out.below (CD.out.trans (hV.mono (Nat.le_refl _)))
      obtain ⟨f0, f1, f2⟩ := ZF.out _ (CD.out.trans (hV.mono (Nat.le_refl _)))
      go_simp
    refine take_s (i := 15) (v := .int .i64 n) rfl (by kernel_rfl) (fun _ _ _ h => h) CH.out rfl (fun V hV => ?_) ?_
    · obtain ⟨y0, y1, y2, y3⟩ := Y2.out.below (CD.out.trans (hV.mono (Nat.le_refl _)))
      obtain ⟨f0, f1, f2⟩ := ZF.out _ (CD.out.trans (hV.mono (Nat.le_refl _)))
      go_simp
    refine one_s (i := 6) (by kernel_rfl) (op_list rfl ?_)
    go_wp2_with fail
    refine (KR.out _ (HB2.out.trans ((CD.out.trans (CH.out.mono (Nat.le_refl _))).mono HB2.out.size))).mono ?_
    rintro e wx6 ⟨rfl, hb⟩
    replace CH := Lib.hid (CH.out.trans (hb.mono CH.out.size))
    clear hb
    go_wp2
    refine ⟨fun _ => CH.out, ?_⟩
    refine one_s (i := 7) (by kernel_rfl) (op_list rfl ?_)
    go_wp2
    refine ⟨fun _ => CH.out, ?_⟩
    refine one_s (i := 10) (by kernel_rfl) (op_list rfl ?_)
    go_wp2
    refine ⟨fun _ => CH.out, ?_⟩
    refine one_s (i := 13) (by kernel_rfl) (op_list rfl ?_)
    go_wp2_with fail
    refine (KW1.out _ (HB2.out.trans ((CD.out.trans (CH.out.mono (Nat.le_refl _))).mono HB2.out.size))).mono ?_
    rintro e wx13 ⟨rfl, hb⟩
    replace CH := Lib.hid (CH.out.trans (hb.mono CH.out.size))
    clear hb
    go_wp2
    refine ⟨fun _ => CH.out, ?_⟩
    refine one_s (i := 16) (by kernel_rfl) (op_list rfl ?_)
    go_wp2_with fail
    refine (KW2.out _ (HB2.out.trans ((CD.out.trans (CH.out.mono (Nat.le_refl _))).mono HB2.out.size))).mono ?_
    rintro e wx16 ⟨rfl, hb⟩
    replace CH := Lib.hid (CH.out.trans (hb.mono CH.out.size))
    clear hb
    go_wp2
    refine ⟨fun _ => CH.out, ?_⟩
    refine one_s (i := 17) (by kernel_rfl) (op_list rfl ?_)
    go_wp2
    refine ⟨fun _ => CH.out, done_s (by kernel_rfl) ?_ _⟩
    go_wp2
    go_ret
    exact ⟨by rw [← HVV.out] <;> rfl, (HB2.out.trans ((CD.out.trans (CH.out.mono (Nat.le_refl _))).mono HB2.out.size))⟩
set_option maxRecDepth 100000 in
set_option maxHeartbeats 4000000 in
theorem i_ffact3 (vw vm vi : Int) (L : List InsR) (a b n : Int) (s : Value) (w : World) (hs : Cs.Shows w 0 4 s L.length (InsR.all L)) (hok : ∀ r ∈ L, r.Ok) (hL : L.length ≤ maxLen) (ha : (-9223372036854775808 ≤ a ∧ a ≤ 9223372036854775807)) (hb0 : (-9223372036854775808 ≤ b ∧ b ≤ 9223372036854775807)) (hn0 : (-9223372036854775808 ≤ n ∧ n ≤ 9223372036854775807)) (hvar : w.var? Tryd.prog "loop.example/g03219/impl.factForms" = some fmCells) (htab : Lib.TabIs Tryd.prog w "internal/strconv.uint64pow10" .u64 Lib.pow10Tab) :
    Calls Tryd.prog 18 #[.agg #[.int .i64 vw, .int .i64 vm, .int .i64 vi, s], .agg #[.int .i64 3, .int .i64 a, .int .i64 b, .int .i64 n]] w fun e w' => e = .returned (.string (fxV vw vm vi L 3 a b n)) ∧ Below w.heap.size w w' := by
  have hml : maxLen = 9223372036854775807 := rfl
  have K1 := Lib.hid (fun W (hb : Below w.heap.size w W) => i_fact vw vm vi L 3 a b n s W (hs.below hb) hok hL (forms_below hb hvar))
  obtain ⟨_, q, cap, rfl, _⟩ := hs
  obtain ⟨b1, hb1⟩ : ∃ x, fcB vw vm vi L 3 a b n = x := ⟨_, rfl⟩
  obtain ⟨V, hV⟩ : ∃ V, fxV vw vm vi L 3 a b n = V := ⟨_, rfl⟩
  rw [hV]
  unfold fxV at hV
  rw [hb1] at hV K1
  have HV := Lib.hid hV
  clear hV hb1
  have HB0 := Lib.hid (((Below.refl w.heap.size w).alloc (Nat.le_refl _) (.cells #[.int .i64 vw, .int .i64 vm, .int .i64 vi, .slice q L.length cap] 31)).alloc (by simp) (.cells #[.int .i64 3, .int .i64 a, .int .i64 b, .int .i64 n] 33))
  have X0 := Lib.hid ((cell4_alloc w 31 (.int .i64 vw) (.int .i64 vm) (.int .i64 vi) (.slice q L.length cap)).below ((Below.refl _ _).alloc (Nat.le_refl _) (.cells #[.int .i64 3, .int .i64 a, .int .i64 b, .int .i64 n] 33)))
  have Y0 := Lib.hid (cell4_alloc (w.alloc (.cells #[.int .i64 vw, .int .i64 vm, .int .i64 vi, .slice q L.length cap] 31)) 33 (.int .i64 3) (.int .i64 a) (.int .i64 b) (.int .i64 n))
  rw [show (w.alloc (.cells #[.int .i64 vw, .int .i64 vm, .int .i64 vi, .slice q L.length cap] 31)).heap.size = w.heap.size + 1 by simp] at Y0
  obtain ⟨w0, hw0⟩ : ∃ w0, w0 = (w.alloc (.cells #[.int .i64 vw, .int .i64 vm, .int .i64 vi, .slice q L.length cap] 31)).alloc (.cells #[.int .i64 3, .int .i64 a, .int .i64 b, .int .i64 n] 33) := ⟨_, rfl⟩
  have hs0 : w0.heap.size = w.heap.size + 2 := by rw [hw0]; simp
  rw [← hw0] at HB0 X0 Y0
  have HVR := Lib.hid (fun W (hb : Below w.heap.size w W) => forms_below hb hvar)
  have HTB := Lib.hid (fun W (hb : Below w.heap.size w W) => var_below hb htab)
  clear hvar htab
  obtain ⟨x0, x1, x2, x3⟩ := X0.out
  obtain ⟨y0, y1, y2, y3⟩ := Y0.out
  rw [hw0] at x0 x1 x2 x3 y0 y1 y2 y3
  go_enter Tryd.func18, Tryd.ntmps18
  go_wp2_with fail
  rw [← hw0] at x0 x1 x2 x3 y0 y1 y2 y3 ⊢
  clear hw0
  refine (K1.out _ HB0.out).mono ?_
  rintro e w1 ⟨rfl, hb⟩
  have HB1 := Lib.hid (HB0.out.trans (hb.mono HB0.out.size))
  have Y1 := Lib.hid (Y0.out.below hb)
  have hsz := hb.size
  clear hb x0 x1 x2 x3 y0 y1 y2 y3
  obtain ⟨y0, y1, y2, y3⟩ := Y1.out
  cases b1
  case false =>
    have hv : V = ⟨#[]⟩ := HV.out.symm
    subst hv
    go_wp2
    go_ret
    exact ⟨rfl, HB1.out⟩
  case true =>
    have g0 : w1.cell? ⟨0, 9, none⟩ = some (.string ⟨#[109, 111, 115, 116]⟩) := form_cells (HVR.out _ HB1.out) 9 (by omega)
    have g1 : w1.cell? ⟨0, 10, none⟩ = some (.int .i64 0) := form_cells (HVR.out _ HB1.out) 10 (by omega)
    have g2 : w1.cell? ⟨0, 11, none⟩ = some (.int .i64 2) := form_cells (HVR.out _ HB1.out) 11 (by omega)
    have hz1 : w.heap.size + 1 < w1.heap.size := by omega
    have hzg : 0 < w1.heap.size := World.block_lt_of_cell? _ _ g0
    have HVV : Hid (wrV 2 (wrV 0 ((⟨#[114]⟩ : ByteArray) ++ itB a ++ ⟨#[32]⟩ ++ ⟨#[109, 111, 115, 116]⟩) b) n = V) := Lib.hid HV.out
    have z1 := itB_size a ha.1 ha.2
    have z2 : ((⟨#[114]⟩ : ByteArray) ++ itB a).size ≤ 22 := by rw [ByteArray.size_append]; have : (⟨#[114]⟩ : ByteArray).size = 1 := rfl; omega
    have z3 : ((⟨#[114]⟩ : ByteArray) ++ itB a ++ ⟨#[32]⟩).size ≤ 23 := by rw [ByteArray.size_append]; have : (⟨#[32]⟩ : ByteArray).size = 1 := rfl; omega
    have z4 : ((⟨#[114]⟩ : ByteArray) ++ itB a ++ ⟨#[32]⟩ ++ ⟨#[109, 111, 115, 116]⟩).size ≤ 28 := by rw [ByteArray.size_append]; have : (⟨#[109, 111, 115, 116]⟩ : ByteArray).size = 4 := rfl; omega
    have KR := Lib.hid (fun W (hb : Below w.heap.size w W) => i_regname a ha.1 ha.2 W (HTB.out W hb))
    have hz5 : (⟨#[32]⟩ : ByteArray).size = 1 := rfl
    have hz6 : (⟨#[109, 111, 115, 116]⟩ : ByteArray).size = 4 := rfl
    have KW1 := Lib.hid (fun W (hb : Below w.heap.size w W) => i_write 0 ((⟨#[114]⟩ : ByteArray) ++ itB a ++ ⟨#[32]⟩ ++ ⟨#[109, 111, 115, 116]⟩) b (by omega) hb0.1 hb0.2 (by omega) W (HTB.out W hb))
    have z7 := wr_size 0 ((⟨#[114]⟩ : ByteArray) ++ itB a ++ ⟨#[32]⟩ ++ ⟨#[109, 111, 115, 116]⟩) b hb0.1 hb0.2
    have KW2 := Lib.hid (fun W (hb : Below w.heap.size w W) => i_write 2 (wrV 0 ((⟨#[114]⟩ : ByteArray) ++ itB a ++ ⟨#[32]⟩ ++ ⟨#[109, 111, 115, 116]⟩) b) n (by omega) hn0.1 hn0.2 (by omega) W (HTB.out W hb))
    clear HV
    generalize itB a = ta at *
    generalize wrV 0 ((⟨#[114]⟩ : ByteArray) ++ ta ++ ⟨#[32]⟩ ++ ⟨#[109, 111, 115, 116]⟩) b = t1 at *
    generalize wrV 2 t1 n = t2 at *
    obtain ⟨w2, hw2⟩ : ∃ x, x = w1.alloc (.cells #[.string ⟨#[109, 111, 115, 116]⟩, .int .i64 0, .int .i64 2] 63) := ⟨_, rfl⟩
    have hb2 : Below w1.heap.size w1 w2 := by rw [hw2]; exact (Below.refl _ _).alloc (Nat.le_refl _) _
    have HB2 := Lib.hid (HB1.out.trans (hb2.mono HB1.out.size))
    have Y2 := Lib.hid (Y1.out.below hb2)
    have hs2 : w2.heap.size = w1.heap.size + 1 := by rw [hw2]; simp
    have Z := Lib.hid (show ∀ j, w2.cell? ⟨w1.heap.size, j, none⟩ = #[(.string ⟨#[109, 111, 115, 116]⟩ : Value), (.int .i64 0 : Value), (.int .i64 2 : Value)][j]? from fun j => by rw [hw2]; exact cell_of_row _ w1.heap.size j _ 63 (0, 0) (heap_alloc_new w1 _))
    have ZF := Lib.hid (fun V (hV : Below w2.heap.size w2 V) => show V.cell? ⟨w1.heap.size, 0, none⟩ = some (.string ⟨#[109, 111, 115, 116]⟩) ∧ V.cell? ⟨w1.heap.size, 1, none⟩ = some (.int .i64 0) ∧ V.cell? ⟨w1.heap.size, 2, none⟩ = some (.int .i64 2) from ⟨(hV.cell (p := ⟨w1.heap.size, 0, none⟩) (show w1.heap.size < _ by omega)).trans (Z.out 0), (hV.cell (p := ⟨w1.heap.size, 1, none⟩) (show w1.heap.size < _ by omega)).trans (Z.out 1), (hV.cell (p := ⟨w1.heap.size, 2, none⟩) (show w1.heap.size < _ by omega)).trans (Z.out 2)⟩)
    clear hb2
    go_wp2
    rw [← hw2]
    clear hw2 g0 g1 g2 y0 y1 y2 y3
    have CD := Lib.hid (show Below w2.heap.size w2 w2.drew from (Below.refl _ _).drew)
    have CH := Lib.hid (Below.refl w2.drew.heap.size w2.drew)
    refine region_s [] (fun V => Below w2.drew.heap.size w2.drew V) (by kernel_rfl) ?_
    refine take_s (i := 0) (v := .pointer (some ⟨w1.heap.size, 2, none⟩)) rfl (by kernel_rfl) (fun _ _ _ h => h) CH.out rfl (fun V hV => ?_) ?_
    · obtain ⟨y0, y1, y2, y3⟩ := Y2.out.below (CD.out.trans (hV.mono (Nat.le_refl _)))
      obtain ⟨f0, f1, f2⟩ := ZF.out _ (CD.out.trans (hV.mono (Nat.le_refl _)))
      go_simp
    refine take_s (i := 1) (v := .int .i64 2) rfl (by kernel_rfl) (fun _ _ _ h => h) CH.out rfl (fun V hV => ?_) ?_
    · obtain ⟨y0, y1, y2, y3⟩ := Y2.out.below (CD.out.trans (hV.mono (Nat.le_refl _)))
      obtain ⟨f0, f1, f2⟩ := ZF.out _ (CD.out.trans (hV.mono (Nat.le_refl _)))
      go_simp
    refine take_s (i := 2) (v := .pointer (some ⟨w1.heap.size, 1, none⟩)) rfl (by kernel_rfl) (fun _ _ _ h => h) CH.out rfl (fun V hV => ?_) ?_
    · obtain ⟨y0, y1, y2, y3⟩ := Y2.out.below (CD.out.trans (hV.mono (Nat.le_refl _)))
      obtain ⟨f0, f1, f2⟩ := ZF.out _ (CD.out.trans (hV.mono (Nat.le_refl _)))
      go_simp
    refine take_s (i := 3) (v := .int .i64 0) rfl (by kernel_rfl) (fun _ _ _ h => h) CH.out rfl (fun V hV => ?_) ?_
    · obtain ⟨y0, y1, y2, y3⟩ := Y2.out.below (CD.out.trans (hV.mono (Nat.le_refl _)))
      obtain ⟨f0, f1, f2⟩ := ZF.out _ (CD.out.trans (hV.mono (Nat.le_refl _)))
      go_simp
    refine take_s (i := 4) (v := .pointer (some ⟨w.heap.size + 1, 1, none⟩)) rfl (by kernel_rfl) (fun _ _ _ h => h) CH.out rfl (fun V hV => ?_) ?_
    · obtain ⟨y0, y1, y2, y3⟩ := Y2.out.below (CD.out.trans (hV.mono (Nat.le_refl _)))
      obtain ⟨f0, f1, f2⟩ := ZF.out _ (CD.out.trans (hV.mono (Nat.le_refl _)))
      go_simp
    refine take_s (i := 5) (v := .int .i64 a) rfl (by kernel_rfl) (fun _ _ _ h => h) CH.out rfl (fun V hV => ?_) ?_
    · obtain ⟨y0, y1, y2, y3⟩ := Y2.out.below (CD.out.trans (hV.mono (Nat.le_refl _)))
      obtain ⟨f0, f1, f2⟩ := ZF.out _ (CD.out.trans (hV.mono (Nat.le_refl _)))
      go_simp
    refine take_s (i := 8) (v := .pointer (some ⟨w1.heap.size, 0, none⟩)) rfl (by kernel_rfl) (fun _ _ _ h => h) CH.out rfl (fun V hV => ?_) ?_
    · obtain ⟨y0, y1, y2, y3⟩ := Y2.out.below (CD.out.trans (hV.mono (Nat.le_refl _)))
      obtain ⟨f0, f1, f2⟩ := ZF.out _ (CD.out.trans (hV.mono (Nat.le_refl _)))
      go_simp
    refine take_s (i := 9) (v := .string ⟨#[109, 111, 115, 116]⟩) rfl (by kernel_rfl) (fun _ _ _ h => h) CH.out rfl (fun V hV => ?_) ?_
    · obtain ⟨y0, y1, y2, y3⟩ := Y2.out.below (CD.out.trans (hV.mono (Nat.le_refl _)))
      obtain ⟨f0, f1, f2⟩ := ZF.out _ (CD.out.trans (hV.mono (Nat.le_refl _)))
      go_simp
    refine take_s (i := 11) (v := .pointer (some ⟨w.heap.size + 1, 2, none⟩)) rfl (by kernel_rfl) (fun _ _ _ h => h) CH.out rfl (fun V hV => ?_) ?_
    · obtain ⟨y0, y1, y2, y3⟩ := Y2.out.below (CD.out.trans (hV.mono (Nat.le_refl _)))
      obtain ⟨f0, f1, f2⟩ := ZF.out _ (CD.out.trans (hV.mono (Nat.le_refl _)))
      go_simp
    refine take_s (i := 12) (v := .int .i64 b) rfl (by kernel_rfl) (fun _ _ _ h => h) CH.out rfl (fun V hV => ?_) ?_
    · obtain ⟨y0, y1, y2, y3⟩ := Y2.out.below (CD.out.trans (hV.mono (Nat.le_refl _)))
      obtain ⟨f0, f1, f2⟩ := ZF.out _ (CD.out.trans (hV.mono (Nat.le_refl _)))
      go_simp
    refine take_s (i := 14) (v := .pointer (some ⟨w.heap.size + 1, 3, none⟩)) rfl (by kernel_rfl) (fun _ _ _ h => h) CH.out rfl (fun V hV => ?_) ?_
    · obtain ⟨y0, y1, y2, y3⟩ := Y2.out.below (CD.out.trans (hV.mono (Nat.le_refl _)))
      obtain ⟨f0, f1, f2⟩ := ZF.out _ (CD.out.trans (hV.mono (Nat.le_refl _)))
      go_simp
    refine take_s (i := 15) (v := .int .i64 n) rfl (by kernel_rfl) (fun _ _ _ h => h) CH.out rfl (fun V hV => ?_) ?_
    · obtain ⟨y0, y1, y2, y3⟩ := Y2.out.below (CD.out.trans (hV.mono (Nat.le_refl _)))
      obtain ⟨f0, f1, f2⟩ := ZF.out _ (CD.out.trans (hV.mono (Nat.le_refl _)))
      go_simp
    refine one_s (i := 6) (by kernel_rfl) (op_list rfl ?_)
    go_wp2_with fail
    refine (KR.out _ (HB2.out.trans ((CD.out.trans (CH.out.mono (Nat.le_refl _))).mono HB2.out.size))).mono ?_
    rintro e wx6 ⟨rfl, hb⟩
    replace CH := Lib.hid (CH.out.trans (hb.mono CH.out.size))
    clear hb
    go_wp2
    refine ⟨fun _ => CH.out, ?_⟩
    refine one_s (i := 7) (by kernel_rfl) (op_list rfl ?_)
    go_wp2
    refine ⟨fun _ => CH.out, ?_⟩
    refine one_s (i := 10) (by kernel_rfl) (op_list rfl ?_)
    go_wp2
    refine ⟨fun _ => CH.out, ?_⟩
    refine one_s (i := 13) (by kernel_rfl) (op_list rfl ?_)
    go_wp2_with fail
    refine (KW1.out _ (HB2.out.trans ((CD.out.trans (CH.out.mono (Nat.le_refl _))).mono HB2.out.size))).mono ?_
    rintro e wx13 ⟨rfl, hb⟩
    replace CH := Lib.hid (CH.out.trans (hb.mono CH.out.size))
    clear hb
    go_wp2
    refine ⟨fun _ => CH.out, ?_⟩
    refine one_s (i := 16) (by kernel_rfl) (op_list rfl ?_)
    go_wp2_with fail
    refine (KW2.out _ (HB2.out.trans ((CD.out.trans (CH.out.mono (Nat.le_refl _))).mono HB2.out.size))).mono ?_
    rintro e wx16 ⟨rfl, hb⟩
    replace CH := Lib.hid (CH.out.trans (hb.mono CH.out.size))
    clear hb
    go_wp2
    refine ⟨fun _ => CH.out, ?_⟩
    refine one_s (i := 17) (by kernel_rfl) (op_list rfl ?_)
    go_wp2
    refine ⟨fun _ => CH.out, done_s (by kernel_rfl) ?_ _⟩
    go_wp2
    go_ret
    exact ⟨by rw [← HVV.out] <;> rfl, (HB2.out.trans ((CD.out.trans (CH.out.mono (Nat.le_refl _))).mono HB2.out.size))⟩
set_option maxRecDepth 100000 in
set_option maxHeartbeats 4000000 in
theorem i_ffact4 (vw vm vi : Int) (L : List InsR) (a b n : Int) (s : Value) (w : World) (hs : Cs.Shows w 0 4 s L.length (InsR.all L)) (hok : ∀ r ∈ L, r.Ok) (hL : L.length ≤ maxLen) (ha : (-9223372036854775808 ≤ a ∧ a ≤ 9223372036854775807)) (hb0 : (-9223372036854775808 ≤ b ∧ b ≤ 9223372036854775807)) (hn0 : (-9223372036854775808 ≤ n ∧ n ≤ 9223372036854775807)) (hvar : w.var? Tryd.prog "loop.example/g03219/impl.factForms" = some fmCells) (htab : Lib.TabIs Tryd.prog w "internal/strconv.uint64pow10" .u64 Lib.pow10Tab) :
    Calls Tryd.prog 18 #[.agg #[.int .i64 vw, .int .i64 vm, .int .i64 vi, s], .agg #[.int .i64 4, .int .i64 a, .int .i64 b, .int .i64 n]] w fun e w' => e = .returned (.string (fxV vw vm vi L 4 a b n)) ∧ Below w.heap.size w w' := by
  have hml : maxLen = 9223372036854775807 := rfl
  have K1 := Lib.hid (fun W (hb : Below w.heap.size w W) => i_fact vw vm vi L 4 a b n s W (hs.below hb) hok hL (forms_below hb hvar))
  obtain ⟨_, q, cap, rfl, _⟩ := hs
  obtain ⟨b1, hb1⟩ : ∃ x, fcB vw vm vi L 4 a b n = x := ⟨_, rfl⟩
  obtain ⟨V, hV⟩ : ∃ V, fxV vw vm vi L 4 a b n = V := ⟨_, rfl⟩
  rw [hV]
  unfold fxV at hV
  rw [hb1] at hV K1
  have HV := Lib.hid hV
  clear hV hb1
  have HB0 := Lib.hid (((Below.refl w.heap.size w).alloc (Nat.le_refl _) (.cells #[.int .i64 vw, .int .i64 vm, .int .i64 vi, .slice q L.length cap] 31)).alloc (by simp) (.cells #[.int .i64 4, .int .i64 a, .int .i64 b, .int .i64 n] 33))
  have X0 := Lib.hid ((cell4_alloc w 31 (.int .i64 vw) (.int .i64 vm) (.int .i64 vi) (.slice q L.length cap)).below ((Below.refl _ _).alloc (Nat.le_refl _) (.cells #[.int .i64 4, .int .i64 a, .int .i64 b, .int .i64 n] 33)))
  have Y0 := Lib.hid (cell4_alloc (w.alloc (.cells #[.int .i64 vw, .int .i64 vm, .int .i64 vi, .slice q L.length cap] 31)) 33 (.int .i64 4) (.int .i64 a) (.int .i64 b) (.int .i64 n))
  rw [show (w.alloc (.cells #[.int .i64 vw, .int .i64 vm, .int .i64 vi, .slice q L.length cap] 31)).heap.size = w.heap.size + 1 by simp] at Y0
  obtain ⟨w0, hw0⟩ : ∃ w0, w0 = (w.alloc (.cells #[.int .i64 vw, .int .i64 vm, .int .i64 vi, .slice q L.length cap] 31)).alloc (.cells #[.int .i64 4, .int .i64 a, .int .i64 b, .int .i64 n] 33) := ⟨_, rfl⟩
  have hs0 : w0.heap.size = w.heap.size + 2 := by rw [hw0]; simp
  rw [← hw0] at HB0 X0 Y0
  have HVR := Lib.hid (fun W (hb : Below w.heap.size w W) => forms_below hb hvar)
  have HTB := Lib.hid (fun W (hb : Below w.heap.size w W) => var_below hb htab)
  clear hvar htab
  obtain ⟨x0, x1, x2, x3⟩ := X0.out
  obtain ⟨y0, y1, y2, y3⟩ := Y0.out
  rw [hw0] at x0 x1 x2 x3 y0 y1 y2 y3
  go_enter Tryd.func18, Tryd.ntmps18
  go_wp2_with fail
  rw [← hw0] at x0 x1 x2 x3 y0 y1 y2 y3 ⊢
  clear hw0
  refine (K1.out _ HB0.out).mono ?_
  rintro e w1 ⟨rfl, hb⟩
  have HB1 := Lib.hid (HB0.out.trans (hb.mono HB0.out.size))
  have Y1 := Lib.hid (Y0.out.below hb)
  have hsz := hb.size
  clear hb x0 x1 x2 x3 y0 y1 y2 y3
  obtain ⟨y0, y1, y2, y3⟩ := Y1.out
  cases b1
  case false =>
    have hv : V = ⟨#[]⟩ := HV.out.symm
    subst hv
    go_wp2
    go_ret
    exact ⟨rfl, HB1.out⟩
  case true =>
    have g0 : w1.cell? ⟨0, 12, none⟩ = some (.string ⟨#[98, 105, 116]⟩) := form_cells (HVR.out _ HB1.out) 12 (by omega)
    have g1 : w1.cell? ⟨0, 13, none⟩ = some (.int .i64 2) := form_cells (HVR.out _ HB1.out) 13 (by omega)
    have g2 : w1.cell? ⟨0, 14, none⟩ = some (.int .i64 2) := form_cells (HVR.out _ HB1.out) 14 (by omega)
    have hz1 : w.heap.size + 1 < w1.heap.size := by omega
    have hzg : 0 < w1.heap.size := World.block_lt_of_cell? _ _ g0
    have HVV : Hid (wrV 2 (wrV 2 ((⟨#[114]⟩ : ByteArray) ++ itB a ++ ⟨#[32]⟩ ++ ⟨#[98, 105, 116]⟩) b) n = V) := Lib.hid HV.out
    have z1 := itB_size a ha.1 ha.2
    have z2 : ((⟨#[114]⟩ : ByteArray) ++ itB a).size ≤ 22 := by rw [ByteArray.size_append]; have : (⟨#[114]⟩ : ByteArray).size = 1 := rfl; omega
    have z3 : ((⟨#[114]⟩ : ByteArray) ++ itB a ++ ⟨#[32]⟩).size ≤ 23 := by rw [ByteArray.size_append]; have : (⟨#[32]⟩ : ByteArray).size = 1 := rfl; omega
    have z4 : ((⟨#[114]⟩ : ByteArray) ++ itB a ++ ⟨#[32]⟩ ++ ⟨#[98, 105, 116]⟩).size ≤ 28 := by rw [ByteArray.size_append]; have : (⟨#[98, 105, 116]⟩ : ByteArray).size = 3 := rfl; omega
    have KR := Lib.hid (fun W (hb : Below w.heap.size w W) => i_regname a ha.1 ha.2 W (HTB.out W hb))
    have hz5 : (⟨#[32]⟩ : ByteArray).size = 1 := rfl
    have hz6 : (⟨#[98, 105, 116]⟩ : ByteArray).size = 3 := rfl
    have KW1 := Lib.hid (fun W (hb : Below w.heap.size w W) => i_write 2 ((⟨#[114]⟩ : ByteArray) ++ itB a ++ ⟨#[32]⟩ ++ ⟨#[98, 105, 116]⟩) b (by omega) hb0.1 hb0.2 (by omega) W (HTB.out W hb))
    have z7 := wr_size 2 ((⟨#[114]⟩ : ByteArray) ++ itB a ++ ⟨#[32]⟩ ++ ⟨#[98, 105, 116]⟩) b hb0.1 hb0.2
    have KW2 := Lib.hid (fun W (hb : Below w.heap.size w W) => i_write 2 (wrV 2 ((⟨#[114]⟩ : ByteArray) ++ itB a ++ ⟨#[32]⟩ ++ ⟨#[98, 105, 116]⟩) b) n (by omega) hn0.1 hn0.2 (by omega) W (HTB.out W hb))
    clear HV
    generalize itB a = ta at *
    generalize wrV 2 ((⟨#[114]⟩ : ByteArray) ++ ta ++ ⟨#[32]⟩ ++ ⟨#[98, 105, 116]⟩) b = t1 at *
    generalize wrV 2 t1 n = t2 at *
    obtain ⟨w2, hw2⟩ : ∃ x, x = w1.alloc (.cells #[.string ⟨#[98, 105, 116]⟩, .int .i64 2, .int .i64 2] 63) := ⟨_, rfl⟩
    have hb2 : Below w1.heap.size w1 w2 := by rw [hw2]; exact (Below.refl _ _).alloc (Nat.le_refl _) _
    have HB2 := Lib.hid (HB1.out.trans (hb2.mono HB1.out.size))
    have Y2 := Lib.hid (Y1.out.below hb2)
    have hs2 : w2.heap.size = w1.heap.size + 1 := by rw [hw2]; simp
    have Z := Lib.hid (show ∀ j, w2.cell? ⟨w1.heap.size, j, none⟩ = #[(.string ⟨#[98, 105, 116]⟩ : Value), (.int .i64 2 : Value), (.int .i64 2 : Value)][j]? from fun j => by rw [hw2]; exact cell_of_row _ w1.heap.size j _ 63 (0, 0) (heap_alloc_new w1 _))
    have ZF := Lib.hid (fun V (hV : Below w2.heap.size w2 V) => show V.cell? ⟨w1.heap.size, 0, none⟩ = some (.string ⟨#[98, 105, 116]⟩) ∧ V.cell? ⟨w1.heap.size, 1, none⟩ = some (.int .i64 2) ∧ V.cell? ⟨w1.heap.size, 2, none⟩ = some (.int .i64 2) from ⟨(hV.cell (p := ⟨w1.heap.size, 0, none⟩) (show w1.heap.size < _ by omega)).trans (Z.out 0), (hV.cell (p := ⟨w1.heap.size, 1, none⟩) (show w1.heap.size < _ by omega)).trans (Z.out 1), (hV.cell (p := ⟨w1.heap.size, 2, none⟩) (show w1.heap.size < _ by omega)).trans (Z.out 2)⟩)
    clear hb2
    go_wp2
    rw [← hw2]
    clear hw2 g0 g1 g2 y0 y1 y2 y3
    have CD := Lib.hid (show Below w2.heap.size w2 w2.drew from (Below.refl _ _).drew)
    have CH := Lib.hid (Below.refl w2.drew.heap.size w2.drew)
    refine region_s [] (fun V => Below w2.drew.heap.size w2.drew V) (by kernel_rfl) ?_
    refine take_s (i := 0) (v := .pointer (some ⟨w1.heap.size, 2, none⟩)) rfl (by kernel_rfl) (fun _ _ _ h => h) CH.out rfl (fun V hV => ?_) ?_
    · obtain ⟨y0, y1, y2, y3⟩ := Y2.out.below (CD.out.trans (hV.mono (Nat.le_refl _)))
      obtain ⟨f0, f1, f2⟩ := ZF.out _ (CD.out.trans (hV.mono (Nat.le_refl _)))
      go_simp
    refine take_s (i := 1) (v := .int .i64 2) rfl (by kernel_rfl) (fun _ _ _ h => h) CH.out rfl (fun V hV => ?_) ?_
    · obtain ⟨y0, y1, y2, y3⟩ := Y2.out.below (CD.out.trans (hV.mono (Nat.le_refl _)))
      obtain ⟨f0, f1, f2⟩ := ZF.out _ (CD.out.trans (hV.mono (Nat.le_refl _)))
      go_simp
    refine take_s (i := 2) (v := .pointer (some ⟨w1.heap.size, 1, none⟩)) rfl (by kernel_rfl) (fun _ _ _ h => h) CH.out rfl (fun V hV => ?_) ?_
    · obtain ⟨y0, y1, y2, y3⟩ := Y2.out.below (CD.out.trans (hV.mono (Nat.le_refl _)))
      obtain ⟨f0, f1, f2⟩ := ZF.out _ (CD.out.trans (hV.mono (Nat.le_refl _)))
      go_simp
    refine take_s (i := 3) (v := .int .i64 2) rfl (by kernel_rfl) (fun _ _ _ h => h) CH.out rfl (fun V hV => ?_) ?_
    · obtain ⟨y0, y1, y2, y3⟩ := Y2.out.below (CD.out.trans (hV.mono (Nat.le_refl _)))
      obtain ⟨f0, f1, f2⟩ := ZF.out _ (CD.out.trans (hV.mono (Nat.le_refl _)))
      go_simp
    refine take_s (i := 4) (v := .pointer (some ⟨w.heap.size + 1, 1, none⟩)) rfl (by kernel_rfl) (fun _ _ _ h => h) CH.out rfl (fun V hV => ?_) ?_
    · obtain ⟨y0, y1, y2, y3⟩ := Y2.out.below (CD.out.trans (hV.mono (Nat.le_refl _)))
      obtain ⟨f0, f1, f2⟩ := ZF.out _ (CD.out.trans (hV.mono (Nat.le_refl _)))
      go_simp
    refine take_s (i := 5) (v := .int .i64 a) rfl (by kernel_rfl) (fun _ _ _ h => h) CH.out rfl (fun V hV => ?_) ?_
    · obtain ⟨y0, y1, y2, y3⟩ := Y2.out.below (CD.out.trans (hV.mono (Nat.le_refl _)))
      obtain ⟨f0, f1, f2⟩ := ZF.out _ (CD.out.trans (hV.mono (Nat.le_refl _)))
      go_simp
    refine take_s (i := 8) (v := .pointer (some ⟨w1.heap.size, 0, none⟩)) rfl (by kernel_rfl) (fun _ _ _ h => h) CH.out rfl (fun V hV => ?_) ?_
    · obtain ⟨y0, y1, y2, y3⟩ := Y2.out.below (CD.out.trans (hV.mono (Nat.le_refl _)))
      obtain ⟨f0, f1, f2⟩ := ZF.out _ (CD.out.trans (hV.mono (Nat.le_refl _)))
      go_simp
    refine take_s (i := 9) (v := .string ⟨#[98, 105, 116]⟩) rfl (by kernel_rfl) (fun _ _ _ h => h) CH.out rfl (fun V hV => ?_) ?_
    · obtain ⟨y0, y1, y2, y3⟩ := Y2.out.below (CD.out.trans (hV.mono (Nat.le_refl _)))
      obtain ⟨f0, f1, f2⟩ := ZF.out _ (CD.out.trans (hV.mono (Nat.le_refl _)))
      go_simp
    refine take_s (i := 11) (v := .pointer (some ⟨w.heap.size + 1, 2, none⟩)) rfl (by kernel_rfl) (fun _ _ _ h => h) CH.out rfl (fun V hV => ?_) ?_
    · obtain ⟨y0, y1, y2, y3⟩ := Y2.out.below (CD.out.trans (hV.mono (Nat.le_refl _)))
      obtain ⟨f0, f1, f2⟩ := ZF.out _ (CD.out.trans (hV.mono (Nat.le_refl _)))
      go_simp
    refine take_s (i := 12) (v := .int .i64 b) rfl (by kernel_rfl) (fun _ _ _ h => h) CH.out rfl (fun V hV => ?_) ?_
    · obtain ⟨y0, y1, y2, y3⟩ := Y2.out.below (CD.out.trans (hV.mono (Nat.le_refl _)))
      obtain ⟨f0, f1, f2⟩ := ZF.out _ (CD.out.trans (hV.mono (Nat.le_refl _)))
      go_simp
    refine take_s (i := 14) (v := .pointer (some ⟨w.heap.size + 1, 3, none⟩)) rfl (by kernel_rfl) (fun _ _ _ h => h) CH.out rfl (fun V hV => ?_) ?_
    · obtain ⟨y0, y1, y2, y3⟩ := Y2.out.below (CD.out.trans (hV.mono (Nat.le_refl _)))
      obtain ⟨f0, f1, f2⟩ := ZF.out _ (CD.out.trans (hV.mono (Nat.le_refl _)))
      go_simp
    refine take_s (i := 15) (v := .int .i64 n) rfl (by kernel_rfl) (fun _ _ _ h => h) CH.out rfl (fun V hV => ?_) ?_
    · obtain ⟨y0, y1, y2, y3⟩ := Y2.out.below (CD.out.trans (hV.mono (Nat.le_refl _)))
      obtain ⟨f0, f1, f2⟩ := ZF.out _ (CD.out.trans (hV.mono (Nat.le_refl _)))
      go_simp
    refine one_s (i := 6) (by kernel_rfl) (op_list rfl ?_)
    go_wp2_with fail
    refine (KR.out _ (HB2.out.trans ((CD.out.trans (CH.out.mono (Nat.le_refl _))).mono HB2.out.size))).mono ?_
    rintro e wx6 ⟨rfl, hb⟩
    replace CH := Lib.hid (CH.out.trans (hb.mono CH.out.size))
    clear hb
    go_wp2
    refine ⟨fun _ => CH.out, ?_⟩
    refine one_s (i := 7) (by kernel_rfl) (op_list rfl ?_)
    go_wp2
    refine ⟨fun _ => CH.out, ?_⟩
    refine one_s (i := 10) (by kernel_rfl) (op_list rfl ?_)
    go_wp2
    refine ⟨fun _ => CH.out, ?_⟩
    refine one_s (i := 13) (by kernel_rfl) (op_list rfl ?_)
    go_wp2_with fail
    refine (KW1.out _ (HB2.out.trans ((CD.out.trans (CH.out.mono (Nat.le_refl _))).mono HB2.out.size))).mono ?_
    rintro e wx13 ⟨rfl, hb⟩
    replace CH := Lib.hid (CH.out.trans (hb.mono CH.out.size))
    clear hb
    go_wp2
    refine ⟨fun _ => CH.out, ?_⟩
    refine one_s (i := 16) (by kernel_rfl) (op_list rfl ?_)
    go_wp2_with fail
    refine (KW2.out _ (HB2.out.trans ((CD.out.trans (CH.out.mono (Nat.le_refl _))).mono HB2.out.size))).mono ?_
    rintro e wx16 ⟨rfl, hb⟩
    replace CH := Lib.hid (CH.out.trans (hb.mono CH.out.size))
    clear hb
    go_wp2
    refine ⟨fun _ => CH.out, ?_⟩
    refine one_s (i := 17) (by kernel_rfl) (op_list rfl ?_)
    go_wp2
    refine ⟨fun _ => CH.out, done_s (by kernel_rfl) ?_ _⟩
    go_wp2
    go_ret
    exact ⟨by rw [← HVV.out] <;> rfl, (HB2.out.trans ((CD.out.trans (CH.out.mono (Nat.le_refl _))).mono HB2.out.size))⟩
set_option maxRecDepth 100000 in
set_option maxHeartbeats 4000000 in
theorem i_ffact5 (vw vm vi : Int) (L : List InsR) (a b n : Int) (s : Value) (w : World) (hs : Cs.Shows w 0 4 s L.length (InsR.all L)) (hok : ∀ r ∈ L, r.Ok) (hL : L.length ≤ maxLen) (ha : (-9223372036854775808 ≤ a ∧ a ≤ 9223372036854775807)) (hb0 : (-9223372036854775808 ≤ b ∧ b ≤ 9223372036854775807)) (hn0 : (-9223372036854775808 ≤ n ∧ n ≤ 9223372036854775807)) (hvar : w.var? Tryd.prog "loop.example/g03219/impl.factForms" = some fmCells) (htab : Lib.TabIs Tryd.prog w "internal/strconv.uint64pow10" .u64 Lib.pow10Tab) :
    Calls Tryd.prog 18 #[.agg #[.int .i64 vw, .int .i64 vm, .int .i64 vi, s], .agg #[.int .i64 5, .int .i64 a, .int .i64 b, .int .i64 n]] w fun e w' => e = .returned (.string (fxV vw vm vi L 5 a b n)) ∧ Below w.heap.size w w' := by
  have hml : maxLen = 9223372036854775807 := rfl
  have K1 := Lib.hid (fun W (hb : Below w.heap.size w W) => i_fact vw vm vi L 5 a b n s W (hs.below hb) hok hL (forms_below hb hvar))
  obtain ⟨_, q, cap, rfl, _⟩ := hs
  obtain ⟨b1, hb1⟩ : ∃ x, fcB vw vm vi L 5 a b n = x := ⟨_, rfl⟩
  obtain ⟨V, hV⟩ : ∃ V, fxV vw vm vi L 5 a b n = V := ⟨_, rfl⟩
  rw [hV]
  unfold fxV at hV
  rw [hb1] at hV K1
  have HV := Lib.hid hV
  clear hV hb1
  have HB0 := Lib.hid (((Below.refl w.heap.size w).alloc (Nat.le_refl _) (.cells #[.int .i64 vw, .int .i64 vm, .int .i64 vi, .slice q L.length cap] 31)).alloc (by simp) (.cells #[.int .i64 5, .int .i64 a, .int .i64 b, .int .i64 n] 33))
  have X0 := Lib.hid ((cell4_alloc w 31 (.int .i64 vw) (.int .i64 vm) (.int .i64 vi) (.slice q L.length cap)).below ((Below.refl _ _).alloc (Nat.le_refl _) (.cells #[.int .i64 5, .int .i64 a, .int .i64 b, .int .i64 n] 33)))
  have Y0 := Lib.hid (cell4_alloc (w.alloc (.cells #[.int .i64 vw, .int .i64 vm, .int .i64 vi, .slice q L.length cap] 31)) 33 (.int .i64 5) (.int .i64 a) (.int .i64 b) (.int .i64 n))
  rw [show (w.alloc (.cells #[.int .i64 vw, .int .i64 vm, .int .i64 vi, .slice q L.length cap] 31)).heap.size = w.heap.size + 1 by simp] at Y0
  obtain ⟨w0, hw0⟩ : ∃ w0, w0 = (w.alloc (.cells #[.int .i64 vw, .int .i64 vm, .int .i64 vi, .slice q L.length cap] 31)).alloc (.cells #[.int .i64 5, .int .i64 a, .int .i64 b, .int .i64 n] 33) := ⟨_, rfl⟩
  have hs0 : w0.heap.size = w.heap.size + 2 := by rw [hw0]; simp
  rw [← hw0] at HB0 X0 Y0
  have HVR := Lib.hid (fun W (hb : Below w.heap.size w W) => forms_below hb hvar)
  have HTB := Lib.hid (fun W (hb : Below w.heap.size w W) => var_below hb htab)
  clear hvar htab
  obtain ⟨x0, x1, x2, x3⟩ := X0.out
  obtain ⟨y0, y1, y2, y3⟩ := Y0.out
  rw [hw0] at x0 x1 x2 x3 y0 y1 y2 y3
  go_enter Tryd.func18, Tryd.ntmps18
  go_wp2_with fail
  rw [← hw0] at x0 x1 x2 x3 y0 y1 y2 y3 ⊢
  clear hw0
  refine (K1.out _ HB0.out).mono ?_
  rintro e w1 ⟨rfl, hb⟩
  have HB1 := Lib.hid (HB0.out.trans (hb.mono HB0.out.size))
  have Y1 := Lib.hid (Y0.out.below hb)
  have hsz := hb.size
  clear hb x0 x1 x2 x3 y0 y1 y2 y3
  obtain ⟨y0, y1, y2, y3⟩ := Y1.out
  cases b1
  case false =>
    have hv : V = ⟨#[]⟩ := HV.out.symm
    subst hv
    go_wp2
    go_ret
    exact ⟨rfl, HB1.out⟩
  case true =>
    have g0 : w1.cell? ⟨0, 15, none⟩ = some (.string ⟨#[115, 117, 109]⟩) := form_cells (HVR.out _ HB1.out) 15 (by omega)
    have g1 : w1.cell? ⟨0, 16, none⟩ = some (.int .i64 1) := form_cells (HVR.out _ HB1.out) 16 (by omega)
    have g2 : w1.cell? ⟨0, 17, none⟩ = some (.int .i64 2) := form_cells (HVR.out _ HB1.out) 17 (by omega)
    have hz1 : w.heap.size + 1 < w1.heap.size := by omega
    have hzg : 0 < w1.heap.size := World.block_lt_of_cell? _ _ g0
    have HVV : Hid (wrV 2 (wrV 1 ((⟨#[114]⟩ : ByteArray) ++ itB a ++ ⟨#[32]⟩ ++ ⟨#[115, 117, 109]⟩) b) n = V) := Lib.hid HV.out
    have z1 := itB_size a ha.1 ha.2
    have z2 : ((⟨#[114]⟩ : ByteArray) ++ itB a).size ≤ 22 := by rw [ByteArray.size_append]; have : (⟨#[114]⟩ : ByteArray).size = 1 := rfl; omega
    have z3 : ((⟨#[114]⟩ : ByteArray) ++ itB a ++ ⟨#[32]⟩).size ≤ 23 := by rw [ByteArray.size_append]; have : (⟨#[32]⟩ : ByteArray).size = 1 := rfl; omega
    have z4 : ((⟨#[114]⟩ : ByteArray) ++ itB a ++ ⟨#[32]⟩ ++ ⟨#[115, 117, 109]⟩).size ≤ 28 := by rw [ByteArray.size_append]; have : (⟨#[115, 117, 109]⟩ : ByteArray).size = 3 := rfl; omega
    have KR := Lib.hid (fun W (hb : Below w.heap.size w W) => i_regname a ha.1 ha.2 W (HTB.out W hb))
    have hz5 : (⟨#[32]⟩ : ByteArray).size = 1 := rfl
    have hz6 : (⟨#[115, 117, 109]⟩ : ByteArray).size = 3 := rfl
    have KW1 := Lib.hid (fun W (hb : Below w.heap.size w W) => i_write 1 ((⟨#[114]⟩ : ByteArray) ++ itB a ++ ⟨#[32]⟩ ++ ⟨#[115, 117, 109]⟩) b (by omega) hb0.1 hb0.2 (by omega) W (HTB.out W hb))
    have z7 := wr_size 1 ((⟨#[114]⟩ : ByteArray) ++ itB a ++ ⟨#[32]⟩ ++ ⟨#[115, 117, 109]⟩) b hb0.1 hb0.2
    have KW2 := Lib.hid (fun W (hb : Below w.heap.size w W) => i_write 2 (wrV 1 ((⟨#[114]⟩ : ByteArray) ++ itB a ++ ⟨#[32]⟩ ++ ⟨#[115, 117, 109]⟩) b) n (by omega) hn0.1 hn0.2 (by omega) W (HTB.out W hb))
    clear HV
    generalize itB a = ta at *
    generalize wrV 1 ((⟨#[114]⟩ : ByteArray) ++ ta ++ ⟨#[32]⟩ ++ ⟨#[115, 117, 109]⟩) b = t1 at *
    generalize wrV 2 t1 n = t2 at *
    obtain ⟨w2, hw2⟩ : ∃ x, x = w1.alloc (.cells #[.string ⟨#[115, 117, 109]⟩, .int .i64 1, .int .i64 2] 63) := ⟨_, rfl⟩
    have hb2 : Below w1.heap.size w1 w2 := by rw [hw2]; exact (Below.refl _ _).alloc (Nat.le_refl _) _
    have HB2 := Lib.hid (HB1.out.trans (hb2.mono HB1.out.size))
    have Y2 := Lib.hid (Y1.out.below hb2)
    have hs2 : w2.heap.size = w1.heap.size + 1 := by rw [hw2]; simp
    have Z := Lib.hid (show ∀ j, w2.cell? ⟨w1.heap.size, j, none⟩ = #[(.string ⟨#[115, 117, 109]⟩ : Value), (.int .i64 1 : Value), (.int .i64 2 : Value)][j]? from fun j => by rw [hw2]; exact cell_of_row _ w1.heap.size j _ 63 (0, 0) (heap_alloc_new w1 _))
    have ZF := Lib.hid (fun V (hV : Below w2.heap.size w2 V) => show V.cell? ⟨w1.heap.size, 0, none⟩ = some (.string ⟨#[115, 117, 109]⟩) ∧ V.cell? ⟨w1.heap.size, 1, none⟩ = some (.int .i64 1) ∧ V.cell? ⟨w1.heap.size, 2, none⟩ = some (.int .i64 2) from ⟨(hV.cell (p := ⟨w1.heap.size, 0, none⟩) (show w1.heap.size < _ by omega)).trans (Z.out 0), (hV.cell (p := ⟨w1.heap.size, 1, none⟩) (show w1.heap.size < _ by omega)).trans (Z.out 1), (hV.cell (p := ⟨w1.heap.size, 2, none⟩) (show w1.heap.size < _ by omega)).trans (Z.out 2)⟩)
    clear hb2
    go_wp2
    rw [← hw2]
    clear hw2 g0 g1 g2 y0 y1 y2 y3
    have CD := Lib.hid (show Below w2.heap.size w2 w2.drew from (Below.refl _ _).drew)
    have CH := Lib.hid (Below.refl w2.drew.heap.size w2.drew)
    refine region_s [] (fun V => Below w2.drew.heap.size w2.drew V) (by kernel_rfl) ?_
    refine take_s (i := 0) (v := .pointer (some ⟨w1.heap.size, 2, none⟩)) rfl (by kernel_rfl) (fun _ _ _ h => h) CH.out rfl (fun V hV => ?_) ?_
    · obtain ⟨y0, y1, y2, y3⟩ := Y2.out.below (CD.out.trans (hV.mono (Nat.le_refl _)))
      obtain ⟨f0, f1, f2⟩ := ZF.out _ (CD.out.trans (hV.mono (Nat.le_refl _)))
      go_simp
    refine take_s (i := 1) (v := .int .i64 2) rfl (by kernel_rfl) (fun _ _ _ h => h) CH.out rfl (fun V hV => ?_) ?_
    · obtain ⟨y0, y1, y2, y3⟩ := Y2.out.below (CD.out.trans (hV.mono (Nat.le_refl _)))
      obtain ⟨f0, f1, f2⟩ := ZF.out _ (CD.out.trans (hV.mono (Nat.le_refl _)))
      go_simp
    refine take_s (i := 2) (v := .pointer (some ⟨w1.heap.size, 1, none⟩)) rfl (by kernel_rfl) (fun _ _ _ h => h) CH.out rfl (fun V hV => ?_) ?_
    · obtain ⟨y0, y1, y2, y3⟩ := Y2.out.below (CD.out.trans (hV.mono (Nat.le_refl _)))
      obtain ⟨f0, f1, f2⟩ := ZF.out _ (CD.out.trans (hV.mono (Nat.le_refl _)))
      go_simp
    refine take_s (i := 3) (v := .int .i64 1) rfl (by kernel_rfl) (fun _ _ _ h => h) CH.out rfl (fun V hV => ?_) ?_
    · obtain ⟨y0, y1, y2, y3⟩ := Y2.out.below (CD.out.trans (hV.mono (Nat.le_refl _)))
      obtain ⟨f0, f1, f2⟩ := ZF.out _ (CD.out.trans (hV.mono (Nat.le_refl _)))
      go_simp
    refine take_s (i := 4) (v := .pointer (some ⟨w.heap.size + 1, 1, none⟩)) rfl (by kernel_rfl) (fun _ _ _ h => h) CH.out rfl (fun V hV => ?_) ?_
    · obtain ⟨y0, y1, y2, y3⟩ := Y2.out.below (CD.out.trans (hV.mono (Nat.le_refl _)))
      obtain ⟨f0, f1, f2⟩ := ZF.out _ (CD.out.trans (hV.mono (Nat.le_refl _)))
      go_simp
    refine take_s (i := 5) (v := .int .i64 a) rfl (by kernel_rfl) (fun _ _ _ h => h) CH.out rfl (fun V hV => ?_) ?_
    · obtain ⟨y0, y1, y2, y3⟩ := Y2.out.below (CD.out.trans (hV.mono (Nat.le_refl _)))
      obtain ⟨f0, f1, f2⟩ := ZF.out _ (CD.out.trans (hV.mono (Nat.le_refl _)))
      go_simp
    refine take_s (i := 8) (v := .pointer (some ⟨w1.heap.size, 0, none⟩)) rfl (by kernel_rfl) (fun _ _ _ h => h) CH.out rfl (fun V hV => ?_) ?_
    · obtain ⟨y0, y1, y2, y3⟩ := Y2.out.below (CD.out.trans (hV.mono (Nat.le_refl _)))
      obtain ⟨f0, f1, f2⟩ := ZF.out _ (CD.out.trans (hV.mono (Nat.le_refl _)))
      go_simp
    refine take_s (i := 9) (v := .string ⟨#[115, 117, 109]⟩) rfl (by kernel_rfl) (fun _ _ _ h => h) CH.out rfl (fun V hV => ?_) ?_
    · obtain ⟨y0, y1, y2, y3⟩ := Y2.out.below (CD.out.trans (hV.mono (Nat.le_refl _)))
      obtain ⟨f0, f1, f2⟩ := ZF.out _ (CD.out.trans (hV.mono (Nat.le_refl _)))
      go_simp
    refine take_s (i := 11) (v := .pointer (some ⟨w.heap.size + 1, 2, none⟩)) rfl (by kernel_rfl) (fun _ _ _ h => h) CH.out rfl (fun V hV => ?_) ?_
    · obtain ⟨y0, y1, y2, y3⟩ := Y2.out.below (CD.out.trans (hV.mono (Nat.le_refl _)))
      obtain ⟨f0, f1, f2⟩ := ZF.out _ (CD.out.trans (hV.mono (Nat.le_refl _)))
      go_simp
    refine take_s (i := 12) (v := .int .i64 b) rfl (by kernel_rfl) (fun _ _ _ h => h) CH.out rfl (fun V hV => ?_) ?_
    · obtain ⟨y0, y1, y2, y3⟩ := Y2.out.below (CD.out.trans (hV.mono (Nat.le_refl _)))
      obtain ⟨f0, f1, f2⟩ := ZF.out _ (CD.out.trans (hV.mono (Nat.le_refl _)))
      go_simp
    refine take_s (i := 14) (v := .pointer (some ⟨w.heap.size + 1, 3, none⟩)) rfl (by kernel_rfl) (fun _ _ _ h => h) CH.out rfl (fun V hV => ?_) ?_
    · obtain ⟨y0, y1, y2, y3⟩ := Y2.out.below (CD.out.trans (hV.mono (Nat.le_refl _)))
      obtain ⟨f0, f1, f2⟩ := ZF.out _ (CD.out.trans (hV.mono (Nat.le_refl _)))
      go_simp
    refine take_s (i := 15) (v := .int .i64 n) rfl (by kernel_rfl) (fun _ _ _ h => h) CH.out rfl (fun V hV => ?_) ?_
    · obtain ⟨y0, y1, y2, y3⟩ := Y2.out.below (CD.out.trans (hV.mono (Nat.le_refl _)))
      obtain ⟨f0, f1, f2⟩ := ZF.out _ (CD.out.trans (hV.mono (Nat.le_refl _)))
      go_simp
    refine one_s (i := 6) (by kernel_rfl) (op_list rfl ?_)
    go_wp2_with fail
    refine (KR.out _ (HB2.out.trans ((CD.out.trans (CH.out.mono (Nat.le_refl _))).mono HB2.out.size))).mono ?_
    rintro e wx6 ⟨rfl, hb⟩
    replace CH := Lib.hid (CH.out.trans (hb.mono CH.out.size))
    clear hb
    go_wp2
    refine ⟨fun _ => CH.out, ?_⟩
    refine one_s (i := 7) (by kernel_rfl) (op_list rfl ?_)
    go_wp2
    refine ⟨fun _ => CH.out, ?_⟩
    refine one_s (i := 10) (by kernel_rfl) (op_list rfl ?_)
    go_wp2
    refine ⟨fun _ => CH.out, ?_⟩
    refine one_s (i := 13) (by kernel_rfl) (op_list rfl ?_)
    go_wp2_with fail
    refine (KW1.out _ (HB2.out.trans ((CD.out.trans (CH.out.mono (Nat.le_refl _))).mono HB2.out.size))).mono ?_
    rintro e wx13 ⟨rfl, hb⟩
    replace CH := Lib.hid (CH.out.trans (hb.mono CH.out.size))
    clear hb
    go_wp2
    refine ⟨fun _ => CH.out, ?_⟩
    refine one_s (i := 16) (by kernel_rfl) (op_list rfl ?_)
    go_wp2_with fail
    refine (KW2.out _ (HB2.out.trans ((CD.out.trans (CH.out.mono (Nat.le_refl _))).mono HB2.out.size))).mono ?_
    rintro e wx16 ⟨rfl, hb⟩
    replace CH := Lib.hid (CH.out.trans (hb.mono CH.out.size))
    clear hb
    go_wp2
    refine ⟨fun _ => CH.out, ?_⟩
    refine one_s (i := 17) (by kernel_rfl) (op_list rfl ?_)
    go_wp2
    refine ⟨fun _ => CH.out, done_s (by kernel_rfl) ?_ _⟩
    go_wp2
    go_ret
    exact ⟨by rw [← HVV.out] <;> rfl, (HB2.out.trans ((CD.out.trans (CH.out.mono (Nat.le_refl _))).mono HB2.out.size))⟩
set_option maxRecDepth 100000 in
set_option maxHeartbeats 4000000 in
theorem i_ffact6 (vw vm vi : Int) (L : List InsR) (a b n : Int) (s : Value) (w : World) (hs : Cs.Shows w 0 4 s L.length (InsR.all L)) (hok : ∀ r ∈ L, r.Ok) (hL : L.length ≤ maxLen) (ha : (-9223372036854775808 ≤ a ∧ a ≤ 9223372036854775807)) (hb0 : (-9223372036854775808 ≤ b ∧ b ≤ 9223372036854775807)) (hn0 : (-9223372036854775808 ≤ n ∧ n ≤ 9223372036854775807)) (hvar : w.var? Tryd.prog "loop.example/g03219/impl.factForms" = some fmCells) (htab : Lib.TabIs Tryd.prog w "internal/strconv.uint64pow10" .u64 Lib.pow10Tab) :
    Calls Tryd.prog 18 #[.agg #[.int .i64 vw, .int .i64 vm, .int .i64 vi, s], .agg #[.int .i64 6, .int .i64 a, .int .i64 b, .int .i64 n]] w fun e w' => e = .returned (.string (fxV vw vm vi L 6 a b n)) ∧ Below w.heap.size w w' := by
  have hml : maxLen = 9223372036854775807 := rfl
  have K1 := Lib.hid (fun W (hb : Below w.heap.size w W) => i_fact vw vm vi L 6 a b n s W (hs.below hb) hok hL (forms_below hb hvar))
  obtain ⟨_, q, cap, rfl, _⟩ := hs
  obtain ⟨b1, hb1⟩ : ∃ x, fcB vw vm vi L 6 a b n = x := ⟨_, rfl⟩
  obtain ⟨V, hV⟩ : ∃ V, fxV vw vm vi L 6 a b n = V := ⟨_, rfl⟩
  rw [hV]
  unfold fxV at hV
  rw [hb1] at hV K1
  have HV := Lib.hid hV
  clear hV hb1
  have HB0 := Lib.hid (((Below.refl w.heap.size w).alloc (Nat.le_refl _) (.cells #[.int .i64 vw, .int .i64 vm, .int .i64 vi, .slice q L.length cap] 31)).alloc (by simp) (.cells #[.int .i64 6, .int .i64 a, .int .i64 b, .int .i64 n] 33))
  have X0 := Lib.hid ((cell4_alloc w 31 (.int .i64 vw) (.int .i64 vm) (.int .i64 vi) (.slice q L.length cap)).below ((Below.refl _ _).alloc (Nat.le_refl _) (.cells #[.int .i64 6, .int .i64 a, .int .i64 b, .int .i64 n] 33)))
  have Y0 := Lib.hid (cell4_alloc (w.alloc (.cells #[.int .i64 vw, .int .i64 vm, .int .i64 vi, .slice q L.length cap] 31)) 33 (.int .i64 6) (.int .i64 a) (.int .i64 b) (.int .i64 n))
  rw [show (w.alloc (.cells #[.int .i64 vw, .int .i64 vm, .int .i64 vi, .slice q L.length cap] 31)).heap.size = w.heap.size + 1 by simp] at Y0
  obtain ⟨w0, hw0⟩ : ∃ w0, w0 = (w.alloc (.cells #[.int .i64 vw, .int .i64 vm, .int .i64 vi, .slice q L.length cap] 31)).alloc (.cells #[.int .i64 6, .int .i64 a, .int .i64 b, .int .i64 n] 33) := ⟨_, rfl⟩
  have hs0 : w0.heap.size = w.heap.size + 2 := by rw [hw0]; simp
  rw [← hw0] at HB0 X0 Y0
  have HVR := Lib.hid (fun W (hb : Below w.heap.size w W) => forms_below hb hvar)
  have HTB := Lib.hid (fun W (hb : Below w.heap.size w W) => var_below hb htab)
  clear hvar htab
  obtain ⟨x0, x1, x2, x3⟩ := X0.out
  obtain ⟨y0, y1, y2, y3⟩ := Y0.out
  rw [hw0] at x0 x1 x2 x3 y0 y1 y2 y3
  go_enter Tryd.func18, Tryd.ntmps18
  go_wp2_with fail
  rw [← hw0] at x0 x1 x2 x3 y0 y1 y2 y3 ⊢
  clear hw0
  refine (K1.out _ HB0.out).mono ?_
  rintro e w1 ⟨rfl, hb⟩
  have HB1 := Lib.hid (HB0.out.trans (hb.mono HB0.out.size))
  have Y1 := Lib.hid (Y0.out.below hb)
  have hsz := hb.size
  clear hb x0 x1 x2 x3 y0 y1 y2 y3
  obtain ⟨y0, y1, y2, y3⟩ := Y1.out
  cases b1
  case false =>
    have hv : V = ⟨#[]⟩ := HV.out.symm
    subst hv
    go_wp2
    go_ret
    exact ⟨rfl, HB1.out⟩
  case true =>
    have g0 : w1.cell? ⟨0, 18, none⟩ = some (.string ⟨#[111, 114, 100, 101, 114]⟩) := form_cells (HVR.out _ HB1.out) 18 (by omega)
    have g1 : w1.cell? ⟨0, 19, none⟩ = some (.int .i64 1) := form_cells (HVR.out _ HB1.out) 19 (by omega)
    have g2 : w1.cell? ⟨0, 20, none⟩ = some (.int .i64 0) := form_cells (HVR.out _ HB1.out) 20 (by omega)
    have hz1 : w.heap.size + 1 < w1.heap.size := by omega
    have hzg : 0 < w1.heap.size := World.block_lt_of_cell? _ _ g0
    have HVV : Hid (wrV 0 (wrV 1 ((⟨#[114]⟩ : ByteArray) ++ itB a ++ ⟨#[32]⟩ ++ ⟨#[111, 114, 100, 101, 114]⟩) b) n = V) := Lib.hid HV.out
    have z1 := itB_size a ha.1 ha.2
    have z2 : ((⟨#[114]⟩ : ByteArray) ++ itB a).size ≤ 22 := by rw [ByteArray.size_append]; have : (⟨#[114]⟩ : ByteArray).size = 1 := rfl; omega
    have z3 : ((⟨#[114]⟩ : ByteArray) ++ itB a ++ ⟨#[32]⟩).size ≤ 23 := by rw [ByteArray.size_append]; have : (⟨#[32]⟩ : ByteArray).size = 1 := rfl; omega
    have z4 : ((⟨#[114]⟩ : ByteArray) ++ itB a ++ ⟨#[32]⟩ ++ ⟨#[111, 114, 100, 101, 114]⟩).size ≤ 28 := by rw [ByteArray.size_append]; have : (⟨#[111, 114, 100, 101, 114]⟩ : ByteArray).size = 5 := rfl; omega
    have KR := Lib.hid (fun W (hb : Below w.heap.size w W) => i_regname a ha.1 ha.2 W (HTB.out W hb))
    have hz5 : (⟨#[32]⟩ : ByteArray).size = 1 := rfl
    have hz6 : (⟨#[111, 114, 100, 101, 114]⟩ : ByteArray).size = 5 := rfl
    have KW1 := Lib.hid (fun W (hb : Below w.heap.size w W) => i_write 1 ((⟨#[114]⟩ : ByteArray) ++ itB a ++ ⟨#[32]⟩ ++ ⟨#[111, 114, 100, 101, 114]⟩) b (by omega) hb0.1 hb0.2 (by omega) W (HTB.out W hb))
    have z7 := wr_size 1 ((⟨#[114]⟩ : ByteArray) ++ itB a ++ ⟨#[32]⟩ ++ ⟨#[111, 114, 100, 101, 114]⟩) b hb0.1 hb0.2
    have KW2 := Lib.hid (fun W (hb : Below w.heap.size w W) => i_write 0 (wrV 1 ((⟨#[114]⟩ : ByteArray) ++ itB a ++ ⟨#[32]⟩ ++ ⟨#[111, 114, 100, 101, 114]⟩) b) n (by omega) hn0.1 hn0.2 (by omega) W (HTB.out W hb))
    clear HV
    generalize itB a = ta at *
    generalize wrV 1 ((⟨#[114]⟩ : ByteArray) ++ ta ++ ⟨#[32]⟩ ++ ⟨#[111, 114, 100, 101, 114]⟩) b = t1 at *
    generalize wrV 0 t1 n = t2 at *
    obtain ⟨w2, hw2⟩ : ∃ x, x = w1.alloc (.cells #[.string ⟨#[111, 114, 100, 101, 114]⟩, .int .i64 1, .int .i64 0] 63) := ⟨_, rfl⟩
    have hb2 : Below w1.heap.size w1 w2 := by rw [hw2]; exact (Below.refl _ _).alloc (Nat.le_refl _) _
    have HB2 := Lib.hid (HB1.out.trans (hb2.mono HB1.out.size))
    have Y2 := Lib.hid (Y1.out.below hb2)
    have hs2 : w2.heap.size = w1.heap.size + 1 := by rw [hw2]; simp
    have Z := Lib.hid (show ∀ j, w2.cell? ⟨w1.heap.size, j, none⟩ = #[(.string ⟨#[111, 114, 100, 101, 114]⟩ : Value), (.int .i64 1 : Value), (.int .i64 0 : Value)][j]? from fun j => by rw [hw2]; exact cell_of_row _ w1.heap.size j _ 63 (0, 0) (heap_alloc_new w1 _))
    have ZF := Lib.hid (fun V (hV : Below w2.heap.size w2 V) => show V.cell? ⟨w1.heap.size, 0, none⟩ = some (.string ⟨#[111, 114, 100, 101, 114]⟩) ∧ V.cell? ⟨w1.heap.size, 1, none⟩ = some (.int .i64 1) ∧ V.cell? ⟨w1.heap.size, 2, none⟩ = some (.int .i64 0) from ⟨(hV.cell (p := ⟨w1.heap.size, 0, none⟩) (show w1.heap.size < _ by omega)).trans (Z.out 0), (hV.cell (p := ⟨w1.heap.size, 1, none⟩) (show w1.heap.size < _ by omega)).trans (Z.out 1), (hV.cell (p := ⟨w1.heap.size, 2, none⟩) (show w1.heap.size < _ by omega)).trans (Z.out 2)⟩)
    clear hb2
    go_wp2
    rw [← hw2]
    clear hw2 g0 g1 g2 y0 y1 y2 y3
    have CD := Lib.hid (show Below w2.heap.size w2 w2.drew from (Below.refl _ _).drew)
    have CH := Lib.hid (Below.refl w2.drew.heap.size w2.drew)
    refine region_s [] (fun V => Below w2.drew.heap.size w2.drew V) (by kernel_rfl) ?_
    refine take_s (i := 0) (v := .pointer (some ⟨w1.heap.size, 2, none⟩)) rfl (by kernel_rfl) (fun _ _ _ h => h) CH.out rfl (fun V hV => ?_) ?_
    · obtain ⟨y0, y1, y2, y3⟩ := Y2.out.below (CD.out.trans (hV.mono (Nat.le_refl _)))
      obtain ⟨f0, f1, f2⟩ := ZF.out _ (CD.out.trans (hV.mono (Nat.le_refl _)))
      go_simp
    refine take_s (i := 1) (v := .int .i64 0) rfl (by kernel_rfl) (fun _ _ _ h => h) CH.out rfl (fun V hV => ?_) ?_
    · obtain ⟨y0, y1, y2, y3⟩ := Y2.out.below (CD.out.trans (hV.mono (Nat.le_refl _)))
      obtain ⟨f0, f1, f2⟩ := ZF.out _ (CD.out.trans (hV.mono (Nat.le_refl _)))
      go_simp
    refine take_s (i := 2) (v := .pointer (some ⟨w1.heap.size, 1, none⟩)) rfl (by kernel_rfl) (fun _ _ _ h => h) CH.out rfl (fun V hV => ?_) ?_
    · obtain ⟨y0, y1, y2, y3⟩ := Y2.out.below (CD.out.trans (hV.mono (Nat.le_refl _)))
      obtain ⟨f0, f1, f2⟩ := ZF.out _ (CD.out.trans (hV.mono (Nat.le_refl _)))
      go_simp
    refine take_s (i := 3) (v := .int .i64 1) rfl (by kernel_rfl) (fun _ _ _ h => h) CH.out rfl (fun V hV => ?_) ?_
    · obtain ⟨y0, y1, y2, y3⟩ := Y2.out.below (CD.out.trans (hV.mono (Nat.le_refl _)))
      obtain ⟨f0, f1, f2⟩ := ZF.out _ (CD.out.trans (hV.mono (Nat.le_refl _)))
      go_simp
    refine take_s (i := 4) (v := .pointer (some ⟨w.heap.size + 1, 1, none⟩)) rfl (by kernel_rfl) (fun _ _ _ h => h) CH.out rfl (fun V hV => ?_) ?_
    · obtain ⟨y0, y1, y2, y3⟩ := Y2.out.below (CD.out.trans (hV.mono (Nat.le_refl _)))
      obtain ⟨f0, f1, f2⟩ := ZF.out _ (CD.out.trans (hV.mono (Nat.le_refl _)))
      go_simp
    refine take_s (i := 5) (v := .int .i64 a) rfl (by kernel_rfl) (fun _ _ _ h => h) CH.out rfl (fun V hV => ?_) ?_
    · obtain ⟨y0, y1, y2, y3⟩ := Y2.out.below (CD.out.trans (hV.mono (Nat.le_refl _)))
      obtain ⟨f0, f1, f2⟩ := ZF.out _ (CD.out.trans (hV.mono (Nat.le_refl _)))
      go_simp
    refine take_s (i := 8) (v := .pointer (some ⟨w1.heap.size, 0, none⟩)) rfl (by kernel_rfl) (fun _ _ _ h => h) CH.out rfl (fun V hV => ?_) ?_
    · obtain ⟨y0, y1, y2, y3⟩ := Y2.out.below (CD.out.trans (hV.mono (Nat.le_refl _)))
      obtain ⟨f0, f1, f2⟩ := ZF.out _ (CD.out.trans (hV.mono (Nat.le_refl _)))
      go_simp
    refine take_s (i := 9) (v := .string ⟨#[111, 114, 100, 101, 114]⟩) rfl (by kernel_rfl) (fun _ _ _ h => h) CH.out rfl (fun V hV => ?_) ?_
    · obtain ⟨y0, y1, y2, y3⟩ := Y2.out.below (CD.out.trans (hV.mono (Nat.le_refl _)))
      obtain ⟨f0, f1, f2⟩ := ZF.out _ (CD.out.trans (hV.mono (Nat.le_refl _)))
      go_simp
    refine take_s (i := 11) (v := .pointer (some ⟨w.heap.size + 1, 2, none⟩)) rfl (by kernel_rfl) (fun _ _ _ h => h) CH.out rfl (fun V hV => ?_) ?_
    · obtain ⟨y0, y1, y2, y3⟩ := Y2.out.below (CD.out.trans (hV.mono (Nat.le_refl _)))
      obtain ⟨f0, f1, f2⟩ := ZF.out _ (CD.out.trans (hV.mono (Nat.le_refl _)))
      go_simp
    refine take_s (i := 12) (v := .int .i64 b) rfl (by kernel_rfl) (fun _ _ _ h => h) CH.out rfl (fun V hV => ?_) ?_
    · obtain ⟨y0, y1, y2, y3⟩ := Y2.out.below (CD.out.trans (hV.mono (Nat.le_refl _)))
      obtain ⟨f0, f1, f2⟩ := ZF.out _ (CD.out.trans (hV.mono (Nat.le_refl _)))
      go_simp
    refine take_s (i := 14) (v := .pointer (some ⟨w.heap.size + 1, 3, none⟩)) rfl (by kernel_rfl) (fun _ _ _ h => h) CH.out rfl (fun V hV => ?_) ?_
    · obtain ⟨y0, y1, y2, y3⟩ := Y2.out.below (CD.out.trans (hV.mono (Nat.le_refl _)))
      obtain ⟨f0, f1, f2⟩ := ZF.out _ (CD.out.trans (hV.mono (Nat.le_refl _)))
      go_simp
    refine take_s (i := 15) (v := .int .i64 n) rfl (by kernel_rfl) (fun _ _ _ h => h) CH.out rfl (fun V hV => ?_) ?_
    · obtain ⟨y0, y1, y2, y3⟩ := Y2.out.below (CD.out.trans (hV.mono (Nat.le_refl _)))
      obtain ⟨f0, f1, f2⟩ := ZF.out _ (CD.out.trans (hV.mono (Nat.le_refl _)))
      go_simp
    refine one_s (i := 6) (by kernel_rfl) (op_list rfl ?_)
    go_wp2_with fail
    refine (KR.out _ (HB2.out.trans ((CD.out.trans (CH.out.mono (Nat.le_refl _))).mono HB2.out.size))).mono ?_
    rintro e wx6 ⟨rfl, hb⟩
    replace CH := Lib.hid (CH.out.trans (hb.mono CH.out.size))
    clear hb
    go_wp2
    refine ⟨fun _ => CH.out, ?_⟩
    refine one_s (i := 7) (by kernel_rfl) (op_list rfl ?_)
    go_wp2
    refine ⟨fun _ => CH.out, ?_⟩
    refine one_s (i := 10) (by kernel_rfl) (op_list rfl ?_)
    go_wp2
    refine ⟨fun _ => CH.out, ?_⟩
    refine one_s (i := 13) (by kernel_rfl) (op_list rfl ?_)
    go_wp2_with fail
    refine (KW1.out _ (HB2.out.trans ((CD.out.trans (CH.out.mono (Nat.le_refl _))).mono HB2.out.size))).mono ?_
    rintro e wx13 ⟨rfl, hb⟩
    replace CH := Lib.hid (CH.out.trans (hb.mono CH.out.size))
    clear hb
    go_wp2
    refine ⟨fun _ => CH.out, ?_⟩
    refine one_s (i := 16) (by kernel_rfl) (op_list rfl ?_)
    go_wp2_with fail
    refine (KW2.out _ (HB2.out.trans ((CD.out.trans (CH.out.mono (Nat.le_refl _))).mono HB2.out.size))).mono ?_
    rintro e wx16 ⟨rfl, hb⟩
    replace CH := Lib.hid (CH.out.trans (hb.mono CH.out.size))
    clear hb
    go_wp2
    refine ⟨fun _ => CH.out, ?_⟩
    refine one_s (i := 17) (by kernel_rfl) (op_list rfl ?_)
    go_wp2
    refine ⟨fun _ => CH.out, done_s (by kernel_rfl) ?_ _⟩
    go_wp2
    go_ret
    exact ⟨by rw [← HVV.out] <;> rfl, (HB2.out.trans ((CD.out.trans (CH.out.mono (Nat.le_refl _))).mono HB2.out.size))⟩
set_option maxRecDepth 100000 in
set_option maxHeartbeats 4000000 in
theorem i_ffact (vw vm vi : Int) (L : List InsR) (k a b n : Int) (s : Value) (w : World) (hs : Cs.Shows w 0 4 s L.length (InsR.all L)) (hok : ∀ r ∈ L, r.Ok) (hL : L.length ≤ maxLen) (ha : (-9223372036854775808 ≤ a ∧ a ≤ 9223372036854775807)) (hb0 : (-9223372036854775808 ≤ b ∧ b ≤ 9223372036854775807)) (hn0 : (-9223372036854775808 ≤ n ∧ n ≤ 9223372036854775807)) (hvar : w.var? Tryd.prog "loop.example/g03219/impl.factForms" = some fmCells) (htab : Lib.TabIs Tryd.prog w "internal/strconv.uint64pow10" .u64 Lib.pow10Tab) :
    Calls Tryd.prog 18 #[.agg #[.int .i64 vw, .int .i64 vm, .int .i64 vi, s], .agg #[.int .i64 k, .int .i64 a, .int .i64 b, .int .i64 n]] w fun e w' => e = .returned (.string (fxV vw vm vi L k a b n)) ∧ Below w.heap.size w w' := by
  rcases fk_cases k with rfl | rfl | rfl | rfl | rfl | rfl | hk
  · exact i_ffact1 vw vm vi L a b n s w hs hok hL ha hb0 hn0 hvar htab
  · exact i_ffact2 vw vm vi L a b n s w hs hok hL ha hb0 hn0 hvar htab
  · exact i_ffact3 vw vm vi L a b n s w hs hok hL ha hb0 hn0 hvar htab
  · exact i_ffact4 vw vm vi L a b n s w hs hok hL ha hb0 hn0 hvar htab
  · exact i_ffact5 vw vm vi L a b n s w hs hok hL ha hb0 hn0 hvar htab
  · exact i_ffact6 vw vm vi L a b n s w hs hok hL ha hb0 hn0 hvar htab
  · have hml : maxLen = 9223372036854775807 := rfl
    have K1 := Lib.hid (fun W (hb : Below w.heap.size w W) => i_fact0 vw vm vi L k a b n s W (hs.below hb) hok hL hk)
    obtain ⟨_, q, cap, rfl, _⟩ := hs
    have hfc : fcB vw vm vi L k a b n = false := fc_out hk
    have hfx : fxV vw vm vi L k a b n = ⟨#[]⟩ := by unfold fxV; rw [hfc]; rfl
    rw [hfx]
    rw [hfc] at K1
    clear hfc hfx hk hvar htab
    have HB0 := Lib.hid (((Below.refl w.heap.size w).alloc (Nat.le_refl _) (.cells #[.int .i64 vw, .int .i64 vm, .int .i64 vi, .slice q L.length cap] 31)).alloc (by simp) (.cells #[.int .i64 k, .int .i64 a, .int .i64 b, .int .i64 n] 33))
    have X0 := Lib.hid ((cell4_alloc w 31 (.int .i64 vw) (.int .i64 vm) (.int .i64 vi) (.slice q L.length cap)).below ((Below.refl _ _).alloc (Nat.le_refl _) (.cells #[.int .i64 k, .int .i64 a, .int .i64 b, .int .i64 n] 33)))
    have Y0 := Lib.hid (cell4_alloc (w.alloc (.cells #[.int .i64 vw, .int .i64 vm, .int .i64 vi, .slice q L.length cap] 31)) 33 (.int .i64 k) (.int .i64 a) (.int .i64 b) (.int .i64 n))
    rw [show (w.alloc (.cells #[.int .i64 vw, .int .i64 vm, .int .i64 vi, .slice q L.length cap] 31)).heap.size = w.heap.size + 1 by simp] at Y0
    obtain ⟨w0, hw0⟩ : ∃ w0, w0 = (w.alloc (.cells #[.int .i64 vw, .int .i64 vm, .int .i64 vi, .slice q L.length cap] 31)).alloc (.cells #[.int .i64 k, .int .i64 a, .int .i64 b, .int .i64 n] 33) := ⟨_, rfl⟩
    have hs0 : w0.heap.size = w.heap.size + 2 := by rw [hw0]; simp
    rw [← hw0] at HB0 X0 Y0
    obtain ⟨x0, x1, x2, x3⟩ := X0.out
    obtain ⟨y0, y1, y2, y3⟩ := Y0.out
    rw [hw0] at x0 x1 x2 x3 y0 y1 y2 y3
    go_enter Tryd.func18, Tryd.ntmps18
    go_wp2_with fail
    rw [← hw0] at x0 x1 x2 x3 y0 y1 y2 y3 ⊢
    clear hw0
    refine (K1.out _ HB0.out).mono ?_
    rintro e w1 ⟨rfl, hb⟩
    have HB1 := Lib.hid (HB0.out.trans (hb.mono HB0.out.size))
    clear hb x0 x1 x2 x3 y0 y1 y2 y3
    go_wp2
    go_ret
    exact ⟨rfl, HB1.out⟩
end Go.Proofs.YtcihgechijiamaaDoor
