/- What the program's FormatIns returns. No condition but the tables. -/
import Derived.Test.YtmmcpjdcfhgkiabDoorFiM
import Derived.Test.YtmmcpjdcfhgkiabDoorPrI
import Derived.Test.YtmmcpjdcfhgkiabDoorFmt
import Derived.Test.YtmmcpjdcfhgkiabDoorReg
import Derived.Deep.RegionWith
namespace Go.Proofs.YtmmcpjdcfhgkiabDoor
open Go.ChangeShapes Go.WideShapes Go.ChangeAt Go.RowKit
theorem itB_size (n : Int) (h0 : -9223372036854775808 ≤ n) (h1 : n ≤ 9223372036854775807) : (itB n).size ≤ 21 := by
  have h : (itB n).size = (Lib.itoa n).length := by simp [itB, ByteArray.size]
  rw [h]
  unfold Lib.itoa
  split
  · have := dec_len n.natAbs (by omega)
    simp; omega
  · have := dec_len n.toNat (by omega)
    omega
set_option maxRecDepth 100000 in
set_option maxHeartbeats 2000000 in
theorem i_write (o : Int) (s : ByteArray) (n : Int) (ho : o = 0 ∨ o = 1 ∨ o = 2 ∨ o = 3 ∨ o = 4) (h0 : -9223372036854775808 ≤ n) (h1 : n ≤ 9223372036854775807) (hs : s.size ≤ 100000) (w : World) (htab : Lib.TabIs Tryd.prog w "internal/strconv.uint64pow10" .u64 Lib.pow10Tab) :
    Calls Tryd.prog 34 #[.int .i64 o, .string s, .int .i64 n] w fun e w' => e = .returned (.string (wrV o s n)) ∧ Below w.heap.size w w' := by
  have hz := itB_size n h0 h1
  have KF : Hid (Calls Tryd.prog 30 #[.int .i64 n] w fun e w' => e = .returned (.string (itB n)) ∧ Below w.heap.size w w') := Lib.hid (i_fmt n h0 h1 w htab)
  clear htab
  unfold wrV
  generalize itB n = t at *
  rcases ho with rfl | rfl | rfl | rfl | rfl
  · go_enter Tryd.func34, Tryd.ntmps34
    go_wp2
    go_ret
    exact ⟨rfl, Below.refl _ _⟩
  · have hz2 : (s ++ (⟨#[32, 114]⟩ : ByteArray)).size = s.size + 2 := by simp; rfl
    go_enter Tryd.func34, Tryd.ntmps34
    go_wp2_with (go_at_call 30; refine KF.out.mono ?_; rintro e w1 ⟨rfl, hb⟩)
    go_ret
    exact ⟨rfl, hb⟩
  · have hz2 : (s ++ (⟨#[32]⟩ : ByteArray)).size = s.size + 1 := by simp; rfl
    go_enter Tryd.func34, Tryd.ntmps34
    go_wp2_with (go_at_call 30; refine KF.out.mono ?_; rintro e w1 ⟨rfl, hb⟩)
    go_ret
    exact ⟨rfl, hb⟩
  · have hz2 : (s ++ (⟨#[32]⟩ : ByteArray)).size = s.size + 1 := by simp; rfl
    go_enter Tryd.func34, Tryd.ntmps34
    go_wp2_with (go_at_call 30; refine KF.out.mono ?_; rintro e w1 ⟨rfl, hb⟩)
    go_ret
    exact ⟨rfl, hb⟩
  · go_enter Tryd.func34, Tryd.ntmps34
    go_wp2
    go_ret
    exact ⟨rfl, Below.refl _ _⟩
theorem wr_size (o : Int) (s : ByteArray) (n : Int) (h0 : -9223372036854775808 ≤ n) (h1 : n ≤ 9223372036854775807) : (wrV o s n).size ≤ s.size + 23 := by
  have := itB_size n h0 h1
  unfold wrV
  split
  · rw [ByteArray.size_append, ByteArray.size_append]
    have h : (⟨#[32, 114]⟩ : ByteArray).size = 2 := rfl
    omega
  · split
    · rw [ByteArray.size_append, ByteArray.size_append]
      have h : (⟨#[32]⟩ : ByteArray).size = 1 := rfl
      omega
    · omega
/-- the name that a form bears is the word, but for operations -/
theorem form_name {op : Int} (h1 : 1 ≤ op) (h2 : op ≤ 14) : ∃ F, formV op = .agg #[.string ⟨(inL op).toArray⟩, .int .i64 (fA op), .int .i64 (fB op), .int .i64 (fC op), .bool (fL op), .func (.func F) #[] #[]] := by
  rcases op_cases op with rfl | rfl | rfl | rfl | rfl | rfl | rfl | rfl | rfl | rfl | rfl | rfl | rfl | rfl | hop
  any_goals exact ⟨_, rfl⟩
  omega
set_option maxRecDepth 100000 in
set_option maxHeartbeats 4000000 in
theorem i_format (op a b c wd size : Int) (ha : -9223372036854775808 ≤ a ∧ a ≤ 9223372036854775807) (hb : -9223372036854775808 ≤ b ∧ b ≤ 9223372036854775807) (w : World) (htab : Lib.TabIs Tryd.prog w "internal/strconv.uint64pow10" .u64 Lib.pow10Tab) (hvar : w.var? Tryd.prog "loop.example/g03219/impl.opNames" = some nmCells) :
    Calls Tryd.prog 16 #[.agg #[.int .i64 op, .int .i64 a, .int .i64 b, .int .i64 c], .int .i64 wd, .int .i64 size] w fun e w' => e = .returned (.string (fiV ⟨op, a, b, c⟩ wd size)) ∧ Below w.heap.size w w' := by
  have HT := Lib.hid htab
  have HVR := Lib.hid hvar
  clear htab hvar
  have HB0 := Lib.hid ((Below.refl w.heap.size w).alloc (Nat.le_refl _) (.cells #[.int .i64 op, .int .i64 a, .int .i64 b, .int .i64 c] 39))
  have X0 := Lib.hid (cell4_alloc w 39 (.int .i64 op) (.int .i64 a) (.int .i64 b) (.int .i64 c))
  obtain ⟨w0, hw0⟩ : ∃ w0, w0 = w.alloc (.cells #[.int .i64 op, .int .i64 a, .int .i64 b, .int .i64 c] 39) := ⟨_, rfl⟩
  have hs0 : w0.heap.size = w.heap.size + 1 := by rw [hw0]; simp
  rw [← hw0] at HB0 X0
  obtain ⟨b1, hb1⟩ : ∃ x, (decide (2 ≤ wd) && decide (wd ≤ 8)) = x := ⟨_, rfl⟩
  obtain ⟨b2, hb2⟩ : ∃ x, (decide (1 ≤ size) && decide (size ≤ 40)) = x := ⟨_, rfl⟩
  obtain ⟨b3, hb3⟩ : ∃ x, insB ⟨op, a, b, c⟩ wd size = x := ⟨_, rfl⟩
  have K1 := Lib.hid (fun W => i_mw wd W)
  rw [hb1] at K1
  have K2 := Lib.hid (fun W => i_size size W)
  rw [hb2] at K2
  have K3 := Lib.hid (fun W => i_ins op a b c wd size W)
  rw [hb3] at K3
  obtain ⟨V, hV⟩ : ∃ V, fiV ⟨op, a, b, c⟩ wd size = V := ⟨_, rfl⟩
  rw [hV]
  unfold fiV fiB at hV
  rw [hb1, hb2, hb3] at hV
  have HV := Lib.hid hV
  clear hV hb1 hb2
  obtain ⟨x0, x1, x2, x3⟩ := X0.out
  rw [hw0] at x0 x1 x2 x3
  go_enter Tryd.func16, Tryd.ntmps16
  go_wp2_with fail
  rw [← hw0] at x0 x1 x2 x3 ⊢
  clear hw0
  refine (K1.out _).mono ?_
  rintro e wx ⟨rfl, rfl⟩
  cases b1
  case false =>
    have hv : V = ⟨#[]⟩ := HV.out.symm
    subst hv
    go_wp2
    go_ret
    exact ⟨rfl, HB0.out⟩
  case true =>
    go_wp2_with fail
    refine (K2.out _).mono ?_
    rintro e wx ⟨rfl, rfl⟩
    cases b2
    case false =>
      have hv : V = ⟨#[]⟩ := HV.out.symm
      subst hv
      go_wp2
      go_ret
      exact ⟨rfl, HB0.out⟩
    case true =>
      go_wp2_with fail
      refine (K3.out _).mono ?_
      rintro e w1 ⟨rfl, hbb⟩
      have HB1 := Lib.hid (HB0.out.trans (hbb.mono HB0.out.size))
      have X1 := Lib.hid (X0.out.below hbb)
      have hs1 := hbb.size
      have hz1 : w.heap.size < w1.heap.size := by omega
      clear hbb x0 x1 x2 x3
      obtain ⟨x0, x1, x2, x3⟩ := X1.out
      cases b3
      case false =>
        have hv : V = ⟨#[]⟩ := HV.out.symm
        subst hv
        go_wp2
        go_ret
        exact ⟨rfl, HB1.out⟩
      case true =>
        have hop : 1 ≤ op ∧ op ≤ 14 := by
          by_cases h : op < 1 ∨ 14 < op
          · rw [ins_out (r := ⟨op, a, b, c⟩) h] at hb3; cases hb3
          · omega
        have HV2 : Hid (wrV (fB op) (wrV (fA op) (wdV op c) a) b = V) := Lib.hid HV.out
        obtain ⟨F, hF⟩ := form_name hop.1 hop.2
        obtain ⟨nmv, hnm⟩ : ∃ x : ByteArray, (⟨(inL op).toArray⟩ : ByteArray) = x := ⟨_, rfl⟩
        rw [hnm] at hF
        have KF := Lib.hid (fun W => i_form op W)
        rw [hF] at KF
        have hka := fA_kind op
        have hkb := fB_kind op
        have hsz := wd_size op c
        have hsz2 := wr_size (fA op) (wdV op c) a ha.1 ha.2
        have KW1 := Lib.hid (fun W (hbw : Below w.heap.size w W) => i_write (fA op) (wdV op c) a hka ha.1 ha.2 (by omega) W (var_below hbw HT.out))
        have KW2 := Lib.hid (fun W (hbw : Below w.heap.size w W) => i_write (fB op) (wrV (fA op) (wdV op c) a) b hkb hb.1 hb.2 (by omega) W (var_below hbw HT.out))
        have HWD : Hid ((op = 3 → ∃ k : Nat, c = k ∧ 1 ≤ k ∧ k ≤ 16 ∧ wdV op c = nm k) ∧ (¬ op = 3 → wdV op c = nmv)) := Lib.hid (by
          refine ⟨fun h3 => ?_, fun h3 => by unfold wdV; rw [if_neg h3, hnm]⟩
          subst h3
          rw [ins_in (r := ⟨3, a, b, c⟩) (show (1 : Int) ≤ 3 by omega) (show (3 : Int) ≤ 14 by omega)] at hb3
          have h4 : opB 4 c wd size = true := by
            have := (Bool.and_eq_true _ _).mp ((Bool.and_eq_true _ _).mp hb3).2
            exact this.2
          rw [opB_oper, Bool.and_eq_true, decide_eq_true_eq, decide_eq_true_eq] at h4
          refine ⟨c.toNat, by omega, by omega, by omega, ?_⟩
          unfold wdV
          rw [if_pos rfl])
        obtain ⟨wdv, hwdv⟩ : ∃ x, wdV op c = x := ⟨_, rfl⟩
        rw [hwdv] at KW1 KW2 HWD
        rw [hwdv] at HV2
        generalize fA op = ka at *
        generalize fB op = kb at *
        generalize fC op = kc at *
        generalize fL op = kl at *
        clear hF hnm hka hkb hsz hsz2 hwdv HV hb3 hop
        go_wp2_with fail
        refine (KF.out _).mono ?_
        rintro e w2 ⟨rfl, hbb⟩
        have HB2 := Lib.hid (HB1.out.trans (hbb.mono HB1.out.size))
        have X2 := Lib.hid (X1.out.below hbb)
        have hs2 := hbb.size
        have hz2 : w.heap.size < w2.heap.size := by omega
        clear hbb x0 x1 x2 x3
        have HB3 := Lib.hid (HB2.out.alloc HB2.out.size (.cells #[.string nmv, .int .i64 ka, .int .i64 kb, .int .i64 kc, .bool kl, .func (.func F) #[] #[]] 56))
        have Z3 := Lib.hid (heap_alloc_new w2 (.cells #[.string nmv, .int .i64 ka, .int .i64 kb, .int .i64 kc, .bool kl, .func (.func F) #[] #[]] 56))
        have X3 := Lib.hid (X2.out.below ((Below.refl w2.heap.size w2).alloc (Nat.le_refl _) (.cells #[.string nmv, .int .i64 ka, .int .i64 kb, .int .i64 kc, .bool kl, .func (.func F) #[] #[]] 56)))
        obtain ⟨w3, hw3⟩ : ∃ W, W = w2.alloc (.cells #[.string nmv, .int .i64 ka, .int .i64 kb, .int .i64 kc, .bool kl, .func (.func F) #[] #[]] 56) := ⟨_, rfl⟩
        have hs3 : w3.heap.size = w2.heap.size + 1 := by rw [hw3]; simp
        rw [← hw3] at HB3 Z3 X3
        have ZF := Lib.hid (fun W (hbw : Below w3.heap.size w3 W) => show W.cell? ⟨w2.heap.size, 1, none⟩ = some (.int .i64 ka) ∧ W.cell? ⟨w2.heap.size, 2, none⟩ = some (.int .i64 kb) from
          ⟨cell_of_row W w2.heap.size 1 _ _ _ ((hbw.block w2.heap.size (by omega)).trans Z3.out), cell_of_row W w2.heap.size 2 _ _ _ ((hbw.block w2.heap.size (by omega)).trans Z3.out)⟩)
        obtain ⟨x0, x1, x2, x3⟩ := X2.out
        by_cases h3 : op = 3
        · obtain ⟨k, rfl, hk1, hk2, rfl⟩ := HWD.out.1 h3
          subst h3
          have hcell := Lib.hid (fun W (hbw : Below w.heap.size w W) => cell_of_var (var_below hbw HVR.out) k (by omega))
          go_wp2_with fail
          rw [← hw3]
          clear hw3 x0 x1 x2 x3
          refine (i_opName k hk1 hk2 w3 (hcell.out w3 HB3.out)).mono ?_
          rintro e wx ⟨rfl, rfl⟩
          obtain ⟨x0, x1, x2, x3⟩ := X3.out
          obtain ⟨z1, z2⟩ := ZF.out w3 (Below.refl _ _)
          have CD := Lib.hid (show Below w3.heap.size w3 w3.drew from (Below.refl _ _).drew)
          have CH := Lib.hid (Below.refl w3.drew.heap.size w3.drew)
          go_wp2
          refine region_s [] (fun V => Below w3.drew.heap.size w3.drew V) (by kernel_rfl) ?_
          refine take_s (i := 0) (v := .pointer (some ⟨w2.heap.size, 2, none⟩)) rfl (by kernel_rfl) (fun _ _ _ h => h) CH.out rfl (fun V hV => ?_) ?_
          · obtain ⟨x0, x1, x2, x3⟩ := X3.out.below (CD.out.trans (hV.mono (Nat.le_refl _)))
            obtain ⟨z1, z2⟩ := ZF.out _ (CD.out.trans (hV.mono (Nat.le_refl _)))
            go_simp
          refine take_s (i := 1) (v := .int .i64 kb) rfl (by kernel_rfl) (fun _ _ _ h => h) CH.out rfl (fun V hV => ?_) ?_
          · obtain ⟨x0, x1, x2, x3⟩ := X3.out.below (CD.out.trans (hV.mono (Nat.le_refl _)))
            obtain ⟨z1, z2⟩ := ZF.out _ (CD.out.trans (hV.mono (Nat.le_refl _)))
            go_simp
          refine take_s (i := 2) (v := .pointer (some ⟨w2.heap.size, 1, none⟩)) rfl (by kernel_rfl) (fun _ _ _ h => h) CH.out rfl (fun V hV => ?_) ?_
          · obtain ⟨x0, x1, x2, x3⟩ := X3.out.below (CD.out.trans (hV.mono (Nat.le_refl _)))
            obtain ⟨z1, z2⟩ := ZF.out _ (CD.out.trans (hV.mono (Nat.le_refl _)))
            go_simp
          refine take_s (i := 3) (v := .int .i64 ka) rfl (by kernel_rfl) (fun _ _ _ h => h) CH.out rfl (fun V hV => ?_) ?_
          · obtain ⟨x0, x1, x2, x3⟩ := X3.out.below (CD.out.trans (hV.mono (Nat.le_refl _)))
            obtain ⟨z1, z2⟩ := ZF.out _ (CD.out.trans (hV.mono (Nat.le_refl _)))
            go_simp
          refine take_s (i := 4) (v := .string (nm k)) rfl (by kernel_rfl) (fun _ _ _ h => h) CH.out rfl (fun V hV => ?_) ?_
          · obtain ⟨x0, x1, x2, x3⟩ := X3.out.below (CD.out.trans (hV.mono (Nat.le_refl _)))
            obtain ⟨z1, z2⟩ := ZF.out _ (CD.out.trans (hV.mono (Nat.le_refl _)))
            go_simp
          refine take_s (i := 5) (v := .pointer (some ⟨w.heap.size, 1, none⟩)) rfl (by kernel_rfl) (fun _ _ _ h => h) CH.out rfl (fun V hV => ?_) ?_
          · obtain ⟨x0, x1, x2, x3⟩ := X3.out.below (CD.out.trans (hV.mono (Nat.le_refl _)))
            obtain ⟨z1, z2⟩ := ZF.out _ (CD.out.trans (hV.mono (Nat.le_refl _)))
            go_simp
          refine take_s (i := 6) (v := .int .i64 a) rfl (by kernel_rfl) (fun _ _ _ h => h) CH.out rfl (fun V hV => ?_) ?_
          · obtain ⟨x0, x1, x2, x3⟩ := X3.out.below (CD.out.trans (hV.mono (Nat.le_refl _)))
            obtain ⟨z1, z2⟩ := ZF.out _ (CD.out.trans (hV.mono (Nat.le_refl _)))
            go_simp
          refine take_s (i := 8) (v := .pointer (some ⟨w.heap.size, 2, none⟩)) rfl (by kernel_rfl) (fun _ _ _ h => h) CH.out rfl (fun V hV => ?_) ?_
          · obtain ⟨x0, x1, x2, x3⟩ := X3.out.below (CD.out.trans (hV.mono (Nat.le_refl _)))
            obtain ⟨z1, z2⟩ := ZF.out _ (CD.out.trans (hV.mono (Nat.le_refl _)))
            go_simp
          refine take_s (i := 9) (v := .int .i64 b) rfl (by kernel_rfl) (fun _ _ _ h => h) CH.out rfl (fun V hV => ?_) ?_
          · obtain ⟨x0, x1, x2, x3⟩ := X3.out.below (CD.out.trans (hV.mono (Nat.le_refl _)))
            obtain ⟨z1, z2⟩ := ZF.out _ (CD.out.trans (hV.mono (Nat.le_refl _)))
            go_simp
          refine one_s (i := 7) (by kernel_rfl) (op_list rfl ?_)
          go_wp2_with fail
          refine (KW1.out _ (HB3.out.trans (CD.out.mono HB3.out.size))).mono ?_
          rintro e w4 ⟨rfl, hbb⟩
          replace CH := Lib.hid (CH.out.trans (hbb.mono CH.out.size))
          clear hbb
          go_wp2
          refine ⟨fun _ => CH.out, ?_⟩
          refine one_s (i := 10) (by kernel_rfl) (op_list rfl ?_)
          go_wp2_with fail
          refine (KW2.out _ (HB3.out.trans ((CD.out.trans (CH.out.mono (Nat.le_refl _))).mono HB3.out.size))).mono ?_
          rintro e w5 ⟨rfl, hbb⟩
          replace CH := Lib.hid (CH.out.trans (hbb.mono CH.out.size))
          clear hbb
          go_wp2
          refine ⟨fun _ => CH.out, ?_⟩
          refine one_s (i := 11) (by kernel_rfl) (op_list rfl ?_)
          go_wp2
          refine ⟨fun _ => CH.out, done_s (by kernel_rfl) ?_ _⟩
          go_wp2
          go_ret
          exact ⟨by rw [← HV2.out] <;> rfl, HB3.out.trans ((CD.out.trans (CH.out.mono (Nat.le_refl _))).mono HB3.out.size)⟩
        · have hwd := HWD.out.2 h3
          have n3 : (op == 3) = false := by simpa using h3
          subst hwd
          go_wp2_with fail
          rw [← hw3]
          clear hw3 x0 x1 x2 x3
          obtain ⟨x0, x1, x2, x3⟩ := X3.out
          obtain ⟨z1, z2⟩ := ZF.out w3 (Below.refl _ _)
          have CD := Lib.hid (show Below w3.heap.size w3 w3.drew from (Below.refl _ _).drew)
          have CH := Lib.hid (Below.refl w3.drew.heap.size w3.drew)
          go_wp2
          refine region_s [] (fun V => Below w3.drew.heap.size w3.drew V) (by kernel_rfl) ?_
          refine take_s (i := 0) (v := .pointer (some ⟨w2.heap.size, 2, none⟩)) rfl (by kernel_rfl) (fun _ _ _ h => h) CH.out rfl (fun V hV => ?_) ?_
          · obtain ⟨x0, x1, x2, x3⟩ := X3.out.below (CD.out.trans (hV.mono (Nat.le_refl _)))
            obtain ⟨z1, z2⟩ := ZF.out _ (CD.out.trans (hV.mono (Nat.le_refl _)))
            go_simp
          refine take_s (i := 1) (v := .int .i64 kb) rfl (by kernel_rfl) (fun _ _ _ h => h) CH.out rfl (fun V hV => ?_) ?_
          · obtain ⟨x0, x1, x2, x3⟩ := X3.out.below (CD.out.trans (hV.mono (Nat.le_refl _)))
            obtain ⟨z1, z2⟩ := ZF.out _ (CD.out.trans (hV.mono (Nat.le_refl _)))
            go_simp
          refine take_s (i := 2) (v := .pointer (some ⟨w2.heap.size, 1, none⟩)) rfl (by kernel_rfl) (fun _ _ _ h => h) CH.out rfl (fun V hV => ?_) ?_
          · obtain ⟨x0, x1, x2, x3⟩ := X3.out.below (CD.out.trans (hV.mono (Nat.le_refl _)))
            obtain ⟨z1, z2⟩ := ZF.out _ (CD.out.trans (hV.mono (Nat.le_refl _)))
            go_simp
          refine take_s (i := 3) (v := .int .i64 ka) rfl (by kernel_rfl) (fun _ _ _ h => h) CH.out rfl (fun V hV => ?_) ?_
          · obtain ⟨x0, x1, x2, x3⟩ := X3.out.below (CD.out.trans (hV.mono (Nat.le_refl _)))
            obtain ⟨z1, z2⟩ := ZF.out _ (CD.out.trans (hV.mono (Nat.le_refl _)))
            go_simp
          refine take_s (i := 4) (v := .string wdv) rfl (by kernel_rfl) (fun _ _ _ h => h) CH.out rfl (fun V hV => ?_) ?_
          · obtain ⟨x0, x1, x2, x3⟩ := X3.out.below (CD.out.trans (hV.mono (Nat.le_refl _)))
            obtain ⟨z1, z2⟩ := ZF.out _ (CD.out.trans (hV.mono (Nat.le_refl _)))
            go_simp
          refine take_s (i := 5) (v := .pointer (some ⟨w.heap.size, 1, none⟩)) rfl (by kernel_rfl) (fun _ _ _ h => h) CH.out rfl (fun V hV => ?_) ?_
          · obtain ⟨x0, x1, x2, x3⟩ := X3.out.below (CD.out.trans (hV.mono (Nat.le_refl _)))
            obtain ⟨z1, z2⟩ := ZF.out _ (CD.out.trans (hV.mono (Nat.le_refl _)))
            go_simp
          refine take_s (i := 6) (v := .int .i64 a) rfl (by kernel_rfl) (fun _ _ _ h => h) CH.out rfl (fun V hV => ?_) ?_
          · obtain ⟨x0, x1, x2, x3⟩ := X3.out.below (CD.out.trans (hV.mono (Nat.le_refl _)))
            obtain ⟨z1, z2⟩ := ZF.out _ (CD.out.trans (hV.mono (Nat.le_refl _)))
            go_simp
          refine take_s (i := 8) (v := .pointer (some ⟨w.heap.size, 2, none⟩)) rfl (by kernel_rfl) (fun _ _ _ h => h) CH.out rfl (fun V hV => ?_) ?_
          · obtain ⟨x0, x1, x2, x3⟩ := X3.out.below (CD.out.trans (hV.mono (Nat.le_refl _)))
            obtain ⟨z1, z2⟩ := ZF.out _ (CD.out.trans (hV.mono (Nat.le_refl _)))
            go_simp
          refine take_s (i := 9) (v := .int .i64 b) rfl (by kernel_rfl) (fun _ _ _ h => h) CH.out rfl (fun V hV => ?_) ?_
          · obtain ⟨x0, x1, x2, x3⟩ := X3.out.below (CD.out.trans (hV.mono (Nat.le_refl _)))
            obtain ⟨z1, z2⟩ := ZF.out _ (CD.out.trans (hV.mono (Nat.le_refl _)))
            go_simp
          refine one_s (i := 7) (by kernel_rfl) (op_list rfl ?_)
          go_wp2_with fail
          refine (KW1.out _ (HB3.out.trans (CD.out.mono HB3.out.size))).mono ?_
          rintro e w4 ⟨rfl, hbb⟩
          replace CH := Lib.hid (CH.out.trans (hbb.mono CH.out.size))
          clear hbb
          go_wp2
          refine ⟨fun _ => CH.out, ?_⟩
          refine one_s (i := 10) (by kernel_rfl) (op_list rfl ?_)
          go_wp2_with fail
          refine (KW2.out _ (HB3.out.trans ((CD.out.trans (CH.out.mono (Nat.le_refl _))).mono HB3.out.size))).mono ?_
          rintro e w5 ⟨rfl, hbb⟩
          replace CH := Lib.hid (CH.out.trans (hbb.mono CH.out.size))
          clear hbb
          go_wp2
          refine ⟨fun _ => CH.out, ?_⟩
          refine one_s (i := 11) (by kernel_rfl) (op_list rfl ?_)
          go_wp2
          refine ⟨fun _ => CH.out, done_s (by kernel_rfl) ?_ _⟩
          go_wp2
          go_ret
          exact ⟨by rw [← HV2.out] <;> rfl, HB3.out.trans ((CD.out.trans (CH.out.mono (Nat.le_refl _))).mono HB3.out.size)⟩
end Go.Proofs.YtmmcpjdcfhgkiabDoor
