/- What the program's formatted and FormatTerm return, and their model's FormatTerm. No condition but the tables. -/
import Derived.Test.YtkgdmamafemniaaDoorFtM
import Derived.Test.YtkgdmamafemniaaDoorReg
import Derived.Test.YtkgdmamafemniaaDoorFitS
import Derived.Test.YtkgdmamafemniaaDoorFtS
import Derived.Test.YtkgdmamafemniaaDoorApAny
import Derived.Test.YtkgdmamafemniaaDoorCheck
import Derived.Test.YtkgdmamafemniaaDoorTermOk
namespace Go.Proofs.YtkgdmamafemniaaDoor
section
open Go.ChangeShapes Go.WideShapes Go.ChangeAt Go.RowKit
set_option maxRecDepth 100000 in
set_option maxHeartbeats 2000000 in
theorem i_ft_const (wd n : Int) (nm : ByteArray) (s : Value) (ks : List ByteArray) (w : World) (hs : ∃ q m c, s = .slice q m c) (hw : InR wd) (hn : InR n) (htab : Lib.TabIs Tryd.prog w "internal/strconv.uint64pow10" .u64 Lib.pow10Tab) :
    Calls Tryd.prog 20 #[.agg #[.int .i64 0, .int .i64 wd, .int .i64 n, .string nm, s]] w fun e w' => e = .returned (.string (txOne 0 wd n nm ks)) ∧ Below w.heap.size w w' := by
  obtain ⟨q, m, c, rfl⟩ := hs
  have KW : Hid _ := Lib.hid (fun W (hb : Below w.heap.size w W) => i_fmt wd hw.1 hw.2 W (var_below hb htab))
  have KN : Hid _ := Lib.hid (fun W (hb : Below w.heap.size w W) => i_fmt n hn.1 hn.2 W (var_below hb htab))
  have HT := Lib.hid (show txOne 0 wd n nm ks = itB wd ++ ⟨#[58]⟩ ++ itB n from rfl)
  have z1 := itB_size wd hw
  have z2 := itB_size n hn
  rw [show (⟨(Lib.itoa wd).toArray⟩ : ByteArray) = itB wd from rfl] at KW
  rw [show (⟨(Lib.itoa n).toArray⟩ : ByteArray) = itB n from rfl] at KN
  generalize itB wd = tw at *
  generalize itB n = tn at *
  go_enter Tryd.func20, Tryd.ntmps20
  have X1 := Lib.hid (cell5_alloc w 29 (.int .i64 0) (.int .i64 wd) (.int .i64 n) (.string nm) (.slice q m c))
  have B1 := Lib.hid ((Below.refl w.heap.size w).alloc (Nat.le_refl _) (.cells #[.int .i64 0, .int .i64 wd, .int .i64 n, .string nm, .slice q m c] 29))
  obtain ⟨w1, hw1⟩ : ∃ w1, w1 = w.alloc (.cells #[.int .i64 0, .int .i64 wd, .int .i64 n, .string nm, .slice q m c] 29) := ⟨_, rfl⟩
  rw [← hw1] at X1 B1
  go_wp2
  rw [← hw1]
  clear hw1
  have HCW := Lib.hid ((Below.refl w1.heap.size w1).drew)
  refine region_c (fun W => Below w1.heap.size w1 W) (by kernel_rfl) ?_
  refine take_c (i := 0) (v := .pointer (some ⟨w.heap.size, 1, none⟩)) rfl (by kernel_rfl) (by kernel_rfl) (by kernel_rfl) (fun _ _ _ h => h) HCW.out rfl (fun W hW => ?_) ?_
  · go_simp
    all_goals (first | omega | (simp; omega))
  refine take_c (i := 1) (v := .int .i64 wd) rfl (by kernel_rfl) (by kernel_rfl) (by kernel_rfl) (fun _ _ _ h => h) HCW.out rfl (fun W hW => ?_) ?_
  · obtain ⟨x0, x1, x2, x3, x4⟩ := X1.out.below hW
    go_simp
    all_goals (first | omega | (simp; omega))
  refine take_c (i := 4) (v := .pointer (some ⟨w.heap.size, 2, none⟩)) rfl (by kernel_rfl) (by kernel_rfl) (by kernel_rfl) (fun _ _ _ h => h) HCW.out rfl (fun W hW => ?_) ?_
  · go_simp
    all_goals (first | omega | (simp; omega))
  refine take_c (i := 5) (v := .int .i64 n) rfl (by kernel_rfl) (by kernel_rfl) (by kernel_rfl) (fun _ _ _ h => h) HCW.out rfl (fun W hW => ?_) ?_
  · obtain ⟨x0, x1, x2, x3, x4⟩ := X1.out.below hW
    go_simp
    all_goals (first | omega | (simp; omega))
  refine one_c (i := 2) (by kernel_rfl) (op_list rfl ?_)
  go_wp2_with fail
  refine (KW.out _ (B1.out.trans (HCW.out.mono B1.out.size))).mono ?_
  rintro e w2 ⟨rfl, hb⟩
  replace HCW := Lib.hid (HCW.out.trans (hb.mono HCW.out.size))
  clear hb
  go_wp2
  refine ⟨HCW.out, ?_⟩
  refine take_c (i := 3) (v := .string (tw ++ ⟨#[58]⟩)) rfl (by kernel_rfl) (by kernel_rfl) (by kernel_rfl) (fun _ _ _ h => h) HCW.out rfl (fun W hW => ?_) ?_
  · go_simp
    all_goals (first | omega | (simp; omega))
  refine one_c (i := 6) (by kernel_rfl) (op_list rfl ?_)
  go_wp2_with fail
  refine (KN.out _ (B1.out.trans (HCW.out.mono B1.out.size))).mono ?_
  rintro e w3 ⟨rfl, hb⟩
  replace HCW := Lib.hid (HCW.out.trans (hb.mono HCW.out.size))
  clear hb
  go_wp2
  refine ⟨HCW.out, ?_⟩
  refine take_c (i := 7) (v := .string (tw ++ ⟨#[58]⟩ ++ tn)) rfl (by kernel_rfl) (by kernel_rfl) (by kernel_rfl) (fun _ _ _ h => h) HCW.out rfl (fun W hW => ?_) ?_
  · go_simp
    all_goals (first | omega | (simp; omega))
  refine take_c (i := 8) (v := .string (tw ++ ⟨#[58]⟩ ++ tn)) rfl (by kernel_rfl) (by kernel_rfl) (by kernel_rfl) (fun _ _ _ h => h) HCW.out rfl (fun W hW => ?_) ?_
  · go_simp
    all_goals (first | omega | (simp; omega))
  refine done_c (by kernel_rfl) ?_ _
  go_wp2
  go_ret
  exact ⟨by rw [HT.out]; rfl, B1.out.trans (HCW.out.mono B1.out.size)⟩
set_option maxRecDepth 100000 in
set_option maxHeartbeats 2000000 in
theorem i_ft_var (wd n : Int) (nm : ByteArray) (s : Value) (ks : List ByteArray) (w : World) (hs : ∃ q m c, s = .slice q m c) (hw : InR wd) (hm : nm.size ≤ 1048576) (htab : Lib.TabIs Tryd.prog w "internal/strconv.uint64pow10" .u64 Lib.pow10Tab) :
    Calls Tryd.prog 20 #[.agg #[.int .i64 22, .int .i64 wd, .int .i64 n, .string nm, s]] w fun e w' => e = .returned (.string (txOne 22 wd n nm ks)) ∧ Below w.heap.size w w' := by
  obtain ⟨q, m, c, rfl⟩ := hs
  have KW : Hid _ := Lib.hid (fun W (hb : Below w.heap.size w W) => i_fmt wd hw.1 hw.2 W (var_below hb htab))
  have HT := Lib.hid (show txOne 22 wd n nm ks = nm ++ ⟨#[58]⟩ ++ itB wd from rfl)
  have z1 := itB_size wd hw
  rw [show (⟨(Lib.itoa wd).toArray⟩ : ByteArray) = itB wd from rfl] at KW
  generalize itB wd = tw at *
  go_enter Tryd.func20, Tryd.ntmps20
  have X1 := Lib.hid (cell5_alloc w 29 (.int .i64 22) (.int .i64 wd) (.int .i64 n) (.string nm) (.slice q m c))
  have B1 := Lib.hid ((Below.refl w.heap.size w).alloc (Nat.le_refl _) (.cells #[.int .i64 22, .int .i64 wd, .int .i64 n, .string nm, .slice q m c] 29))
  obtain ⟨w1, hw1⟩ : ∃ w1, w1 = w.alloc (.cells #[.int .i64 22, .int .i64 wd, .int .i64 n, .string nm, .slice q m c] 29) := ⟨_, rfl⟩
  rw [← hw1] at X1 B1
  go_wp2
  rw [← hw1]
  clear hw1
  have HCW := Lib.hid ((Below.refl w1.heap.size w1).drew)
  refine region_c (fun W => Below w1.heap.size w1 W) (by kernel_rfl) ?_
  refine take_c (i := 0) (v := .pointer (some ⟨w.heap.size, 3, none⟩)) rfl (by kernel_rfl) (by kernel_rfl) (by kernel_rfl) (fun _ _ _ h => h) HCW.out rfl (fun W hW => ?_) ?_
  · go_simp
    all_goals (first | omega | (simp; omega))
  refine take_c (i := 1) (v := .string nm) rfl (by kernel_rfl) (by kernel_rfl) (by kernel_rfl) (fun _ _ _ h => h) HCW.out rfl (fun W hW => ?_) ?_
  · obtain ⟨x0, x1, x2, x3, x4⟩ := X1.out.below hW
    go_simp
    all_goals (first | omega | (simp; omega))
  refine take_c (i := 2) (v := .string (nm ++ ⟨#[58]⟩)) rfl (by kernel_rfl) (by kernel_rfl) (by kernel_rfl) (fun _ _ _ h => h) HCW.out rfl (fun W hW => ?_) ?_
  · go_simp
    all_goals (first | omega | (simp; omega))
  refine take_c (i := 3) (v := .pointer (some ⟨w.heap.size, 1, none⟩)) rfl (by kernel_rfl) (by kernel_rfl) (by kernel_rfl) (fun _ _ _ h => h) HCW.out rfl (fun W hW => ?_) ?_
  · go_simp
    all_goals (first | omega | (simp; omega))
  refine take_c (i := 4) (v := .int .i64 wd) rfl (by kernel_rfl) (by kernel_rfl) (by kernel_rfl) (fun _ _ _ h => h) HCW.out rfl (fun W hW => ?_) ?_
  · obtain ⟨x0, x1, x2, x3, x4⟩ := X1.out.below hW
    go_simp
    all_goals (first | omega | (simp; omega))
  refine one_c (i := 5) (by kernel_rfl) (op_list rfl ?_)
  go_wp2_with fail
  refine (KW.out _ (B1.out.trans (HCW.out.mono B1.out.size))).mono ?_
  rintro e w2 ⟨rfl, hb⟩
  replace HCW := Lib.hid (HCW.out.trans (hb.mono HCW.out.size))
  clear hb
  go_wp2
  refine ⟨HCW.out, ?_⟩
  refine take_c (i := 6) (v := .string (nm ++ ⟨#[58]⟩ ++ tw)) rfl (by kernel_rfl) (by kernel_rfl) (by kernel_rfl) (fun _ _ _ h => h) HCW.out rfl (fun W hW => ?_) ?_
  · go_simp
    all_goals (first | omega | (simp; omega))
  refine take_c (i := 7) (v := .string (nm ++ ⟨#[58]⟩ ++ tw)) rfl (by kernel_rfl) (by kernel_rfl) (by kernel_rfl) (fun _ _ _ h => h) HCW.out rfl (fun W hW => ?_) ?_
  · go_simp
    all_goals (first | omega | (simp; omega))
  refine done_c (by kernel_rfl) ?_ _
  go_wp2
  go_ret
  exact ⟨by rw [HT.out]; rfl, B1.out.trans (HCW.out.mono B1.out.size)⟩
end
section
open Go.ChangeShapes Go.WideShapes Go.ChangeAt Go.RowKit
/-- the tables: of powers, of operations, of forms -/
def TV (W : World) : Prop := Lib.TabIs Tryd.prog W "internal/strconv.uint64pow10" .u64 Lib.pow10Tab ∧ W.var? Tryd.prog "loop.example/g03219/impl.opNames" = some nmCells ∧ W.var? Tryd.prog "loop.example/g03219/impl.formNames" = some fnCells
theorem TV.below {w W : World} (h : TV w) (hb : Below w.heap.size w W) : TV W := ⟨var_below hb h.1, var_below hb h.2.1, var_below hb h.2.2⟩
set_option maxRecDepth 100000 in
theorem i_tname (op : Int) (h1 : 1 ≤ op) (h2 : op ≤ 21) (w : World) (hT : TV w) : Calls Tryd.prog 39 #[.int .i64 op] w fun e w' => e = .returned (.string (tnm op)) ∧ Below w.heap.size w w' := by
  have hF := fun k hk => fcell_of_var hT.2.2 k hk
  by_cases h : 17 ≤ op
  · have c0 := hF 0 (by omega)
    have c1 := hF 1 (by omega)
    have c2 := hF 2 (by omega)
    have c3 := hF 3 (by omega)
    have c4 := hF 4 (by omega)
    clear hF hT
    rcases (show op = 17 ∨ op = 18 ∨ op = 19 ∨ op = 20 ∨ op = 21 by omega) with rfl | rfl | rfl | rfl | rfl
    all_goals
      go_enter Tryd.func39, Tryd.ntmps39
      go_wp2
      go_ret
      exact ⟨rfl, Below.refl _ _⟩
  · obtain ⟨k, rfl⟩ : ∃ k : Nat, op = k := ⟨op.toNat, by omega⟩
    have KN := Lib.hid (i_opName k (by omega) (by omega) w (cell_of_var hT.2.1 k (by omega)))
    have HT := Lib.hid (show tnm (k : Int) = nm k by unfold tnm; rw [if_neg (by omega)]; rfl)
    have e1 : ¬ (17 ≤ (k : Int)) := h
    clear hF hT
    go_enter Tryd.func39, Tryd.ntmps39
    go_wp2_with fail
    refine KN.out.mono ?_
    rintro e w1 ⟨rfl, rfl⟩
    go_wp2
    go_ret
    exact ⟨by rw [HT.out]; rfl, Below.refl _ _⟩
set_option maxRecDepth 100000 in
theorem i_writes_t (op : Int) (h1 : 19 ≤ op) (h2 : op ≤ 21) (w : World) : Calls Tryd.prog 40 #[.int .i64 op] w fun e w' => e = .returned (.bool true) ∧ w = w' := by
  rcases (show op = 19 ∨ op = 20 ∨ op = 21 by omega) with rfl | rfl | rfl
  all_goals
    go_enter Tryd.func40, Tryd.ntmps40
    go_wp2
    go_ret
    exact ⟨rfl, rfl⟩
set_option maxRecDepth 100000 in
theorem i_writes_f (op : Int) (h1 : op < 19) (w : World) : Calls Tryd.prog 40 #[.int .i64 op] w fun e w' => e = .returned (.bool false) ∧ w = w' := by
  have e1 : (op == 19) = false := by simp; omega
  have e2 : (op == 20) = false := by simp; omega
  have e3 : (op == 21) = false := by simp; omega
  have n1 : ¬ (op = 19) := by omega
  have n2 : ¬ (op = 20) := by omega
  have n3 : ¬ (op = 21) := by omega
  go_enter Tryd.func40, Tryd.ntmps40
  go_wp2
  go_ret
  exact ⟨rfl, rfl⟩
def FtI (k : Fo) : Prop := ∀ (op wd n : Int) (nm : ByteArray) (s : Value) (w : World), (k.cs 29).Is w 0 5 k.len s → fitB op wd n nm k.ws = true → k.allB = true → Fo.OneOk op wd n nm k → nm.size + k.cost ≤ 1048576 → TV w →
  Calls Tryd.prog 20 #[.agg #[.int .i64 op, .int .i64 wd, .int .i64 n, .string nm, s]] w fun e w' => e = .returned (.string (txOne op wd n nm k.txts)) ∧ Below w.heap.size w w'
set_option maxRecDepth 100000 in
set_option maxHeartbeats 2000000 in
theorem i_map_term (F : Fo) (hF : F.AllK FtI) (v : Value) (w : World) (his : (F.cs 29).Is w 0 5 F.len v) (hall : F.allB = true) (hok : F.Ok) (hc : F.cost ≤ 1048576) (hT : TV w) (hp : 0 < F.len) :
    Calls Tryd.prog 41 #[v, .func (.func 20) #[] #[]] w fun e w' => Below w.heap.size w w' ∧ ∃ q c, e = .returned (.slice q F.len c) ∧ w'.ownsRow w.heap.size 9 1 (.slice q F.len c) F.len (F.txts.map Value.string) := by
  have hml : maxLen = 9223372036854775807 := rfl
  have hfl : F.len ≤ 1048576 := by have := F.cost_eq; omega
  obtain ⟨i0, hi, hz0, hz1, hz2⟩ := info_parts infoStr
  rcases Fo.is_cases his with ⟨h, _⟩ | ⟨_, b, o, cap, ys, rfl, hcl, hcm, _, hbl, hvs, hr⟩
  · omega
  have HI := Lib.hid (fun j (hj : j < F.len) => Fo.nth F hvs hr j hj)
  have HK := Lib.hid hF
  have HTV := Lib.hid hT
  have HAL := Lib.hid (fun j op wd n nm k (h : F.At j op wd n nm k) => all_node F j h hall)
  have HKO := Lib.hid (fun j op wd n nm k (h : F.At j op wd n nm k) => Fo.at_ok F j h hok)
  have HCO := Lib.hid (fun j op wd n nm k (h : F.At j op wd n nm k) => show nm.size + k.cost ≤ 1048576 by
    have h1 := Fo.at_paid F j h
    have h2 := F.cost_eq
    omega)
  have HTA := Lib.hid (fun j op wd n nm k (h : F.At j op wd n nm k) => Fo.txts_at F j h)
  have HML := Lib.hid F.txts_len
  generalize F.txts = T at *
  have hne : ¬ ((F.len : Int) = 0) := by omega
  clear hF his hvs hr hall hok hT
  go_enter Tryd.func41, Tryd.ntmps41
  go_wp2_with (refine wpList_make_full _ rfl _ _ 52 rfl w.heap.size 9 i0 (.string ByteArray.empty) 1 Tryd.underlying52 hi hz0 hz1 .i64 .i64 _ _ F.len rfl rfl rfl rfl (by rw [hz2]; omega) (by unfold maxLen; omega) (Nat.le_refl _) ?_; intro w1 hown hgrow; have hb1 := (Below.refl w.heap.size w).grown hgrow (Nat.le_refl _) (fun k e => by cases e); have HO := Lib.hid hown; have HB1 := Lib.hid hb1; clear hown hgrow hb1)
  go_loopw [16] (fun i wr => ∃ (j : Nat), j ≤ F.len ∧ i = .int .i64 j ∧ StrRel T w F.len j wr) (fun i _ => F.len - (intOf i).toNat)
  case atStart => exact ⟨0, Nat.zero_le _, rfl, _, HO.out, by simp, HB1.out⟩
  case round =>
    clear HO HB1
    obtain ⟨j, hj, rfl, hrel⟩ := hrel
    have HRel := Lib.hid hrel
    by_cases hjn : j < F.len
    · obtain ⟨cur, ho, hcu, hb⟩ := hrel
      obtain ⟨op', wd', n', nm', k, u, hat, his, hrr⟩ := HI.out j hjn
      have hk := Fo.at_allK F j hat HK.out
      obtain ⟨hf1, hf2⟩ := HAL.out _ _ _ _ _ _ hat
      have hok' := HKO.out _ _ _ _ _ _ hat
      have hcst := HCO.out _ _ _ _ _ _ hat
      have hta := HTA.out _ _ _ _ _ _ hat
      have hrr := rangeAt_below hb hrr
      have HISK := Lib.hid his
      obtain ⟨_, ⟨_, q', cap', rfl, _⟩, _⟩ := his
      have c0 : wr.cell? ⟨b, o + j * 5, none⟩ = some (.int .i64 op') := hrr 0 _ rfl
      have c1 : wr.cell? ⟨b, o + j * 5 + 1, none⟩ = some (.int .i64 wd') := hrr 1 _ rfl
      have c2 : wr.cell? ⟨b, o + j * 5 + 2, none⟩ = some (.int .i64 n') := hrr 2 _ rfl
      have c3 : wr.cell? ⟨b, o + j * 5 + 3, none⟩ = some (.string nm') := hrr 3 _ rfl
      have c4 : wr.cell? ⟨b, o + j * 5 + 4, none⟩ = some (.slice q' k.len cap') := hrr 4 _ rfl
      have SO := Lib.hid (fun W (hW : Below w.heap.size w W) => hk op' wd' n' nm' _ W (HISK.out.below hW) hf1 hf2 hok' hcst (HTV.out.below hW))
      have hjT : j < T.length := by rw [HML.out]; exact hjn
      have hTj : T[j] = txOne op' wd' n' nm' k.txts := (List.getElem?_eq_some_iff.1 hta).2
      rw [← hTj] at SO
      have HS := Lib.hid (fun w2 (h : StrRel T w F.len j w2) => str_step hjT HML.out h)
      have HFz := Lib.hid (fun w2 (h : StrRel T w F.len j w2) => show ∃ old, w2.cell? ⟨w.heap.size, j, none⟩ = some old ∧ w2.frozen? ⟨w.heap.size, j, none⟩ = false by
        obtain ⟨cur, ho, _, _⟩ := h
        have hcl := ho.1
        exact ⟨cur[j]'(by omega), by rw [ho.cellAt j (by omega)]; exact List.getElem?_eq_getElem (by omega), ho.frozenAt j⟩)
      have HBR := Lib.hid hb
      have hki : (j : Int) < (F.len : Int) := by omega
      clear ho hcu hb hrr hat hk hf1 hf2 hok' hcst hta
      generalize T[j] = tj at *
      clear hTj
      go_wp2_with fail
      refine (SO.out _ (HBR.out.alloc HBR.out.size _)).mono ?_
      rintro e w2 ⟨rfl, hb2⟩
      have hbb := ((Below.refl wr.heap.size wr).alloc (Nat.le_refl _) (.cells #[.int .i64 op', .int .i64 wd', .int .i64 n', .string nm', .slice q' k.len cap'] 29)).trans (hb2.mono (by simp))
      have HR2 := Lib.hid (str_keep HRel.out hbb)
      clear hb2 hbb c0 c1 c2 c3 c4
      obtain ⟨old, hold, hfz⟩ := HFz.out _ HR2.out
      have HS2 := Lib.hid (HS.out _ HR2.out)
      go_wp2
      go_roundw
      case rel => exact ⟨j + 1, by omega, by go_num, HS2.out⟩
      case measure => simp [intOf]; omega
    · have ej : j = F.len := by omega
      have hnj : ¬ ((j : Int) < (F.len : Int)) := by omega
      rw [ej] at HRel
      clear hrel ej
      go_wp2
      go_ret
      obtain ⟨cur, ho, hcu, hb⟩ := HRel.out
      rw [List.take_of_length_le (by rw [ho.1]; omega), List.take_of_length_le (by rw [HML.out]; exact Nat.le_refl _)] at hcu
      rw [hcu] at ho
      exact ⟨hb, _, _, rfl, ho⟩
set_option maxRecDepth 100000 in
set_option maxHeartbeats 4000000 in
theorem i_ft_loop (F : Fo) (hF : F.AllK FtI) : FtI F := by
  intro op wd n nm s w his hfit hall hok hc hT
  have hml : maxLen = 9223372036854775807 := rfl
  have sl : ∃ q m c, s = .slice q m c := by obtain ⟨_, ⟨_, q, cap, rfl, _⟩, _⟩ := his; exact ⟨_, _, _, rfl⟩
  by_cases h0 : op = 0
  · subst h0
    exact i_ft_const wd n nm s F.txts w sl hok.1.2.1 hok.1.2.2 hT.1
  by_cases h22 : op = 22
  · subst h22
    exact i_ft_var wd n nm s F.txts w sl hok.1.2.1 (by omega) hT.1
  obtain ⟨hp1, hp2, hp3, hp4⟩ := op_range hfit h0 h22 hall
  obtain ⟨i0, hi0, hz0, hz1, hz2⟩ := info_parts infoStr
  have HTX := Lib.hid (tx_op (wd := wd) (n := n) (nm := nm) (ks := F.txts) h0 h22)
  have KM := Lib.hid (fun W (hb : Below w.heap.size w W) => i_map_term F hF s W (his.below hb) hall hok.2.2.2 (by omega) (hT.below hb) hp3)
  rcases Fo.is_cases his with ⟨h, _⟩ | ⟨_, b, o, cap, ys, rfl, _, _, _, hbl, hvs, hr⟩
  · omega
  have hfl : F.len ≤ 1048576 := by have := F.cost_eq; omega
  have hbt := Fo.txts_bytes F hok.2.2.2
  have hhb := head_bytes op wd n hok.1.2.1 hok.1.2.2
  have HTL := Lib.hid F.txts_len
  have HJL := Lib.hid (show (JN (txHead op wd n ++ F.txts) ⟨#[32]⟩).length ≤ 140737488355328 by
    have := JN_bytes (txHead op wd n ++ F.txts)
    rw [bytes_app] at this
    omega)
  have HJS := Lib.hid (show (⟨(JN (txHead op wd n ++ F.txts) ⟨#[32]⟩).toArray⟩ : ByteArray).size ≤ 100000000 by
    have := JN_bytes (txHead op wd n ++ F.txts)
    rw [bytes_app] at this
    rw [sz_arr]
    omega)
  have KL := Lib.hid (fun W (hb : Below w.heap.size w W) => i_tname op hp1 hp2 W (hT.below hb))
  have KW := Lib.hid (fun W (hb : Below w.heap.size w W) => i_fmt wd hok.1.2.1.1 hok.1.2.1.2 W (hT.below hb).1)
  have KN := Lib.hid (fun W (hb : Below w.heap.size w W) => i_fmt n hok.1.2.2.1 hok.1.2.2.2 W (hT.below hb).1)
  rw [show (⟨(Lib.itoa wd).toArray⟩ : ByteArray) = itB wd from rfl] at KW
  rw [show (⟨(Lib.itoa n).toArray⟩ : ByteArray) = itB n from rfl] at KN
  have X1 := Lib.hid (cell5_alloc w 29 (.int .i64 op) (.int .i64 wd) (.int .i64 n) (.string nm) (.slice (some ⟨b, o, none⟩) F.len cap))
  have B1 := Lib.hid ((Below.refl w.heap.size w).alloc (Nat.le_refl _) (.cells #[.int .i64 op, .int .i64 wd, .int .i64 n, .string nm, .slice (some ⟨b, o, none⟩) F.len cap] 29))
  have e0 : ((op : Int) == 0) = false := by simpa using h0
  have e22 : ((op : Int) == 22) = false := by simpa using h22
  by_cases c19 : op = 19
  · have HHD := Lib.hid (show txHead op wd n = [tnm op, itB n, itB wd] by unfold txHead; rw [if_pos c19, if_pos (by omega)]; rfl)
    have KI := Lib.hid (fun W => i_writes_t op (by omega) (by omega) W)
    have e19 : ((op : Int) == 19) = true := by simpa using c19
    clear hF his hvs hr hfit hall sl h0 h22 hok hT c19
    generalize tnm op = to at *
    generalize itB wd = tw at *
    generalize itB n = tn at *
    go_enter Tryd.func20, Tryd.ntmps20
    obtain ⟨w1, hw1⟩ : ∃ w1, w1 = w.alloc (.cells #[.int .i64 op, .int .i64 wd, .int .i64 n, .string nm, .slice (some ⟨b, o, none⟩) F.len cap] 29) := ⟨_, rfl⟩
    rw [← hw1] at X1 B1
    go_wp2_with fail
    rw [← hw1]
    clear hw1
    have HCW := Lib.hid (Below.refl w1.heap.size w1)
    refine (KL.out _ B1.out).mono ?_
    rintro e w2 ⟨rfl, hb⟩
    replace HCW := Lib.hid (HCW.out.trans (hb.mono HCW.out.size))
    clear hb
    have HO : Hid ((w2.alloc (.cells #[.string to] 9)).ownsRow w1.heap.size 9 1 (.slice (some ⟨w2.heap.size, 0, none⟩) 1 1) 1 [.string to]) := Lib.hid (by
      have := World.ownsRow_lit (base := w1.heap.size) (e := 9) (size := 1) w2 #[.string to] 1 HCW.out.size (by decide) rfl
      simpa using this)
    replace HCW := Lib.hid (HCW.out.alloc HCW.out.size (.cells #[.string to] 9))
    obtain ⟨x0, x1, x2, x3, x4⟩ := X1.out.below HCW.out
    go_wp2_with fail
    clear x0 x1 x2 x3 x4
    refine (KN.out _ (B1.out.trans (HCW.out.mono B1.out.size))).mono ?_
    rintro e w2 ⟨rfl, hb⟩
    replace HO := Lib.hid (own_keep HO.out hb)
    replace HCW := Lib.hid (HCW.out.trans (hb.mono HCW.out.size))
    clear hb
    have hsw := HCW.out.size
    go_wp2_with (at_builtin; refine wpList_append_any rfl _ _ 52 rfl w1.heap.size 9 i0 (.string ByteArray.empty) 1 16 Tryd.underlying52 hi0 hz0 hz1 hz2 rfl (by decide) _ 1 _ rfl (HO.out.alloc _) _ 1 1 [.string tn] rfl rfl ?c1 ?c2 ?c3 ?c4 ?c5 ?_)
    case c1 => exact fun _ => ⟨_, rfl, fun i u hu => by
      have hi := (List.getElem?_eq_some_iff.1 hu).1
      rw [Addr.add_mid, Nat.zero_add, cell_of_row _ _ _ _ _ _ (heap_alloc_new w2 _)]
      simpa using hu⟩
    case c2 => intro u hu; simp at hu; subst hu; rfl
    case c3 => unfold maxLen; omega
    case c4 => omega
    case c5 => simp; omega
    intro qq cc w3 ho3 hb3
    replace HO := Lib.hid ho3
    replace HCW := Lib.hid ((HCW.out.alloc HCW.out.size (.cells #[.string tn] 9)).trans hb3)
    clear ho3 hb3 hsw
    obtain ⟨x0, x1, x2, x3, x4⟩ := X1.out.below HCW.out
    go_wp2_with (go_at_call 40; refine (KI.out _).mono ?_; rintro e w9 ⟨rfl, rfl⟩)
    clear x0 x1 x2 x3 x4
    obtain ⟨x0, x1, x2, x3, x4⟩ := X1.out.below HCW.out
    go_wp2_with fail
    clear x0 x1 x2 x3 x4
    refine (KW.out _ (B1.out.trans (HCW.out.mono B1.out.size))).mono ?_
    rintro e w2 ⟨rfl, hb⟩
    replace HO := Lib.hid (own_keep HO.out hb)
    replace HCW := Lib.hid (HCW.out.trans (hb.mono HCW.out.size))
    clear hb
    have hsw := HCW.out.size
    go_wp2_with (at_builtin; refine wpList_append_any rfl _ _ 52 rfl w1.heap.size 9 i0 (.string ByteArray.empty) 1 16 Tryd.underlying52 hi0 hz0 hz1 hz2 rfl (by decide) _ 2 _ rfl (HO.out.alloc _) _ 1 1 [.string tw] rfl rfl ?c1 ?c2 ?c3 ?c4 ?c5 ?_)
    case c1 => exact fun _ => ⟨_, rfl, fun i u hu => by
      have hi := (List.getElem?_eq_some_iff.1 hu).1
      rw [Addr.add_mid, Nat.zero_add, cell_of_row _ _ _ _ _ _ (heap_alloc_new w2 _)]
      simpa using hu⟩
    case c2 => intro u hu; simp at hu; subst hu; rfl
    case c3 => unfold maxLen; omega
    case c4 => omega
    case c5 => simp; omega
    intro qq cc w3 ho3 hb3
    replace HO := Lib.hid ho3
    replace HCW := Lib.hid ((HCW.out.alloc HCW.out.size (.cells #[.string tw] 9)).trans hb3)
    clear ho3 hb3 hsw
    obtain ⟨x0, x1, x2, x3, x4⟩ := X1.out.below HCW.out
    have HO0 := HO
    go_wp2_with fail
    clear x0 x1 x2 x3 x4
    refine (KM.out _ (B1.out.trans (HCW.out.mono B1.out.size))).mono ?_
    rintro e w4 ⟨hb4, q4, c4, rfl, ho4⟩
    replace HO := Lib.hid (own_keep HO.out hb4)
    replace HCW := Lib.hid (HCW.out.trans (hb4.mono HCW.out.size))
    have HO4 := Lib.hid ho4
    clear hb4 ho4 HO0
    have hsw := HCW.out.size
    go_wp2_with (at_builtin; refine wpList_append_any rfl _ _ 52 rfl w1.heap.size 9 i0 (.string ByteArray.empty) 1 16 Tryd.underlying52 hi0 hz0 hz1 hz2 rfl (by decide) _ 3 _ rfl HO.out q4 F.len c4 (F.txts.map Value.string) rfl ?e0 ?e1 ?e2 ?e3 ?e4 ?e5 ?_)
    case e0 => rw [List.length_map, HTL.out]; omega
    case e1 => exact news_of' (Cs.shows_of_owns HO4.out)
    case e2 => exact str_one _
    case e3 => unfold maxLen; omega
    case e4 => omega
    case e5 => exact hsw
    intro q5 c5 w5 ho5 hb5
    have HO5 : Hid (w5.ownsRow w1.heap.size 9 1 (.slice q5 (3 + F.len) c5) (3 + F.len) ((txHead op wd n ++ F.txts).map Value.string)) := Lib.hid (by rw [HHD.out, List.map_append]; exact ho5)
    replace HCW := Lib.hid (HCW.out.trans hb5)
    clear ho5 hb5 HO HO4
    obtain ⟨g5, rfl⟩ : ∃ g5, q5 = some ⟨g5, 0, none⟩ := by
      rcases HO5.out.2 with ⟨h1, h2⟩ | ⟨g', c', cur, h1, _⟩
      · omega
      · cases h1; exact ⟨_, rfl⟩
    have HA5 := Lib.hid (ownsRow_at HO5.out)
    go_wp2_with fail
    refine (i_join g5 0 c5 (3 + F.len) (txHead op wd n ++ F.txts) ⟨#[32]⟩ (by rw [HHD.out, List.length_append, HTL.out]; rfl) (by omega) HA5.out.2.2.2 HJL.out _ HA5.out.2.2.1 HA5.out.1).mono ?_
    rintro e w6 ⟨rfl, hb⟩
    replace HCW := Lib.hid (HCW.out.trans (hb.mono HCW.out.size))
    clear hb
    have hjs := HJS.out
    have HTX2 := HTX
    unfold pfx at HTX2
    generalize (⟨(JN (txHead op wd n ++ F.txts) ⟨#[32]⟩).toArray⟩ : ByteArray) = jt at *
    go_wp2
    go_ret
    exact ⟨by rw [HTX2.out]; rfl, B1.out.trans (HCW.out.mono B1.out.size)⟩
  · by_cases c20 : 20 ≤ op
    · have HHD := Lib.hid (show txHead op wd n = [tnm op, itB wd] by unfold txHead; rw [if_neg c19, if_pos (by omega)]; rfl)
      have KI := Lib.hid (fun W => i_writes_t op (by omega) (by omega) W)
      have e19 : ((op : Int) == 19) = false := by simpa using c19
      clear hF his hvs hr hfit hall sl h0 h22 hok hT KN
      generalize tnm op = to at *
      generalize itB wd = tw at *
      go_enter Tryd.func20, Tryd.ntmps20
      obtain ⟨w1, hw1⟩ : ∃ w1, w1 = w.alloc (.cells #[.int .i64 op, .int .i64 wd, .int .i64 n, .string nm, .slice (some ⟨b, o, none⟩) F.len cap] 29) := ⟨_, rfl⟩
      rw [← hw1] at X1 B1
      go_wp2_with fail
      rw [← hw1]
      clear hw1
      have HCW := Lib.hid (Below.refl w1.heap.size w1)
      refine (KL.out _ B1.out).mono ?_
      rintro e w2 ⟨rfl, hb⟩
      replace HCW := Lib.hid (HCW.out.trans (hb.mono HCW.out.size))
      clear hb
      have HO : Hid ((w2.alloc (.cells #[.string to] 9)).ownsRow w1.heap.size 9 1 (.slice (some ⟨w2.heap.size, 0, none⟩) 1 1) 1 [.string to]) := Lib.hid (by
        have := World.ownsRow_lit (base := w1.heap.size) (e := 9) (size := 1) w2 #[.string to] 1 HCW.out.size (by decide) rfl
        simpa using this)
      replace HCW := Lib.hid (HCW.out.alloc HCW.out.size (.cells #[.string to] 9))
      obtain ⟨x0, x1, x2, x3, x4⟩ := X1.out.below HCW.out
      go_wp2_with (go_at_call 40; refine (KI.out _).mono ?_; rintro e w9 ⟨rfl, rfl⟩)
      clear x0 x1 x2 x3 x4
      obtain ⟨x0, x1, x2, x3, x4⟩ := X1.out.below HCW.out
      go_wp2_with fail
      clear x0 x1 x2 x3 x4
      refine (KW.out _ (B1.out.trans (HCW.out.mono B1.out.size))).mono ?_
      rintro e w2 ⟨rfl, hb⟩
      replace HO := Lib.hid (own_keep HO.out hb)
      replace HCW := Lib.hid (HCW.out.trans (hb.mono HCW.out.size))
      clear hb
      have hsw := HCW.out.size
      go_wp2_with (at_builtin; refine wpList_append_any rfl _ _ 52 rfl w1.heap.size 9 i0 (.string ByteArray.empty) 1 16 Tryd.underlying52 hi0 hz0 hz1 hz2 rfl (by decide) _ 1 _ rfl (HO.out.alloc _) _ 1 1 [.string tw] rfl rfl ?c1 ?c2 ?c3 ?c4 ?c5 ?_)
      case c1 => exact fun _ => ⟨_, rfl, fun i u hu => by
        have hi := (List.getElem?_eq_some_iff.1 hu).1
        rw [Addr.add_mid, Nat.zero_add, cell_of_row _ _ _ _ _ _ (heap_alloc_new w2 _)]
        simpa using hu⟩
      case c2 => intro u hu; simp at hu; subst hu; rfl
      case c3 => unfold maxLen; omega
      case c4 => omega
      case c5 => simp; omega
      intro qq cc w3 ho3 hb3
      replace HO := Lib.hid ho3
      replace HCW := Lib.hid ((HCW.out.alloc HCW.out.size (.cells #[.string tw] 9)).trans hb3)
      clear ho3 hb3 hsw
      obtain ⟨x0, x1, x2, x3, x4⟩ := X1.out.below HCW.out
      have HO0 := HO
      go_wp2_with fail
      clear x0 x1 x2 x3 x4
      refine (KM.out _ (B1.out.trans (HCW.out.mono B1.out.size))).mono ?_
      rintro e w4 ⟨hb4, q4, c4, rfl, ho4⟩
      replace HO := Lib.hid (own_keep HO.out hb4)
      replace HCW := Lib.hid (HCW.out.trans (hb4.mono HCW.out.size))
      have HO4 := Lib.hid ho4
      clear hb4 ho4 HO0
      have hsw := HCW.out.size
      go_wp2_with (at_builtin; refine wpList_append_any rfl _ _ 52 rfl w1.heap.size 9 i0 (.string ByteArray.empty) 1 16 Tryd.underlying52 hi0 hz0 hz1 hz2 rfl (by decide) _ 2 _ rfl HO.out q4 F.len c4 (F.txts.map Value.string) rfl ?e0 ?e1 ?e2 ?e3 ?e4 ?e5 ?_)
      case e0 => rw [List.length_map, HTL.out]; omega
      case e1 => exact news_of' (Cs.shows_of_owns HO4.out)
      case e2 => exact str_one _
      case e3 => unfold maxLen; omega
      case e4 => omega
      case e5 => exact hsw
      intro q5 c5 w5 ho5 hb5
      have HO5 : Hid (w5.ownsRow w1.heap.size 9 1 (.slice q5 (2 + F.len) c5) (2 + F.len) ((txHead op wd n ++ F.txts).map Value.string)) := Lib.hid (by rw [HHD.out, List.map_append]; exact ho5)
      replace HCW := Lib.hid (HCW.out.trans hb5)
      clear ho5 hb5 HO HO4
      obtain ⟨g5, rfl⟩ : ∃ g5, q5 = some ⟨g5, 0, none⟩ := by
        rcases HO5.out.2 with ⟨h1, h2⟩ | ⟨g', c', cur, h1, _⟩
        · omega
        · cases h1; exact ⟨_, rfl⟩
      have HA5 := Lib.hid (ownsRow_at HO5.out)
      go_wp2_with fail
      refine (i_join g5 0 c5 (2 + F.len) (txHead op wd n ++ F.txts) ⟨#[32]⟩ (by rw [HHD.out, List.length_append, HTL.out]; rfl) (by omega) HA5.out.2.2.2 HJL.out _ HA5.out.2.2.1 HA5.out.1).mono ?_
      rintro e w6 ⟨rfl, hb⟩
      replace HCW := Lib.hid (HCW.out.trans (hb.mono HCW.out.size))
      clear hb
      have hjs := HJS.out
      have HTX2 := HTX
      unfold pfx at HTX2
      generalize (⟨(JN (txHead op wd n ++ F.txts) ⟨#[32]⟩).toArray⟩ : ByteArray) = jt at *
      go_wp2
      go_ret
      exact ⟨by rw [HTX2.out]; rfl, B1.out.trans (HCW.out.mono B1.out.size)⟩
    · have HHD := Lib.hid (show txHead op wd n = [tnm op] by unfold txHead; rw [if_neg c19, if_neg (by omega)]; rfl)
      have KI := Lib.hid (fun W => i_writes_f op (by omega) W)
      have e19 : ((op : Int) == 19) = false := by simpa using c19
      clear hF his hvs hr hfit hall sl h0 h22 hok hT KN KW
      generalize tnm op = to at *
      go_enter Tryd.func20, Tryd.ntmps20
      obtain ⟨w1, hw1⟩ : ∃ w1, w1 = w.alloc (.cells #[.int .i64 op, .int .i64 wd, .int .i64 n, .string nm, .slice (some ⟨b, o, none⟩) F.len cap] 29) := ⟨_, rfl⟩
      rw [← hw1] at X1 B1
      go_wp2_with fail
      rw [← hw1]
      clear hw1
      have HCW := Lib.hid (Below.refl w1.heap.size w1)
      refine (KL.out _ B1.out).mono ?_
      rintro e w2 ⟨rfl, hb⟩
      replace HCW := Lib.hid (HCW.out.trans (hb.mono HCW.out.size))
      clear hb
      have HO : Hid ((w2.alloc (.cells #[.string to] 9)).ownsRow w1.heap.size 9 1 (.slice (some ⟨w2.heap.size, 0, none⟩) 1 1) 1 [.string to]) := Lib.hid (by
        have := World.ownsRow_lit (base := w1.heap.size) (e := 9) (size := 1) w2 #[.string to] 1 HCW.out.size (by decide) rfl
        simpa using this)
      replace HCW := Lib.hid (HCW.out.alloc HCW.out.size (.cells #[.string to] 9))
      obtain ⟨x0, x1, x2, x3, x4⟩ := X1.out.below HCW.out
      go_wp2_with (go_at_call 40; refine (KI.out _).mono ?_; rintro e w9 ⟨rfl, rfl⟩)
      clear x0 x1 x2 x3 x4
      obtain ⟨x0, x1, x2, x3, x4⟩ := X1.out.below HCW.out
      have HO0 := HO
      go_wp2_with fail
      clear x0 x1 x2 x3 x4
      refine (KM.out _ (B1.out.trans (HCW.out.mono B1.out.size))).mono ?_
      rintro e w4 ⟨hb4, q4, c4, rfl, ho4⟩
      replace HO := Lib.hid (own_keep HO.out hb4)
      replace HCW := Lib.hid (HCW.out.trans (hb4.mono HCW.out.size))
      have HO4 := Lib.hid ho4
      clear hb4 ho4 HO0
      have hsw := HCW.out.size
      go_wp2_with (at_builtin; refine wpList_append_any rfl _ _ 52 rfl w1.heap.size 9 i0 (.string ByteArray.empty) 1 16 Tryd.underlying52 hi0 hz0 hz1 hz2 rfl (by decide) _ 1 _ rfl HO.out q4 F.len c4 (F.txts.map Value.string) rfl ?e0 ?e1 ?e2 ?e3 ?e4 ?e5 ?_)
      case e0 => rw [List.length_map, HTL.out]; omega
      case e1 => exact news_of' (Cs.shows_of_owns HO4.out)
      case e2 => exact str_one _
      case e3 => unfold maxLen; omega
      case e4 => omega
      case e5 => exact hsw
      intro q5 c5 w5 ho5 hb5
      have HO5 : Hid (w5.ownsRow w1.heap.size 9 1 (.slice q5 (1 + F.len) c5) (1 + F.len) ((txHead op wd n ++ F.txts).map Value.string)) := Lib.hid (by rw [HHD.out, List.map_append]; exact ho5)
      replace HCW := Lib.hid (HCW.out.trans hb5)
      clear ho5 hb5 HO HO4
      obtain ⟨g5, rfl⟩ : ∃ g5, q5 = some ⟨g5, 0, none⟩ := by
        rcases HO5.out.2 with ⟨h1, h2⟩ | ⟨g', c', cur, h1, _⟩
        · omega
        · cases h1; exact ⟨_, rfl⟩
      have HA5 := Lib.hid (ownsRow_at HO5.out)
      go_wp2_with fail
      refine (i_join g5 0 c5 (1 + F.len) (txHead op wd n ++ F.txts) ⟨#[32]⟩ (by rw [HHD.out, List.length_append, HTL.out]; rfl) (by omega) HA5.out.2.2.2 HJL.out _ HA5.out.2.2.1 HA5.out.1).mono ?_
      rintro e w6 ⟨rfl, hb⟩
      replace HCW := Lib.hid (HCW.out.trans (hb.mono HCW.out.size))
      clear hb
      have hjs := HJS.out
      have HTX2 := HTX
      unfold pfx at HTX2
      generalize (⟨(JN (txHead op wd n ++ F.txts) ⟨#[32]⟩).toArray⟩ : ByteArray) = jt at *
      go_wp2
      go_ret
      exact ⟨by rw [HTX2.out]; rfl, B1.out.trans (HCW.out.mono B1.out.size)⟩
theorem i_ft_any : ∀ F : Fo, FtI F := Fo.every i_ft_loop
end
section
open Go.ChangeShapes Go.WideShapes Go.ChangeAt Go.RowKit
theorem acc_ok {op wd n : Int} {nm : ByteArray} {k : Fo} (h : (accOne op wd n nm k 0 []).isSome = true) : fitB op wd n nm k.ws = true ∧ k.allB = true := by
  rw [accOne_eq] at h
  by_cases hc : 1 + k.nodes ≤ 240 ∧ (fitB op wd n nm k.ws && k.allB) = true
  · simpa using hc.2
  · rw [if_neg hc] at h; simp at h
/-- what FormatTerm returns -/
noncomputable def ftV (op wd n : Int) (nm : ByteArray) (k : Fo) : ByteArray := if (accOne op wd n nm k 0 []).isSome = true then txOne op wd n nm k.txts else ⟨#[]⟩
set_option maxRecDepth 100000 in
set_option maxHeartbeats 2000000 in
theorem s_fterm (k : Fo) (op wd n : Int) (nm : ByteArray) (s : Value) (w : World) (his : (k.cs 29).Is w 0 5 k.len s) (hok : Fo.OneOk op wd n nm k) (hc : nm.size + k.cost ≤ 1048576) :
    Calls Tryd.prog 6 #[.agg #[.int .i64 op, .int .i64 wd, .int .i64 n, .string nm, s]] w fun e w' => e = .returned (.string (ftV op wd n nm k)) ∧ Below w.heap.size w w' := by
  have KT := Lib.hid (fun W (hb : Below w.heap.size w W) => s_termok k op wd n nm s W (his.below hb) (by omega) (by omega))
  have KE := Lib.hid (fun W (hb : Below w.heap.size w W) (h1 : (accOne op wd n nm k 0 []).isSome = true) => s_ft_any k op wd n nm s W (his.below hb) (acc_ok h1).1 (acc_ok h1).2 hok hc)
  obtain ⟨_, ⟨_, q, cap, rfl, _⟩, _⟩ := his
  clear hok hc
  by_cases h1 : (accOne op wd n nm k 0 []).isSome = true
  · rw [h1] at KT
    have HE := Lib.hid (show ftV op wd n nm k = txOne op wd n nm k.txts by unfold ftV; rw [if_pos h1])
    have KE1 := Lib.hid (fun W hb => KE.out W hb h1)
    generalize txOne op wd n nm k.txts = X at *
    clear KE h1
    go_enter Tryd.func6, Tryd.ntmps6
    go_wp2_with fail
    refine (KT.out _ ((Below.refl _ _).alloc (Nat.le_refl _) _)).mono ?_
    rintro e w1 ⟨rfl, hb1⟩
    have B1 := Lib.hid (((Below.refl w.heap.size w).alloc (Nat.le_refl _) (.cells #[.int .i64 op, .int .i64 wd, .int .i64 n, .string nm, .slice q k.len cap] 29)).trans (hb1.mono (by simp)))
    have X1 := Lib.hid ((cell5_alloc w 29 (.int .i64 op) (.int .i64 wd) (.int .i64 n) (.string nm) (.slice q k.len cap)).below hb1)
    clear hb1
    obtain ⟨x0, x1, x2, x3, x4⟩ := X1.out
    go_wp2_with fail
    clear x0 x1 x2 x3 x4
    refine (KE1.out _ B1.out).mono ?_
    rintro e w3 ⟨rfl, hb3⟩
    have B3 := Lib.hid (B1.out.trans (hb3.mono B1.out.size))
    clear hb3
    go_wp2
    go_ret
    exact ⟨by rw [HE.out] <;> rfl, B3.out⟩
  · have h1 : (accOne op wd n nm k 0 []).isSome = false := by simpa using h1
    rw [h1] at KT
    have HE := Lib.hid (show ftV op wd n nm k = ⟨#[]⟩ by unfold ftV; rw [h1]; rfl)
    clear KE h1
    go_enter Tryd.func6, Tryd.ntmps6
    go_wp2_with fail
    refine (KT.out _ ((Below.refl _ _).alloc (Nat.le_refl _) _)).mono ?_
    rintro e w1 ⟨rfl, hb1⟩
    have B1 := Lib.hid (((Below.refl w.heap.size w).alloc (Nat.le_refl _) (.cells #[.int .i64 op, .int .i64 wd, .int .i64 n, .string nm, .slice q k.len cap] 29)).trans (hb1.mono (by simp)))
    clear hb1
    go_wp2
    go_ret
    exact ⟨by rw [HE.out] <;> rfl, B1.out⟩
set_option maxRecDepth 100000 in
set_option maxHeartbeats 2000000 in
theorem i_fterm (k : Fo) (op wd n : Int) (nm : ByteArray) (s : Value) (w : World) (his : (k.cs 29).Is w 0 5 k.len s) (hok : Fo.OneOk op wd n nm k) (hc : nm.size + k.cost ≤ 1048576) (hT : TV w) :
    Calls Tryd.prog 8 #[.agg #[.int .i64 op, .int .i64 wd, .int .i64 n, .string nm, s]] w fun e w' => e = .returned (.string (ftV op wd n nm k)) ∧ Below w.heap.size w w' := by
  have KT := Lib.hid (fun W (hb : Below w.heap.size w W) => i_termok k op wd n nm s W (his.below hb) (by omega) (by omega))
  have KE := Lib.hid (fun W (hb : Below w.heap.size w W) (h1 : (accOne op wd n nm k 0 []).isSome = true) => i_ft_any k op wd n nm s W (his.below hb) (acc_ok h1).1 (acc_ok h1).2 hok hc (hT.below hb))
  obtain ⟨_, ⟨_, q, cap, rfl, _⟩, _⟩ := his
  clear hok hc hT
  by_cases h1 : (accOne op wd n nm k 0 []).isSome = true
  · rw [h1] at KT
    have HE := Lib.hid (show ftV op wd n nm k = txOne op wd n nm k.txts by unfold ftV; rw [if_pos h1])
    have KE1 := Lib.hid (fun W hb => KE.out W hb h1)
    generalize txOne op wd n nm k.txts = X at *
    clear KE h1
    go_enter Tryd.func8, Tryd.ntmps8
    go_wp2_with fail
    refine (KT.out _ ((Below.refl _ _).alloc (Nat.le_refl _) _)).mono ?_
    rintro e w1 ⟨rfl, hb1⟩
    have B1 := Lib.hid (((Below.refl w.heap.size w).alloc (Nat.le_refl _) (.cells #[.int .i64 op, .int .i64 wd, .int .i64 n, .string nm, .slice q k.len cap] 29)).trans (hb1.mono (by simp)))
    have X1 := Lib.hid ((cell5_alloc w 29 (.int .i64 op) (.int .i64 wd) (.int .i64 n) (.string nm) (.slice q k.len cap)).below hb1)
    clear hb1
    obtain ⟨x0, x1, x2, x3, x4⟩ := X1.out
    go_wp2_with fail
    clear x0 x1 x2 x3 x4
    refine (KE1.out _ B1.out).mono ?_
    rintro e w3 ⟨rfl, hb3⟩
    have B3 := Lib.hid (B1.out.trans (hb3.mono B1.out.size))
    clear hb3
    go_wp2
    go_ret
    exact ⟨by rw [HE.out] <;> rfl, B3.out⟩
  · have h1 : (accOne op wd n nm k 0 []).isSome = false := by simpa using h1
    rw [h1] at KT
    have HE := Lib.hid (show ftV op wd n nm k = ⟨#[]⟩ by unfold ftV; rw [h1]; rfl)
    clear KE h1
    go_enter Tryd.func8, Tryd.ntmps8
    go_wp2_with fail
    refine (KT.out _ ((Below.refl _ _).alloc (Nat.le_refl _) _)).mono ?_
    rintro e w1 ⟨rfl, hb1⟩
    have B1 := Lib.hid (((Below.refl w.heap.size w).alloc (Nat.le_refl _) (.cells #[.int .i64 op, .int .i64 wd, .int .i64 n, .string nm, .slice q k.len cap] 29)).trans (hb1.mono (by simp)))
    clear hb1
    go_wp2
    go_ret
    exact ⟨by rw [HE.out] <;> rfl, B1.out⟩
end
end Go.Proofs.YtkgdmamafemniaaDoor
