/- What the specification's l02Format returns for a term that is valid. No condition. -/
import Derived.Test.YtkgdmamafemniaaDoorFtM
import Derived.Test.YtkgdmamafemniaaDoorReg
import Derived.Test.YtkgdmamafemniaaDoorFitS
import Derived.Test.YtkgdmamafemniaaDoorIn
namespace Go.Proofs.YtkgdmamafemniaaDoor
section
open Go.ChangeShapes Go.WideShapes Go.ChangeAt Go.RowKit
set_option maxRecDepth 100000 in
set_option maxHeartbeats 2000000 in
theorem s_ft_const (wd n : Int) (nm : ByteArray) (s : Value) (ks : List ByteArray) (w : World) (hs : ∃ q m c, s = .slice q m c) (hw : InR wd) (hn : InR n) :
    Calls Tryd.prog 17 #[.agg #[.int .i64 0, .int .i64 wd, .int .i64 n, .string nm, s]] w fun e w' => e = .returned (.string (txOne 0 wd n nm ks)) ∧ Below w.heap.size w w' := by
  obtain ⟨q, m, c, rfl⟩ := hs
  have KW : Hid _ := Lib.hid (fun W => s_fmt wd hw.1 hw.2 W)
  have KN : Hid _ := Lib.hid (fun W => s_fmt n hn.1 hn.2 W)
  have HT := Lib.hid (show txOne 0 wd n nm ks = itB wd ++ ⟨#[58]⟩ ++ itB n from rfl)
  have z1 := itB_size wd hw
  have z2 := itB_size n hn
  rw [show (⟨(Lib.itoa wd).toArray⟩ : ByteArray) = itB wd from rfl] at KW
  rw [show (⟨(Lib.itoa n).toArray⟩ : ByteArray) = itB n from rfl] at KN
  generalize itB wd = tw at *
  generalize itB n = tn at *
  go_enter Tryd.func17, Tryd.ntmps17
  have X1 := Lib.hid (cell5_alloc w 29 (.int .i64 0) (.int .i64 wd) (.int .i64 n) (.string nm) (.slice q m c))
  have B1 := Lib.hid ((Below.refl w.heap.size w).alloc (Nat.le_refl _) (.cells #[.int .i64 0, .int .i64 wd, .int .i64 n, .string nm, .slice q m c] 29))
  obtain ⟨w1, hw1⟩ : ∃ w1, w1 = w.alloc (.cells #[.int .i64 0, .int .i64 wd, .int .i64 n, .string nm, .slice q m c] 29) := ⟨_, rfl⟩
  rw [← hw1] at X1 B1
  go_wp2
  rw [← hw1]
  clear hw1
  have HCW := Lib.hid ((Below.refl w1.heap.size w1).drew)
  refine region_c (fun W => Below w1.heap.size w1 W) (by kernel_rfl) ?_
  refine take_c (i := 0) (v := .pointer (some ⟨w.heap.size, 1, none⟩)) rfl (by kernel_rfl) (by kernel_rfl) (by kernel_rfl) (fun _ _ _ h => h) HCW.out rfl (fun W hW => ?_) ?_
  · go_simp
    all_goals (first | omega | (simp; omega))
  refine take_c (i := 1) (v := .int .i64 wd) rfl (by kernel_rfl) (by kernel_rfl) (by kernel_rfl) (fun _ _ _ h => h) HCW.out rfl (fun W hW => ?_) ?_
  · obtain ⟨x0, x1, x2, x3, x4⟩ := X1.out.below hW
    go_simp
    all_goals (first | omega | (simp; omega))
  refine take_c (i := 4) (v := .pointer (some ⟨w.heap.size, 2, none⟩)) rfl (by kernel_rfl) (by kernel_rfl) (by kernel_rfl) (fun _ _ _ h => h) HCW.out rfl (fun W hW => ?_) ?_
  · go_simp
    all_goals (first | omega | (simp; omega))
  refine take_c (i := 5) (v := .int .i64 n) rfl (by kernel_rfl) (by kernel_rfl) (by kernel_rfl) (fun _ _ _ h => h) HCW.out rfl (fun W hW => ?_) ?_
  · obtain ⟨x0, x1, x2, x3, x4⟩ := X1.out.below hW
    go_simp
    all_goals (first | omega | (simp; omega))
  refine one_c (i := 2) (by kernel_rfl) (op_list rfl ?_)
  go_wp2_with fail
  refine (KW.out _).mono ?_
  rintro e w2 ⟨rfl, hb⟩
  replace HCW := Lib.hid (HCW.out.trans (hb.mono HCW.out.size))
  clear hb
  go_wp2
  refine ⟨HCW.out, ?_⟩
  refine take_c (i := 3) (v := .string (tw ++ ⟨#[58]⟩)) rfl (by kernel_rfl) (by kernel_rfl) (by kernel_rfl) (fun _ _ _ h => h) HCW.out rfl (fun W hW => ?_) ?_
  · go_simp
    all_goals (first | omega | (simp; omega))
  refine one_c (i := 6) (by kernel_rfl) (op_list rfl ?_)
  go_wp2_with fail
  refine (KN.out _).mono ?_
  rintro e w3 ⟨rfl, hb⟩
  replace HCW := Lib.hid (HCW.out.trans (hb.mono HCW.out.size))
  clear hb
  go_wp2
  refine ⟨HCW.out, ?_⟩
  refine take_c (i := 7) (v := .string (tw ++ ⟨#[58]⟩ ++ tn)) rfl (by kernel_rfl) (by kernel_rfl) (by kernel_rfl) (fun _ _ _ h => h) HCW.out rfl (fun W hW => ?_) ?_
  · go_simp
    all_goals (first | omega | (simp; omega))
  refine take_c (i := 8) (v := .string (tw ++ ⟨#[58]⟩ ++ tn)) rfl (by kernel_rfl) (by kernel_rfl) (by kernel_rfl) (fun _ _ _ h => h) HCW.out rfl (fun W hW => ?_) ?_
  · go_simp
    all_goals (first | omega | (simp; omega))
  refine done_c (by kernel_rfl) ?_ _
  go_wp2
  go_ret
  exact ⟨by rw [HT.out]; rfl, B1.out.trans (HCW.out.mono B1.out.size)⟩
set_option maxRecDepth 100000 in
set_option maxHeartbeats 2000000 in
theorem s_ft_var (wd n : Int) (nm : ByteArray) (s : Value) (ks : List ByteArray) (w : World) (hs : ∃ q m c, s = .slice q m c) (hw : InR wd) (hm : nm.size ≤ 1048576) :
    Calls Tryd.prog 17 #[.agg #[.int .i64 22, .int .i64 wd, .int .i64 n, .string nm, s]] w fun e w' => e = .returned (.string (txOne 22 wd n nm ks)) ∧ Below w.heap.size w w' := by
  obtain ⟨q, m, c, rfl⟩ := hs
  have KW : Hid _ := Lib.hid (fun W => s_fmt wd hw.1 hw.2 W)
  have HT := Lib.hid (show txOne 22 wd n nm ks = nm ++ ⟨#[58]⟩ ++ itB wd from rfl)
  have z1 := itB_size wd hw
  rw [show (⟨(Lib.itoa wd).toArray⟩ : ByteArray) = itB wd from rfl] at KW
  generalize itB wd = tw at *
  go_enter Tryd.func17, Tryd.ntmps17
  have X1 := Lib.hid (cell5_alloc w 29 (.int .i64 22) (.int .i64 wd) (.int .i64 n) (.string nm) (.slice q m c))
  have B1 := Lib.hid ((Below.refl w.heap.size w).alloc (Nat.le_refl _) (.cells #[.int .i64 22, .int .i64 wd, .int .i64 n, .string nm, .slice q m c] 29))
  obtain ⟨w1, hw1⟩ : ∃ w1, w1 = w.alloc (.cells #[.int .i64 22, .int .i64 wd, .int .i64 n, .string nm, .slice q m c] 29) := ⟨_, rfl⟩
  rw [← hw1] at X1 B1
  go_wp2
  rw [← hw1]
  clear hw1
  have HCW := Lib.hid ((Below.refl w1.heap.size w1).drew)
  refine region_c (fun W => Below w1.heap.size w1 W) (by kernel_rfl) ?_
  refine take_c (i := 0) (v := .pointer (some ⟨w.heap.size, 3, none⟩)) rfl (by kernel_rfl) (by kernel_rfl) (by kernel_rfl) (fun _ _ _ h => h) HCW.out rfl (fun W hW => ?_) ?_
  · go_simp
    all_goals (first | omega | (simp; omega))
  refine take_c (i := 1) (v := .string nm) rfl (by kernel_rfl) (by kernel_rfl) (by kernel_rfl) (fun _ _ _ h => h) HCW.out rfl (fun W hW => ?_) ?_
  · obtain ⟨x0, x1, x2, x3, x4⟩ := X1.out.below hW
    go_simp
    all_goals (first | omega | (simp; omega))
  refine take_c (i := 2) (v := .string (nm ++ ⟨#[58]⟩)) rfl (by kernel_rfl) (by kernel_rfl) (by kernel_rfl) (fun _ _ _ h => h) HCW.out rfl (fun W hW => ?_) ?_
  · go_simp
    all_goals (first | omega | (simp; omega))
  refine take_c (i := 3) (v := .pointer (some ⟨w.heap.size, 1, none⟩)) rfl (by kernel_rfl) (by kernel_rfl) (by kernel_rfl) (fun _ _ _ h => h) HCW.out rfl (fun W hW => ?_) ?_
  · go_simp
    all_goals (first | omega | (simp; omega))
  refine take_c (i := 4) (v := .int .i64 wd) rfl (by kernel_rfl) (by kernel_rfl) (by kernel_rfl) (fun _ _ _ h => h) HCW.out rfl (fun W hW => ?_) ?_
  · obtain ⟨x0, x1, x2, x3, x4⟩ := X1.out.below hW
    go_simp
    all_goals (first | omega | (simp; omega))
  refine one_c (i := 5) (by kernel_rfl) (op_list rfl ?_)
  go_wp2_with fail
  refine (KW.out _).mono ?_
  rintro e w2 ⟨rfl, hb⟩
  replace HCW := Lib.hid (HCW.out.trans (hb.mono HCW.out.size))
  clear hb
  go_wp2
  refine ⟨HCW.out, ?_⟩
  refine take_c (i := 6) (v := .string (nm ++ ⟨#[58]⟩ ++ tw)) rfl (by kernel_rfl) (by kernel_rfl) (by kernel_rfl) (fun _ _ _ h => h) HCW.out rfl (fun W hW => ?_) ?_
  · go_simp
    all_goals (first | omega | (simp; omega))
  refine take_c (i := 7) (v := .string (nm ++ ⟨#[58]⟩ ++ tw)) rfl (by kernel_rfl) (by kernel_rfl) (by kernel_rfl) (fun _ _ _ h => h) HCW.out rfl (fun W hW => ?_) ?_
  · go_simp
    all_goals (first | omega | (simp; omega))
  refine done_c (by kernel_rfl) ?_ _
  go_wp2
  go_ret
  exact ⟨by rw [HT.out]; rfl, B1.out.trans (HCW.out.mono B1.out.size)⟩
end
section
open Go.ChangeShapes Go.WideShapes Go.ChangeAt Go.RowKit
set_option maxRecDepth 100000 in
theorem s_lname (op : Int) (h1 : 1 ≤ op) (h2 : op ≤ 21) (w : World) : Calls Tryd.prog 36 #[.int .i64 op] w fun e w' => e = .returned (.string (tnm op)) ∧ Below w.heap.size w w' := by
  by_cases h : 17 ≤ op
  · rcases (show op = 17 ∨ op = 18 ∨ op = 19 ∨ op = 20 ∨ op = 21 by omega) with rfl | rfl | rfl | rfl | rfl
    all_goals
      go_enter Tryd.func36, Tryd.ntmps36
      go_wp2
      go_ret
      exact ⟨rfl, Below.refl _ _⟩
  · obtain ⟨k, rfl⟩ : ∃ k : Nat, op = k := ⟨op.toNat, by omega⟩
    have KN := Lib.hid (fun W => s_opName k (by omega) (by omega) W)
    have HT := Lib.hid (show tnm (k : Int) = nm k by unfold tnm; rw [if_neg (by omega)]; rfl)
    have e1 : ¬ ((k : Int) = 17) := by omega
    have e2 : ¬ ((k : Int) = 18) := by omega
    have e3 : ¬ ((k : Int) = 19) := by omega
    have e4 : ¬ ((k : Int) = 20) := by omega
    have e5 : ¬ ((k : Int) = 21) := by omega
    go_enter Tryd.func36, Tryd.ntmps36
    go_wp2_with fail
    refine (KN.out _).mono ?_
    rintro e w1 ⟨rfl, rfl⟩
    go_wp2
    go_ret
    exact ⟨by rw [HT.out]; rfl, (Below.refl _ _).alloc (Nat.le_refl _) _⟩
def FtS (k : Fo) : Prop := ∀ (op wd n : Int) (nm : ByteArray) (s : Value) (w : World), (k.cs 29).Is w 0 5 k.len s → fitB op wd n nm k.ws = true → k.allB = true → Fo.OneOk op wd n nm k → nm.size + k.cost ≤ 1048576 →
  Calls Tryd.prog 17 #[.agg #[.int .i64 op, .int .i64 wd, .int .i64 n, .string nm, s]] w fun e w' => e = .returned (.string (txOne op wd n nm k.txts)) ∧ Below w.heap.size w w'
theorem op_range {op wd n : Int} {nm : ByteArray} {k : Fo} (hfit : fitB op wd n nm k.ws = true) (h0 : op ≠ 0) (h22 : op ≠ 22) (hall : k.allB = true) : 1 ≤ op ∧ op ≤ 21 ∧ 0 < k.len ∧ k.len ≤ 3 := by
  obtain ⟨_, hs⟩ := fit_shape hfit h0 h22 (ws_ok k hall)
  have hl := k.ws_len
  rcases hs with ⟨ho, e⟩ | ⟨h1, h2, e⟩ | ⟨a, h1, h2, _, e, _, _⟩ | ⟨ho, e⟩ | ⟨a, b, ho, e, _⟩ | ⟨a, ho, e, _⟩ | ⟨a, ho, e, _⟩ <;> rw [e] at hl <;> simp at hl <;> omega
set_option maxRecDepth 100000 in
set_option maxHeartbeats 4000000 in
theorem s_ft_loop (F : Fo) (hF : F.AllK FtS) : FtS F := by
  intro op wd n nm s w his hfit hall hok hc
  have sl : ∃ q m c, s = .slice q m c := by obtain ⟨_, ⟨_, q, cap, rfl, _⟩, _⟩ := his; exact ⟨_, _, _, rfl⟩
  by_cases h0 : op = 0
  · subst h0
    exact s_ft_const wd n nm s F.txts w sl hok.1.2.1 hok.1.2.2
  by_cases h22 : op = 22
  · subst h22
    exact s_ft_var wd n nm s F.txts w sl hok.1.2.1 (by omega)
  obtain ⟨hp1, hp2, hp3, hp4⟩ := op_range hfit h0 h22 hall
  have HTX := Lib.hid (tx_op (wd := wd) (n := n) (nm := nm) (ks := F.txts) h0 h22)
  rcases Fo.is_cases his with ⟨h, _⟩ | ⟨_, b, o, cap, ys, rfl, _, _, _, hbl, hvs, hr⟩
  · omega
  have HI := Lib.hid (fun j (hj : j < F.len) => Fo.nth F hvs hr j hj)
  have HK := Lib.hid hF
  have HAL := Lib.hid (fun j op wd n nm k (h : F.At j op wd n nm k) => all_node F j h hall)
  have HKO := Lib.hid (fun j op wd n nm k (h : F.At j op wd n nm k) => Fo.at_ok F j h hok.2.2.2)
  have hfl : F.len ≤ 1048576 := by have := F.cost_eq; omega
  have hbt := Fo.txts_bytes F hok.2.2.2
  have hhb := head_bytes op wd n hok.1.2.1 hok.1.2.2
  have HCO := Lib.hid (fun j op wd n nm k (h : F.At j op wd n nm k) => show nm.size + k.cost ≤ 1048576 by
    have h1 := Fo.at_paid F j h
    have h2 := F.cost_eq
    omega)
  have HBY := Lib.hid (fun j => show (pfx (txHead op wd n ++ F.txts.take j)).size ≤ 100000000 by
    have h1 := pfx_size (txHead op wd n ++ F.txts.take j)
    have h2 := bytes_take F.txts j
    rw [bytes_app] at h1
    omega)
  have HSN := Lib.hid (fun j op' wd' n' nm' k (h : F.At j op' wd' n' nm' k) => show pfx (txHead op wd n ++ F.txts.take j) ++ ⟨#[32]⟩ ++ txOne op' wd' n' nm' k.txts = pfx (txHead op wd n ++ F.txts.take (j + 1)) by
    rw [pfx_snoc _ _ (head_ne _ _ _ _), take_next (Fo.txts_at F j h), List.append_assoc])
  have HTS := Lib.hid (fun j op' wd' n' nm' k (h : F.At j op' wd' n' nm' k) => show (txOne op' wd' n' nm' k.txts).size ≤ 100000000 by
    have := bytes_at (Fo.txts_at F j h)
    omega)
  have KL := Lib.hid (fun W => s_lname op hp1 hp2 W)
  have KW := Lib.hid (fun W => s_fmt wd hok.1.2.1.1 hok.1.2.1.2 W)
  have KN := Lib.hid (fun W => s_fmt n hok.1.2.2.1 hok.1.2.2.2 W)
  rw [show (⟨(Lib.itoa wd).toArray⟩ : ByteArray) = itB wd from rfl] at KW
  rw [show (⟨(Lib.itoa n).toArray⟩ : ByteArray) = itB n from rfl] at KN
  have z1 := itB_size wd hok.1.2.1
  have z2 := itB_size n hok.1.2.2
  have z3 := tnm_size op
  have X1 := Lib.hid (cell5_alloc w 29 (.int .i64 op) (.int .i64 wd) (.int .i64 n) (.string nm) (.slice (some ⟨b, o, none⟩) F.len cap))
  have B1 := Lib.hid ((Below.refl w.heap.size w).alloc (Nat.le_refl _) (.cells #[.int .i64 op, .int .i64 wd, .int .i64 n, .string nm, .slice (some ⟨b, o, none⟩) F.len cap] 29))
  have e0 : ((op : Int) == 0) = false := by simpa using h0
  have e22 : ((op : Int) == 22) = false := by simpa using h22
  by_cases c19 : op = 19
  · have HS0 := Lib.hid (show ⟨#[40]⟩ ++ tnm op ++ ⟨#[32]⟩ ++ itB n ++ ⟨#[32]⟩ ++ itB wd = pfx (txHead op wd n ++ F.txts.take 0) by
      rw [pfx_one, pfx_snoc _ _ (by simp), pfx_snoc _ _ (by simp)]
      unfold txHead
      rw [if_pos c19, if_pos (by omega)]; simp)
    have KI := Lib.hid (fun W => s_in_ok op 19 21 (by omega) (by omega) W)
    have e19 : ((op : Int) == 19) = true := by simpa using c19
    clear hF his hvs hr hfit hall sl h0 h22 hok c19
    generalize tnm op = to at *
    generalize itB wd = tw at *
    generalize itB n = tn at *
    go_enter Tryd.func17, Tryd.ntmps17
    go_wp2_with fail
    refine (KL.out _).mono ?_
    rintro e w2 ⟨rfl, hb⟩
    replace B1 := Lib.hid (B1.out.trans (hb.mono B1.out.size))
    replace X1 := Lib.hid (X1.out.below hb)
    clear hb
    obtain ⟨x0, x1, x2, x3, x4⟩ := X1.out
    go_wp2_with fail
    refine (KN.out _).mono ?_
    rintro e w3 ⟨rfl, hb⟩
    replace B1 := Lib.hid (B1.out.trans (hb.mono B1.out.size))
    replace X1 := Lib.hid (X1.out.below hb)
    clear hb
    obtain ⟨x0, x1, x2, x3, x4⟩ := X1.out
    go_wp2_with (go_at_call 37; refine (KI.out _).mono ?_; rintro e w4 ⟨rfl, rfl⟩)
    go_wp2_with fail
    refine (KW.out _).mono ?_
    rintro e w5 ⟨rfl, hb⟩
    replace B1 := Lib.hid (B1.out.trans (hb.mono B1.out.size))
    replace X1 := Lib.hid (X1.out.below hb)
    clear hb
    obtain ⟨x0, x1, x2, x3, x4⟩ := X1.out
    go_wp2
    clear x0 x1 x2 x3 x4
    go_loopw [3, 52] (fun s i wr => ∃ (j : Nat), j ≤ F.len ∧ i = .int .i64 j ∧ s = .string (pfx (txHead op wd n ++ F.txts.take j)) ∧ Below w.heap.size w wr) (fun _ i _ => F.len - (intOf i).toNat)
    case atStart => exact ⟨0, Nat.zero_le _, rfl, congrArg Value.string HS0.out, B1.out⟩
    case round =>
      clear B1 X1 HS0
      obtain ⟨j, hj, rfl, rfl, hb⟩ := hrel
      have HB := Lib.hid hb
      by_cases hjn : j < F.len
      · obtain ⟨op', wd', n', nm', k, u, hat, his, hrr⟩ := HI.out j hjn
        have hk := Fo.at_allK F j hat HK.out
        obtain ⟨hf1, hf2⟩ := HAL.out _ _ _ _ _ _ hat
        have hok' := HKO.out _ _ _ _ _ _ hat
        have hcst := HCO.out _ _ _ _ _ _ hat
        have hsz := HBY.out j
        have HN := Lib.hid (HSN.out _ _ _ _ _ _ hat)
        have hts := HTS.out _ _ _ _ _ _ hat
        have hrr := rangeAt_below HB.out hrr
        have HISK := Lib.hid his
        obtain ⟨_, ⟨_, q', cap', rfl, _⟩, _⟩ := his
        have c0 : wr.cell? ⟨b, o + j * 5, none⟩ = some (.int .i64 op') := hrr 0 _ rfl
        have c1 : wr.cell? ⟨b, o + j * 5 + 1, none⟩ = some (.int .i64 wd') := hrr 1 _ rfl
        have c2 : wr.cell? ⟨b, o + j * 5 + 2, none⟩ = some (.int .i64 n') := hrr 2 _ rfl
        have c3 : wr.cell? ⟨b, o + j * 5 + 3, none⟩ = some (.string nm') := hrr 3 _ rfl
        have c4 : wr.cell? ⟨b, o + j * 5 + 4, none⟩ = some (.slice q' k.len cap') := hrr 4 _ rfl
        have SO := Lib.hid (fun W (hW : Below w.heap.size w W) => hk op' wd' n' nm' _ W (HISK.out.below hW) hf1 hf2 hok' hcst)
        have hki : (j : Int) < (F.len : Int) := by omega
        clear hrr hat hk hf1 hf2 hok' hcst hb
        generalize txOne op' wd' n' nm' k.txts = tk at *
        generalize pfx (txHead op wd n ++ F.txts.take j) = pj at *
        go_wp2_with fail
        refine (SO.out _ (HB.out.alloc HB.out.size _)).mono ?_
        rintro e w9 ⟨rfl, hb⟩
        have HB9 := Lib.hid ((HB.out.alloc HB.out.size (.cells #[.int .i64 op', .int .i64 wd', .int .i64 n', .string nm', .slice q' k.len cap'] 29)).trans (hb.mono (by have := HB.out.size; simp; omega)))
        clear hb c0 c1 c2 c3 c4
        go_wp2
        go_roundw
        case rel => exact ⟨j + 1, by omega, by go_num, congrArg Value.string HN.out, HB9.out⟩
        case measure => simp [intOf]; omega
      · have ej : j = F.len := by omega
        have hnj : ¬ ((j : Int) < (F.len : Int)) := by omega
        have HE := Lib.hid (show pfx (txHead op wd n ++ F.txts.take j) = pfx (txHead op wd n ++ F.txts) by rw [ej, ← F.txts_len, List.take_length])
        have hsz := HBY.out j
        clear ej hb
        go_wp2
        go_ret
        exact ⟨by rw [HTX.out, ← HE.out]; rfl, HB.out⟩
  · by_cases c20 : 20 ≤ op
    · have HS0 := Lib.hid (show ⟨#[40]⟩ ++ tnm op ++ ⟨#[32]⟩ ++ itB wd = pfx (txHead op wd n ++ F.txts.take 0) by
        rw [pfx_one, pfx_snoc _ _ (by simp)]
        unfold txHead
        rw [if_neg c19, if_pos (by omega)]; simp)
      have KI := Lib.hid (fun W => s_in_ok op 19 21 (by omega) (by omega) W)
      have e19 : ((op : Int) == 19) = false := by simpa using c19
      clear hF his hvs hr hfit hall sl h0 h22 hok KN z2
      generalize tnm op = to at *
      generalize itB wd = tw at *
      go_enter Tryd.func17, Tryd.ntmps17
      go_wp2_with fail
      refine (KL.out _).mono ?_
      rintro e w2 ⟨rfl, hb⟩
      replace B1 := Lib.hid (B1.out.trans (hb.mono B1.out.size))
      replace X1 := Lib.hid (X1.out.below hb)
      clear hb
      obtain ⟨x0, x1, x2, x3, x4⟩ := X1.out
      go_wp2_with (go_at_call 37; refine (KI.out _).mono ?_; rintro e w4 ⟨rfl, rfl⟩)
      go_wp2_with fail
      refine (KW.out _).mono ?_
      rintro e w5 ⟨rfl, hb⟩
      replace B1 := Lib.hid (B1.out.trans (hb.mono B1.out.size))
      replace X1 := Lib.hid (X1.out.below hb)
      clear hb
      obtain ⟨x0, x1, x2, x3, x4⟩ := X1.out
      go_wp2
      clear x0 x1 x2 x3 x4
      go_loopw [3, 52] (fun s i wr => ∃ (j : Nat), j ≤ F.len ∧ i = .int .i64 j ∧ s = .string (pfx (txHead op wd n ++ F.txts.take j)) ∧ Below w.heap.size w wr) (fun _ i _ => F.len - (intOf i).toNat)
      case atStart => exact ⟨0, Nat.zero_le _, rfl, congrArg Value.string HS0.out, B1.out⟩
      case round =>
        clear B1 X1 HS0
        obtain ⟨j, hj, rfl, rfl, hb⟩ := hrel
        have HB := Lib.hid hb
        by_cases hjn : j < F.len
        · obtain ⟨op', wd', n', nm', k, u, hat, his, hrr⟩ := HI.out j hjn
          have hk := Fo.at_allK F j hat HK.out
          obtain ⟨hf1, hf2⟩ := HAL.out _ _ _ _ _ _ hat
          have hok' := HKO.out _ _ _ _ _ _ hat
          have hcst := HCO.out _ _ _ _ _ _ hat
          have hsz := HBY.out j
          have HN := Lib.hid (HSN.out _ _ _ _ _ _ hat)
          have hts := HTS.out _ _ _ _ _ _ hat
          have hrr := rangeAt_below HB.out hrr
          have HISK := Lib.hid his
          obtain ⟨_, ⟨_, q', cap', rfl, _⟩, _⟩ := his
          have c0 : wr.cell? ⟨b, o + j * 5, none⟩ = some (.int .i64 op') := hrr 0 _ rfl
          have c1 : wr.cell? ⟨b, o + j * 5 + 1, none⟩ = some (.int .i64 wd') := hrr 1 _ rfl
          have c2 : wr.cell? ⟨b, o + j * 5 + 2, none⟩ = some (.int .i64 n') := hrr 2 _ rfl
          have c3 : wr.cell? ⟨b, o + j * 5 + 3, none⟩ = some (.string nm') := hrr 3 _ rfl
          have c4 : wr.cell? ⟨b, o + j * 5 + 4, none⟩ = some (.slice q' k.len cap') := hrr 4 _ rfl
          have SO := Lib.hid (fun W (hW : Below w.heap.size w W) => hk op' wd' n' nm' _ W (HISK.out.below hW) hf1 hf2 hok' hcst)
          have hki : (j : Int) < (F.len : Int) := by omega
          clear hrr hat hk hf1 hf2 hok' hcst hb
          generalize txOne op' wd' n' nm' k.txts = tk at *
          generalize pfx (txHead op wd n ++ F.txts.take j) = pj at *
          go_wp2_with fail
          refine (SO.out _ (HB.out.alloc HB.out.size _)).mono ?_
          rintro e w9 ⟨rfl, hb⟩
          have HB9 := Lib.hid ((HB.out.alloc HB.out.size (.cells #[.int .i64 op', .int .i64 wd', .int .i64 n', .string nm', .slice q' k.len cap'] 29)).trans (hb.mono (by have := HB.out.size; simp; omega)))
          clear hb c0 c1 c2 c3 c4
          go_wp2
          go_roundw
          case rel => exact ⟨j + 1, by omega, by go_num, congrArg Value.string HN.out, HB9.out⟩
          case measure => simp [intOf]; omega
        · have ej : j = F.len := by omega
          have hnj : ¬ ((j : Int) < (F.len : Int)) := by omega
          have HE := Lib.hid (show pfx (txHead op wd n ++ F.txts.take j) = pfx (txHead op wd n ++ F.txts) by rw [ej, ← F.txts_len, List.take_length])
          have hsz := HBY.out j
          clear ej hb
          go_wp2
          go_ret
          exact ⟨by rw [HTX.out, ← HE.out]; rfl, HB.out⟩
    · have HS0 := Lib.hid (show ⟨#[40]⟩ ++ tnm op = pfx (txHead op wd n ++ F.txts.take 0) by
        rw [pfx_one]
        unfold txHead
        rw [if_neg c19, if_neg (by omega)]; simp)
      have KI := Lib.hid (fun W => s_in_lo op 19 21 (by omega) W)
      have e19 : ((op : Int) == 19) = false := by simpa using c19
      clear hF his hvs hr hfit hall sl h0 h22 hok KN z2 KW z1
      generalize tnm op = to at *
      go_enter Tryd.func17, Tryd.ntmps17
      go_wp2_with fail
      refine (KL.out _).mono ?_
      rintro e w2 ⟨rfl, hb⟩
      replace B1 := Lib.hid (B1.out.trans (hb.mono B1.out.size))
      replace X1 := Lib.hid (X1.out.below hb)
      clear hb
      obtain ⟨x0, x1, x2, x3, x4⟩ := X1.out
      go_wp2_with (go_at_call 37; refine (KI.out _).mono ?_; rintro e w4 ⟨rfl, rfl⟩)
      go_wp2
      clear x0 x1 x2 x3 x4
      go_loopw [3, 52] (fun s i wr => ∃ (j : Nat), j ≤ F.len ∧ i = .int .i64 j ∧ s = .string (pfx (txHead op wd n ++ F.txts.take j)) ∧ Below w.heap.size w wr) (fun _ i _ => F.len - (intOf i).toNat)
      case atStart => exact ⟨0, Nat.zero_le _, rfl, congrArg Value.string HS0.out, B1.out⟩
      case round =>
        clear B1 X1 HS0
        obtain ⟨j, hj, rfl, rfl, hb⟩ := hrel
        have HB := Lib.hid hb
        by_cases hjn : j < F.len
        · obtain ⟨op', wd', n', nm', k, u, hat, his, hrr⟩ := HI.out j hjn
          have hk := Fo.at_allK F j hat HK.out
          obtain ⟨hf1, hf2⟩ := HAL.out _ _ _ _ _ _ hat
          have hok' := HKO.out _ _ _ _ _ _ hat
          have hcst := HCO.out _ _ _ _ _ _ hat
          have hsz := HBY.out j
          have HN := Lib.hid (HSN.out _ _ _ _ _ _ hat)
          have hts := HTS.out _ _ _ _ _ _ hat
          have hrr := rangeAt_below HB.out hrr
          have HISK := Lib.hid his
          obtain ⟨_, ⟨_, q', cap', rfl, _⟩, _⟩ := his
          have c0 : wr.cell? ⟨b, o + j * 5, none⟩ = some (.int .i64 op') := hrr 0 _ rfl
          have c1 : wr.cell? ⟨b, o + j * 5 + 1, none⟩ = some (.int .i64 wd') := hrr 1 _ rfl
          have c2 : wr.cell? ⟨b, o + j * 5 + 2, none⟩ = some (.int .i64 n') := hrr 2 _ rfl
          have c3 : wr.cell? ⟨b, o + j * 5 + 3, none⟩ = some (.string nm') := hrr 3 _ rfl
          have c4 : wr.cell? ⟨b, o + j * 5 + 4, none⟩ = some (.slice q' k.len cap') := hrr 4 _ rfl
          have SO := Lib.hid (fun W (hW : Below w.heap.size w W) => hk op' wd' n' nm' _ W (HISK.out.below hW) hf1 hf2 hok' hcst)
          have hki : (j : Int) < (F.len : Int) := by omega
          clear hrr hat hk hf1 hf2 hok' hcst hb
          generalize txOne op' wd' n' nm' k.txts = tk at *
          generalize pfx (txHead op wd n ++ F.txts.take j) = pj at *
          go_wp2_with fail
          refine (SO.out _ (HB.out.alloc HB.out.size _)).mono ?_
          rintro e w9 ⟨rfl, hb⟩
          have HB9 := Lib.hid ((HB.out.alloc HB.out.size (.cells #[.int .i64 op', .int .i64 wd', .int .i64 n', .string nm', .slice q' k.len cap'] 29)).trans (hb.mono (by have := HB.out.size; simp; omega)))
          clear hb c0 c1 c2 c3 c4
          go_wp2
          go_roundw
          case rel => exact ⟨j + 1, by omega, by go_num, congrArg Value.string HN.out, HB9.out⟩
          case measure => simp [intOf]; omega
        · have ej : j = F.len := by omega
          have hnj : ¬ ((j : Int) < (F.len : Int)) := by omega
          have HE := Lib.hid (show pfx (txHead op wd n ++ F.txts.take j) = pfx (txHead op wd n ++ F.txts) by rw [ej, ← F.txts_len, List.take_length])
          have hsz := HBY.out j
          clear ej hb
          go_wp2
          go_ret
          exact ⟨by rw [HTX.out, ← HE.out]; rfl, HB.out⟩
theorem s_ft_any : ∀ F : Fo, FtS F := Fo.every s_ft_loop
end
end Go.Proofs.YtkgdmamafemniaaDoor
