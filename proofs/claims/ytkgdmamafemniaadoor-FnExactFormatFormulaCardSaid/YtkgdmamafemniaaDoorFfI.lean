/- What the program's FormatFormula returns. No condition but the table. -/
import Derived.Test.YtkgdmamafemniaaDoorFfS
import Derived.Test.YtkgdmamafemniaaDoorReg
import Derived.Test.YtkgdmamafemniaaDoorApAny
namespace Go.Proofs.YtkgdmamafemniaaDoor
open Go.ChangeShapes Go.WideShapes Go.ChangeAt Go.RowKit
theorem i_fmtsS (zs : List Int) (v : Value) (w : World) (hv : Cs.Shows w 0 1 v zs.length (IntL.all zs)) (hok : ∀ x ∈ zs, IntL.Ok x) (hl : zs.length ≤ 1048576) (htab : Lib.TabIs Tryd.prog w "internal/strconv.uint64pow10" .u64 Lib.pow10Tab) :
    Calls Tryd.prog 30 #[v] w fun e w' => e = .returned (.string (fsT zs)) ∧ Below w.heap.size w w' := by
  rcases Cs.shows_cases hv with ⟨h0, q, cap, rfl⟩ | ⟨hpos, b, o, cap, rfl, _, _, hbl, hr⟩
  · have hL : zs = [] := List.length_eq_zero_iff.1 h0
    subst hL
    exact i_fmts_none q cap w
  · exact i_fmts b o cap zs.length zs rfl (inr_ok hok) hl w htab hbl (fun j u hu => hr j u (by rw [IntL.all_map]; exact hu))
theorem news_of' {w : World} {base n : Nat} {q : Option Addr} {c : Nat} {ys : List Value} (h : Cs.Shows w base 1 (.slice q n c) n ys) : 0 < n → ∃ ad, q = some ad ∧ ∀ i u, ys[i]? = some u → w.cell? (ad.add i) = some u := by
  intro hn
  rcases Cs.shows_cases h with ⟨h0, _⟩ | ⟨_, b, o, c', he, _, _, _, hr⟩
  · omega
  · cases he
    exact ⟨_, rfl, fun i u hu => by rw [Addr.add_mid]; exact hr i u hu⟩
theorem str_one (l : List ByteArray) : ∀ u ∈ l.map Value.string, u.oneCell' = true := by
  intro u hu
  obtain ⟨x, _, rfl⟩ := List.mem_map.1 hu
  rfl
/-- texts that are made, the first ones -/
def StrRel (T : List ByteArray) (w : World) (n j : Nat) (wr : World) : Prop := ∃ cur, wr.ownsRow w.heap.size 9 1 (.slice (some ⟨w.heap.size, 0, none⟩) n n) n cur ∧ cur.take j = (T.take j).map Value.string ∧ Below w.heap.size w wr
theorem str_step {T : List ByteArray} {w wr : World} {n j : Nat} (hj : j < T.length) (hn : T.length = n) (hr : StrRel T w n j wr) : StrRel T w n (j + 1) (wr.setCell ⟨w.heap.size, j, none⟩ (.string T[j])) := by
  obtain ⟨cur, ho, hc, hbw⟩ := hr
  have hlen := ho.1
  refine ⟨_, own_put [.string T[j]] j wr cur ho, ?_, hbw.setCell (Nat.le_refl _) _⟩
  rw [putAt_take cur j [.string T[j]] (j + 1) rfl (by omega), hc, List.take_succ_eq_append_getElem hj, List.map_append]
  rfl
theorem str_keep {T : List ByteArray} {w wr w' : World} {n j : Nat} (hr : StrRel T w n j wr) (hb : Below wr.heap.size wr w') : StrRel T w n j w' := by
  obtain ⟨cur, ho, hc, hbw⟩ := hr
  exact ⟨cur, own_keep ho hb, hc, hbw.trans (hb.mono hbw.size)⟩
set_option maxRecDepth 100000 in
set_option maxHeartbeats 2000000 in
theorem i_map_fmts (L : List (List Int)) (v : Value) (w : World) (hv : (Cs.rows IntSS.c L).Is w 0 1 L.length v) (hok : IntSS.Ok L) (hc : IntSS.costs L ≤ 1048576) (htab : Lib.TabIs Tryd.prog w "internal/strconv.uint64pow10" .u64 Lib.pow10Tab) :
    Calls Tryd.prog 29 #[v, .func (.func 30) #[] #[]] w fun e w' => Below w.heap.size w w' ∧ ∃ q c, e = .returned (.slice q L.length c) ∧ w'.ownsRow w.heap.size 9 1 (.slice q L.length c) L.length ((L.map fsT).map Value.string) := by
  have hml : maxLen = 9223372036854775807 := rfl
  have hll := IntSS.len_le L
  obtain ⟨i0, hi, hz0, hz1, hz2⟩ := info_parts infoStr
  have HT := Lib.hid htab
  have HCL := Lib.hid (fun j (hj : j < L.length) => show L[j].length ≤ 1048576 by have := IntSS.cost_lt L j hj; omega)
  have HOK := Lib.hid (fun j (hj : j < L.length) => (hok L[j] (List.getElem_mem hj)).1)
  have HM := Lib.hid (fun j (hj : j < L.length) => show ∃ h : j < (L.map fsT).length, (L.map fsT)[j] = fsT L[j] from ⟨by simpa using hj, by simp⟩)
  have HML := Lib.hid (show (L.map fsT).length = L.length from List.length_map ..)
  rcases IntSS.cases hv with ⟨hL, q, cap, rfl⟩ | ⟨hpos, b, o, cap, rfl, hcl, hcm, hbl, HI⟩
  · subst hL
    clear hv
    go_enter Tryd.func29, Tryd.ntmps29
    go_wp2
    go_ret
    exact ⟨Below.refl _ _, none, 0, rfl, rfl, .inl ⟨rfl, rfl⟩⟩
  · have HI := Lib.hid HI
    obtain ⟨T, hTe⟩ : ∃ T, L.map fsT = T := ⟨_, rfl⟩
    rw [hTe] at HM HML
    rw [hTe]
    clear hv htab hok hTe
    have hne : ¬ ((L.length : Int) = 0) := by omega
    go_enter Tryd.func29, Tryd.ntmps29
    go_wp2_with (refine wpList_make_full _ rfl _ _ 52 rfl w.heap.size 9 i0 (.string ByteArray.empty) 1 Tryd.underlying52 hi hz0 hz1 .i64 .i64 _ _ L.length rfl rfl rfl rfl (by rw [hz2]; omega) (by unfold maxLen; omega) (Nat.le_refl _) ?_; intro w1 hown hgrow; have hb1 := (Below.refl w.heap.size w).grown hgrow (Nat.le_refl _) (fun k e => by cases e); have HO := Lib.hid hown; have HB1 := Lib.hid hb1; clear hown hgrow hb1)
    go_loopw [16] (fun i wr => ∃ (j : Nat), j ≤ L.length ∧ i = .int .i64 j ∧ StrRel T w L.length j wr) (fun i _ => L.length - (intOf i).toNat)
    case atStart => exact ⟨0, Nat.zero_le _, rfl, _, HO.out, by simp, HB1.out⟩
    case round =>
      clear HO HB1
      obtain ⟨j, hj, rfl, hrel⟩ := hrel
      have HRel := Lib.hid hrel
      by_cases hjn : j < L.length
      · obtain ⟨cur, ho, hcu, hb⟩ := hrel
        obtain ⟨qj, mj, cj, hmj, c0, hsh⟩ := HI.out _ hb j hjn
        have hTr : Lib.TabIs Tryd.prog wr "internal/strconv.uint64pow10" .u64 Lib.pow10Tab := var_below hb HT.out
        have KS := Lib.hid (i_fmtsS L[j] (.slice qj mj cj) wr hsh (HOK.out j hjn) (HCL.out j hjn) hTr)
        obtain ⟨hjT, hTj⟩ := HM.out j hjn
        rw [← hTj] at KS
        have HS := Lib.hid (fun w2 (h : StrRel T w L.length j w2) => str_step hjT HML.out h)
        have HF := Lib.hid (fun w2 (h : StrRel T w L.length j w2) => show ∃ old, w2.cell? ⟨w.heap.size, j, none⟩ = some old ∧ w2.frozen? ⟨w.heap.size, j, none⟩ = false by
          obtain ⟨cur, ho, _, _⟩ := h
          have hcl := ho.1
          exact ⟨cur[j]'(by omega), by rw [ho.cellAt j (by omega)]; exact List.getElem?_eq_getElem (by omega), ho.frozenAt j⟩)
        have hki : (j : Int) < (L.length : Int) := by omega
        clear ho hcu hb hsh hmj hTr
        generalize T[j] = tj at *
        clear hTj
        go_wp2_with fail
        refine KS.out.mono ?_
        rintro e w2 ⟨rfl, hb2⟩
        have HR2 := Lib.hid (str_keep HRel.out hb2)
        clear hb2 c0
        obtain ⟨old, hold, hfz⟩ := HF.out _ HR2.out
        have HS2 := Lib.hid (HS.out _ HR2.out)
        go_wp2
        go_roundw
        case rel => exact ⟨j + 1, by omega, by go_num, HS2.out⟩
        case measure => simp [intOf]; omega
      · have ej : j = L.length := by omega
        have hnj : ¬ ((j : Int) < (L.length : Int)) := by omega
        rw [ej] at HRel
        clear hrel ej
        go_wp2
        go_ret
        obtain ⟨cur, ho, hcu, hb⟩ := HRel.out
        rw [List.take_of_length_le (by rw [ho.1]; omega), List.take_of_length_le (by rw [HML.out]; exact Nat.le_refl _)] at hcu
        rw [hcu] at ho
        exact ⟨hb, _, _, rfl, ho⟩
set_option maxRecDepth 100000 in
set_option maxHeartbeats 4000000 in
theorem i_ff (n : Int) (L : List (List Int)) (v : Value) (w : World) (hv : (Cs.rows IntSS.c L).Is w 0 1 L.length v) (hok : (-9223372036854775808 ≤ n ∧ n ≤ 9223372036854775807) ∧ IntSS.Ok L ∧ L.length ≤ maxLen) (hc : IntSS.costs L ≤ 1048576) (htab : Lib.TabIs Tryd.prog w "internal/strconv.uint64pow10" .u64 Lib.pow10Tab) :
    Calls Tryd.prog 13 #[.agg #[.int .i64 n, v]] w fun e w' => e = .returned (.string (ffT n L)) ∧ Below w.heap.size w w' := by
  have hll := IntSS.len_le L
  have hml : maxLen = 9223372036854775807 := rfl
  obtain ⟨i0, hi0, hz0, hz1, hz2⟩ := info_parts infoStr
  have KF := Lib.hid (fun W (hb : Below w.heap.size w W) => i_fmok n L v W (hv.below hb) hok hc)
  have KM := Lib.hid (fun W (hb : Below w.heap.size w W) => i_map_fmts L v W (hv.below hb) hok.2.1 hc (var_below hb htab))
  have KI := Lib.hid (fun W (hb : Below w.heap.size w W) => i_fmt n hok.1.1 hok.1.2 W (var_below hb htab))
  have HMAP := Lib.hid (show ffParts n L = [⟨(Lib.itoa n).toArray⟩] ++ L.map fsT from rfl)
  have HPL := Lib.hid (parts_len n L)
  obtain ⟨_, ⟨_, q, cap, rfl, _⟩, _⟩ := hv
  by_cases hf : fmB n L = true
  · have HT := Lib.hid (show ffT n L = ffV n L by unfold ffT; rw [if_pos hf])
    have HS := Lib.hid (parts_short hf hok.2.1)
    have hll2 : L.length ≤ 1048576 := by omega
    rw [hf] at KF
    clear hf hok htab
    go_enter Tryd.func13, Tryd.ntmps13
    go_wp2_with fail
    refine (KF.out _ ((Below.refl _ _).alloc (Nat.le_refl _) _)).mono ?_
    rintro e w1 ⟨rfl, hb1⟩
    have B1 := Lib.hid (((Below.refl w.heap.size w).alloc (Nat.le_refl _) (.cells #[.int .i64 n, .slice q L.length cap] 38)).trans (hb1.mono (by simp)))
    have X1 := Lib.hid ((cell2_alloc w 38 (.int .i64 n) (.slice q L.length cap)).below hb1)
    clear hb1
    go_wp2
    have HC1 := Lib.hid ((Below.refl w1.heap.size w1).drew)
    refine region_c (fun W => Below w1.heap.size w1 W) (by kernel_rfl) ?_
    refine take_c (i := 0) (v := .pointer (some ⟨w.heap.size, 0, none⟩)) rfl (by kernel_rfl) (by kernel_rfl) (by kernel_rfl) (fun _ _ _ h => h) HC1.out rfl (fun W hW => ?_) ?_
    · go_simp
    refine take_c (i := 1) (v := .int .i64 n) rfl (by kernel_rfl) (by kernel_rfl) (by kernel_rfl) (fun _ _ _ h => h) HC1.out rfl (fun W hW => ?_) ?_
    · obtain ⟨x0, x1⟩ := X1.out.below hW
      go_simp
    refine take_c (i := 4) (v := .pointer (some ⟨w.heap.size, 1, none⟩)) rfl (by kernel_rfl) (by kernel_rfl) (by kernel_rfl) (fun _ _ _ h => h) HC1.out rfl (fun W hW => ?_) ?_
    · go_simp
    refine take_c (i := 5) (v := .slice q L.length cap) rfl (by kernel_rfl) (by kernel_rfl) (by kernel_rfl) (fun _ _ _ h => h) HC1.out rfl (fun W hW => ?_) ?_
    · obtain ⟨x0, x1⟩ := X1.out.below hW
      go_simp
    refine one_c (i := 2) (by kernel_rfl) (op_list rfl ?_)
    go_wp2_with fail
    refine (KI.out _ B1.out.drew).mono ?_
    rintro e w2 ⟨rfl, hb2⟩
    have HC2 := Lib.hid (HC1.out.trans hb2)
    have B2 := Lib.hid (B1.out.drew.trans (hb2.mono B1.out.size))
    clear hb2
    go_wp2
    refine ⟨HC2.out, ?_⟩
    refine two_c (i := 3) (k := 6) (by kernel_rfl) (op_list rfl ?_) (op_list rfl ?_)
    · go_wp2
      have HC3 := Lib.hid (HC2.out.alloc HC2.out.size (.cells #[.string ⟨(Lib.itoa n).toArray⟩] 9))
      have HO4 : Hid ((w2.alloc (.cells #[.string ⟨(Lib.itoa n).toArray⟩] 9)).ownsRow w1.heap.size 9 1 (.slice (some ⟨w2.heap.size, 0, none⟩) 1 1) 1 [.string ⟨(Lib.itoa n).toArray⟩]) := Lib.hid (by
        have := World.ownsRow_lit (base := w1.heap.size) (e := 9) (size := 1) w2 #[.string ⟨(Lib.itoa n).toArray⟩] 1 HC2.out.size (by decide) rfl
        simpa using this)
      refine ⟨HC3.out, ?_⟩
      refine one_c (i := 6) (by kernel_rfl) (op_list rfl ?_)
      go_wp2_with fail
      refine (KM.out _ (B2.out.alloc B2.out.size _)).mono ?_
      rintro e w3 ⟨hb3, q3, c3, rfl, ho3⟩
      have HC5 := Lib.hid (HC3.out.trans (hb3.mono HC3.out.size))
      have HO5 := Lib.hid (own_keep HO4.out hb3)
      have HO3 := Lib.hid ho3
      clear hb3 ho3 HO4 HC3
      go_wp2
      refine ⟨HC5.out, ?_⟩
      refine one_c (i := 7) (by kernel_rfl) (op_list rfl ?_)
      have hs5 := HC5.out.size
      refine wpList_append_any rfl _ _ 52 rfl w1.heap.size 9 i0 (.string ByteArray.empty) 1 16 Tryd.underlying52 hi0 hz0 hz1 hz2 rfl (by decide) _ 1 _ rfl HO5.out q3 L.length c3 ((L.map fsT).map Value.string) rfl ?c0 ?c1 ?c2 ?c3 ?c4 ?c5 ?_
      case c0 => simp
      case c1 => exact news_of' (Cs.shows_of_owns HO3.out)
      case c2 => exact str_one _
      case c3 => unfold maxLen; omega
      case c4 => omega
      case c5 => exact hs5
      intro q6 c6 w6 ho6 hb6
      have HC6 := Lib.hid (HC5.out.trans hb6)
      have HO6 : Hid (w6.ownsRow w1.heap.size 9 1 (.slice q6 (1 + L.length) c6) (1 + L.length) ((ffParts n L).map Value.string)) := Lib.hid (by rw [HMAP.out, List.map_append]; exact ho6)
      clear ho6 hb6
      go_wp2
      refine ⟨HC6.out, ?_⟩
      refine one_c (i := 8) (by kernel_rfl) (op_list rfl ?_)
      go_wp2
      refine ⟨HC6.out, ?_⟩
      refine done_c (by kernel_rfl) ?_ _
      obtain ⟨g6, rfl⟩ : ∃ g6, q6 = some ⟨g6, 0, none⟩ := by
        rcases HO6.out.2 with ⟨h1, h2⟩ | ⟨g', c', cur, h1, _⟩
        · omega
        · cases h1; exact ⟨_, rfl⟩
      have HA6 := Lib.hid (ownsRow_at HO6.out)
      go_wp2_with fail
      refine (i_join g6 0 c6 (1 + L.length) (ffParts n L) ⟨#[124]⟩ (by rw [HPL.out]; omega) (by omega) HA6.out.2.2.2 (by have := HS.out; omega) _ HA6.out.2.2.1 HA6.out.1).mono ?_
      rintro e w7 ⟨rfl, hb7⟩
      have B7 := Lib.hid (B1.out.trans ((HC6.out.trans (hb7.mono HC6.out.size)).mono B1.out.size))
      clear hb7
      go_wp2
      go_ret
      exact ⟨by rw [HT.out]; rfl, B7.out⟩
    · go_wp2_with fail
      refine (KM.out _ B2.out).mono ?_
      rintro e w3 ⟨hb3, q3, c3, rfl, ho3⟩
      have HC3 := Lib.hid (HC2.out.trans (hb3.mono HC2.out.size))
      have HO3 := Lib.hid (ho3.alloc (.cells #[.string ⟨(Lib.itoa n).toArray⟩] 9))
      clear hb3 ho3
      go_wp2
      refine ⟨HC3.out, ?_⟩
      refine one_c (i := 3) (by kernel_rfl) (op_list rfl ?_)
      go_wp2
      have HC5 := Lib.hid (HC3.out.alloc HC3.out.size (.cells #[.string ⟨(Lib.itoa n).toArray⟩] 9))
      have HO5 : Hid ((w3.alloc (.cells #[.string ⟨(Lib.itoa n).toArray⟩] 9)).ownsRow w1.heap.size 9 1 (.slice (some ⟨w3.heap.size, 0, none⟩) 1 1) 1 [.string ⟨(Lib.itoa n).toArray⟩]) := Lib.hid (by
        have := World.ownsRow_lit (base := w1.heap.size) (e := 9) (size := 1) w3 #[.string ⟨(Lib.itoa n).toArray⟩] 1 HC3.out.size (by decide) rfl
        simpa using this)
      refine ⟨HC5.out, ?_⟩
      refine one_c (i := 7) (by kernel_rfl) (op_list rfl ?_)
      have hs5 := HC5.out.size
      refine wpList_append_any rfl _ _ 52 rfl w1.heap.size 9 i0 (.string ByteArray.empty) 1 16 Tryd.underlying52 hi0 hz0 hz1 hz2 rfl (by decide) _ 1 _ rfl HO5.out q3 L.length c3 ((L.map fsT).map Value.string) rfl ?c0 ?c1 ?c2 ?c3 ?c4 ?c5 ?_
      case c0 => simp
      case c1 => exact news_of' (Cs.shows_of_owns HO3.out)
      case c2 => exact str_one _
      case c3 => unfold maxLen; omega
      case c4 => omega
      case c5 => exact hs5
      intro q6 c6 w6 ho6 hb6
      have HC6 := Lib.hid (HC5.out.trans hb6)
      have HO6 : Hid (w6.ownsRow w1.heap.size 9 1 (.slice q6 (1 + L.length) c6) (1 + L.length) ((ffParts n L).map Value.string)) := Lib.hid (by rw [HMAP.out, List.map_append]; exact ho6)
      clear ho6 hb6
      go_wp2
      refine ⟨HC6.out, ?_⟩
      refine one_c (i := 8) (by kernel_rfl) (op_list rfl ?_)
      go_wp2
      refine ⟨HC6.out, ?_⟩
      refine done_c (by kernel_rfl) ?_ _
      obtain ⟨g6, rfl⟩ : ∃ g6, q6 = some ⟨g6, 0, none⟩ := by
        rcases HO6.out.2 with ⟨h1, h2⟩ | ⟨g', c', cur, h1, _⟩
        · omega
        · cases h1; exact ⟨_, rfl⟩
      have HA6 := Lib.hid (ownsRow_at HO6.out)
      go_wp2_with fail
      refine (i_join g6 0 c6 (1 + L.length) (ffParts n L) ⟨#[124]⟩ (by rw [HPL.out]; omega) (by omega) HA6.out.2.2.2 (by have := HS.out; omega) _ HA6.out.2.2.1 HA6.out.1).mono ?_
      rintro e w7 ⟨rfl, hb7⟩
      have B7 := Lib.hid (B1.out.trans ((HC6.out.trans (hb7.mono HC6.out.size)).mono B1.out.size))
      clear hb7
      go_wp2
      go_ret
      exact ⟨by rw [HT.out]; rfl, B7.out⟩
  · have hf' : fmB n L = false := by simpa using hf
    have HT := Lib.hid (show ffT n L = ⟨#[]⟩ by unfold ffT; rw [if_neg hf])
    rw [hf'] at KF
    clear hf hf' hok htab KM KI
    go_enter Tryd.func13, Tryd.ntmps13
    go_wp2_with fail
    refine (KF.out _ ((Below.refl _ _).alloc (Nat.le_refl _) _)).mono ?_
    rintro e w1 ⟨rfl, hb1⟩
    have B1 := Lib.hid (((Below.refl w.heap.size w).alloc (Nat.le_refl _) (.cells #[.int .i64 n, .slice q L.length cap] 38)).trans (hb1.mono (by simp)))
    clear hb1
    go_wp2
    go_ret
    exact ⟨by rw [HT.out] <;> rfl, B1.out⟩
end Go.Proofs.YtkgdmamafemniaaDoor
