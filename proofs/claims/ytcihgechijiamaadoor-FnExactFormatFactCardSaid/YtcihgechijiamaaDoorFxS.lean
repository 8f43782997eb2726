/- What the specification's FormatFact returns. No condition. -/
import Derived.Test.YtcihgechijiamaaDoorFxM
import Derived.Test.YtcihgechijiamaaDoorFcS
import Derived.Test.YtcihgechijiamaaDoorJn
import Derived.Test.YtcihgechijiamaaDoorReg
import Derived.Test.YtcihgechijiamaaDoorFhM
import Derived.Deep.RegionWith
namespace Go.Proofs.YtcihgechijiamaaDoor
open Go.ChangeShapes Go.WideShapes Go.ChangeAt Go.RowKit
set_option maxRecDepth 100000 in
theorem s_lword (k : Int) (hk : k = 1 ∨ k = 2 ∨ k = 3 ∨ k = 4 ∨ k = 5 ∨ k = 6) (w : World) :
    Calls Tryd.prog 44 #[.int .i64 k] w fun e w' => e = .returned (.string ⟨(fnL k).toArray⟩) ∧ Below w.heap.size w w' := by
  rcases hk with rfl | rfl | rfl | rfl | rfl | rfl
  all_goals
    go_enter Tryd.func44, Tryd.ntmps44
    go_wp2
    go_ret
    exact ⟨rfl, (Below.refl _ _).alloc (Nat.le_refl _) _⟩
theorem jn4 (x y z u p : ByteArray) : (⟨(JN [x, y, z, u] p).toArray⟩ : ByteArray) = x ++ p ++ y ++ p ++ z ++ p ++ u := by
  have h := JN_succ [x, y, z, u] p 3 (by simp) (by omega)
  simp only [List.take_succ_cons, List.take_zero, List.getElem_cons_succ, List.getElem_cons_zero] at h
  rw [jn3] at h
  exact h.symm
set_option maxRecDepth 100000 in
set_option maxHeartbeats 8000000 in
theorem s_ffact (vw vm vi : Int) (L : List InsR) (k a b n : Int) (s : Value) (w : World) (hs : Cs.Shows w 0 4 s L.length (InsR.all L)) (hok : ∀ r ∈ L, r.Ok) (hL : L.length ≤ maxLen) (ha : (-9223372036854775808 ≤ a ∧ a ≤ 9223372036854775807)) (hb0 : (-9223372036854775808 ≤ b ∧ b ≤ 9223372036854775807)) (hn0 : (-9223372036854775808 ≤ n ∧ n ≤ 9223372036854775807)) :
    Calls Tryd.prog 17 #[.agg #[.int .i64 vw, .int .i64 vm, .int .i64 vi, s], .agg #[.int .i64 k, .int .i64 a, .int .i64 b, .int .i64 n]] w fun e w' => e = .returned (.string (fxV vw vm vi L k a b n)) ∧ Below w.heap.size w w' := by
  have hml : maxLen = 9223372036854775807 := rfl
  obtain ⟨i0, hi, hz0, hz1, hz2⟩ := info_parts infoStr
  have K1 := Lib.hid (fun W (hb : Below w.heap.size w W) => s_fact vw vm vi L k a b n s W (hs.below hb) hok hL)
  obtain ⟨_, q, cap, rfl, _⟩ := hs
  obtain ⟨b1, hb1⟩ : ∃ x, fcB vw vm vi L k a b n = x := ⟨_, rfl⟩
  obtain ⟨V, hV⟩ : ∃ V, fxV vw vm vi L k a b n = V := ⟨_, rfl⟩
  rw [hV]
  unfold fxV at hV
  rw [hb1] at hV K1
  have HV := Lib.hid hV
  have HFC := Lib.hid (fun h => (fc_facts (hb1.trans h)).2.hk)
  clear hV hb1
  have HB0 := Lib.hid (((Below.refl w.heap.size w).alloc (Nat.le_refl _) (.cells #[.int .i64 vw, .int .i64 vm, .int .i64 vi, .slice q L.length cap] 31)).alloc (by simp) (.cells #[.int .i64 k, .int .i64 a, .int .i64 b, .int .i64 n] 33))
  have X0 := Lib.hid ((cell4_alloc w 31 (.int .i64 vw) (.int .i64 vm) (.int .i64 vi) (.slice q L.length cap)).below ((Below.refl _ _).alloc (Nat.le_refl _) (.cells #[.int .i64 k, .int .i64 a, .int .i64 b, .int .i64 n] 33)))
  have Y0 := Lib.hid (cell4_alloc (w.alloc (.cells #[.int .i64 vw, .int .i64 vm, .int .i64 vi, .slice q L.length cap] 31)) 33 (.int .i64 k) (.int .i64 a) (.int .i64 b) (.int .i64 n))
  rw [show (w.alloc (.cells #[.int .i64 vw, .int .i64 vm, .int .i64 vi, .slice q L.length cap] 31)).heap.size = w.heap.size + 1 by simp] at Y0
  obtain ⟨w0, hw0⟩ : ∃ w0, w0 = (w.alloc (.cells #[.int .i64 vw, .int .i64 vm, .int .i64 vi, .slice q L.length cap] 31)).alloc (.cells #[.int .i64 k, .int .i64 a, .int .i64 b, .int .i64 n] 33) := ⟨_, rfl⟩
  have hs0 : w0.heap.size = w.heap.size + 2 := by rw [hw0]; simp
  rw [← hw0] at HB0 X0 Y0
  obtain ⟨x0, x1, x2, x3⟩ := X0.out
  obtain ⟨y0, y1, y2, y3⟩ := Y0.out
  rw [hw0] at x0 x1 x2 x3 y0 y1 y2 y3
  go_enter Tryd.func17, Tryd.ntmps17
  go_wp2_with fail
  rw [← hw0] at x0 x1 x2 x3 y0 y1 y2 y3 ⊢
  clear hw0
  refine (K1.out _ HB0.out).mono ?_
  rintro e w1 ⟨rfl, hb⟩
  have HB1 := Lib.hid (HB0.out.trans (hb.mono HB0.out.size))
  have Y1 := Lib.hid (Y0.out.below hb)
  have hsz := hb.size
  clear hb x0 x1 x2 x3 y0 y1 y2 y3
  obtain ⟨y0, y1, y2, y3⟩ := Y1.out
  cases b1
  case false =>
    have hv : V = ⟨#[]⟩ := HV.out.symm
    subst hv
    go_wp2
    go_ret
    exact ⟨rfl, HB1.out⟩
  case true =>
    have hk := HFC.out (by trivial)
    have HV2 : Hid (fxT k a b n = V) := Lib.hid HV.out
    have KA := Lib.hid (fun W => s_regname a ha.1 ha.2 W)
    have KG := Lib.hid (fun W => s_regname b hb0.1 hb0.2 W)
    have KB := Lib.hid (fun W => show Calls Tryd.prog 45 #[.int .i64 b] W fun e w' => e = .returned (.string (itB b)) ∧ Below W.heap.size W w' from s_fmt b hb0.1 hb0.2 W)
    have KN := Lib.hid (fun W => show Calls Tryd.prog 45 #[.int .i64 n] W fun e w' => e = .returned (.string (itB n)) ∧ Below W.heap.size W w' from s_fmt n hn0.1 hn0.2 W)
    have KW := Lib.hid (fun W => s_lword k hk W)
    have z1 := itB_len a ha.1 ha.2
    have z2 := itB_len b hb0.1 hb0.2
    have z4 := itB_len n hn0.1 hn0.2
    have z3 := fn_size k
    have hra : (rgB a).size ≤ 22 := by unfold rgB; rw [ByteArray.size_append]; have : (⟨#[114]⟩ : ByteArray).size = 1 := rfl; omega
    have hrb : (rgB b).size ≤ 22 := by unfold rgB; rw [ByteArray.size_append]; have : (⟨#[114]⟩ : ByteArray).size = 1 := rfl; omega
    have hz1x : w.heap.size + 1 < w1.heap.size := by omega
    clear HV HFC
    go_wp2
    clear y0 y1 y2 y3
    have CD := Lib.hid (show Below w1.heap.size w1 w1.drew from (Below.refl _ _).drew)
    have CH := Lib.hid (Below.refl w1.drew.heap.size w1.drew)
    refine region_s [] (fun V => Below w1.drew.heap.size w1.drew V) (by kernel_rfl) ?_
    refine take_s (i := 0) (v := .pointer (some ⟨w.heap.size + 1, 1, none⟩)) rfl (by kernel_rfl) (fun _ _ _ h => h) CH.out rfl (fun V hV => ?_) ?_
    · obtain ⟨y0, y1, y2, y3⟩ := Y1.out.below (CD.out.trans (hV.mono (Nat.le_refl _)))
      go_simp
    refine take_s (i := 1) (v := .int .i64 a) rfl (by kernel_rfl) (fun _ _ _ h => h) CH.out rfl (fun V hV => ?_) ?_
    · obtain ⟨y0, y1, y2, y3⟩ := Y1.out.below (CD.out.trans (hV.mono (Nat.le_refl _)))
      go_simp
    refine take_s (i := 3) (v := .pointer (some ⟨w.heap.size + 1, 0, none⟩)) rfl (by kernel_rfl) (fun _ _ _ h => h) CH.out rfl (fun V hV => ?_) ?_
    · obtain ⟨y0, y1, y2, y3⟩ := Y1.out.below (CD.out.trans (hV.mono (Nat.le_refl _)))
      go_simp
    refine take_s (i := 4) (v := .int .i64 k) rfl (by kernel_rfl) (fun _ _ _ h => h) CH.out rfl (fun V hV => ?_) ?_
    · obtain ⟨y0, y1, y2, y3⟩ := Y1.out.below (CD.out.trans (hV.mono (Nat.le_refl _)))
      go_simp
    refine one_s (i := 2) (by kernel_rfl) (op_list rfl ?_)
    go_wp2_with fail
    refine (KA.out _).mono ?_
    rintro e wx2 ⟨rfl, hb⟩
    replace CH := Lib.hid (CH.out.trans (hb.mono CH.out.size))
    clear hb
    go_wp2
    refine ⟨fun _ => CH.out, ?_⟩
    refine one_s (i := 5) (by kernel_rfl) (op_list rfl ?_)
    go_wp2_with fail
    refine (KW.out _).mono ?_
    rintro e wx5 ⟨rfl, hb⟩
    replace CH := Lib.hid (CH.out.trans (hb.mono CH.out.size))
    clear hb
    go_wp2
    refine ⟨fun _ => CH.out, ?_⟩
    obtain ⟨wv, hwv⟩ : ∃ x, (⟨(fnL k).toArray⟩ : ByteArray) = x := ⟨_, rfl⟩
    have HV3 : Hid (wrV (fkN k) (wrV (fkB k) (rgB a ++ ⟨#[32]⟩ ++ wv) b) n = V) := Lib.hid (by rw [← HV2.out, ← hwv]; rfl)
    rw [hwv] at z3 ⊢
    clear hwv HV2
    have B2 := Lib.hid (HB1.out.trans ((CD.out.trans (CH.out.mono (Nat.le_refl _))).mono HB1.out.size))
    have hs2 := B2.out.size
    have Y2 := Lib.hid (Y1.out.below (CD.out.trans (CH.out.mono (Nat.le_refl _))))
    have hs3 : w.heap.size + 2 ≤ wx5.heap.size := by have := (CD.out.trans (CH.out.mono (Nat.le_refl _))).size; omega
    have O4 := Lib.hid (World.ownsRow_lit (base := w.heap.size + 2) (e := 9) (size := 1) wx5 #[.string (rgB a), .string wv] 2 hs3 (by unfold maxLen; omega) rfl)
    have B5 := Lib.hid (B2.out.alloc hs2 (.cells #[.string (rgB a), .string wv] 9))
    have Y5 := Lib.hid (Y2.out.below ((Below.refl _ _).alloc (Nat.le_refl _) (.cells #[.string (rgB a), .string wv] 9)))
    refine one_s (i := 6) (by kernel_rfl) (op_list rfl ?_)
    go_wp2
    obtain ⟨w5, hw5⟩ : ∃ x, x = wx5.alloc (.cells #[.string (rgB a), .string wv] 9) := ⟨_, rfl⟩
    have hb5 : Below wx5.heap.size wx5 w5 := by rw [hw5]; exact (Below.refl _ _).alloc (Nat.le_refl _) _
    rw [← hw5] at O4 B5 Y5 ⊢
    replace CH := Lib.hid (CH.out.trans (hb5.mono CH.out.size))
    clear hb5 hw5
    refine ⟨fun _ => CH.out, ?_⟩
    refine one_s (i := 7) (by kernel_rfl) (op_list rfl ?_)
    go_wp2
    refine ⟨fun _ => CH.out, done_s (by kernel_rfl) ?_ _⟩
    clear CH CD KA KW B2 Y2 hs2
    have hs5 := B5.out.size
    have hz5 : w.heap.size + 1 < w5.heap.size := World.block_lt_of_cell? _ _ Y5.out.1
    have hz6 : w.heap.size + 2 ≤ w5.heap.size := by omega
    obtain ⟨y0, y1, y2, y3⟩ := Y5.out
    have HJ := Lib.hid (fun (xs : List ByteArray) (n : Nat) (hn : xs.length = n) (h3 : n ≤ 4) (hsz : (⟨(JN xs ⟨#[32]⟩).toArray⟩ : ByteArray).size ≤ 1000) v W (ho : W.ownsRow (w.heap.size + 2) 9 1 v n (xs.map Value.string)) (h0 : 0 < n) => show Calls Tryd.prog 46 #[v, .string ⟨#[32]⟩] W fun e w' => e = .returned (.string ⟨(JN xs ⟨#[32]⟩).toArray⟩) ∧ W = w' by
      rcases id ho.2 with ⟨_, h⟩ | ⟨g, cap, cur, rfl, _⟩
      · omega
      · exact s_join g 0 cap n xs ⟨#[32]⟩ hn (by omega) (by decide) (jn_le _ _ hsz) W (at_own ho))
    rcases hk with rfl | rfl | rfl | rfl | rfl | rfl
    · go_wp2_with fail
      refine (KN.out _).mono ?_
      rintro e w6 ⟨rfl, hbb⟩
      have O6 := Lib.hid (own_keep O4.out hbb)
      have O6s := Lib.hid (show w.heap.size + 2 ≤ w6.heap.size from Nat.le_trans (by omega) hbb.size)
      have B6 := Lib.hid (B5.out.trans (hbb.mono B5.out.size))
      clear hbb
      go_wp2_with (at_builtin; refine wpList_append_own _ rfl _ _ 71 rfl (w.heap.size + 2) 9 i0 (.string ByteArray.empty) 1 16 Tryd.underlying71 hi hz0 hz1 hz2 rfl (by decide) _ 2 _ rfl (O6.out.alloc _) ⟨_, 0, none⟩ 1 1 [.string (itB n)] rfl rfl ?c1 ?c2 ?c3 ?c4 ?c5 ?_)
      case c1 =>
        intro j u hj
        match j, hj with
        | 0, hj => simp at hj; subst hj; simp [Addr.add]
      case c2 => intro u hu; simp at hu; rcases hu with rfl <;> rfl
      case c3 => unfold maxLen; omega
      case c4 => omega
      case c5 => have := B6.out.size; have := O6s.out; simp; omega
      intro v' w9 hown' hgrow _
      have R1 := Lib.hid hown'
      have R2 := Lib.hid ((B6.out.alloc B6.out.size (.cells #[.string (itB n)] 9)).grown hgrow (by have := B6.out.size; simp; omega) (fun q hq => Nat.le_trans (by omega) ((O6.out.lt q hq).1)))
      clear hown' hgrow
      have HVV := Lib.hid (show V = ⟨(JN [rgB a, wv, itB n] ⟨#[32]⟩).toArray⟩ by rw [← HV3.out, jn3]; rfl)
      have hss : (⟨(JN [rgB a, wv, itB n] ⟨#[32]⟩).toArray⟩ : ByteArray).size ≤ 1000 := by rw [jn3]; (try simp only [ByteArray.size_append]); have : (⟨#[32]⟩ : ByteArray).size = 1 := rfl; omega
      have KJ := Lib.hid (HJ.out [rgB a, wv, itB n] 3 rfl (by omega) hss _ _ R1.out (by omega))
      clear hss
      go_wp2_with fail
      refine KJ.out.mono ?_
      rintro e wz ⟨rfl, rfl⟩
      go_wp2
      go_ret
      exact ⟨by rw [HVV.out] <;> rfl, R2.out⟩
    · go_wp2_with fail
      refine (KG.out _).mono ?_
      rintro e w6 ⟨rfl, hbb⟩
      have O6 := Lib.hid (own_keep O4.out hbb)
      have O6s := Lib.hid (show w.heap.size + 2 ≤ w6.heap.size from Nat.le_trans (by omega) hbb.size)
      have B6 := Lib.hid (B5.out.trans (hbb.mono B5.out.size))
      clear hbb
      go_wp2_with (at_builtin; refine wpList_append_own _ rfl _ _ 71 rfl (w.heap.size + 2) 9 i0 (.string ByteArray.empty) 1 16 Tryd.underlying71 hi hz0 hz1 hz2 rfl (by decide) _ 2 _ rfl (O6.out.alloc _) ⟨_, 0, none⟩ 1 1 [.string (rgB b)] rfl rfl ?c1 ?c2 ?c3 ?c4 ?c5 ?_)
      case c1 =>
        intro j u hj
        match j, hj with
        | 0, hj => simp at hj; subst hj; simp [Addr.add]
      case c2 => intro u hu; simp at hu; rcases hu with rfl <;> rfl
      case c3 => unfold maxLen; omega
      case c4 => omega
      case c5 => have := B6.out.size; have := O6s.out; simp; omega
      intro v' w9 hown' hgrow _
      have R1 := Lib.hid hown'
      have R2 := Lib.hid ((B6.out.alloc B6.out.size (.cells #[.string (rgB b)] 9)).grown hgrow (by have := B6.out.size; simp; omega) (fun q hq => Nat.le_trans (by omega) ((O6.out.lt q hq).1)))
      clear hown' hgrow
      have HVV := Lib.hid (show V = ⟨(JN [rgB a, wv, rgB b] ⟨#[32]⟩).toArray⟩ by rw [← HV3.out, jn3, rg_eq]; rfl)
      have hss : (⟨(JN [rgB a, wv, rgB b] ⟨#[32]⟩).toArray⟩ : ByteArray).size ≤ 1000 := by rw [jn3]; (try simp only [ByteArray.size_append]); have : (⟨#[32]⟩ : ByteArray).size = 1 := rfl; omega
      have KJ := Lib.hid (HJ.out [rgB a, wv, rgB b] 3 rfl (by omega) hss _ _ R1.out (by omega))
      clear hss
      go_wp2_with fail
      refine KJ.out.mono ?_
      rintro e wz ⟨rfl, rfl⟩
      go_wp2
      go_ret
      exact ⟨by rw [HVV.out] <;> rfl, R2.out⟩
    · go_wp2_with fail
      refine (KN.out _).mono ?_
      rintro e w6 ⟨rfl, hbb⟩
      have O6 := Lib.hid (own_keep O4.out hbb)
      have O6s := Lib.hid (show w.heap.size + 2 ≤ w6.heap.size from Nat.le_trans (by omega) hbb.size)
      have B6 := Lib.hid (B5.out.trans (hbb.mono B5.out.size))
      clear hbb
      go_wp2_with (at_builtin; refine wpList_append_own _ rfl _ _ 71 rfl (w.heap.size + 2) 9 i0 (.string ByteArray.empty) 1 16 Tryd.underlying71 hi hz0 hz1 hz2 rfl (by decide) _ 2 _ rfl (O6.out.alloc _) ⟨_, 0, none⟩ 1 1 [.string (itB n)] rfl rfl ?c1 ?c2 ?c3 ?c4 ?c5 ?_)
      case c1 =>
        intro j u hj
        match j, hj with
        | 0, hj => simp at hj; subst hj; simp [Addr.add]
      case c2 => intro u hu; simp at hu; rcases hu with rfl <;> rfl
      case c3 => unfold maxLen; omega
      case c4 => omega
      case c5 => have := B6.out.size; have := O6s.out; simp; omega
      intro v' w9 hown' hgrow _
      have R1 := Lib.hid hown'
      have R2 := Lib.hid ((B6.out.alloc B6.out.size (.cells #[.string (itB n)] 9)).grown hgrow (by have := B6.out.size; simp; omega) (fun q hq => Nat.le_trans (by omega) ((O6.out.lt q hq).1)))
      clear hown' hgrow
      have HVV := Lib.hid (show V = ⟨(JN [rgB a, wv, itB n] ⟨#[32]⟩).toArray⟩ by rw [← HV3.out, jn3]; rfl)
      have hss : (⟨(JN [rgB a, wv, itB n] ⟨#[32]⟩).toArray⟩ : ByteArray).size ≤ 1000 := by rw [jn3]; (try simp only [ByteArray.size_append]); have : (⟨#[32]⟩ : ByteArray).size = 1 := rfl; omega
      have KJ := Lib.hid (HJ.out [rgB a, wv, itB n] 3 rfl (by omega) hss _ _ R1.out (by omega))
      clear hss
      go_wp2_with fail
      refine KJ.out.mono ?_
      rintro e wz ⟨rfl, rfl⟩
      go_wp2
      go_ret
      exact ⟨by rw [HVV.out] <;> rfl, R2.out⟩
    · go_wp2
      clear y0 y1 y2 y3
      have CD := Lib.hid (show Below w5.heap.size w5 w5.drew from (Below.refl _ _).drew)
      have YD := Lib.hid (Y5.out.below CD.out)
      have CH := Lib.hid (Below.refl (w.heap.size + 2) w5.drew)
      refine region_s [] (fun V => Below (w.heap.size + 2) w5.drew V) (by kernel_rfl) ?_
      refine take_s (i := 0) (v := .slice (some ⟨wx5.heap.size, 0, none⟩) 2 2) rfl (by kernel_rfl) (fun _ _ _ h => h) CH.out rfl (fun V hV => ?_) ?_
      · have y2 := (hV.cell (p := ⟨w.heap.size + 1, 2, none⟩) (show w.heap.size + 1 < _ by omega)).trans YD.out.2.2.1
        have y3 := (hV.cell (p := ⟨w.heap.size + 1, 3, none⟩) (show w.heap.size + 1 < _ by omega)).trans YD.out.2.2.2
        go_simp
      refine take_s (i := 1) (v := .pointer (some ⟨w.heap.size + 1, 2, none⟩)) rfl (by kernel_rfl) (fun _ _ _ h => h) CH.out rfl (fun V hV => ?_) ?_
      · have y2 := (hV.cell (p := ⟨w.heap.size + 1, 2, none⟩) (show w.heap.size + 1 < _ by omega)).trans YD.out.2.2.1
        have y3 := (hV.cell (p := ⟨w.heap.size + 1, 3, none⟩) (show w.heap.size + 1 < _ by omega)).trans YD.out.2.2.2
        go_simp
      refine take_s (i := 2) (v := .int .i64 b) rfl (by kernel_rfl) (fun _ _ _ h => h) CH.out rfl (fun V hV => ?_) ?_
      · have y2 := (hV.cell (p := ⟨w.heap.size + 1, 2, none⟩) (show w.heap.size + 1 < _ by omega)).trans YD.out.2.2.1
        have y3 := (hV.cell (p := ⟨w.heap.size + 1, 3, none⟩) (show w.heap.size + 1 < _ by omega)).trans YD.out.2.2.2
        go_simp
      refine take_s (i := 4) (v := .pointer (some ⟨w.heap.size + 1, 3, none⟩)) rfl (by kernel_rfl) (fun _ _ _ h => h) CH.out rfl (fun V hV => ?_) ?_
      · have y2 := (hV.cell (p := ⟨w.heap.size + 1, 2, none⟩) (show w.heap.size + 1 < _ by omega)).trans YD.out.2.2.1
        have y3 := (hV.cell (p := ⟨w.heap.size + 1, 3, none⟩) (show w.heap.size + 1 < _ by omega)).trans YD.out.2.2.2
        go_simp
      refine take_s (i := 5) (v := .int .i64 n) rfl (by kernel_rfl) (fun _ _ _ h => h) CH.out rfl (fun V hV => ?_) ?_
      · have y2 := (hV.cell (p := ⟨w.heap.size + 1, 2, none⟩) (show w.heap.size + 1 < _ by omega)).trans YD.out.2.2.1
        have y3 := (hV.cell (p := ⟨w.heap.size + 1, 3, none⟩) (show w.heap.size + 1 < _ by omega)).trans YD.out.2.2.2
        go_simp
      have CO := Lib.hid CD.out
      refine one_s (i := 3) (by kernel_rfl) (op_list rfl ?_)
      go_wp2_with fail
      refine (KB.out _).mono ?_
      rintro e wx3 ⟨rfl, hb⟩
      have hm := CH.out.size
      replace CH := Lib.hid (CH.out.trans (hb.mono (Nat.le_trans hz6 hm)))
      replace CO := Lib.hid (CO.out.trans (hb.mono CO.out.size))
      clear hb hm
      go_wp2
      refine ⟨fun _ => CH.out, ?_⟩
      refine one_s (i := 6) (by kernel_rfl) (op_list rfl ?_)
      go_wp2_with fail
      refine (KN.out _).mono ?_
      rintro e wx6 ⟨rfl, hb⟩
      have hm := CH.out.size
      replace CH := Lib.hid (CH.out.trans (hb.mono (Nat.le_trans hz6 hm)))
      replace CO := Lib.hid (CO.out.trans (hb.mono CO.out.size))
      clear hb hm
      go_wp2
      refine ⟨fun _ => CH.out, ?_⟩
      have O6 := Lib.hid (own_keep O4.out CO.out)
      have B6 := Lib.hid (B5.out.trans (CO.out.mono B5.out.size))
      have O6s := Lib.hid (show w.heap.size + 2 ≤ wx6.heap.size from Nat.le_trans hz6 CO.out.size)
      refine one_s (i := 7) (by kernel_rfl) (op_list rfl ?_)
      go_wp2
      refine ⟨fun _ => (CH.out.alloc O6s.out _), ?_⟩
      refine one_s (i := 8) (by kernel_rfl) (op_list rfl ?_)
      refine wpList_append_own _ rfl _ _ 71 rfl (w.heap.size + 2) 9 i0 (.string ByteArray.empty) 1 16 Tryd.underlying71 hi hz0 hz1 hz2 rfl (by decide) _ 2 _ rfl (O6.out.alloc _) ⟨_, 0, none⟩ 2 2 [.string (itB b), .string (itB n)] rfl rfl ?c1 ?c2 ?c3 ?c4 ?c5 ?_
      case c1 =>
        intro j u hj
        match j, hj with
        | 0, hj => simp at hj; subst hj; simp [Addr.add]
        | 1, hj => simp at hj; subst hj; simp [Addr.add]
      case c2 => intro u hu; simp at hu; rcases hu with rfl | rfl <;> rfl
      case c3 => unfold maxLen; omega
      case c4 => omega
      case c5 => have := B6.out.size; have := O6s.out; simp; omega
      intro v' w9 hown' hgrow _
      have R1 := Lib.hid hown'
      have R2 := Lib.hid ((B6.out.alloc B6.out.size (.cells #[.string (itB b), .string (itB n)] 9)).grown hgrow (by have := B6.out.size; simp; omega) (fun q hq => Nat.le_trans (by omega) ((O6.out.lt q hq).1)))
      have R3 := Lib.hid ((CH.out.alloc O6s.out (.cells #[.string (itB b), .string (itB n)] 9)).grown hgrow (by have := O6s.out; simp; omega) (fun q hq => ((O6.out.lt q hq).1)))
      clear hown' hgrow
      go_wp2
      refine ⟨fun _ => R3.out, ?_⟩
      refine one_s (i := 9) (by kernel_rfl) (op_list rfl ?_)
      go_wp2
      refine ⟨fun _ => R3.out, done_s (by kernel_rfl) ?_ _⟩
      have HVV := Lib.hid (show V = ⟨(JN [rgB a, wv, itB b, itB n] ⟨#[32]⟩).toArray⟩ by rw [← HV3.out, jn4]; rfl)
      have hss : (⟨(JN [rgB a, wv, itB b, itB n] ⟨#[32]⟩).toArray⟩ : ByteArray).size ≤ 1000 := by rw [jn4]; (try simp only [ByteArray.size_append]); have : (⟨#[32]⟩ : ByteArray).size = 1 := rfl; omega
      have KJ := Lib.hid (HJ.out [rgB a, wv, itB b, itB n] 4 rfl (by omega) hss _ _ R1.out (by omega))
      clear hss
      go_wp2_with fail
      refine KJ.out.mono ?_
      rintro e wz ⟨rfl, rfl⟩
      go_wp2
      go_ret
      exact ⟨by rw [HVV.out] <;> rfl, R2.out⟩
    · go_wp2
      clear y0 y1 y2 y3
      have CD := Lib.hid (show Below w5.heap.size w5 w5.drew from (Below.refl _ _).drew)
      have YD := Lib.hid (Y5.out.below CD.out)
      have CH := Lib.hid (Below.refl (w.heap.size + 2) w5.drew)
      refine region_s [] (fun V => Below (w.heap.size + 2) w5.drew V) (by kernel_rfl) ?_
      refine take_s (i := 0) (v := .slice (some ⟨wx5.heap.size, 0, none⟩) 2 2) rfl (by kernel_rfl) (fun _ _ _ h => h) CH.out rfl (fun V hV => ?_) ?_
      · have y2 := (hV.cell (p := ⟨w.heap.size + 1, 2, none⟩) (show w.heap.size + 1 < _ by omega)).trans YD.out.2.2.1
        have y3 := (hV.cell (p := ⟨w.heap.size + 1, 3, none⟩) (show w.heap.size + 1 < _ by omega)).trans YD.out.2.2.2
        go_simp
      refine take_s (i := 1) (v := .pointer (some ⟨w.heap.size + 1, 2, none⟩)) rfl (by kernel_rfl) (fun _ _ _ h => h) CH.out rfl (fun V hV => ?_) ?_
      · have y2 := (hV.cell (p := ⟨w.heap.size + 1, 2, none⟩) (show w.heap.size + 1 < _ by omega)).trans YD.out.2.2.1
        have y3 := (hV.cell (p := ⟨w.heap.size + 1, 3, none⟩) (show w.heap.size + 1 < _ by omega)).trans YD.out.2.2.2
        go_simp
      refine take_s (i := 2) (v := .int .i64 b) rfl (by kernel_rfl) (fun _ _ _ h => h) CH.out rfl (fun V hV => ?_) ?_
      · have y2 := (hV.cell (p := ⟨w.heap.size + 1, 2, none⟩) (show w.heap.size + 1 < _ by omega)).trans YD.out.2.2.1
        have y3 := (hV.cell (p := ⟨w.heap.size + 1, 3, none⟩) (show w.heap.size + 1 < _ by omega)).trans YD.out.2.2.2
        go_simp
      refine take_s (i := 4) (v := .pointer (some ⟨w.heap.size + 1, 3, none⟩)) rfl (by kernel_rfl) (fun _ _ _ h => h) CH.out rfl (fun V hV => ?_) ?_
      · have y2 := (hV.cell (p := ⟨w.heap.size + 1, 2, none⟩) (show w.heap.size + 1 < _ by omega)).trans YD.out.2.2.1
        have y3 := (hV.cell (p := ⟨w.heap.size + 1, 3, none⟩) (show w.heap.size + 1 < _ by omega)).trans YD.out.2.2.2
        go_simp
      refine take_s (i := 5) (v := .int .i64 n) rfl (by kernel_rfl) (fun _ _ _ h => h) CH.out rfl (fun V hV => ?_) ?_
      · have y2 := (hV.cell (p := ⟨w.heap.size + 1, 2, none⟩) (show w.heap.size + 1 < _ by omega)).trans YD.out.2.2.1
        have y3 := (hV.cell (p := ⟨w.heap.size + 1, 3, none⟩) (show w.heap.size + 1 < _ by omega)).trans YD.out.2.2.2
        go_simp
      have CO := Lib.hid CD.out
      refine one_s (i := 3) (by kernel_rfl) (op_list rfl ?_)
      go_wp2_with fail
      refine (KG.out _).mono ?_
      rintro e wx3 ⟨rfl, hb⟩
      have hm := CH.out.size
      replace CH := Lib.hid (CH.out.trans (hb.mono (Nat.le_trans hz6 hm)))
      replace CO := Lib.hid (CO.out.trans (hb.mono CO.out.size))
      clear hb hm
      go_wp2
      refine ⟨fun _ => CH.out, ?_⟩
      refine one_s (i := 6) (by kernel_rfl) (op_list rfl ?_)
      go_wp2_with fail
      refine (KN.out _).mono ?_
      rintro e wx6 ⟨rfl, hb⟩
      have hm := CH.out.size
      replace CH := Lib.hid (CH.out.trans (hb.mono (Nat.le_trans hz6 hm)))
      replace CO := Lib.hid (CO.out.trans (hb.mono CO.out.size))
      clear hb hm
      go_wp2
      refine ⟨fun _ => CH.out, ?_⟩
      have O6 := Lib.hid (own_keep O4.out CO.out)
      have B6 := Lib.hid (B5.out.trans (CO.out.mono B5.out.size))
      have O6s := Lib.hid (show w.heap.size + 2 ≤ wx6.heap.size from Nat.le_trans hz6 CO.out.size)
      refine one_s (i := 7) (by kernel_rfl) (op_list rfl ?_)
      go_wp2
      refine ⟨fun _ => (CH.out.alloc O6s.out _), ?_⟩
      refine one_s (i := 8) (by kernel_rfl) (op_list rfl ?_)
      refine wpList_append_own _ rfl _ _ 71 rfl (w.heap.size + 2) 9 i0 (.string ByteArray.empty) 1 16 Tryd.underlying71 hi hz0 hz1 hz2 rfl (by decide) _ 2 _ rfl (O6.out.alloc _) ⟨_, 0, none⟩ 2 2 [.string (rgB b), .string (itB n)] rfl rfl ?c1 ?c2 ?c3 ?c4 ?c5 ?_
      case c1 =>
        intro j u hj
        match j, hj with
        | 0, hj => simp at hj; subst hj; simp [Addr.add]
        | 1, hj => simp at hj; subst hj; simp [Addr.add]
      case c2 => intro u hu; simp at hu; rcases hu with rfl | rfl <;> rfl
      case c3 => unfold maxLen; omega
      case c4 => omega
      case c5 => have := B6.out.size; have := O6s.out; simp; omega
      intro v' w9 hown' hgrow _
      have R1 := Lib.hid hown'
      have R2 := Lib.hid ((B6.out.alloc B6.out.size (.cells #[.string (rgB b), .string (itB n)] 9)).grown hgrow (by have := B6.out.size; simp; omega) (fun q hq => Nat.le_trans (by omega) ((O6.out.lt q hq).1)))
      have R3 := Lib.hid ((CH.out.alloc O6s.out (.cells #[.string (rgB b), .string (itB n)] 9)).grown hgrow (by have := O6s.out; simp; omega) (fun q hq => ((O6.out.lt q hq).1)))
      clear hown' hgrow
      go_wp2
      refine ⟨fun _ => R3.out, ?_⟩
      refine one_s (i := 9) (by kernel_rfl) (op_list rfl ?_)
      go_wp2
      refine ⟨fun _ => R3.out, done_s (by kernel_rfl) ?_ _⟩
      have HVV := Lib.hid (show V = ⟨(JN [rgB a, wv, rgB b, itB n] ⟨#[32]⟩).toArray⟩ by rw [← HV3.out, jn4, rg_eq]; rfl)
      have hss : (⟨(JN [rgB a, wv, rgB b, itB n] ⟨#[32]⟩).toArray⟩ : ByteArray).size ≤ 1000 := by rw [jn4]; (try simp only [ByteArray.size_append]); have : (⟨#[32]⟩ : ByteArray).size = 1 := rfl; omega
      have KJ := Lib.hid (HJ.out [rgB a, wv, rgB b, itB n] 4 rfl (by omega) hss _ _ R1.out (by omega))
      clear hss
      go_wp2_with fail
      refine KJ.out.mono ?_
      rintro e wz ⟨rfl, rfl⟩
      go_wp2
      go_ret
      exact ⟨by rw [HVV.out] <;> rfl, R2.out⟩
    · go_wp2_with fail
      refine (KG.out _).mono ?_
      rintro e w6 ⟨rfl, hbb⟩
      have O6 := Lib.hid (own_keep O4.out hbb)
      have O6s := Lib.hid (show w.heap.size + 2 ≤ w6.heap.size from Nat.le_trans (by omega) hbb.size)
      have B6 := Lib.hid (B5.out.trans (hbb.mono B5.out.size))
      clear hbb
      go_wp2_with (at_builtin; refine wpList_append_own _ rfl _ _ 71 rfl (w.heap.size + 2) 9 i0 (.string ByteArray.empty) 1 16 Tryd.underlying71 hi hz0 hz1 hz2 rfl (by decide) _ 2 _ rfl (O6.out.alloc _) ⟨_, 0, none⟩ 1 1 [.string (rgB b)] rfl rfl ?c1 ?c2 ?c3 ?c4 ?c5 ?_)
      case c1 =>
        intro j u hj
        match j, hj with
        | 0, hj => simp at hj; subst hj; simp [Addr.add]
      case c2 => intro u hu; simp at hu; rcases hu with rfl <;> rfl
      case c3 => unfold maxLen; omega
      case c4 => omega
      case c5 => have := B6.out.size; have := O6s.out; simp; omega
      intro v' w9 hown' hgrow _
      have R1 := Lib.hid hown'
      have R2 := Lib.hid ((B6.out.alloc B6.out.size (.cells #[.string (rgB b)] 9)).grown hgrow (by have := B6.out.size; simp; omega) (fun q hq => Nat.le_trans (by omega) ((O6.out.lt q hq).1)))
      clear hown' hgrow
      have HVV := Lib.hid (show V = ⟨(JN [rgB a, wv, rgB b] ⟨#[32]⟩).toArray⟩ by rw [← HV3.out, jn3, rg_eq]; rfl)
      have hss : (⟨(JN [rgB a, wv, rgB b] ⟨#[32]⟩).toArray⟩ : ByteArray).size ≤ 1000 := by rw [jn3]; (try simp only [ByteArray.size_append]); have : (⟨#[32]⟩ : ByteArray).size = 1 := rfl; omega
      have KJ := Lib.hid (HJ.out [rgB a, wv, rgB b] 3 rfl (by omega) hss _ _ R1.out (by omega))
      clear hss
      go_wp2_with fail
      refine KJ.out.mono ?_
      rintro e wz ⟨rfl, rfl⟩
      go_wp2
      go_ret
      exact ⟨by rw [HVV.out] <;> rfl, R2.out⟩
end Go.Proofs.YtcihgechijiamaaDoor
