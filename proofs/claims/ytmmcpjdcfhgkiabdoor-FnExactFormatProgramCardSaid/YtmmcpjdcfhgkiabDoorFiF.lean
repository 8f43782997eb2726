/- What the specification's FormatIns returns. No condition. -/
import Derived.Test.YtmmcpjdcfhgkiabDoorFiS
import Derived.Test.YtmmcpjdcfhgkiabDoorPrS
import Derived.Test.YtmmcpjdcfhgkiabDoorSJoin
namespace Go.Proofs.YtmmcpjdcfhgkiabDoor
open Go.ChangeShapes Go.WideShapes Go.ChangeAt Go.RowKit
theorem rg_eq (s : ByteArray) (n : Int) : s ++ (⟨#[32]⟩ : ByteArray) ++ rgB n = s ++ (⟨#[32, 114]⟩ : ByteArray) ++ itB n := by
  unfold rgB
  rw [ByteArray.append_assoc, ← ByteArray.append_assoc (a := (⟨#[32]⟩ : ByteArray)), ← ByteArray.append_assoc]
  rfl
theorem jn1 (x p : ByteArray) : (⟨(JN [x] p).toArray⟩ : ByteArray) = x := by
  have h := JN_one [x] p (by simp)
  apply ByteArray.ext
  apply Array.ext'
  simpa using h
theorem jn2 (x y p : ByteArray) : (⟨(JN [x, y] p).toArray⟩ : ByteArray) = x ++ p ++ y := by
  have h := JN_succ [x, y] p 1 (by simp) (by omega)
  simp only [List.take_succ_cons, List.take_zero, List.getElem_cons_succ, List.getElem_cons_zero] at h
  rw [jn1] at h
  exact h.symm
theorem jn3 (x y z p : ByteArray) : (⟨(JN [x, y, z] p).toArray⟩ : ByteArray) = x ++ p ++ y ++ p ++ z := by
  have h := JN_succ [x, y, z] p 2 (by simp) (by omega)
  simp only [List.take_succ_cons, List.take_zero, List.getElem_cons_succ, List.getElem_cons_zero] at h
  rw [jn2] at h
  exact h.symm
theorem at_own {w : World} {base g cap n : Nat} {xs : List ByteArray} (h : w.ownsRow base 9 1 (.slice (some ⟨g, 0, none⟩) n cap) n (xs.map Value.string)) : At w g 0 (xs.map Value.string) := fun j u hu => by
  have hj := (List.getElem?_eq_some_iff.1 hu).1
  rw [Nat.zero_add, h.cellAt j (by have := h.1; omega)]
  exact hu
theorem jn_le (xs : List ByteArray) (p : ByteArray) (h : (⟨(JN xs p).toArray⟩ : ByteArray).size ≤ 1000) : (JN xs p).length ≤ 140737488355328 := by
  have e : (⟨(JN xs p).toArray⟩ : ByteArray).size = (JN xs p).length := by simp [ByteArray.size]
  omega
set_option maxRecDepth 100000 in
set_option maxHeartbeats 8000000 in
theorem s_format (op a b c wd size : Int) (ha : -9223372036854775808 ≤ a ∧ a ≤ 9223372036854775807) (hb : -9223372036854775808 ≤ b ∧ b ≤ 9223372036854775807) (w : World) :
    Calls Tryd.prog 12 #[.agg #[.int .i64 op, .int .i64 a, .int .i64 b, .int .i64 c], .int .i64 wd, .int .i64 size] w fun e w' => e = .returned (.string (fiV ⟨op, a, b, c⟩ wd size)) ∧ Below w.heap.size w w' := by
  obtain ⟨i0, hi, hz0, hz1, hz2⟩ := info_parts infoStr
  have HB0 := Lib.hid ((Below.refl w.heap.size w).alloc (Nat.le_refl _) (.cells #[.int .i64 op, .int .i64 a, .int .i64 b, .int .i64 c] 39))
  have X0 := Lib.hid (cell4_alloc w 39 (.int .i64 op) (.int .i64 a) (.int .i64 b) (.int .i64 c))
  obtain ⟨w0, hw0⟩ : ∃ w0, w0 = w.alloc (.cells #[.int .i64 op, .int .i64 a, .int .i64 b, .int .i64 c] 39) := ⟨_, rfl⟩
  have hs0 : w0.heap.size = w.heap.size + 1 := by rw [hw0]; simp
  rw [← hw0] at HB0 X0
  obtain ⟨b1, hb1⟩ : ∃ x, (decide (2 ≤ wd) && decide (wd ≤ 8)) = x := ⟨_, rfl⟩
  obtain ⟨b2, hb2⟩ : ∃ x, (decide (1 ≤ size) && decide (size ≤ 40)) = x := ⟨_, rfl⟩
  obtain ⟨b3, hb3⟩ : ∃ x, insB ⟨op, a, b, c⟩ wd size = x := ⟨_, rfl⟩
  have K1 := Lib.hid (fun W => s_rng wd 2 8 b1 hb1 W)
  have K2 := Lib.hid (fun W => s_rng size 1 40 b2 hb2 W)
  have K3 := Lib.hid (fun W => s_ins op a b c wd size W)
  rw [hb3] at K3
  obtain ⟨V, hV⟩ : ∃ V, fiV ⟨op, a, b, c⟩ wd size = V := ⟨_, rfl⟩
  rw [hV]
  unfold fiV fiB at hV
  rw [hb1, hb2, hb3] at hV
  have HV := Lib.hid hV
  clear hV hb1 hb2
  obtain ⟨x0, x1, x2, x3⟩ := X0.out
  rw [hw0] at x0 x1 x2 x3
  go_enter Tryd.func12, Tryd.ntmps12
  go_wp2_with fail
  rw [← hw0] at x0 x1 x2 x3 ⊢
  clear hw0
  refine (K1.out _).mono ?_
  rintro e wx ⟨rfl, rfl⟩
  cases b1
  case false =>
    have hv : V = ⟨#[]⟩ := HV.out.symm
    subst hv
    go_wp2
    go_ret
    exact ⟨rfl, HB0.out⟩
  case true =>
    go_wp2_with fail
    refine (K2.out _).mono ?_
    rintro e wx ⟨rfl, rfl⟩
    cases b2
    case false =>
      have hv : V = ⟨#[]⟩ := HV.out.symm
      subst hv
      go_wp2
      go_ret
      exact ⟨rfl, HB0.out⟩
    case true =>
      go_wp2_with fail
      refine (K3.out _).mono ?_
      rintro e w1 ⟨rfl, hbb⟩
      have HB1 := Lib.hid (HB0.out.trans (hbb.mono HB0.out.size))
      have X1 := Lib.hid (X0.out.below hbb)
      clear hbb x0 x1 x2 x3
      obtain ⟨x0, x1, x2, x3⟩ := X1.out
      cases b3
      case false =>
        have hv : V = ⟨#[]⟩ := HV.out.symm
        subst hv
        go_wp2
        go_ret
        exact ⟨rfl, HB1.out⟩
      case true =>
        have hop : 1 ≤ op ∧ op ≤ 14 := by
          by_cases h : op < 1 ∨ 14 < op
          · rw [ins_out (r := ⟨op, a, b, c⟩) h] at hb3; cases hb3
          · omega
        have HV2 : Hid (wrV (fB op) (wrV (fA op) (wdV op c) a) b = V) := Lib.hid HV.out
        have KA := Lib.hid (fun W => s_regname a ha.1 ha.2 W)
        have KG := Lib.hid (fun W => s_regname b hb.1 hb.2 W)
        have KB := Lib.hid (fun W => show Calls Tryd.prog 21 #[.int .i64 b] W fun e w' => e = .returned (.string (itB b)) ∧ Below W.heap.size W w' from s_fmt b hb.1 hb.2 W)
        have KW := Lib.hid (fun W => s_word op a b c wd size hb3 W)
        have z1 := itB_len a ha.1 ha.2
        have z2 := itB_len b hb.1 hb.2
        have z3 := wd_size op c
        have hra : (rgB a).size ≤ 22 := by unfold rgB; rw [ByteArray.size_append]; have : (⟨#[114]⟩ : ByteArray).size = 1 := rfl; omega
        have hrb : (rgB b).size ≤ 22 := by unfold rgB; rw [ByteArray.size_append]; have : (⟨#[114]⟩ : ByteArray).size = 1 := rfl; omega
        clear HV hb3
        go_wp2_with fail
        refine (KA.out _).mono ?_
        rintro e w2 ⟨rfl, hbb⟩
        have HB2 := Lib.hid (HB1.out.trans (hbb.mono HB1.out.size))
        have X2 := Lib.hid (X1.out.below hbb)
        clear hbb x0 x1 x2 x3
        obtain ⟨x0, x1, x2, x3⟩ := X2.out
        go_wp2_with fail
        refine (KB.out _).mono ?_
        rintro e w3 ⟨rfl, hbb⟩
        have HB3 := Lib.hid (HB2.out.trans (hbb.mono HB2.out.size))
        have X3 := Lib.hid (X2.out.below hbb)
        clear hbb x0 x1 x2 x3
        obtain ⟨x0, x1, x2, x3⟩ := X3.out
        go_wp2_with fail
        refine (KW.out _).mono ?_
        rintro e w4 ⟨rfl, hbb⟩
        have HB4 := Lib.hid (HB3.out.trans (hbb.mono HB3.out.size))
        have X4 := Lib.hid (X3.out.below hbb)
        have hs4 := HB4.out.size
        have hz4 : w.heap.size < w4.heap.size := World.block_lt_of_cell? _ _ X4.out.1
        clear hbb x0 x1 x2 x3
        obtain ⟨x0, x1, x2, x3⟩ := X4.out
        obtain ⟨wv, hwv⟩ : ∃ x, wdV op c = x := ⟨_, rfl⟩
        rw [hwv] at HV2 z3 ⊢
        have O4 := Lib.hid (World.ownsRow_lit (base := w.heap.size) (e := 9) (size := 1) w4 #[.string wv] 1 hs4 (by unfold maxLen; omega) rfl)
        have B5 := Lib.hid (HB4.out.alloc hs4 (.cells #[.string wv] 9))
        clear hwv KA KB KW
        have HJ := Lib.hid (fun (xs : List ByteArray) (n : Nat) (hn : xs.length = n) (h3 : n ≤ 3) (hsz : (⟨(JN xs ⟨#[32]⟩).toArray⟩ : ByteArray).size ≤ 1000) v W (ho : W.ownsRow w.heap.size 9 1 v n (xs.map Value.string)) (h0 : 0 < n) => show Calls Tryd.prog 22 #[v, .string ⟨#[32]⟩] W fun e w' => e = .returned (.string ⟨(JN xs ⟨#[32]⟩).toArray⟩) ∧ W = w' by
          rcases id ho.2 with ⟨_, h⟩ | ⟨g, cap, cur, rfl, _⟩
          · omega
          · exact s_join g 0 cap n xs ⟨#[32]⟩ hn (by omega) (by decide) (jn_le _ _ hsz) W (at_own ho))
        rcases op_cases op with rfl | rfl | rfl | rfl | rfl | rfl | rfl | rfl | rfl | rfl | rfl | rfl | rfl | rfl | hbad
        case inr.inr.inr.inr.inr.inr.inr.inr.inr.inr.inr.inr.inr.inr => omega
        · -- 1
          go_wp2_with (at_builtin; refine wpList_append_own _ rfl _ _ 46 rfl w.heap.size 9 i0 (.string ByteArray.empty) 1 16 Tryd.underlying46 hi hz0 hz1 hz2 rfl (by decide) _ 1 _ rfl (O4.out.alloc _) ⟨_, 0, none⟩ 2 2 [.string (rgB a), .string (itB b)] rfl rfl ?c1 ?c2 ?c3 ?c4 ?c5 ?_)
          case c1 =>
            intro j u hj
            match j, hj with
            | 0, hj => simp at hj; subst hj; simp [Addr.add]
            | 1, hj => simp at hj; subst hj; simp [Addr.add]
          case c2 => intro u hu; simp at hu; rcases hu with rfl | rfl <;> rfl
          case c3 => unfold maxLen; omega
          case c4 => omega
          case c5 => have := B5.out.size; simp; omega
          intro v' w6 hown' hgrow _
          have R1 := Lib.hid hown'
          have R2 := Lib.hid ((B5.out.alloc B5.out.size (.cells #[.string (rgB a), .string (itB b)] 9)).grown hgrow (by have := B5.out.size; simp; omega) (fun q hq => ((O4.out.lt q hq).1)))
          clear hown' hgrow
          have HVV := Lib.hid (show V = ⟨(JN [wv, rgB a, itB b] ⟨#[32]⟩).toArray⟩ by rw [← HV2.out, jn3, rg_eq]; rfl)
          have hss : (⟨(JN [wv, rgB a, itB b] ⟨#[32]⟩).toArray⟩ : ByteArray).size ≤ 1000 := by rw [jn3]; (try simp only [ByteArray.size_append]); have : (⟨#[32]⟩ : ByteArray).size = 1 := rfl; omega
          have KJ := Lib.hid (HJ.out [wv, rgB a, itB b] 3 rfl (by omega) hss _ _ R1.out (by omega))
          clear hss
          go_wp2_with fail
          refine KJ.out.mono ?_
          rintro e w9 ⟨rfl, rfl⟩
          go_wp2
          go_ret
          exact ⟨by rw [HVV.out] <;> rfl, R2.out⟩
        · -- 2
          go_wp2_with fail
          refine (KG.out _).mono ?_
          rintro e w5 ⟨rfl, hbb⟩
          have O5 := Lib.hid (own_keep O4.out hbb)
          have B6 := Lib.hid (B5.out.trans (hbb.mono B5.out.size))
          clear hbb
          go_wp2_with (at_builtin; refine wpList_append_own _ rfl _ _ 46 rfl w.heap.size 9 i0 (.string ByteArray.empty) 1 16 Tryd.underlying46 hi hz0 hz1 hz2 rfl (by decide) _ 1 _ rfl (O5.out.alloc _) ⟨_, 0, none⟩ 2 2 [.string (rgB a), .string (rgB b)] rfl rfl ?c1 ?c2 ?c3 ?c4 ?c5 ?_)
          case c1 =>
            intro j u hj
            match j, hj with
            | 0, hj => simp at hj; subst hj; simp [Addr.add]
            | 1, hj => simp at hj; subst hj; simp [Addr.add]
          case c2 => intro u hu; simp at hu; rcases hu with rfl | rfl <;> rfl
          case c3 => unfold maxLen; omega
          case c4 => omega
          case c5 => have := B6.out.size; simp; omega
          intro v' w6 hown' hgrow _
          have R1 := Lib.hid hown'
          have R2 := Lib.hid ((B6.out.alloc B6.out.size (.cells #[.string (rgB a), .string (rgB b)] 9)).grown hgrow (by have := B6.out.size; simp; omega) (fun q hq => ((O5.out.lt q hq).1)))
          clear hown' hgrow
          have HVV := Lib.hid (show V = ⟨(JN [wv, rgB a, rgB b] ⟨#[32]⟩).toArray⟩ by rw [← HV2.out, jn3, rg_eq, rg_eq]; rfl)
          have hss : (⟨(JN [wv, rgB a, rgB b] ⟨#[32]⟩).toArray⟩ : ByteArray).size ≤ 1000 := by rw [jn3]; (try simp only [ByteArray.size_append]); have : (⟨#[32]⟩ : ByteArray).size = 1 := rfl; omega
          have KJ := Lib.hid (HJ.out [wv, rgB a, rgB b] 3 rfl (by omega) hss _ _ R1.out (by omega))
          clear hss
          go_wp2_with fail
          refine KJ.out.mono ?_
          rintro e w9 ⟨rfl, rfl⟩
          go_wp2
          go_ret
          exact ⟨by rw [HVV.out] <;> rfl, R2.out⟩
        · -- 3
          go_wp2_with fail
          refine (KG.out _).mono ?_
          rintro e w5 ⟨rfl, hbb⟩
          have O5 := Lib.hid (own_keep O4.out hbb)
          have B6 := Lib.hid (B5.out.trans (hbb.mono B5.out.size))
          clear hbb
          go_wp2_with (at_builtin; refine wpList_append_own _ rfl _ _ 46 rfl w.heap.size 9 i0 (.string ByteArray.empty) 1 16 Tryd.underlying46 hi hz0 hz1 hz2 rfl (by decide) _ 1 _ rfl (O5.out.alloc _) ⟨_, 0, none⟩ 2 2 [.string (rgB a), .string (rgB b)] rfl rfl ?c1 ?c2 ?c3 ?c4 ?c5 ?_)
          case c1 =>
            intro j u hj
            match j, hj with
            | 0, hj => simp at hj; subst hj; simp [Addr.add]
            | 1, hj => simp at hj; subst hj; simp [Addr.add]
          case c2 => intro u hu; simp at hu; rcases hu with rfl | rfl <;> rfl
          case c3 => unfold maxLen; omega
          case c4 => omega
          case c5 => have := B6.out.size; simp; omega
          intro v' w6 hown' hgrow _
          have R1 := Lib.hid hown'
          have R2 := Lib.hid ((B6.out.alloc B6.out.size (.cells #[.string (rgB a), .string (rgB b)] 9)).grown hgrow (by have := B6.out.size; simp; omega) (fun q hq => ((O5.out.lt q hq).1)))
          clear hown' hgrow
          have HVV := Lib.hid (show V = ⟨(JN [wv, rgB a, rgB b] ⟨#[32]⟩).toArray⟩ by rw [← HV2.out, jn3, rg_eq, rg_eq]; rfl)
          have hss : (⟨(JN [wv, rgB a, rgB b] ⟨#[32]⟩).toArray⟩ : ByteArray).size ≤ 1000 := by rw [jn3]; (try simp only [ByteArray.size_append]); have : (⟨#[32]⟩ : ByteArray).size = 1 := rfl; omega
          have KJ := Lib.hid (HJ.out [wv, rgB a, rgB b] 3 rfl (by omega) hss _ _ R1.out (by omega))
          clear hss
          go_wp2_with fail
          refine KJ.out.mono ?_
          rintro e w9 ⟨rfl, rfl⟩
          go_wp2
          go_ret
          exact ⟨by rw [HVV.out] <;> rfl, R2.out⟩
        · -- 4
          go_wp2_with (at_builtin; refine wpList_append_own _ rfl _ _ 46 rfl w.heap.size 9 i0 (.string ByteArray.empty) 1 16 Tryd.underlying46 hi hz0 hz1 hz2 rfl (by decide) _ 1 _ rfl (O4.out.alloc _) ⟨_, 0, none⟩ 1 1 [.string (rgB a)] rfl rfl ?c1 ?c2 ?c3 ?c4 ?c5 ?_)
          case c1 =>
            intro j u hj
            match j, hj with
            | 0, hj => simp at hj; subst hj; simp [Addr.add]
          case c2 => intro u hu; simp at hu; rcases hu with rfl <;> rfl
          case c3 => unfold maxLen; omega
          case c4 => omega
          case c5 => have := B5.out.size; simp; omega
          intro v' w6 hown' hgrow _
          have R1 := Lib.hid hown'
          have R2 := Lib.hid ((B5.out.alloc B5.out.size (.cells #[.string (rgB a)] 9)).grown hgrow (by have := B5.out.size; simp; omega) (fun q hq => ((O4.out.lt q hq).1)))
          clear hown' hgrow
          have HVV := Lib.hid (show V = ⟨(JN [wv, rgB a] ⟨#[32]⟩).toArray⟩ by rw [← HV2.out, jn2, rg_eq]; rfl)
          have hss : (⟨(JN [wv, rgB a] ⟨#[32]⟩).toArray⟩ : ByteArray).size ≤ 1000 := by rw [jn2]; (try simp only [ByteArray.size_append]); have : (⟨#[32]⟩ : ByteArray).size = 1 := rfl; omega
          have KJ := Lib.hid (HJ.out [wv, rgB a] 2 rfl (by omega) hss _ _ R1.out (by omega))
          clear hss
          go_wp2_with fail
          refine KJ.out.mono ?_
          rintro e w9 ⟨rfl, rfl⟩
          go_wp2
          go_ret
          exact ⟨by rw [HVV.out] <;> rfl, R2.out⟩
        · -- 5
          go_wp2_with (at_builtin; refine wpList_append_own _ rfl _ _ 46 rfl w.heap.size 9 i0 (.string ByteArray.empty) 1 16 Tryd.underlying46 hi hz0 hz1 hz2 rfl (by decide) _ 1 _ rfl (O4.out.alloc _) ⟨_, 0, none⟩ 1 1 [.string (rgB a)] rfl rfl ?c1 ?c2 ?c3 ?c4 ?c5 ?_)
          case c1 =>
            intro j u hj
            match j, hj with
            | 0, hj => simp at hj; subst hj; simp [Addr.add]
          case c2 => intro u hu; simp at hu; rcases hu with rfl <;> rfl
          case c3 => unfold maxLen; omega
          case c4 => omega
          case c5 => have := B5.out.size; simp; omega
          intro v' w6 hown' hgrow _
          have R1 := Lib.hid hown'
          have R2 := Lib.hid ((B5.out.alloc B5.out.size (.cells #[.string (rgB a)] 9)).grown hgrow (by have := B5.out.size; simp; omega) (fun q hq => ((O4.out.lt q hq).1)))
          clear hown' hgrow
          have HVV := Lib.hid (show V = ⟨(JN [wv, rgB a] ⟨#[32]⟩).toArray⟩ by rw [← HV2.out, jn2, rg_eq]; rfl)
          have hss : (⟨(JN [wv, rgB a] ⟨#[32]⟩).toArray⟩ : ByteArray).size ≤ 1000 := by rw [jn2]; (try simp only [ByteArray.size_append]); have : (⟨#[32]⟩ : ByteArray).size = 1 := rfl; omega
          have KJ := Lib.hid (HJ.out [wv, rgB a] 2 rfl (by omega) hss _ _ R1.out (by omega))
          clear hss
          go_wp2_with fail
          refine KJ.out.mono ?_
          rintro e w9 ⟨rfl, rfl⟩
          go_wp2
          go_ret
          exact ⟨by rw [HVV.out] <;> rfl, R2.out⟩
        · -- 6
          go_wp2_with (at_builtin; refine wpList_append_own _ rfl _ _ 46 rfl w.heap.size 9 i0 (.string ByteArray.empty) 1 16 Tryd.underlying46 hi hz0 hz1 hz2 rfl (by decide) _ 1 _ rfl (O4.out.alloc _) ⟨_, 0, none⟩ 1 1 [.string (rgB a)] rfl rfl ?c1 ?c2 ?c3 ?c4 ?c5 ?_)
          case c1 =>
            intro j u hj
            match j, hj with
            | 0, hj => simp at hj; subst hj; simp [Addr.add]
          case c2 => intro u hu; simp at hu; rcases hu with rfl <;> rfl
          case c3 => unfold maxLen; omega
          case c4 => omega
          case c5 => have := B5.out.size; simp; omega
          intro v' w6 hown' hgrow _
          have R1 := Lib.hid hown'
          have R2 := Lib.hid ((B5.out.alloc B5.out.size (.cells #[.string (rgB a)] 9)).grown hgrow (by have := B5.out.size; simp; omega) (fun q hq => ((O4.out.lt q hq).1)))
          clear hown' hgrow
          have HVV := Lib.hid (show V = ⟨(JN [wv, rgB a] ⟨#[32]⟩).toArray⟩ by rw [← HV2.out, jn2, rg_eq]; rfl)
          have hss : (⟨(JN [wv, rgB a] ⟨#[32]⟩).toArray⟩ : ByteArray).size ≤ 1000 := by rw [jn2]; (try simp only [ByteArray.size_append]); have : (⟨#[32]⟩ : ByteArray).size = 1 := rfl; omega
          have KJ := Lib.hid (HJ.out [wv, rgB a] 2 rfl (by omega) hss _ _ R1.out (by omega))
          clear hss
          go_wp2_with fail
          refine KJ.out.mono ?_
          rintro e w9 ⟨rfl, rfl⟩
          go_wp2
          go_ret
          exact ⟨by rw [HVV.out] <;> rfl, R2.out⟩
        · -- 7
          go_wp2_with fail
          refine (KG.out _).mono ?_
          rintro e w5 ⟨rfl, hbb⟩
          have O5 := Lib.hid (own_keep O4.out hbb)
          have B6 := Lib.hid (B5.out.trans (hbb.mono B5.out.size))
          clear hbb
          go_wp2_with (at_builtin; refine wpList_append_own _ rfl _ _ 46 rfl w.heap.size 9 i0 (.string ByteArray.empty) 1 16 Tryd.underlying46 hi hz0 hz1 hz2 rfl (by decide) _ 1 _ rfl (O5.out.alloc _) ⟨_, 0, none⟩ 2 2 [.string (rgB a), .string (rgB b)] rfl rfl ?c1 ?c2 ?c3 ?c4 ?c5 ?_)
          case c1 =>
            intro j u hj
            match j, hj with
            | 0, hj => simp at hj; subst hj; simp [Addr.add]
            | 1, hj => simp at hj; subst hj; simp [Addr.add]
          case c2 => intro u hu; simp at hu; rcases hu with rfl | rfl <;> rfl
          case c3 => unfold maxLen; omega
          case c4 => omega
          case c5 => have := B6.out.size; simp; omega
          intro v' w6 hown' hgrow _
          have R1 := Lib.hid hown'
          have R2 := Lib.hid ((B6.out.alloc B6.out.size (.cells #[.string (rgB a), .string (rgB b)] 9)).grown hgrow (by have := B6.out.size; simp; omega) (fun q hq => ((O5.out.lt q hq).1)))
          clear hown' hgrow
          have HVV := Lib.hid (show V = ⟨(JN [wv, rgB a, rgB b] ⟨#[32]⟩).toArray⟩ by rw [← HV2.out, jn3, rg_eq, rg_eq]; rfl)
          have hss : (⟨(JN [wv, rgB a, rgB b] ⟨#[32]⟩).toArray⟩ : ByteArray).size ≤ 1000 := by rw [jn3]; (try simp only [ByteArray.size_append]); have : (⟨#[32]⟩ : ByteArray).size = 1 := rfl; omega
          have KJ := Lib.hid (HJ.out [wv, rgB a, rgB b] 3 rfl (by omega) hss _ _ R1.out (by omega))
          clear hss
          go_wp2_with fail
          refine KJ.out.mono ?_
          rintro e w9 ⟨rfl, rfl⟩
          go_wp2
          go_ret
          exact ⟨by rw [HVV.out] <;> rfl, R2.out⟩
        · -- 8
          go_wp2_with fail
          refine (KG.out _).mono ?_
          rintro e w5 ⟨rfl, hbb⟩
          have O5 := Lib.hid (own_keep O4.out hbb)
          have B6 := Lib.hid (B5.out.trans (hbb.mono B5.out.size))
          clear hbb
          go_wp2_with (at_builtin; refine wpList_append_own _ rfl _ _ 46 rfl w.heap.size 9 i0 (.string ByteArray.empty) 1 16 Tryd.underlying46 hi hz0 hz1 hz2 rfl (by decide) _ 1 _ rfl (O5.out.alloc _) ⟨_, 0, none⟩ 2 2 [.string (rgB a), .string (rgB b)] rfl rfl ?c1 ?c2 ?c3 ?c4 ?c5 ?_)
          case c1 =>
            intro j u hj
            match j, hj with
            | 0, hj => simp at hj; subst hj; simp [Addr.add]
            | 1, hj => simp at hj; subst hj; simp [Addr.add]
          case c2 => intro u hu; simp at hu; rcases hu with rfl | rfl <;> rfl
          case c3 => unfold maxLen; omega
          case c4 => omega
          case c5 => have := B6.out.size; simp; omega
          intro v' w6 hown' hgrow _
          have R1 := Lib.hid hown'
          have R2 := Lib.hid ((B6.out.alloc B6.out.size (.cells #[.string (rgB a), .string (rgB b)] 9)).grown hgrow (by have := B6.out.size; simp; omega) (fun q hq => ((O5.out.lt q hq).1)))
          clear hown' hgrow
          have HVV := Lib.hid (show V = ⟨(JN [wv, rgB a, rgB b] ⟨#[32]⟩).toArray⟩ by rw [← HV2.out, jn3, rg_eq, rg_eq]; rfl)
          have hss : (⟨(JN [wv, rgB a, rgB b] ⟨#[32]⟩).toArray⟩ : ByteArray).size ≤ 1000 := by rw [jn3]; (try simp only [ByteArray.size_append]); have : (⟨#[32]⟩ : ByteArray).size = 1 := rfl; omega
          have KJ := Lib.hid (HJ.out [wv, rgB a, rgB b] 3 rfl (by omega) hss _ _ R1.out (by omega))
          clear hss
          go_wp2_with fail
          refine KJ.out.mono ?_
          rintro e w9 ⟨rfl, rfl⟩
          go_wp2
          go_ret
          exact ⟨by rw [HVV.out] <;> rfl, R2.out⟩
        · -- 9
          go_wp2_with (at_builtin; refine wpList_append_own _ rfl _ _ 46 rfl w.heap.size 9 i0 (.string ByteArray.empty) 1 16 Tryd.underlying46 hi hz0 hz1 hz2 rfl (by decide) _ 1 _ rfl (O4.out.alloc _) ⟨_, 0, none⟩ 1 1 [.string (itB b)] rfl rfl ?c1 ?c2 ?c3 ?c4 ?c5 ?_)
          case c1 =>
            intro j u hj
            match j, hj with
            | 0, hj => simp at hj; subst hj; simp [Addr.add]
          case c2 => intro u hu; simp at hu; rcases hu with rfl <;> rfl
          case c3 => unfold maxLen; omega
          case c4 => omega
          case c5 => have := B5.out.size; simp; omega
          intro v' w6 hown' hgrow _
          have R1 := Lib.hid hown'
          have R2 := Lib.hid ((B5.out.alloc B5.out.size (.cells #[.string (itB b)] 9)).grown hgrow (by have := B5.out.size; simp; omega) (fun q hq => ((O4.out.lt q hq).1)))
          clear hown' hgrow
          have HVV := Lib.hid (show V = ⟨(JN [wv, itB b] ⟨#[32]⟩).toArray⟩ by rw [← HV2.out, jn2]; rfl)
          have hss : (⟨(JN [wv, itB b] ⟨#[32]⟩).toArray⟩ : ByteArray).size ≤ 1000 := by rw [jn2]; (try simp only [ByteArray.size_append]); have : (⟨#[32]⟩ : ByteArray).size = 1 := rfl; omega
          have KJ := Lib.hid (HJ.out [wv, itB b] 2 rfl (by omega) hss _ _ R1.out (by omega))
          clear hss
          go_wp2_with fail
          refine KJ.out.mono ?_
          rintro e w9 ⟨rfl, rfl⟩
          go_wp2
          go_ret
          exact ⟨by rw [HVV.out] <;> rfl, R2.out⟩
        · -- 10
          go_wp2_with (at_builtin; refine wpList_append_own _ rfl _ _ 46 rfl w.heap.size 9 i0 (.string ByteArray.empty) 1 16 Tryd.underlying46 hi hz0 hz1 hz2 rfl (by decide) _ 1 _ rfl (O4.out.alloc _) ⟨_, 0, none⟩ 2 2 [.string (rgB a), .string (itB b)] rfl rfl ?c1 ?c2 ?c3 ?c4 ?c5 ?_)
          case c1 =>
            intro j u hj
            match j, hj with
            | 0, hj => simp at hj; subst hj; simp [Addr.add]
            | 1, hj => simp at hj; subst hj; simp [Addr.add]
          case c2 => intro u hu; simp at hu; rcases hu with rfl | rfl <;> rfl
          case c3 => unfold maxLen; omega
          case c4 => omega
          case c5 => have := B5.out.size; simp; omega
          intro v' w6 hown' hgrow _
          have R1 := Lib.hid hown'
          have R2 := Lib.hid ((B5.out.alloc B5.out.size (.cells #[.string (rgB a), .string (itB b)] 9)).grown hgrow (by have := B5.out.size; simp; omega) (fun q hq => ((O4.out.lt q hq).1)))
          clear hown' hgrow
          have HVV := Lib.hid (show V = ⟨(JN [wv, rgB a, itB b] ⟨#[32]⟩).toArray⟩ by rw [← HV2.out, jn3, rg_eq]; rfl)
          have hss : (⟨(JN [wv, rgB a, itB b] ⟨#[32]⟩).toArray⟩ : ByteArray).size ≤ 1000 := by rw [jn3]; (try simp only [ByteArray.size_append]); have : (⟨#[32]⟩ : ByteArray).size = 1 := rfl; omega
          have KJ := Lib.hid (HJ.out [wv, rgB a, itB b] 3 rfl (by omega) hss _ _ R1.out (by omega))
          clear hss
          go_wp2_with fail
          refine KJ.out.mono ?_
          rintro e w9 ⟨rfl, rfl⟩
          go_wp2
          go_ret
          exact ⟨by rw [HVV.out] <;> rfl, R2.out⟩
        · -- 11
          go_wp2_with (at_builtin; refine wpList_append_own _ rfl _ _ 46 rfl w.heap.size 9 i0 (.string ByteArray.empty) 1 16 Tryd.underlying46 hi hz0 hz1 hz2 rfl (by decide) _ 1 _ rfl (O4.out.alloc _) ⟨_, 0, none⟩ 1 1 [.string (itB b)] rfl rfl ?c1 ?c2 ?c3 ?c4 ?c5 ?_)
          case c1 =>
            intro j u hj
            match j, hj with
            | 0, hj => simp at hj; subst hj; simp [Addr.add]
          case c2 => intro u hu; simp at hu; rcases hu with rfl <;> rfl
          case c3 => unfold maxLen; omega
          case c4 => omega
          case c5 => have := B5.out.size; simp; omega
          intro v' w6 hown' hgrow _
          have R1 := Lib.hid hown'
          have R2 := Lib.hid ((B5.out.alloc B5.out.size (.cells #[.string (itB b)] 9)).grown hgrow (by have := B5.out.size; simp; omega) (fun q hq => ((O4.out.lt q hq).1)))
          clear hown' hgrow
          have HVV := Lib.hid (show V = ⟨(JN [wv, itB b] ⟨#[32]⟩).toArray⟩ by rw [← HV2.out, jn2]; rfl)
          have hss : (⟨(JN [wv, itB b] ⟨#[32]⟩).toArray⟩ : ByteArray).size ≤ 1000 := by rw [jn2]; (try simp only [ByteArray.size_append]); have : (⟨#[32]⟩ : ByteArray).size = 1 := rfl; omega
          have KJ := Lib.hid (HJ.out [wv, itB b] 2 rfl (by omega) hss _ _ R1.out (by omega))
          clear hss
          go_wp2_with fail
          refine KJ.out.mono ?_
          rintro e w9 ⟨rfl, rfl⟩
          go_wp2
          go_ret
          exact ⟨by rw [HVV.out] <;> rfl, R2.out⟩
        · -- 12
          have HVV := Lib.hid (show V = ⟨(JN [wv] ⟨#[32]⟩).toArray⟩ by rw [← HV2.out, jn1]; rfl)
          have hss : (⟨(JN [wv] ⟨#[32]⟩).toArray⟩ : ByteArray).size ≤ 1000 := by rw [jn1]; (try simp only [ByteArray.size_append]); have : (⟨#[32]⟩ : ByteArray).size = 1 := rfl; omega
          have KJ := Lib.hid (HJ.out [wv] 1 rfl (by omega) hss _ _ O4.out (by omega))
          clear hss
          go_wp2_with fail
          refine KJ.out.mono ?_
          rintro e w9 ⟨rfl, rfl⟩
          go_wp2
          go_ret
          exact ⟨by rw [HVV.out] <;> rfl, B5.out⟩
        · -- 13
          go_wp2_with (at_builtin; refine wpList_append_own _ rfl _ _ 46 rfl w.heap.size 9 i0 (.string ByteArray.empty) 1 16 Tryd.underlying46 hi hz0 hz1 hz2 rfl (by decide) _ 1 _ rfl (O4.out.alloc _) ⟨_, 0, none⟩ 1 1 [.string (rgB a)] rfl rfl ?c1 ?c2 ?c3 ?c4 ?c5 ?_)
          case c1 =>
            intro j u hj
            match j, hj with
            | 0, hj => simp at hj; subst hj; simp [Addr.add]
          case c2 => intro u hu; simp at hu; rcases hu with rfl <;> rfl
          case c3 => unfold maxLen; omega
          case c4 => omega
          case c5 => have := B5.out.size; simp; omega
          intro v' w6 hown' hgrow _
          have R1 := Lib.hid hown'
          have R2 := Lib.hid ((B5.out.alloc B5.out.size (.cells #[.string (rgB a)] 9)).grown hgrow (by have := B5.out.size; simp; omega) (fun q hq => ((O4.out.lt q hq).1)))
          clear hown' hgrow
          have HVV := Lib.hid (show V = ⟨(JN [wv, rgB a] ⟨#[32]⟩).toArray⟩ by rw [← HV2.out, jn2, rg_eq]; rfl)
          have hss : (⟨(JN [wv, rgB a] ⟨#[32]⟩).toArray⟩ : ByteArray).size ≤ 1000 := by rw [jn2]; (try simp only [ByteArray.size_append]); have : (⟨#[32]⟩ : ByteArray).size = 1 := rfl; omega
          have KJ := Lib.hid (HJ.out [wv, rgB a] 2 rfl (by omega) hss _ _ R1.out (by omega))
          clear hss
          go_wp2_with fail
          refine KJ.out.mono ?_
          rintro e w9 ⟨rfl, rfl⟩
          go_wp2
          go_ret
          exact ⟨by rw [HVV.out] <;> rfl, R2.out⟩
        · -- 14
          have HVV := Lib.hid (show V = ⟨(JN [wv] ⟨#[32]⟩).toArray⟩ by rw [← HV2.out, jn1]; rfl)
          have hss : (⟨(JN [wv] ⟨#[32]⟩).toArray⟩ : ByteArray).size ≤ 1000 := by rw [jn1]; (try simp only [ByteArray.size_append]); have : (⟨#[32]⟩ : ByteArray).size = 1 := rfl; omega
          have KJ := Lib.hid (HJ.out [wv] 1 rfl (by omega) hss _ _ O4.out (by omega))
          clear hss
          go_wp2_with fail
          refine KJ.out.mono ?_
          rintro e w9 ⟨rfl, rfl⟩
          go_wp2
          go_ret
          exact ⟨by rw [HVV.out] <;> rfl, B5.out⟩
end Go.Proofs.YtmmcpjdcfhgkiabDoor
