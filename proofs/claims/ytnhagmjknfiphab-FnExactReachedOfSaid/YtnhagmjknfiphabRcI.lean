/- What the program's ReachedOf returns. No condition. -/
import Derived.Test.YtnhagmjknfiphabRcM
import Derived.Test.YtnhagmjknfiphabOwAt
import Derived.Test.YtnhagmjknfiphabReg
import Derived.Test.YtnhagmjknfiphabNxI
namespace Go.Proofs.Ytnhagmjknfiphab
open Go.ChangeShapes Go.WideShapes Go.ChangeAt Go.RowKit
/-- slices.Contains on a row of ints that is owned and not empty -/
theorem own_contains {w : World} {base n g c : Nat} (R : List Int) (x : Int) (hn : R.length = n) (ho : w.ownsRow base 3 1 (.slice (some ⟨g, 0, none⟩) n c) n (IntL.all R)) (hb : n ≤ 9223372036854775807) :
    Calls Try.prog 35 #[.slice (some ⟨g, 0, none⟩) n c, .int .i64 x] w fun e w' => e = .returned (.bool (decide (x ∈ R))) ∧ w = w' := by
  refine (Try.slices_Contains_int g 0 n c R x w (by omega) hb (fun j hj => ?_)).mono fun e w' ⟨he, hw⟩ => ⟨?_, hw.symm⟩
  · have := ho.cells (g := g) rfl j (.int .i64 (R.getD j 0)) (by rw [IntL.all_map, List.getElem?_map, List.getElem?_eq_getElem hj, List.getD_eq_getElem?_getD, List.getElem?_eq_getElem hj]; rfl)
    simpa [Addr.add_lit] using this
  · rw [he, List.take_of_length_le (by omega), List.contains_eq_mem]
set_option maxRecDepth 100000 in
set_option maxHeartbeats 4000000 in
theorem i_reached (vw vm vi : Int) (L : List InsR) (s : Value) (w : World) (hs : Cs.Shows w 0 4 s L.length (InsR.all L)) (hok : ∀ r ∈ L, r.Ok) (hL : L.length ≤ maxLen) :
    Calls Try.prog 17 #[.agg #[.int .i64 vw, .int .i64 vm, .int .i64 vi, s]] w (NxOwn (rcV vw vm vi L) w) := by
  have hml : maxLen = 9223372036854775807 := rfl
  have K1 := Lib.hid (fun W (hb : Below w.heap.size w W) => i_prog vw vm vi L s W (hs.below hb) hok hL)
  have KN := Lib.hid (fun pc W (hb : Below w.heap.size w W) => i_next vw vm vi L s pc W (hs.below hb) hok hL)
  obtain ⟨_, q, cap, rfl, _⟩ := hs
  obtain ⟨b1, hb1⟩ : ∃ B, prB vw vm vi L = B := ⟨_, rfl⟩
  rw [hb1] at K1
  obtain ⟨V, hV⟩ : ∃ V, rcV vw vm vi L = V := ⟨_, rfl⟩
  rw [hV]
  have HV := Lib.hid hV
  clear hV
  obtain ⟨i9, hi9, hz9, hzs9, hzb9⟩ := info_parts zero_Int
  obtain ⟨w0, hw0⟩ : ∃ w0, w0 = w.alloc (.cells #[.int .i64 vw, .int .i64 vm, .int .i64 vi, .slice q L.length cap] 30) := ⟨_, rfl⟩
  have HB0 := Lib.hid (show Below w.heap.size w w0 by rw [hw0]; exact (Below.refl _ _).alloc (Nat.le_refl _) _)
  have hs0 : w0.heap.size = w.heap.size + 1 := by rw [hw0]; simp
  have XR0 := Lib.hid (show w0.heap[w.heap.size]? = some (.cells #[.int .i64 vw, .int .i64 vm, .int .i64 vi, .slice q L.length cap] 30 (0, 0)) by rw [hw0]; exact heap_alloc_new _ _)
  obtain ⟨x0, x1, x2, x3⟩ := cell4_row XR0.out
  rw [hw0] at x0 x1 x2 x3
  go_enter Try.func17, Try.ntmps17
  go_wp2_with fail
  rw [← hw0]
  clear hw0 x0 x1 x2 x3
  refine (K1.out _ HB0.out).mono ?_
  rintro e w1 ⟨rfl, hb⟩
  have HB1 := Lib.hid (HB0.out.trans (hb.mono HB0.out.size))
  have XR1 := Lib.hid ((hb.block w.heap.size (by omega)).trans XR0.out)
  have hs1 := hb.size
  have hz1' : w.heap.size + 1 ≤ w1.heap.size := by omega
  clear hb hs1 hs0
  cases b1
  case false =>
    have hv : V = [] := by rw [← HV.out]; unfold rcV; rw [hb1]; simp
    subst hv
    go_wp2
    go_ret
    exact nx_none rfl HB1.out
  case true =>
    obtain ⟨⟨-, -, -, -, -, -, -, hl1, hl40⟩, -⟩ := pr_in hb1
    have hv : V = ascP (Rch vw vm vi L) (L.length + 1) := by rw [← HV.out]; unfold rcV; rw [if_pos hb1]
    have HW := Lib.hid hv
    clear hv HV
    obtain ⟨w3, hw3⟩ : ∃ W, W = w1.alloc (.cells #[.int .i64 0] 3) := ⟨_, rfl⟩
    have hb3 : Below w1.heap.size w1 w3 := by rw [hw3]; exact (Below.refl _ _).alloc (Nat.le_refl _) _
    have RS := Lib.hid (show w3.ownsRow w.heap.size 3 1 (.slice (some ⟨w1.heap.size, 0, none⟩) 1 1) 1 (IntL.all [0]) by rw [hw3]; exact World.ownsRow_lit (base := w.heap.size) (e := 3) (size := 1) w1 #[.int .i64 0] 1 (by omega) (by omega) rfl)
    have HB3 := Lib.hid (HB1.out.trans (hb3.mono HB1.out.size))
    have XR3 := Lib.hid ((hb3.block w.heap.size (by omega)).trans XR1.out)
    clear hb3
    go_wp2
    rw [← hw3]
    clear hw3
    go_loopw [3, 4] (fun rv kv wr => ∃ (R : List Int) (k : Nat), RcI vw vm vi L R k 0 ∧ kv = .int .i64 k ∧ wr.ownsRow w.heap.size 3 1 rv R.length (IntL.all R) ∧ Below w.heap.size w wr ∧ wr.heap[w.heap.size]? = some (.cells #[.int .i64 vw, .int .i64 vm, .int .i64 vi, .slice q L.length cap] 30 (0, 0))) (fun _ kv _ => L.length + 1 - (intOf kv).toNat)
    case atStart => exact ⟨[0], 0, rci_start vw vm vi L, rfl, RS.out, HB3.out, XR3.out⟩
    case round =>
      obtain ⟨R, k, hR, rfl, ho, hB, hX⟩ := hrel
      obtain ⟨g, c, rfl, hgb, hgl⟩ := own_frm ho (List.length_pos_of_mem hR.2.2.1)
      have OR := Lib.hid ho
      have HBr := Lib.hid hB
      have XRr := Lib.hid hX
      have HI := Lib.hid hR
      have hsr := hB.size
      have hwx := row_lt hX
      have hRl := rci_len hR
      have hkl := hR.2.2.2.2.1
      clear ho hB hX hR
      by_cases hkn : k < R.length
      case pos =>
        have hki : (k : Int) < (R.length : Int) := by omega
        obtain ⟨x0v, hx0⟩ : ∃ x, R.getD k 0 = x := ⟨_, rfl⟩
        have cR : wr.cell? ⟨g, k, none⟩ = some (.int .i64 x0v) := by
          rw [OR.out.cellAt k (by omega), IntL.all_map, List.getElem?_map, List.getElem?_eq_getElem hkn, ← hx0, List.getD_eq_getElem?_getD, List.getElem?_eq_getElem hkn]; rfl
        obtain ⟨X, hX⟩ : ∃ X, nxL vw vm vi L x0v = X := ⟨_, rfl⟩
        have KX := Lib.hid (KN.out x0v wr.drew HBr.out.drew)
        have hnl := nxL_len vw vm vi L x0v
        rw [hX] at KX hnl
        unfold NxOwn at KX
        have HX := Lib.hid hX
        have HX0 := Lib.hid hx0
        clear hX hx0
        obtain ⟨y0, y1, y2, y3⟩ := cell4_row XRr.out
        have CH := Lib.hid (Below.refl wr.drew.heap.size wr.drew)
        go_wp2
        refine region_s [] (fun V => Below wr.drew.heap.size wr.drew V) (by kernel_rfl) ?_
        refine take_s (i := 0) (v := .agg #[.int .i64 vw, .int .i64 vm, .int .i64 vi, .slice q L.length cap]) rfl (by kernel_rfl) (fun _ _ _ h => h) CH.out rfl (fun V hV => ?_) ?_
        · obtain ⟨y0, y1, y2, y3⟩ := cell4_row ((hV.block w.heap.size hwx).trans XRr.out)
          go_simp
        refine take_s (i := 1) (v := .slice (some ⟨g, 0, none⟩) R.length c) rfl (by kernel_rfl) (fun _ _ _ h => h) CH.out rfl (fun V hV => ?_) ?_
        · go_simp
        refine take_s (i := 2) (v := .int .i64 k) rfl (by kernel_rfl) (fun _ _ _ h => h) CH.out rfl (fun V hV => ?_) ?_
        · go_simp
        refine take_s (i := 3) (v := .pointer (some ⟨g, k, none⟩)) rfl (by kernel_rfl) (fun _ _ _ h => h) CH.out rfl (fun V hV => ?_) ?_
        · have hki2 := hki
          go_simp
        refine take_s (i := 4) (v := .int .i64 x0v) rfl (by kernel_rfl) (fun _ _ _ h => h) CH.out rfl (fun V hV => ?_) ?_
        · have cR2 : V.cell? ⟨g, k, none⟩ = some (.int .i64 x0v) := (World.cell?_of_block (hV.block g hgl)).trans cR
          go_simp
        refine take_s (i := 7) (v := .int .i64 0) rfl (by kernel_rfl) (fun _ _ _ h => h) CH.out rfl (fun V hV => ?_) ?_
        · go_simp
        refine one_s (i := 5) (by kernel_rfl) (op_list rfl ?_)
        go_wp2_with fail
        refine KX.out.mono ?_
        rintro e w6 ⟨hb, nq, nc, rfl, hox⟩
        have OX := Lib.hid (own_base hox (base' := wr.heap.size) (Nat.le_refl _))
        have hbr : Below wr.heap.size wr w6 := (Below.refl wr.heap.size wr).drew.trans hb
        have HB6 := Lib.hid (HBr.out.trans (hbr.mono hsr))
        have XR6 := Lib.hid ((hbr.block w.heap.size hwx).trans XRr.out)
        have OR6 := Lib.hid (own_keep OR.out hbr)
        have AP6 : Hid (∀ b ∈ (Value.slice (some ⟨g, 0, none⟩) R.length c).ownBlock.toList, b ∉ (Value.slice nq X.length nc).ownBlock.toList) := Lib.hid (fun b hb1 hb2 => by
          have h1 := (own_lt OR.out hb1).2
          have h2 := (own_lt OX.out hb2).1
          omega)
        have hs6 := HB6.out.size
        have CH6 := Lib.hid hb
        clear hb hbr hox y0 y1 y2 y3 cR KX
        go_wp2
        refine ⟨fun _ => CH6.out, ?_⟩
        refine one_s (i := 6) (by kernel_rfl) (op_list rfl ?_)
        go_wp2
        refine ⟨fun _ => CH6.out, done_s (by kernel_rfl) ?_ _⟩
        go_wp2
        go_loopw [3, 24] (fun rv iv w9 => ∃ (R2 : List Int) (i : Nat), RcI vw vm vi L R2 k i ∧ k < R2.length ∧ R2.getD k 0 = x0v ∧ i ≤ X.length ∧ iv = .int .i64 i ∧ w9.ownsRow w.heap.size 3 1 rv R2.length (IntL.all R2) ∧ w9.ownsRow wr.heap.size 3 1 (.slice nq X.length nc) X.length (IntL.all X) ∧ (∀ b ∈ rv.ownBlock.toList, b ∉ (Value.slice nq X.length nc).ownBlock.toList) ∧ Below w.heap.size w w9 ∧ w9.heap[w.heap.size]? = some (.cells #[.int .i64 vw, .int .i64 vm, .int .i64 vi, .slice q L.length cap] 30 (0, 0))) (fun _ iv _ => X.length - (intOf iv).toNat)
        case atStart => exact ⟨R, 0, HI.out, hkn, HX0.out, Nat.zero_le _, rfl, OR6.out, OX.out, AP6.out, HB6.out, XR6.out⟩
        case round =>
          obtain ⟨R2, i, hR2, hk2, hg2, hi, rfl, ho, hox, hap, hB, hX9⟩ := hrel
          rename World => w9
          obtain ⟨g2, c2, rfl, hgb2, hgl2⟩ := own_frm ho (by omega)
          have O9 := Lib.hid ho
          have OX9 := Lib.hid hox
          have AP9 := Lib.hid hap
          have HB9 := Lib.hid hB
          have XR9 := Lib.hid hX9
          have HI9 := Lib.hid hR2
          have HG9 := Lib.hid hg2
          have hs9 := hB.size
          have hRl2 := rci_len hR2
          clear ho hox hap hB hX9 hR2 hg2
          by_cases hin : i < X.length
          case pos =>
            obtain ⟨xq, xc, rfl, hxb, hxl⟩ : ∃ g cap, nq = some ⟨g, 0, none⟩ ∧ cap = nc ∧ wr.heap.size ≤ g ∧ g < w9.heap.size := by
              obtain ⟨g, cap, hv, h1, h2⟩ := own_frm OX9.out (by omega)
              injection hv with e1 _ e3
              exact ⟨g, cap, e1, e3.symm, h1, h2⟩
            subst hxb
            have hii : (i : Int) < (X.length : Int) := by omega
            have cX : w9.cell? ⟨xq, i, none⟩ = some (.int .i64 X[i]) := by
              rw [OX9.out.cellAt i (by omega), IntL.all_map, List.getElem?_map, List.getElem?_eq_getElem hin]; rfl
            by_cases hm : X[i] ∈ R2
            case pos =>
              have KC := Lib.hid (own_contains R2 X[i] rfl O9.out (by omega))
              rw [decide_eq_true hm] at KC
              have HN := Lib.hid (rci_in2 HI9.out HG9.out HX.out hin hm)
              clear hm
              generalize X[i] = z at *
              go_wp2_with fail
              refine KC.out.mono ?_
              rintro e w10 ⟨rfl, rfl⟩
              go_wp2
              go_roundw
              case rel => exact ⟨R2, i + 1, HN.out, hk2, HG9.out, by omega, by go_num, O9.out, OX9.out, AP9.out, HB9.out, XR9.out⟩
              case measure => simp [intOf]; omega
            case neg =>
              have KC := Lib.hid (own_contains R2 X[i] rfl O9.out (by omega))
              rw [decide_eq_false hm] at KC
              have HN := Lib.hid (rci_put2 HI9.out hk2 HG9.out HX.out hin hm)
              clear hm
              generalize X[i] = z at *
              have HG10 := Lib.hid (show (R2 ++ [z]).getD k 0 = x0v by rw [getD_app hk2]; exact HG9.out)
              go_wp2_with fail
              refine KC.out.mono ?_
              rintro e w10 ⟨rfl, rfl⟩
              go_wp2_with (at_builtin; refine wpList_append_own_at _ rfl _ _ 26 rfl w.heap.size 3 i9 (.int .i64 0) 1 8 Try.underlying26 hi9 hz9 hzs9 hzb9 rfl (by decide) (.slice (some ⟨g2, 0, none⟩) R2.length c2) R2.length _ rfl (own_keep O9.out ((Below.refl _ _).alloc (Nat.le_refl _) _)) _ 1 1 [.int .i64 z] rfl rfl ?c1 ?c2 ?c3 ?c4 ?c5 ?_)
              case c1 => exact cell_one_new _ _ _
              case c2 => intro u hu; simp at hu; subst hu; rfl
              case c3 => omega
              case c4 => omega
              case c5 => simp; omega
              intro v' w11 hown hgrow _ hat
              have hal2 : Below w9.heap.size w9 (w9.alloc (.cells #[.int .i64 z] 3)) := (Below.refl _ _).alloc (Nat.le_refl _) _
              have O11 := Lib.hid (show w11.ownsRow w.heap.size 3 1 v' (R2 ++ [z]).length (IntL.all (R2 ++ [z])) by rw [List.length_append, IntL.all_map, List.map_append, ← IntL.all_map]; exact hown)
              have OX11 := Lib.hid (own_same (own_keep OX9.out hal2) (fun b hb => hgrow.block b (own_lt (own_keep OX9.out hal2) hb).2 (fun h => AP9.out b (by rw [← h]; simp) hb)))
              have AP11 : Hid (∀ b ∈ v'.ownBlock.toList, b ∉ (Value.slice (some ⟨xq, 0, none⟩) X.length xc).ownBlock.toList) := Lib.hid (fun b hb hb2 => by
                rcases hat with h | h
                · rw [h] at hb; exact AP9.out b hb hb2
                · rw [h] at hb
                  have h3 := (own_lt OX9.out hb2).2
                  simp at hb
                  omega)
              have HB11 := Lib.hid ((HB9.out.alloc hs9 (.cells #[.int .i64 z] 3)).grown hgrow (by simp; omega) (fun b hb => (own_lt O9.out (g := b) (by rw [hb]; simp)).1))
              have XR11 := Lib.hid ((hgrow.block w.heap.size (by have := row_lt XR9.out; simp; omega) (fun h => by
                have h2 := own_off3 (T := 30) (by decide) O9.out XR9.out
                exact h2 (by rw [← h]; simp))).trans ((hal2.block w.heap.size (row_lt XR9.out)).trans XR9.out))
              clear hown hgrow hal2 hat cX
              go_wp2
              go_roundw
              case rel => exact ⟨R2 ++ [z], i + 1, HN.out, by rw [List.length_append]; omega, HG10.out, by omega, by go_num, O11.out, OX11.out, AP11.out, HB11.out, XR11.out⟩
              case measure => simp [intOf]; omega
          case neg =>
            have hie : i = X.length := by omega
            subst hie
            have hii : ¬ ((X.length : Int) < (X.length : Int)) := by omega
            have HN := Lib.hid (rci_next (R := R2) (k := k) (by rw [HG9.out, HX.out]; exact HI9.out) hk2)
            go_wp2
            go_roundw
            case rel => exact ⟨R2, k + 1, HN.out, by go_num, O9.out, HB9.out, XR9.out⟩
            case measure => simp [intOf]; omega
      case neg =>
        have hke : k = R.length := by omega
        subst hke
        have hki : ¬ ((R.length : Int) < (R.length : Int)) := by omega
        have KS := Lib.hid (own_sort R rfl OR.out HBr.out (by omega))
        rw [rci_end HI.out, ← HW.out] at KS
        have hVl : V.length = R.length := by rw [HW.out, ← rci_end HI.out, sortI_len]
        go_wp2_with fail
        refine KS.out.mono ?_
        rintro e w8 ⟨rfl, hos, hb⟩
        have OS := Lib.hid hos
        have HBs := Lib.hid hb
        clear hos hb
        go_wp2
        go_ret
        rw [← hVl] at OS ⊢
        exact ⟨HBs.out, _, c, rfl, OS.out⟩
end Go.Proofs.Ytnhagmjknfiphab
