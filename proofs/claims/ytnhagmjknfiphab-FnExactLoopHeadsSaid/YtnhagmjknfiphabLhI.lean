/- What the program's LoopHeads returns. No condition. -/
import Derived.Test.YtnhagmjknfiphabLhM
import Derived.Test.YtnhagmjknfiphabRcI
namespace Go.Proofs.Ytnhagmjknfiphab
open Go.ChangeShapes Go.WideShapes Go.ChangeAt Go.RowKit
theorem getD_cell2 {w : World} {base g c : Nat} {R : List Int} (h : w.ownsRow base 3 1 (.slice (some ⟨g, 0, none⟩) R.length c) R.length (IntL.all R)) {i : Nat} (hi : i < R.length) : w.cell? ⟨g, i, none⟩ = some (.int .i64 (R.getD i 0)) := by
  rw [h.cellAt i (by omega), IntL.all_map, List.getElem?_map, List.getElem?_eq_getElem hi, List.getD_eq_getElem?_getD, List.getElem?_eq_getElem hi]; rfl
set_option maxRecDepth 100000 in
set_option maxHeartbeats 4000000 in
theorem i_heads (vw vm vi : Int) (L : List InsR) (s : Value) (w : World) (hs : Cs.Shows w 0 4 s L.length (InsR.all L)) (hok : ∀ r ∈ L, r.Ok) (hL : L.length ≤ maxLen) :
    Calls Try.prog 19 #[.agg #[.int .i64 vw, .int .i64 vm, .int .i64 vi, s]] w (NxOwn (lhV vw vm vi L) w) := by
  have hml : maxLen = 9223372036854775807 := rfl
  have KR := Lib.hid (fun W (hb : Below w.heap.size w W) => i_reached vw vm vi L s W (hs.below hb) hok hL)
  have KN := Lib.hid (fun pc W (hb : Below w.heap.size w W) => i_next vw vm vi L s pc W (hs.below hb) hok hL)
  obtain ⟨_, q, cap, rfl, _⟩ := hs
  obtain ⟨R, hR⟩ : ∃ R, rcV vw vm vi L = R := ⟨_, rfl⟩
  have hRl := rcV_len vw vm vi L
  have HW := Lib.hid (fun H (h : LhI vw vm vi L R H R.length 0) => lhi_end h hR.symm)
  rw [hR] at KR hRl
  clear hR
  obtain ⟨V, hV⟩ : ∃ V, lhV vw vm vi L = V := ⟨_, rfl⟩
  rw [hV] at HW ⊢
  clear hV
  unfold NxOwn at KR
  obtain ⟨i9, hi9, hz9, hzs9, hzb9⟩ := info_parts zero_Int
  obtain ⟨w0, hw0⟩ : ∃ w0, w0 = w.alloc (.cells #[.int .i64 vw, .int .i64 vm, .int .i64 vi, .slice q L.length cap] 30) := ⟨_, rfl⟩
  have HB0 := Lib.hid (show Below w.heap.size w w0 by rw [hw0]; exact (Below.refl _ _).alloc (Nat.le_refl _) _)
  have XR0 := Lib.hid (show w0.heap[w.heap.size]? = some (.cells #[.int .i64 vw, .int .i64 vm, .int .i64 vi, .slice q L.length cap] 30 (0, 0)) by rw [hw0]; exact heap_alloc_new _ _)
  obtain ⟨x0, x1, x2, x3⟩ := cell4_row XR0.out
  rw [hw0] at x0 x1 x2 x3
  go_enter Try.func19, Try.ntmps19
  go_wp2_with fail
  rw [← hw0]
  clear hw0 x0 x1 x2 x3
  refine (KR.out _ HB0.out).mono ?_
  rintro e w2 ⟨hb, rq, rc, rfl, hor⟩
  have OR2 := Lib.hid (own_base hor HB0.out.size)
  have HB2 := Lib.hid (HB0.out.trans (hb.mono HB0.out.size))
  have XR2 := Lib.hid ((hb.block w.heap.size (row_lt XR0.out)).trans XR0.out)
  clear hb hor KR
  go_wp2
  go_loopw [3, 11] (fun hv iv wr => ∃ (H : List Int) (i : Nat), LhI vw vm vi L R H i 0 ∧ i ≤ R.length ∧ iv = .int .i64 i ∧ wr.ownsRow w.heap.size 3 1 hv H.length (IntL.all H) ∧ wr.ownsRow w.heap.size 3 1 (.slice rq R.length rc) R.length (IntL.all R) ∧ (∀ b ∈ hv.ownBlock.toList, b ∉ (Value.slice rq R.length rc).ownBlock.toList) ∧ Below w.heap.size w wr ∧ wr.heap[w.heap.size]? = some (.cells #[.int .i64 vw, .int .i64 vm, .int .i64 vi, .slice q L.length cap] 30 (0, 0))) (fun _ iv _ => R.length - (intOf iv).toNat)
  case atStart => exact ⟨[], 0, lhi_start vw vm vi L R, Nat.zero_le _, rfl, World.ownsRow_nil _ _ _ _, OR2.out, fun b hb => by simp [Value.ownBlock] at hb, HB2.out, XR2.out⟩
  case round =>
    obtain ⟨H, i, hI, hi, rfl, ho, hor, hap, hB, hX⟩ := hrel
    obtain ⟨oq, oc, rfl⟩ := own_slc ho
    have OV := Lib.hid ho
    have OR := Lib.hid hor
    have AP := Lib.hid hap
    have HBr := Lib.hid hB
    have XRr := Lib.hid hX
    have HI := Lib.hid hI
    have hsr := hB.size
    clear ho hor hap hB hX hI
    obtain ⟨x0, x1, x2, x3⟩ := cell4_row XRr.out
    by_cases hin : i < R.length
    case pos =>
      obtain ⟨rg, rcc, hv, hgb, hgl9⟩ := own_frm OR.out (by omega)
      injection hv with e1 _ e3
      subst e1
      subst e3
      have cR := getD_cell2 OR.out hin
      have hii : (i : Int) < (R.length : Int) := by omega
      obtain ⟨x0v, hx0⟩ : ∃ x, R.getD i 0 = x := ⟨_, rfl⟩
      rw [hx0] at cR
      have HX0 := Lib.hid hx0
      clear hx0
      have KX := Lib.hid (KN.out x0v wr HBr.out)
      have hnl := nxL_len vw vm vi L x0v
      obtain ⟨X, hX⟩ : ∃ X, nxL vw vm vi L x0v = X := ⟨_, rfl⟩
      rw [hX] at KX hnl
      unfold NxOwn at KX
      have HX := Lib.hid hX
      clear hX
      go_wp2_with fail
      refine KX.out.mono ?_
      rintro e w6 ⟨hb, nq, nc, rfl, hox⟩
      have OX := Lib.hid (own_base hox hsr)
      have HB6 := Lib.hid (HBr.out.trans (hb.mono hsr))
      have XR6 := Lib.hid ((hb.block w.heap.size (row_lt XRr.out)).trans XRr.out)
      have OV6 := Lib.hid (own_keep OV.out hb)
      have OR6 := Lib.hid (own_keep OR.out hb)
      have AX6 : Hid (∀ b ∈ (Value.slice oq H.length oc).ownBlock.toList, b ∉ (Value.slice nq X.length nc).ownBlock.toList) := Lib.hid (fun b hb1 hb2 => by
        have h1 := (own_lt OV.out hb1).2
        have h2 := (own_lt hox hb2).1
        omega)
      clear hb hox x0 x1 x2 x3 cR KX
      go_wp2
      go_loopw [3, 19] (fun hv jv w9 => ∃ (H2 : List Int) (j : Nat), LhI vw vm vi L R H2 i j ∧ j ≤ X.length ∧ jv = .int .i64 j ∧ w9.ownsRow w.heap.size 3 1 hv H2.length (IntL.all H2) ∧ w9.ownsRow w.heap.size 3 1 (.slice (some ⟨rg, 0, none⟩) R.length rc) R.length (IntL.all R) ∧ w9.ownsRow w.heap.size 3 1 (.slice nq X.length nc) X.length (IntL.all X) ∧ (∀ b ∈ hv.ownBlock.toList, b ∉ (Value.slice (some ⟨rg, 0, none⟩) R.length rc).ownBlock.toList) ∧ (∀ b ∈ hv.ownBlock.toList, b ∉ (Value.slice nq X.length nc).ownBlock.toList) ∧ Below w.heap.size w w9 ∧ w9.heap[w.heap.size]? = some (.cells #[.int .i64 vw, .int .i64 vm, .int .i64 vi, .slice q L.length cap] 30 (0, 0))) (fun _ jv _ => X.length - (intOf jv).toNat)
      case atStart => exact ⟨H, 0, HI.out, Nat.zero_le _, rfl, OV6.out, OR6.out, OX.out, AP.out, AX6.out, HB6.out, XR6.out⟩
      case round =>
        obtain ⟨H2, j, hI2, hj, rfl, ho, hor, hox, hap, hax, hB, hX9⟩ := hrel
        rename World => w9
        obtain ⟨pq, pc, rfl⟩ := own_slc ho
        have O9 := Lib.hid ho
        have OR9 := Lib.hid hor
        have OX9 := Lib.hid hox
        have AP9 := Lib.hid hap
        have AX9 := Lib.hid hax
        have HB9 := Lib.hid hB
        have XR9 := Lib.hid hX9
        have HI9 := Lib.hid hI2
        have hs9 := hB.size
        have hHl := hI2.1
        clear ho hor hox hap hax hB hX9 hI2
        by_cases hjn : j < X.length
        case pos =>
          obtain ⟨xq, xc, hv, hxb, hxl⟩ := own_frm OX9.out (by omega)
          injection hv with e1 _ e3
          subst e1
          subst e3
          have hjj : (j : Int) < (X.length : Int) := by omega
          have cX : w9.cell? ⟨xq, j, none⟩ = some (.int .i64 X[j]) := by
            rw [OX9.out.cellAt j (by omega), IntL.all_map, List.getElem?_map, List.getElem?_eq_getElem hjn]; rfl
          by_cases hle : X[j] ≤ x0v
          case pos =>
            have HN := Lib.hid (lhi_put HI9.out HX0.out HX.out hjn hle)
            have hj1 := Lib.hid (show j + 1 ≤ X.length by omega)
            generalize X[j] = z at *
            have hbd : H2.length ≤ 1000 := by omega
            clear hHl
            go_wp2_with (at_builtin; refine wpList_append_own_at _ rfl _ _ 26 rfl w.heap.size 3 i9 (.int .i64 0) 1 8 Try.underlying26 hi9 hz9 hzs9 hzb9 rfl (by decide) (.slice pq H2.length pc) H2.length _ rfl (own_keep O9.out ((Below.refl _ _).alloc (Nat.le_refl _) _)) _ 1 1 [.int .i64 z] rfl rfl ?c1 ?c2 ?c3 ?c4 ?c5 ?_)
            try case c1 => exact cell_one_new _ _ _
            case c2 => first | rfl | (intro u hu; simp at hu; subst hu; rfl)
            case c3 => omega
            case c4 => omega
            case c5 => first | omega | (simp; omega)
            intro v' w11 hown hgrow _ hat
            have hal2 : Below w9.heap.size w9 (w9.alloc (.cells #[.int .i64 z] 3)) := (Below.refl _ _).alloc (Nat.le_refl _) _
            have O11 := Lib.hid (show w11.ownsRow w.heap.size 3 1 v' (H2 ++ [z]).length (IntL.all (H2 ++ [z])) by rw [List.length_append, IntL.all_map, List.map_append, ← IntL.all_map]; exact hown)
            have OR11 := Lib.hid (own_same (own_keep OR9.out hal2) (fun b hb => hgrow.block b (own_lt (own_keep OR9.out hal2) hb).2 (fun h => AP9.out b (by rw [← h]; simp) hb)))
            have OX11 := Lib.hid (own_same (own_keep OX9.out hal2) (fun b hb => hgrow.block b (own_lt (own_keep OX9.out hal2) hb).2 (fun h => AX9.out b (by rw [← h]; simp) hb)))
            have AP11 : Hid (∀ b ∈ v'.ownBlock.toList, b ∉ (Value.slice (some ⟨rg, 0, none⟩) R.length rc).ownBlock.toList) := Lib.hid (fun b hb hb2 => by
              rcases hat with h | h
              · rw [h] at hb; exact AP9.out b hb hb2
              · rw [h] at hb
                have h3 := (own_lt OR9.out hb2).2
                simp at hb
                omega)
            have AX11 : Hid (∀ b ∈ v'.ownBlock.toList, b ∉ (Value.slice (some ⟨xq, 0, none⟩) X.length nc).ownBlock.toList) := Lib.hid (fun b hb hb2 => by
              rcases hat with h | h
              · rw [h] at hb; exact AX9.out b hb hb2
              · rw [h] at hb
                have h3 := (own_lt OX9.out hb2).2
                simp at hb
                omega)
            have HB11 := Lib.hid ((HB9.out.alloc hs9 (.cells #[.int .i64 z] 3)).grown hgrow (by simp; omega) (fun b hb => (own_lt O9.out (g := b) (by rw [hb]; simp)).1))
            have XR11 := Lib.hid ((hgrow.block w.heap.size (by have := row_lt XR9.out; simp; omega) (fun h => by
              have h2 := own_off3 (T := 30) (by decide) O9.out XR9.out
              exact h2 (by rw [← h]; simp))).trans ((hal2.block w.heap.size (row_lt XR9.out)).trans XR9.out))
            clear hown hgrow hal2 hat cX
            go_wp2
            go_roundw
            case rel => exact ⟨H2 ++ [z], j + 1, HN.out, hj1.out, by go_num, O11.out, OR11.out, OX11.out, AP11.out, AX11.out, HB11.out, XR11.out⟩
            case measure => have := hj1.out; simp [intOf]; omega
          case neg =>
            have HN := Lib.hid (lhi_skip HI9.out HX0.out HX.out hjn hle)
            have hle2 : x0v < X[j] := by omega
            clear hle
            generalize X[j] = z at *
            go_wp2
            go_roundw
            case rel => exact ⟨H2, j + 1, HN.out, by omega, by go_num, O9.out, OR9.out, OX9.out, AP9.out, AX9.out, HB9.out, XR9.out⟩
            case measure => simp [intOf]; omega
        case neg =>
          have hje : j = X.length := by omega
          subst hje
          have hjj : ¬ ((X.length : Int) < (X.length : Int)) := by omega
          have HN := Lib.hid (lhi_next HI9.out HX0.out HX.out)
          go_wp2
          go_roundw
          case rel => exact ⟨H2, i + 1, HN.out, by omega, by go_num, O9.out, OR9.out, AP9.out, HB9.out, XR9.out⟩
          case measure => simp [intOf]; omega
    case neg =>
      have hie : i = R.length := by omega
      subst hie
      have hii : ¬ ((R.length : Int) < (R.length : Int)) := by omega
      have hHl := HI.out.1
      have KC := Lib.hid (i_asc H rfl OV.out HBr.out (by omega))
      have HV := Lib.hid (HW.out H HI.out)
      rw [HV.out] at KC
      go_wp2_with fail
      refine KC.out.mono ?_
      rintro e w9 ⟨q9, c9, rfl, ho, hb⟩
      have HO9 := Lib.hid ho
      have HB9 := Lib.hid hb
      clear ho hb
      go_wp2
      go_ret
      exact ⟨HB9.out, q9, c9, rfl, HO9.out⟩
end Go.Proofs.Ytnhagmjknfiphab
