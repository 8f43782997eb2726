/- What the specification's LoopHeads returns. No condition. -/
import Derived.Test.YtnhagmjknfiphabLhM
import Derived.Test.YtnhagmjknfiphabRcS
import Derived.Test.YtnhagmjknfiphabHas
namespace Go.Proofs.Ytnhagmjknfiphab
open Go.ChangeShapes Go.WideShapes Go.ChangeAt Go.RowKit
theorem getD_cell {w : World} {base g c : Nat} {R : List Int} (h : w.ownsRow base 3 1 (.slice (some ⟨g, 0, none⟩) R.length c) R.length (IntL.all R)) {i : Nat} (hi : i < R.length) : w.cell? ⟨g, i, none⟩ = some (.int .i64 (R.getD i 0)) := by
  rw [h.cellAt i (by omega), IntL.all_map, List.getElem?_map, List.getElem?_eq_getElem hi, List.getD_eq_getElem?_getD, List.getElem?_eq_getElem hi]; rfl
set_option maxRecDepth 100000 in
set_option maxHeartbeats 4000000 in
theorem s_heads (vw vm vi : Int) (L : List InsR) (s : Value) (w : World) (hs : Cs.Shows w 0 4 s L.length (InsR.all L)) (hok : ∀ r ∈ L, r.Ok) (hL : L.length ≤ 1048576) :
    Calls Try.prog 18 #[.agg #[.int .i64 vw, .int .i64 vm, .int .i64 vi, s]] w (NxOwn (lhV vw vm vi L) w) := by
  have hml : maxLen = 9223372036854775807 := rfl
  have hL2 : L.length ≤ maxLen := by omega
  have KR := Lib.hid (fun W (hb : Below w.heap.size w W) => s_reached vw vm vi L s W (hs.below hb) hok hL2)
  have KN := Lib.hid (fun pc W (hb : Below w.heap.size w W) => s_next vw vm vi L s pc W (hs.below hb) hok hL2)
  obtain ⟨_, q, cap, rfl, _⟩ := hs
  obtain ⟨R, hR⟩ : ∃ R, rcV vw vm vi L = R := ⟨_, rfl⟩
  have hRl := rcV_len vw vm vi L
  have HW := Lib.hid (show lhV vw vm vi L = ascP (Lh vw vm vi L R) (L.length + 1) by unfold lhV; rw [hR])
  rw [hR] at KR hRl
  clear hR
  obtain ⟨V, hV⟩ : ∃ V, lhV vw vm vi L = V := ⟨_, rfl⟩
  rw [hV] at HW ⊢
  clear hV
  unfold NxOwn at KR
  obtain ⟨i9, hi9, hz9, hzs9, hzb9⟩ := info_parts zero_Int
  obtain ⟨w0, hw0⟩ : ∃ w0, w0 = w.alloc (.cells #[.int .i64 vw, .int .i64 vm, .int .i64 vi, .slice q L.length cap] 30) := ⟨_, rfl⟩
  have HB0 := Lib.hid (show Below w.heap.size w w0 by rw [hw0]; exact (Below.refl _ _).alloc (Nat.le_refl _) _)
  have hs0 : w0.heap.size = w.heap.size + 1 := by rw [hw0]; simp
  have XR0 := Lib.hid (show w0.heap[w.heap.size]? = some (.cells #[.int .i64 vw, .int .i64 vm, .int .i64 vi, .slice q L.length cap] 30 (0, 0)) by rw [hw0]; exact heap_alloc_new _ _)
  obtain ⟨w1, hw1⟩ : ∃ W, W = w0.alloc (.cells #[] 3) := ⟨_, rfl⟩
  have hb1 : Below w0.heap.size w0 w1 := by rw [hw1]; exact (Below.refl _ _).alloc (Nat.le_refl _) _
  have HB1 := Lib.hid (HB0.out.trans (hb1.mono HB0.out.size))
  have XR1 := Lib.hid ((hb1.block w.heap.size (by omega)).trans XR0.out)
  have OU := Lib.hid (show w1.ownsRow w.heap.size 3 1 (.slice (some ⟨w.heap.size + 1, 0, none⟩) 0 0) 0 [] by rw [hw1, ← hs0]; exact World.ownsRow_made w0 #[] 0 (by omega) (by omega) rfl)
  have hgl := Lib.hid (show w.heap.size + 1 < w1.heap.size by rw [hw1, ← hs0]; simp)
  clear hs0
  obtain ⟨x0, x1, x2, x3⟩ := cell4_row XR1.out
  rw [hw1] at x0 x1 x2 x3
  go_enter Try.func18, Try.ntmps18
  go_wp2_with fail
  rw [← hw0]
  go_wp2_with fail
  rw [← hw1]
  clear hw0 hw1 x0 x1 x2 x3 hb1
  refine (KR.out _ HB1.out).mono ?_
  rintro e w2 ⟨hb, rq, rc, rfl, hor⟩
  have OR2 := Lib.hid hor
  have HB2 := Lib.hid (HB1.out.trans (hb.mono HB1.out.size))
  have XR2 := Lib.hid ((hb.block w.heap.size (row_lt XR1.out)).trans XR1.out)
  have OU2 := Lib.hid (own_keep OU.out hb)
  have AP2 : Hid (∀ b ∈ (Value.slice (some ⟨w.heap.size + 1, 0, none⟩) 0 0).ownBlock.toList, b ∉ (Value.slice rq R.length rc).ownBlock.toList) := Lib.hid (fun b hb1 hb2 => by
    have h1 := (own_lt OU.out hb1).2
    have h2 := (own_lt OR2.out hb2).1
    omega)
  have OR2 := Lib.hid (own_base OR2.out HB1.out.size)
  clear hb hor KR
  go_wp2
  go_loopw [3, 5] (fun ov av wr => ∃ a : Nat, a ≤ L.length + 1 ∧ av = .int .i64 a ∧ wr.ownsRow w.heap.size 3 1 ov (ascP (Lh vw vm vi L R) a).length (IntL.all (ascP (Lh vw vm vi L R) a)) ∧ wr.ownsRow w.heap.size 3 1 (.slice rq R.length rc) R.length (IntL.all R) ∧ (∀ b ∈ ov.ownBlock.toList, b ∉ (Value.slice rq R.length rc).ownBlock.toList) ∧ Below w.heap.size w wr ∧ wr.heap[w.heap.size]? = some (.cells #[.int .i64 vw, .int .i64 vm, .int .i64 vi, .slice q L.length cap] 30 (0, 0))) (fun _ av _ => L.length + 1 - (intOf av).toNat)
  case atStart => exact ⟨0, Nat.zero_le _, rfl, by rw [ascP_zero]; exact OU2.out, OR2.out, AP2.out, HB2.out, XR2.out⟩
  case round =>
    obtain ⟨a, ha, rfl, ho, hor, hap, hB, hX⟩ := hrel
    obtain ⟨oq, oc, rfl⟩ := own_slc ho
    have OV := Lib.hid ho
    have OR := Lib.hid hor
    have AP := Lib.hid hap
    have HBr := Lib.hid hB
    have XRr := Lib.hid hX
    have hsr := hB.size
    have hal := ascP_len (Lh vw vm vi L R) a
    clear ho hor hap hB hX
    obtain ⟨x0, x1, x2, x3⟩ := cell4_row XRr.out
    by_cases han : a ≤ L.length
    case pos =>
      have hai : (a : Int) ≤ (L.length : Int) := by omega
      go_wp2
      go_loopw [6, 21] (fun fv iv w9 => ∃ (f : Bool) (i : Nat), fv = .bool f ∧ iv = .int .i64 i ∧ i ≤ R.length ∧ (f = true ↔ LhU vw vm vi L R a i) ∧ Below wr.heap.size wr w9) (fun _ iv _ => R.length - (intOf iv).toNat)
      case atStart => exact ⟨false, 0, rfl, rfl, Nat.zero_le _, ⟨fun h => (by cases h), fun h => absurd h lhu_zero⟩, Below.refl _ _⟩
      case round =>
        obtain ⟨f, i, rfl, rfl, hi, hf, hb9⟩ := hrel
        rename World => w9
        have BK := Lib.hid hb9
        have HB9 := Lib.hid (HBr.out.trans (hb9.mono hsr))
        have XR9 := Lib.hid ((hb9.block w.heap.size (row_lt XRr.out)).trans XRr.out)
        have OR9 := Lib.hid (own_keep OR.out hb9)
        have hs9 := hb9.size
        have HF := Lib.hid hf
        clear hb9 hf x0 x1 x2 x3
        obtain ⟨x0, x1, x2, x3⟩ := cell4_row XR9.out
        by_cases hin : i < R.length
        case pos =>
          obtain ⟨rg, rcc, hv, hgb, hgl9⟩ := own_frm OR9.out (by omega)
          injection hv with e1 _ e3
          subst e1
          subst e3
          have cR := getD_cell OR9.out hin
          have hii : (i : Int) < (R.length : Int) := by omega
          obtain ⟨x0v, hx0⟩ : ∃ x, R.getD i 0 = x := ⟨_, rfl⟩
          rw [hx0] at cR
          have HX0 := Lib.hid hx0
          clear hx0
          cases f
          case true =>
            have HN := Lib.hid (lhu_up (HF.out.1 rfl))
            go_wp2
            go_roundw
            case rel => exact ⟨true, i + 1, rfl, by go_num, by omega, ⟨fun _ => HN.out, fun _ => rfl⟩, BK.out⟩
            case measure => simp [intOf]; omega
          case false =>
            by_cases hax : (a : Int) ≤ x0v
            case pos =>
              have KX := Lib.hid (KN.out x0v w9 HB9.out)
              have hnl := nxL_len vw vm vi L x0v
              obtain ⟨X, hX⟩ : ∃ X, nxL vw vm vi L x0v = X := ⟨_, rfl⟩
              rw [hX] at KX hnl
              unfold NxOwn at KX
              have HX := Lib.hid hX
              clear hX
              go_wp2_with fail
              refine KX.out.mono ?_
              rintro e w10 ⟨hb, nq, nc, rfl, hox⟩
              have KH := Lib.hid (s_has X a _ w10 ((Cs.shows_of_owns hox).down (Nat.zero_le _)) (by omega))
              have hb9 := BK.out.trans (hb.mono hs9)
              have BK10 := Lib.hid hb9
              clear hb hox hb9 KX cR x0 x1 x2 x3
              go_wp2_with fail
              refine KH.out.mono ?_
              rintro e w11 ⟨rfl, hb⟩
              have BK11 := Lib.hid (BK10.out.trans (hb.mono BK10.out.size))
              clear hb
              obtain ⟨m, hm⟩ : ∃ m, decide ((a : Int) ∈ X) = m := ⟨_, rfl⟩
              have HN : Hid (m = true ↔ LhU vw vm vi L R a (i + 1)) := Lib.hid (by
                rw [← hm, decide_eq_true_eq, ← HX.out]
                constructor
                · intro h
                  exact lhu_yes (by rw [HX0.out]; exact hax) (by rw [HX0.out]; exact h)
                · intro h
                  by_cases h2 : (a : Int) ∈ nxL vw vm vi L x0v
                  · exact h2
                  · exact absurd h (lhu_no (fun h3 => by have := HF.out.2 h3; cases this) (by rw [HX0.out]; exact fun h4 => h2 h4.2)))
              rw [hm]
              clear hm
              go_wp2
              go_roundw
              case rel => exact ⟨m, i + 1, rfl, by go_num, by omega, HN.out, BK11.out⟩
              case measure => simp [intOf]; omega
            case neg =>
              have HN := Lib.hid (lhu_no (fun h3 => by have := HF.out.2 h3; cases this) (show ¬ ((a : Int) ≤ R.getD i 0 ∧ (a : Int) ∈ nxL vw vm vi L (R.getD i 0)) by rw [HX0.out]; exact fun h4 => hax h4.1))
              go_wp2
              go_roundw
              case rel => exact ⟨false, i + 1, rfl, by go_num, by omega, ⟨fun h => (by cases h), fun h => absurd h HN.out⟩, BK.out⟩
              case measure => simp [intOf]; omega
        case neg =>
          have hie : i = R.length := by omega
          subst hie
          have hii : ¬ ((R.length : Int) < (R.length : Int)) := by omega
          have OV9 := Lib.hid (own_keep OV.out BK.out)
          cases f
          case true =>
            have HA := Lib.hid (ascP_yes (p := Lh vw vm vi L R) (n := a) (HF.out.1 rfl))
            have hbd : a ≤ 1048576 := by omega
            go_wp2_with (at_builtin; refine wpList_append_own_at _ rfl _ _ 26 rfl w.heap.size 3 i9 (.int .i64 0) 1 8 Try.underlying26 hi9 hz9 hzs9 hzb9 rfl (by decide) (.slice oq (ascP (Lh vw vm vi L R) a).length oc) (ascP (Lh vw vm vi L R) a).length _ rfl (own_keep OV9.out ((Below.refl _ _).alloc (Nat.le_refl _) _)) _ 1 1 [.int .i64 a] rfl rfl ?c1 ?c2 ?c3 ?c4 ?c5 ?_)
            try case c1 => exact cell_one_new _ _ _
            case c2 => first | rfl | (intro u hu; simp at hu; subst hu; rfl)
            case c3 => omega
            case c4 => omega
            case c5 => first | omega | (simp; omega)
            intro v' w11 hown hgrow _ hat
            have hal2 : Below w9.heap.size w9 (w9.alloc (.cells #[.int .i64 a] 3)) := (Below.refl _ _).alloc (Nat.le_refl _) _
            have O11 := Lib.hid (show w11.ownsRow w.heap.size 3 1 v' (ascP (Lh vw vm vi L R) (a + 1)).length (IntL.all (ascP (Lh vw vm vi L R) (a + 1))) by rw [HA.out, List.length_append, IntL.all_map, List.map_append, ← IntL.all_map]; exact hown)
            have OX11 := Lib.hid (own_same (own_keep OR9.out hal2) (fun b hb => hgrow.block b (own_lt (own_keep OR9.out hal2) hb).2 (fun h => AP.out b (by rw [← h]; simp) hb)))
            have AP11 : Hid (∀ b ∈ v'.ownBlock.toList, b ∉ (Value.slice rq R.length rc).ownBlock.toList) := Lib.hid (fun b hb hb2 => by
              rcases hat with h | h
              · rw [h] at hb; exact AP.out b hb hb2
              · rw [h] at hb
                have h3 := (own_lt OR9.out hb2).2
                simp at hb
                omega)
            have HB11 := Lib.hid ((HB9.out.alloc HB9.out.size (.cells #[.int .i64 a] 3)).grown hgrow (by have := HB9.out.size; simp; omega) (fun b hb => (own_lt OV9.out (g := b) (by rw [hb]; simp)).1))
            have XR11 := Lib.hid ((hgrow.block w.heap.size (by have := row_lt XR9.out; simp; omega) (fun h => by
              have h2 := own_off3 (T := 30) (by decide) OV9.out XR9.out
              exact h2 (by rw [← h]; simp))).trans ((hal2.block w.heap.size (row_lt XR9.out)).trans XR9.out))
            clear hown hgrow hal2 hat
            go_wp2
            go_roundw
            case rel => exact ⟨a + 1, by omega, by go_num, O11.out, OX11.out, AP11.out, HB11.out, XR11.out⟩
            case measure => simp [intOf]; omega
          case false =>
            have HA := Lib.hid (ascP_no (p := Lh vw vm vi L R) (n := a) (fun h => by have := HF.out.2 h; cases this))
            rw [← HA.out] at OV9 ⊢
            have hbd : a ≤ 1048576 := by omega
            go_wp2
            go_roundw
            case rel => exact ⟨a + 1, by omega, by go_num, OV9.out, OR9.out, by rw [HA.out]; exact AP.out, HB9.out, XR9.out⟩
            case measure => simp [intOf]; omega
    case neg =>
      have hae : a = L.length + 1 := by omega
      subst hae
      have hai : ¬ ((L.length : Int) + 1 ≤ (L.length : Int)) := by omega
      go_wp2
      go_ret
      rw [HW.out]
      exact ⟨HBr.out, oq, oc, rfl, OV.out⟩
end Go.Proofs.Ytnhagmjknfiphab
