/- What the program's BranchesOf returns. No condition. -/
import Derived.Test.YtnhagmjknfiphaaBmBrM
import Derived.Test.YtnhagmjknfiphaaCmPrI
import Derived.Test.YtnhagmjknfiphaaCmGRnM
import Derived.Test.YtnhagmjknfiphaaCmGOwAt
import Derived.Deep.Cut
namespace Go.Proofs.Ytnhagmjknfiphaa
open Go.ChangeShapes Go.WideShapes Go.ChangeAt Go.RowKit
set_option maxRecDepth 100000 in
set_option maxHeartbeats 4000000 in
theorem i_branches (vw vm vi : Int) (L : List InsR) (s : Value) (w : World) (hs : Cs.Shows w 0 4 s L.length (InsR.all L)) (hok : ∀ r ∈ L, r.Ok) (hL : L.length ≤ maxLen) :
    Calls Try.prog 11 #[.agg #[.int .i64 vw, .int .i64 vm, .int .i64 vi, s]] w (NxOwn (brV vw vm vi L) w) := by
  have hml : maxLen = 9223372036854775807 := rfl
  have HS := Lib.hid hs
  have K1 := Lib.hid (fun W (hb : Below w.heap.size w W) => i_prog vw vm vi L s W (hs.below hb) hok hL)
  obtain ⟨_, q, cap, rfl, _⟩ := hs
  obtain ⟨b1, hb1⟩ : ∃ B, prB vw vm vi L = B := ⟨_, rfl⟩
  rw [hb1] at K1
  obtain ⟨V, hV⟩ : ∃ V, brV vw vm vi L = V := ⟨_, rfl⟩
  rw [hV]
  have HR : Hid (∀ j, (h : j < L.length) → ∃ b o, q = some ⟨b, o, none⟩ ∧ b < w.heap.size ∧ ∀ W, Below w.heap.size w W → W.cell? ⟨b, o + j * 4, none⟩ = some (.int .i64 L[j].f0) ∧ W.cell? ⟨b, o + j * 4 + 1, none⟩ = some (.int .i64 L[j].f1) ∧ W.cell? ⟨b, o + j * 4 + 2, none⟩ = some (.int .i64 L[j].f2) ∧ W.cell? ⟨b, o + j * 4 + 3, none⟩ = some (.int .i64 L[j].f3)) := Lib.hid (fun j h => by
    rcases Cs.shows_cases HS.out with ⟨h0, _⟩ | ⟨_, b, o, c, hq, _, _, hbl, hr⟩
    · omega
    · injection hq with e1 e2 e3
      refine ⟨b, o, e1, hbl, fun W hW => ?_⟩
      have hh := flat_nth InsR.cells 4 (fun _ => rfl) L j h (rangeAt_below hW hr)
      exact ⟨hh 0 _ rfl, hh 1 _ rfl, hh 2 _ rfl, hh 3 _ rfl⟩)
  clear HS hok
  obtain ⟨i9, hi9, hz9, hzs9, hzb9⟩ := info_parts zero_Int
  obtain ⟨w0, hw0⟩ : ∃ w0, w0 = w.alloc (.cells #[.int .i64 vw, .int .i64 vm, .int .i64 vi, .slice q L.length cap] 30) := ⟨_, rfl⟩
  have HB0 := Lib.hid (show Below w.heap.size w w0 by rw [hw0]; exact (Below.refl _ _).alloc (Nat.le_refl _) _)
  have hs0 : w0.heap.size = w.heap.size + 1 := by rw [hw0]; simp
  have XR0 := Lib.hid (show w0.heap[w.heap.size]? = some (.cells #[.int .i64 vw, .int .i64 vm, .int .i64 vi, .slice q L.length cap] 30 (0, 0)) by rw [hw0]; exact heap_alloc_new _ _)
  obtain ⟨x0, x1, x2, x3⟩ := cell4_row XR0.out
  rw [hw0] at x0 x1 x2 x3
  go_enter Try.func11, Try.ntmps11
  go_wp2_with fail
  rw [← hw0]
  clear hw0 x0 x1 x2 x3
  refine (K1.out _ HB0.out).mono ?_
  rintro e w1 ⟨rfl, hb⟩
  have HB1 := Lib.hid (HB0.out.trans (hb.mono (by omega)))
  have XR1 := Lib.hid ((hb.block w.heap.size (by omega)).trans XR0.out)
  have hs1 : w.heap.size + 1 ≤ w1.heap.size := by have := hb.size; omega
  clear hb hs0
  obtain ⟨x0, x1, x2, x3⟩ := cell4_row XR1.out
  cases b1
  case false =>
    have hv : V = [] := by rw [← hV]; unfold brV; rw [hb1]; simp
    go_wp2
    go_ret
    exact nx_none hv HB1.out
  case true =>
    have hv : V = brL L L.length := by rw [← hV]; unfold brV; rw [if_pos hb1]
    subst hv
    obtain ⟨⟨-, -, -, -, -, -, -, -, hl40⟩, -⟩ := pr_in hb1
    clear hV hb1
    have RL := Lib.hid (show w1.ownsRow w.heap.size 3 1 (.slice none 0 0) 0 [] from World.ownsRow_nil _ _ _ _)
    have HBz := HB1
    go_wp2
    clear x0 x1 x2 x3
    go_loopw [3, 12] (fun lv kv wr => ∃ k : Nat, k ≤ L.length ∧ kv = .int .i64 k ∧ wr.ownsRow w.heap.size 3 1 lv (brL L k).length (IntL.all (brL L k)) ∧ Below w.heap.size w wr) (fun _ kv _ => L.length - (intOf kv).toNat)
    case atStart => exact ⟨0, Nat.zero_le _, rfl, RL.out, HBz.out⟩
    case round =>
      obtain ⟨k, hk, rfl, ho, hB⟩ := hrel
      obtain ⟨oq, oc, rfl⟩ := own_slc ho
      have OV := Lib.hid ho
      have HBr := Lib.hid hB
      have hsr := hB.size
      clear ho hB
      by_cases hkn : k < L.length
      case pos =>
        obtain ⟨bb, o, rfl, hbl, hcells⟩ := HR.out k hkn
        obtain ⟨c0, c1, c2, c3⟩ := hcells wr HBr.out
        have hbl2 := brL_len L k
        have HY := Lib.hid (brL_yes hkn)
        have HN := Lib.hid (brL_no hkn)
        clear hcells
        generalize L[k] = g at *
        obtain ⟨op, a, b, c⟩ := g
        simp only at c0 c1 c2 c3 HY HN
        have hki : (k : Int) < (L.length : Int) := by omega
        have hkd : decide ((k : Int) < (L.length : Int)) = true := decide_eq_true hki
        have hbw : bb < wr.heap.size := by omega
        obtain ⟨wa, hwa⟩ : ∃ W9, W9 = wr.alloc (.cells #[.int .i64 op, .int .i64 a, .int .i64 b, .int .i64 c] 54) := ⟨_, rfl⟩
        have hba : Below wr.heap.size wr wa := by rw [hwa]; exact (Below.refl _ _).alloc (Nat.le_refl _) _
        have YA := Lib.hid (show wa.heap[wr.heap.size]? = some (.cells #[.int .i64 op, .int .i64 a, .int .i64 b, .int .i64 c] 54 (0, 0)) by rw [hwa]; exact heap_alloc_new _ _)
        have OA := Lib.hid (own_keep OV.out hba)
        have HBA := Lib.hid (HBr.out.trans (hba.mono hsr))
        have hsa : w.heap.size ≤ wa.heap.size := HBA.out.size
        clear hba
        go_upto_region 7 with fail
        rw [← hwa]
        clear hwa c0 c1 c2 c3
        obtain ⟨y0, y1, y2, y3⟩ := cell4_row YA.out
        by_cases h10 : op = 10
        case pos =>
          have e0 : (op == 10) = true := by simpa using h10
          have HZ := Lib.hid (HY.out h10)
          clear h10 HY HN
          go_wp2_with (at_builtin; refine wpList_append_own_at _ rfl _ _ 26 rfl w.heap.size 3 i9 (.int .i64 0) 1 8 Try.underlying26 hi9 hz9 hzs9 hzb9 rfl (by decide) (.slice oq (brL L k).length oc) (brL L k).length _ rfl (own_keep OA.out ((Below.refl _ _).alloc (Nat.le_refl _) _)) _ 1 1 [.int .i64 (k : Int)] rfl rfl ?c1 ?c2 ?c3 ?c4 ?c5 ?_)
          case c1 => exact cell_one_new _ _ _
          case c2 => intro u hu; simp at hu; subst hu; rfl
          case c3 => omega
          case c4 => omega
          case c5 => simp; omega
          intro v' w7 hown hgrow _ hat
          have O7 := Lib.hid (show w7.ownsRow w.heap.size 3 1 v' (brL L (k + 1)).length (IntL.all (brL L (k + 1))) by rw [HZ.out, List.length_append, IntL.all_map, List.map_append, ← IntL.all_map]; exact hown)
          have HB7 := Lib.hid ((HBA.out.alloc hsa (.cells #[.int .i64 (k : Int)] 3)).grown hgrow (by simp; omega) (fun g hg => (own_lt OA.out (g := g) (by rw [hg]; simp)).1))
          clear hown hgrow hat y0 y1 y2 y3
          go_wp2
          go_roundw
          case rel => exact ⟨k + 1, by omega, by go_num, O7.out, HB7.out⟩
          case measure => simp [intOf]; omega
        case neg =>
          have e0 : (op == 10) = false := by simpa using h10
          have HZ := Lib.hid (HN.out h10)
          clear h10 HY HN
          go_wp2
          go_roundw
          case rel => exact ⟨k + 1, by omega, by go_num, by rw [HZ.out]; exact OA.out, HBA.out⟩
          case measure => simp [intOf]; omega
      case neg =>
        have hke : k = L.length := by omega
        subst hke
        have hki : ¬ ((L.length : Int) < (L.length : Int)) := by omega
        have hkd : decide ((L.length : Int) < (L.length : Int)) = false := decide_eq_false hki
        go_wp2
        go_ret
        exact ⟨HBr.out, oq, oc, rfl, OV.out⟩
end Go.Proofs.Ytnhagmjknfiphaa
