/- slices.ContainsFunc with the program's test of turns; turnsOk. No condition. What the program's allTerms returns. No condition. What the program's PathOk returns. No condition. A region in whatever order: an operation whose guard does not hold is passed over first. No condition. -/
import Derived.Test.YthmababifgaejaaGreatDoorEmGPaM
import Derived.Test.YthmababifgaejaaGreatDoorEmGTmM
import Derived.Test.YthmababifgaejaaGreatDoorEmSof
import Derived.Test.YthmababifgaejaaGreatDoorEmGInA
import Derived.Test.YthmababifgaejaaGreatDoorEmGReg
namespace Go.Proofs.YthmababifgaejaaGreatDoor
open Go.ChangeShapes Go.WideShapes Go.ChangeAt Go.RowKit
theorem any_atT (p : Int → Bool) (L : List Int) (j : Nat) (h : j < L.length) : (L.drop j).any p = (p L[j] || (L.drop (j + 1)).any p) := by
  rw [List.drop_eq_getElem_cons h, List.any_cons]
def IxResT (a : Bool) (r : Int) : Prop := (a = true ∧ 0 ≤ r) ∨ (a = false ∧ r = -1)
set_option maxHeartbeats 1000000 in
theorem t_index (p : Int → Bool) (l : List Int) (v : Value) (w : World) (hl : l.length ≤ 1048577) (hv : Cs.Shows w 0 1 v l.length (IntL.all l))
    (hp : ∀ x ∈ l, ∀ W, Below w.heap.size w W → Calls Tryz.prog 88 #[.int .i64 x] W fun e w' => e = .returned (.bool (p x)) ∧ Below W.heap.size W w') :
    Calls Tryz.prog 112 #[v, .func (.func 88) #[] #[]] w fun e w' => ∃ r : Int, e = .returned (.int .i64 r) ∧ IxResT (l.any p) r ∧ Below w.heap.size w w' := by
  rcases Cs.shows_cases hv with ⟨h0, q, cap, rfl⟩ | ⟨hpos, b, o, cap, rfl, _, _, hbl, hr⟩
  · have hL : l = [] := List.length_eq_zero_iff.1 h0
    subst hL
    clear hv hl h0 hp
    go_enter Tryz.func112, Tryz.ntmps112
    go_wp2
    refine wp_loop_rounds 1 ?_
    rw [rounds_succ]
    go_wp2
    go_ret
    exact ⟨_, rfl, .inr ⟨rfl, rfl⟩, Below.refl _ _⟩
  · have HR := Lib.hid (fun (wr : World) (hb : Below w.heap.size w wr) j (h : j < l.length) => IntL.nth l j h (rangeAt_below hb hr))
    have HX := Lib.hid (fun j (h : j < l.length) => any_atT p l j h)
    have HP := Lib.hid (fun j (h : j < l.length) => hp l[j] (List.getElem_mem h))
    clear hv hr hp
    go_enter Tryz.func112, Tryz.ntmps112
    go_wp2
    go_loopw [8] (fun i wr => ∃ (j : Nat), j ≤ l.length ∧ i = .int .i64 j ∧ (l.drop j).any p = l.any p ∧ Below w.heap.size w wr) (fun i _ => l.length - (intOf i).toNat)
    case atStart => exact ⟨0, Nat.zero_le _, rfl, rfl, Below.refl _ _⟩
    case round =>
      obtain ⟨j, hj, rfl, hrest, hb⟩ := hrel
      by_cases hjn : j < l.length
      · have c0 := HR.out wr hb j hjn
        have hx := HX.out j hjn
        have hp1 := HP.out j hjn
        generalize l[j] = x at *
        rw [hrest] at hx
        have KP := Lib.hid (hp1 wr hb)
        have HB := Lib.hid hb
        have HQ := Lib.hid hx
        have hki : (j : Int) < (l.length : Int) := by omega
        clear hb hrest hx hp1
        by_cases g : p x = true
        · have HF := Lib.hid (show l.any p = true by rw [HQ.out, g]; rfl)
          rw [g] at KP
          clear g
          go_wp2_with fail
          refine KP.out.mono ?_
          rintro e w1 ⟨rfl, hb1⟩
          have HB1 := Lib.hid (HB.out.trans (hb1.mono HB.out.size))
          clear hb1
          go_wp2
          go_ret
          exact ⟨_, rfl, .inl ⟨HF.out, by omega⟩, HB1.out⟩
        · have g : p x = false := by simpa using g
          have HT := Lib.hid (show (l.drop (j + 1)).any p = l.any p by rw [HQ.out, g]; rfl)
          rw [g] at KP
          clear g
          go_wp2_with fail
          refine KP.out.mono ?_
          rintro e w1 ⟨rfl, hb1⟩
          have HB1 := Lib.hid (HB.out.trans (hb1.mono HB.out.size))
          clear hb1
          go_wp2
          go_roundw
          case rel => exact ⟨j + 1, by omega, by go_num, HT.out, HB1.out⟩
          case measure => simp [intOf]; omega
      · have HB := Lib.hid hb
        have hnj : ¬ ((j : Int) < (l.length : Int)) := by omega
        have HF := Lib.hid (show l.any p = false by rw [← hrest, List.drop_of_length_le (by omega)]; rfl)
        clear hb hrest
        go_wp2
        go_ret
        exact ⟨_, rfl, .inr ⟨HF.out, rfl⟩, HB.out⟩
set_option maxRecDepth 100000 in
theorem t_contains (p : Int → Bool) (l : List Int) (v : Value) (w : World) (hl : l.length ≤ 1048577) (hv : Cs.Shows w 0 1 v l.length (IntL.all l))
    (hp : ∀ x ∈ l, ∀ W, Below w.heap.size w W → Calls Tryz.prog 88 #[.int .i64 x] W fun e w' => e = .returned (.bool (p x)) ∧ Below W.heap.size W w') :
    Calls Tryz.prog 87 #[v, .func (.func 88) #[] #[]] w fun e w' => e = .returned (.bool (l.any p)) ∧ Below w.heap.size w w' := by
  have KI := Lib.hid (t_index p l v w hl hv hp)
  obtain ⟨_, q, cap, rfl, _⟩ := hv
  clear hp
  go_enter Tryz.func87, Tryz.ntmps87
  go_wp2_with fail
  refine KI.out.mono ?_
  rintro e w1 ⟨r, rfl, hr, hb1⟩
  have HB1 := Lib.hid hb1
  clear hb1
  rcases hr with ⟨h1, h2⟩ | ⟨h1, rfl⟩
  all_goals
    have HF := Lib.hid h1
    clear h1
    go_wp2
    go_ret
    exact ⟨by rw [HF.out] <;> rfl, HB1.out⟩
set_option maxRecDepth 100000 in
theorem t_turn (x : Int) (w : World) : Calls Tryz.prog 88 #[.int .i64 x] w fun e w' => e = .returned (.bool (! (decide (0 ≤ x) && decide (x ≤ 1)))) ∧ Below w.heap.size w w' := by
  by_cases h0 : x = 0
  · subst h0
    rw [show (! (decide ((0 : Int) ≤ 0) && decide ((0 : Int) ≤ 1))) = false by decide]
    go_enter Tryz.func88, Tryz.ntmps88
    go_wp2
    go_ret
    exact ⟨rfl, Below.refl _ _⟩
  · have n0 : (x == 0) = false := by simpa using h0
    by_cases h1 : x = 1
    · subst h1
      rw [show (! (decide ((0 : Int) ≤ 1) && decide ((1 : Int) ≤ 1))) = false by decide]
      go_enter Tryz.func88, Tryz.ntmps88
      go_wp2
      go_ret
      exact ⟨rfl, Below.refl _ _⟩
    · have n1 : (x == 1) = false := by simpa using h1
      have hb : (decide (0 ≤ x) && decide (x ≤ 1)) = false := by
        rw [Bool.and_eq_false_iff, decide_eq_false_iff_not, decide_eq_false_iff_not]
        omega
      rw [hb]
      clear hb
      go_enter Tryz.func88, Tryz.ntmps88
      go_wp2
      go_ret
      have e : (x != 0 && x != 1) = true := by simp [h0, h1]
      refine ⟨?_, Below.refl _ _⟩
      show Ending.returned (Value.bool (x != 0 && x != 1)) = _
      rw [e]
      rfl
theorem rg_any (l : List Int) : (! l.any fun x => ! (decide (0 ≤ x) && decide (x ≤ 1))) = rgB 0 1 l := by
  unfold rgB
  rw [List.not_any_eq_all_not]
  simp
set_option maxRecDepth 100000 in
theorem i_turns (l : List Int) (v : Value) (w : World) (hl : l.length ≤ 1048577) (hv : Cs.Shows w 0 1 v l.length (IntL.all l)) :
    Calls Tryz.prog 65 #[v] w fun e w' => e = .returned (.bool (rgB 0 1 l)) ∧ Below w.heap.size w w' := by
  have K := Lib.hid (t_contains (fun x => ! (decide (0 ≤ x) && decide (x ≤ 1))) l v w hl hv (fun x _ W _ => t_turn x W))
  have HR := Lib.hid (rg_any l)
  obtain ⟨r, hr⟩ : ∃ r, (l.any fun x => ! (decide (0 ≤ x) && decide (x ≤ 1))) = r := ⟨_, rfl⟩
  rw [hr] at K HR
  clear hr
  obtain ⟨_, q, cap, rfl, _⟩ := hv
  go_enter Tryz.func65, Tryz.ntmps65
  go_wp2_with fail
  refine K.out.mono ?_
  rintro e w1 ⟨rfl, hb⟩
  have HB := Lib.hid hb
  clear hb
  go_wp2
  go_ret
  rw [HR.out]
  exact ⟨rfl, HB.out⟩
end Go.Proofs.YthmababifgaejaaGreatDoor
namespace Go.Proofs.YthmababifgaejaaGreatDoor
open Go.ChangeShapes Go.WideShapes Go.ChangeAt Go.RowKit
/-- lists of terms in a row: the value of each, read in all later worlds -/
def RowsT (w : World) (g : Nat) (Fs : List Fo) : Prop := ∀ j (h : j < Fs.length), ∃ q c, ∀ W, Below w.heap.size w W → W.cell? ⟨g, j, none⟩ = some (.slice q (Fs[j]).len c) ∧ ((Fs[j]).cs 64).Is W 0 5 (Fs[j]).len (.slice q (Fs[j]).len c)
noncomputable def atB (Fs : List Fo) (vw : Int) : Bool := Fs.all fun F => tmB F vw
theorem at_take {Fs : List Fo} {vw : Int} {j : Nat} (h : j < Fs.length) : atB (Fs.take (j + 1)) vw = (atB (Fs.take j) vw && tmB Fs[j] vw) := by
  unfold atB
  rw [List.take_succ_eq_append_getElem h, List.all_append]
  simp
theorem at_bad {Fs : List Fo} {vw : Int} {j : Nat} (h : j < Fs.length) (hb : tmB Fs[j] vw = false) : atB Fs vw = false := by
  unfold atB
  refine Bool.eq_false_iff.2 fun hh => ?_
  have := List.all_eq_true.1 hh _ (List.getElem_mem h)
  rw [hb] at this
  cases this
set_option maxRecDepth 100000 in
set_option maxHeartbeats 4000000 in
theorem i_allterms (Fs : List Fo) (vw : Int) (g c : Nat) (w : World) (hv : RowsT w g Fs) (hg : g < w.heap.size) (hl : Fs.length ≤ 1000) (hc : ∀ F ∈ Fs, F.cost ≤ 1048576) :
    Calls Tryz.prog 64 #[.int .i64 vw, .slice (some ⟨g, 0, none⟩) Fs.length c] w fun e w' => e = .returned (.bool (atB Fs vw)) ∧ Below w.heap.size w w' := by
  have hml : maxLen = 9223372036854775807 := rfl
  have HV := Lib.hid hv
  have HC := Lib.hid hc
  clear hv hc
  go_enter Tryz.func64, Tryz.ntmps64
  go_wp2
  go_loopw [11] (fun i wr => ∃ j : Nat, j ≤ Fs.length ∧ i = .int .i64 j ∧ atB (Fs.take j) vw = true ∧ Below w.heap.size w wr) (fun i _ => Fs.length - (intOf i).toNat)
  case atStart => exact ⟨0, Nat.zero_le _, rfl, rfl, Below.refl _ _⟩
  case round =>
    obtain ⟨j, hj, rfl, ht, hb⟩ := hrel
    have HT := Lib.hid ht
    have HB := Lib.hid hb
    have hsr := hb.size
    have hgw : g < wr.heap.size := by omega
    clear ht
    by_cases hjn : j < Fs.length
    · obtain ⟨q, cc, hcell⟩ := HV.out j hjn
      have cF := (hcell wr hb).1
      have his := (hcell wr hb).2
      have hcost := HC.out _ (List.getElem_mem hjn)
      have HTT := Lib.hid (at_take (vw := vw) hjn)
      have HTB := Lib.hid (at_bad (vw := vw) hjn)
      obtain ⟨F, hF⟩ : ∃ F, Fs[j] = F := ⟨_, rfl⟩
      rw [hF] at cF his hcost HTT HTB
      clear hcell hF hb
      have hji : (j : Int) < (Fs.length : Int) := by omega
      have hFl := F.len_le
      have hFn := F.nodes_le
      rcases Fo.is_cases his with ⟨h0, q2, cap, he⟩ | ⟨hpos, b, o, cap, ys, he, hc1, hc2, _, hbl, hvs, hr⟩
      · injection he with e1 e2 e3
        subst e1
        subst e3
        have hFn0 : F = .nil := by cases F with | nil => rfl | cons => simp [Fo.len] at h0
        have HN := Lib.hid (show atB (Fs.take (j + 1)) vw = true by rw [HTT.out, HT.out, hFn0]; rfl)
        have hl0 : F.len = 0 := h0
        rw [hl0] at cF
        clear his
        go_wp2
        go_loopw [17] (fun i w9 => i = .int .i64 0 ∧ w9 = wr) (fun i _ => 0)
        case atStart => exact ⟨rfl, rfl⟩
        case round =>
          obtain ⟨rfl, hw9⟩ := hrel
          subst hw9
          go_wp2
          go_roundw
          case rel => exact ⟨j + 1, by omega, by go_num, HN.out, HB.out⟩
          case measure => simp [intOf]; omega
      · injection he with e1 e2 e3
        subst e1
        subst e3
        have HI := Lib.hid (fun i (hi : i < F.len) => Fo.nth F hvs hr i hi)
        clear his hvs hr
        go_wp2
        go_loopw [17] (fun i w9 => ∃ m : Nat, m ≤ F.len ∧ i = .int .i64 m ∧ tmB (F.take m) vw = true ∧ Below wr.heap.size wr w9) (fun i _ => F.len - (intOf i).toNat)
        case atStart => exact ⟨0, Nat.zero_le _, rfl, tm_zero F vw, Below.refl _ _⟩
        case round =>
          obtain ⟨m, hm, rfl, hmt, hb9⟩ := hrel
          rename World => w9
          have HMT := Lib.hid hmt
          have BK := Lib.hid hb9
          have HB9 := Lib.hid (HB.out.trans (hb9.mono hsr))
          have hs9 := hb9.size
          by_cases hmn : m < F.len
          · obtain ⟨op, wd, n, nm, k, sv, hat, his, hrr⟩ := HI.out m hmn
            have hcst := at_cost F m hat
            have HQT := Lib.hid (tm_take F m (w := vw) hat)
            have HQB := Lib.hid (tm_bad F m (w := vw) hat)
            have hrr := rangeAt_below hb9 hrr
            have c0 : w9.cell? ⟨b, o + m * 5, none⟩ = some (.int .i64 op) := hrr 0 _ rfl
            have c1 : w9.cell? ⟨b, o + m * 5 + 1, none⟩ = some (.int .i64 wd) := hrr 1 _ rfl
            have c2 : w9.cell? ⟨b, o + m * 5 + 2, none⟩ = some (.int .i64 n) := hrr 2 _ rfl
            have c3 : w9.cell? ⟨b, o + m * 5 + 3, none⟩ = some (.string nm) := hrr 3 _ rfl
            have c4 : w9.cell? ⟨b, o + m * 5 + 4, none⟩ = some sv := hrr 4 _ rfl
            have hmi : (m : Int) < (F.len : Int) := by omega
            have HIS := Lib.hid his
            have hbw : b < w9.heap.size := by omega
            clear his hat hrr hmt hb9
            obtain ⟨_, ⟨_, sq, sc, rfl, _⟩, _⟩ := HIS.out
            obtain ⟨w1, hw1⟩ : ∃ W, W = w9.alloc (.cells #[.int .i64 op, .int .i64 wd, .int .i64 n, .string nm, .slice sq k.len sc] 64) := ⟨_, rfl⟩
            have hb1 : Below w9.heap.size w9 w1 := by rw [hw1]; exact (Below.refl _ _).alloc (Nat.le_refl _) _
            have BK1 := Lib.hid (BK.out.trans (hb1.mono hs9))
            have HB1 := Lib.hid (HB9.out.trans (hb1.mono HB9.out.size))
            have XB1 := Lib.hid (show w1.heap[w9.heap.size]? = some (.cells #[.int .i64 op, .int .i64 wd, .int .i64 n, .string nm, .slice sq k.len sc] 64 (0, 0)) by rw [hw1]; exact heap_alloc_new _ _)
            have KT := Lib.hid (i_termok k op wd n nm (.slice sq k.len sc) w1 (HIS.out.below BK1.out) (by omega) (by omega))
            have y0 : w1.cell? ⟨w9.heap.size, 0, none⟩ = some (.int .i64 op) := cell_of_row w1 w9.heap.size 0 _ _ _ XB1.out
            have y1 : w1.cell? ⟨w9.heap.size, 1, none⟩ = some (.int .i64 wd) := cell_of_row w1 w9.heap.size 1 _ _ _ XB1.out
            clear hb1
            by_cases hwd : wd = vw
            case neg =>
              have HVV := Lib.hid (HTB.out (HQB.out (by rw [decide_eq_false hwd]; rfl)))
              have hne : (wd == vw) = false := by simpa using hwd
              go_wp2
              go_ret
              rw [HVV.out]
              refine ⟨rfl, ?_⟩
              first
                | exact HB1.out
                | (rw [← hw1]; exact HB1.out)
            case pos =>
              subst hwd
              unfold tkB at HQT HQB
              obtain ⟨d1, hd1⟩ : ∃ d, (accOne op wd n nm k 0 []).isSome = d := ⟨_, rfl⟩
              rw [hd1] at HQT HQB KT
              clear hd1 y0 y1
              go_wp2_with fail
              rw [← hw1]
              clear hw1 c0 c1 c2 c3 c4
              refine KT.out.mono ?_
              rintro e w2 ⟨rfl, hb2⟩
              have HB2 := Lib.hid (HB1.out.trans (hb2.mono HB1.out.size))
              have BK2 := Lib.hid (BK1.out.trans (hb2.mono BK1.out.size))
              clear hb2
              cases d1
              case false =>
                have HVV := Lib.hid (HTB.out (HQB.out (by simp)))
                go_wp2
                go_ret
                rw [HVV.out]
                exact ⟨rfl, HB2.out⟩
              case true =>
                have HN := Lib.hid (show tmB (F.take (m + 1)) wd = true by rw [HQT.out, HMT.out]; simp)
                go_wp2
                go_roundw
                case rel => exact ⟨m + 1, by omega, by go_num, HN.out, BK2.out⟩
                case measure => simp [intOf]; omega
          · have em : m = F.len := by omega
            have hmi : ¬ ((m : Int) < (F.len : Int)) := by omega
            have HN := Lib.hid (show atB (Fs.take (j + 1)) vw = true by
              rw [HTT.out, HT.out, Bool.true_and, ← F.take_all, ← em]
              exact HMT.out)
            go_wp2
            go_roundw
            case rel => exact ⟨j + 1, by omega, by go_num, HN.out, HB9.out⟩
            case measure => simp [intOf]; omega
    · have ej : j = Fs.length := by omega
      have hji : ¬ ((j : Int) < (Fs.length : Int)) := by omega
      have HVV := Lib.hid (show atB Fs vw = true by rw [← Fs.take_length, ← ej]; exact HT.out)
      go_wp2
      go_ret
      rw [HVV.out]
      exact ⟨rfl, HB.out⟩
end Go.Proofs.YthmababifgaejaaGreatDoor
namespace Go.Proofs.YthmababifgaejaaGreatDoor
open Go.ChangeShapes Go.WideShapes Go.ChangeAt Go.RowKit
/-- the state that the program looks at -/
def shq (x : PaR) (cd : Int) : StR := ⟨x.pc, List.replicate x.R.len 0, List.replicate x.M.len 0, x.S, x.inn, List.replicate x.O.len 0, cd, x.st⟩
theorem words_zero {vw vm vi : Int} {L : List InsR} (h : prB vw vm vi L = true) (k : Nat) : oprB 2 vw L.length (List.replicate k 0) = true := by
  obtain ⟨⟨h2, h8, -⟩, -⟩ := pr_in h
  refine oprB_ok fun j hj => ?_
  rw [opB_word, List.getElem_replicate]
  have : vw = 2 ∨ vw = 3 ∨ vw = 4 ∨ vw = 5 ∨ vw = 6 ∨ vw = 7 ∨ vw = 8 := by omega
  rcases this with rfl | rfl | rfl | rfl | rfl | rfl | rfl <;> decide
theorem opr_rg (vw : Int) (n : Int) (l : List Int) : oprB 3 vw n l = rgB 0 n l := rfl
theorem pa_prog (vw vm vi : Int) (L : List InsR) (x : PaR) (cd : Int) (hcd : cd = if x.cd = 9 then 0 else x.cd) :
    (soB vw vm vi L (shq x cd) && (decide ((x.C.len : Int) ≤ 60) && (decide ((x.U.length : Int) ≤ 60) && (atB [x.R, x.M, x.O] vw && (atB [x.C] 1 && rgB 0 1 x.U))))) = paB vw vm vi L x := by
  unfold paB soB atB
  by_cases hp : prB vw vm vi L = true
  · have hc : (decide (0 ≤ cd) && decide (cd ≤ 8)) = (decide (0 ≤ x.cd) && decide (x.cd ≤ 9)) := by
      rw [hcd]
      split
      · rename_i h; rw [h]; decide
      · rename_i h
        by_cases h1 : x.cd ≤ 8
        · rw [decide_eq_true h1, decide_eq_true (show x.cd ≤ 9 by omega)]
        · rw [decide_eq_false h1, decide_eq_false (show ¬ x.cd ≤ 9 by omega)]
    simp only [shq, List.length_replicate, words_zero hp, opr_rg, opB_place, List.all_cons, List.all_nil, Bool.and_true, Bool.true_and, hp]
    rw [← hc]
    ac_rfl
  · rw [Bool.not_eq_true] at hp
    rw [hp]
    simp
set_option maxRecDepth 100000 in
set_option maxHeartbeats 8000000 in
theorem i_path (vw vm vi : Int) (L : List InsR) (x : PaR) (s r m sk o c u : Value) (w : World) (hs : Cs.Shows w 0 4 s L.length (InsR.all L)) (hx : PaI w 0 x r m sk o c u) (hok : ∀ r ∈ L, r.Ok) (hL : L.length ≤ maxLen) (_hl : x.Long) (hc : x.cost ≤ 1048576) :
    Calls Tryz.prog 45 #[.agg #[.int .i64 vw, .int .i64 vm, .int .i64 vi, s], .agg #[.int .i64 x.pc, r, m, sk, .int .i64 x.inn, o, .int .i64 x.cd, .int .i64 x.st, c, u]] w fun e w' => e = .returned (.bool (paB vw vm vi L x)) ∧ Below w.heap.size w w' := by
  have hml : maxLen = 9223372036854775807 := rfl
  have hcx : x.cost = x.R.cost + x.M.cost + x.S.length + x.O.cost + x.C.cost + x.U.length := rfl
  have hlr := x.R.len_le
  have hlm := x.M.len_le
  have hlo := x.O.len_le
  have hlc := x.C.len_le
  have hnr := x.R.nodes_le
  have hnm := x.M.nodes_le
  have hno := x.O.nodes_le
  have hnc := x.C.nodes_le
  have KF := Lib.hid (fun W (hb : Below w.heap.size w W) => i_sof x r m sk o c u W (hx.below hb) hc)
  have KP := Lib.hid (fun cd r m st o W (hb : Below w.heap.size w W) (h : StS W 0 (shp x) r m st o) => show Calls Tryz.prog 63 #[.agg #[.int .i64 vw, .int .i64 vm, .int .i64 vi, s], .agg #[.int .i64 x.pc, r, m, st, .int .i64 x.inn, o, .int .i64 cd, .int .i64 x.st]] W (fun e w' => e = .returned (.bool (soB vw vm vi L (shq x cd))) ∧ Below W.heap.size W w') from
    i_state vw vm vi L (shq x cd) s r m st o W (hs.below hb) h hok hL ⟨by simp [shq]; omega, by simp [shq]; omega, by simp [shq]; omega, by simp [shq]; omega⟩)
  obtain ⟨hr, hm, hsk, ho, hcc, hu⟩ := hx
  have HR := Lib.hid hr
  have HM := Lib.hid hm
  have HO := Lib.hid ho
  have HD := Lib.hid hcc
  have HCT := Lib.hid (show ∀ F ∈ [x.R, x.M, x.O], F.cost ≤ 1048576 from fun F hF => by simp at hF; rcases hF with rfl | rfl | rfl <;> omega)
  have HCC := Lib.hid (show ∀ F ∈ [x.C], F.cost ≤ 1048576 from fun F hF => by simp at hF; subst hF; omega)
  have KU := Lib.hid (fun W (hb : Below w.heap.size w W) => i_turns x.U u W (by omega) (hu.below hb))
  obtain ⟨_, q, cap, rfl, _⟩ := hs
  obtain ⟨_, ⟨_, qr, cr, rfl, _⟩, _⟩ := hr
  obtain ⟨_, ⟨_, qm, cm, rfl, _⟩, _⟩ := hm
  obtain ⟨_, qsk, csk, rfl, _⟩ := hsk
  obtain ⟨_, ⟨_, qo, co, rfl, _⟩, _⟩ := ho
  obtain ⟨_, ⟨_, qc, cc, rfl, _⟩, _⟩ := hcc
  obtain ⟨_, qu, cu, rfl, _⟩ := hu
  obtain ⟨cd, hcd⟩ : ∃ cd, cd = if x.cd = 9 then 0 else x.cd := ⟨_, rfl⟩
  have HPA := Lib.hid (pa_prog vw vm vi L x cd hcd)
  obtain ⟨bS, hbS⟩ : ∃ c, soB vw vm vi L (shq x cd) = c := ⟨_, rfl⟩
  obtain ⟨d5, hd5⟩ : ∃ c, decide ((x.C.len : Int) ≤ 60) = c := ⟨_, rfl⟩
  obtain ⟨d6, hd6⟩ : ∃ c, decide ((x.U.length : Int) ≤ 60) = c := ⟨_, rfl⟩
  obtain ⟨a1, ha1⟩ : ∃ c, atB [x.R, x.M, x.O] vw = c := ⟨_, rfl⟩
  obtain ⟨a2, ha2⟩ : ∃ c, atB [x.C] 1 = c := ⟨_, rfl⟩
  obtain ⟨r2, hr2⟩ : ∃ c, rgB 0 1 x.U = c := ⟨_, rfl⟩
  have KA := Lib.hid (fun g c W hv hg => i_allterms [x.R, x.M, x.O] vw g c W hv hg (by simp) HCT.out)
  have KB := Lib.hid (fun g c W hv hg => i_allterms [x.C] 1 g c W hv hg (by simp) HCC.out)
  rw [hbS, hd5, hd6, ha1, ha2, hr2] at HPA
  rw [ha1] at KA
  rw [ha2] at KB
  rw [hr2] at KU
  obtain ⟨V, hV⟩ : ∃ V, paB vw vm vi L x = V := ⟨_, rfl⟩
  rw [hV] at HPA ⊢
  have KPS := Lib.hid (fun r m st o W hb h => hbS ▸ KP.out cd r m st o W hb h)
  clear hV ha1 ha2 hr2 KP
  obtain ⟨v1, hv1⟩ : ∃ W, W = w.alloc (.cells #[.int .i64 vw, .int .i64 vm, .int .i64 vi, .slice q L.length cap] 37) := ⟨_, rfl⟩
  have hv1s : v1.heap.size = w.heap.size + 1 := by rw [hv1]; simp
  obtain ⟨w0, hw0⟩ : ∃ W, W = v1.alloc (.cells #[.int .i64 x.pc, .slice qr x.R.len cr, .slice qm x.M.len cm, .slice qsk x.S.length csk, .int .i64 x.inn, .slice qo x.O.len co, .int .i64 x.cd, .int .i64 x.st, .slice qc x.C.len cc, .slice qu x.U.length cu] 41) := ⟨_, rfl⟩
  have k1 : Below v1.heap.size v1 w0 := by rw [hw0]; exact (Below.refl _ _).alloc (Nat.le_refl _) _
  have HB0 := Lib.hid (show Below w.heap.size w w0 by rw [hw0, hv1]; exact ((Below.refl _ _).alloc (Nat.le_refl _) _).alloc (by simp) _)
  have X0 := Lib.hid (show w0.heap[w.heap.size]? = some (.cells #[.int .i64 vw, .int .i64 vm, .int .i64 vi, .slice q L.length cap] 37 (0, 0)) from (k1.block w.heap.size (by omega)).trans (by rw [hv1]; exact heap_alloc_new _ _))
  have Y0 := Lib.hid (show w0.heap[w.heap.size + 1]? = some (.cells #[.int .i64 x.pc, .slice qr x.R.len cr, .slice qm x.M.len cm, .slice qsk x.S.length csk, .int .i64 x.inn, .slice qo x.O.len co, .int .i64 x.cd, .int .i64 x.st, .slice qc x.C.len cc, .slice qu x.U.length cu] 41 (0, 0)) by rw [hw0, ← hv1s]; exact heap_alloc_new _ _)
  clear k1 hv1s
  rw [hv1] at hw0
  clear hv1
  obtain ⟨x0, x1, x2, x3⟩ := cell4_row X0.out
  obtain ⟨y0, y1, y2, y3, y4, y5, y6, y7, y8, y9⟩ := cell10_row Y0.out
  rw [hw0] at x0 x1 x2 x3 y0 y1 y2 y3 y4 y5 y6 y7 y8 y9
  go_enter Tryz.func45, Tryz.ntmps45
  go_wp2_with fail
  rw [← hw0] at x0 x1 x2 x3 y0 y1 y2 y3 y4 y5 y6 y7 y8 y9 ⊢
  clear hw0
  refine (KF.out _ HB0.out).mono ?_
  rintro e w1 ⟨hb, qr0, cr0, qm0, cm0, qs0, cs0, qo0, co0, rfl, hst⟩
  have HB1 := Lib.hid (HB0.out.trans (hb.mono HB0.out.size))
  have X1 := Lib.hid ((hb.block w.heap.size (row_lt X0.out)).trans X0.out)
  have Y1 := Lib.hid ((hb.block (w.heap.size + 1) (row_lt Y0.out)).trans Y0.out)
  obtain ⟨w2, hw2⟩ : ∃ W, W = w1.alloc (.cells #[.int .i64 x.pc, .slice qr0 x.R.len cr0, .slice qm0 x.M.len cm0, .slice qs0 x.S.length cs0, .int .i64 x.inn, .slice qo0 x.O.len co0, .int .i64 x.cd, .int .i64 x.st] 32) := ⟨_, rfl⟩
  have hb2 : Below w1.heap.size w1 w2 := by rw [hw2]; exact (Below.refl _ _).alloc (Nat.le_refl _) _
  have ST2 := Lib.hid (hst.below hb2)
  have HB2 := Lib.hid (HB1.out.trans (hb2.mono HB1.out.size))
  have X2 := Lib.hid ((hb2.block w.heap.size (row_lt X1.out)).trans X1.out)
  have Y2 := Lib.hid ((hb2.block (w.heap.size + 1) (row_lt Y1.out)).trans Y1.out)
  have G2 := Lib.hid (show w2.heap[w1.heap.size]? = some (.cells #[.int .i64 x.pc, .slice qr0 x.R.len cr0, .slice qm0 x.M.len cm0, .slice qs0 x.S.length cs0, .int .i64 x.inn, .slice qo0 x.O.len co0, .int .i64 x.cd, .int .i64 x.st] 32 (0, 0)) by rw [hw2]; exact heap_alloc_new _ _)
  have hgl := Lib.hid (show w.heap.size + 1 < w1.heap.size from row_lt Y1.out)
  have ST1 := Lib.hid hst
  have BK2 := Lib.hid hb2
  clear hb hb2 x0 x1 x2 x3 y0 y1 y2 y3 y4 y5 y6 y7 y8 y9 hst
  by_cases h9 : x.cd = 9
  · have hc0 : cd = 0 := by rw [hcd, if_pos h9]
    subst hc0
    have hq9 : (x.cd == 9) = true := by simpa using h9
    obtain ⟨w3, hw3⟩ : ∃ W, W = w1.alloc (.cells #[.int .i64 x.pc, .slice qr0 x.R.len cr0, .slice qm0 x.M.len cm0, .slice qs0 x.S.length cs0, .int .i64 x.inn, .slice qo0 x.O.len co0, .int .i64 0, .int .i64 x.st] 32) := ⟨_, rfl⟩
    have hb3 : Below w1.heap.size w1 w3 := by rw [hw3]; exact (Below.refl _ _).alloc (Nat.le_refl _) _
    have G3 := Lib.hid (show w3.heap[w1.heap.size]? = some (.cells #[.int .i64 x.pc, .slice qr0 x.R.len cr0, .slice qm0 x.M.len cm0, .slice qs0 x.S.length cs0, .int .i64 x.inn, .slice qo0 x.O.len co0, .int .i64 0, .int .i64 x.st] 32 (0, 0)) by rw [hw3]; exact heap_alloc_new _ _)
    have X3 := Lib.hid ((hb3.block w.heap.size (row_lt X1.out)).trans X1.out)
    have Y3 := Lib.hid ((hb3.block (w.heap.size + 1) (row_lt Y1.out)).trans Y1.out)
    have HB3 := Lib.hid (HB1.out.trans (hb3.mono HB1.out.size))
    have ST3 := Lib.hid (ST1.out.below hb3)
    clear hb3
    obtain ⟨d0, d1, d2, d3, d4, d5_, d6_, d7⟩ := cell8_row G2.out
    obtain ⟨f0, f1, f2, f3, f4, f5, f6, f7⟩ := froz8_row G2.out
    rw [h9] at d6_ hw2
    rw [hw2] at d0 d1 d2 d3 d4 d5_ d6_ d7 f0 f1 f2 f3 f4 f5 f6 f7
    obtain ⟨x0, x1, x2, x3⟩ := cell4_row X3.out
    obtain ⟨y0, y1, y2, y3, y4, y5, y6, y7, y8, y9⟩ := cell10_row Y3.out
    obtain ⟨e0, e1, e2, e3, e4, e5, e6, e7⟩ := cell8_row G3.out
    rw [h9] at y6
    clear hcd hbS
    rw [hw3] at x0 x1 x2 x3 y0 y1 y2 y3 y4 y5 y6 y7 y8 y9 e0 e1 e2 e3 e4 e5 e6 e7
    go_wp2_with fail
    rw [← hw3]
    clear hw2 hw3 d0 d1 d2 d3 d4 d5_ d6_ d7 f0 f1 f2 f3 f4 f5 f6 f7
    refine (KPS.out _ _ _ _ _ HB3.out ST3.out).mono ?_
    rintro e w4 ⟨rfl, hb⟩
    have HB4 := Lib.hid (HB3.out.trans (hb.mono HB3.out.size))
    have X4 := Lib.hid ((hb.block w.heap.size (row_lt X3.out)).trans X3.out)
    have Y4 := Lib.hid ((hb.block (w.heap.size + 1) (row_lt Y3.out)).trans Y3.out)
    clear hb x0 x1 x2 x3 y0 y1 y2 y3 y4 y5 y6 y7 y8 y9 e0 e1 e2 e3 e4 e5 e6 e7
    obtain ⟨x0, x1, x2, x3⟩ := cell4_row X4.out
    obtain ⟨y0, y1, y2, y3, y4, y5, y6, y7, y8, y9⟩ := cell10_row Y4.out
    cases bS
    case false =>
      have hv : V = false := HPA.out.symm
      subst hv
      go_wp2
      go_ret
      exact ⟨rfl, HB4.out⟩
    case true =>
      cases d5
      case false =>
        have nd := of_decide_eq_false hd5
        have nd0 : (60 : Int) < (x.C.len : Int) := by omega
        have hv : V = false := HPA.out.symm
        subst hv
        go_wp2
        go_ret
        exact ⟨rfl, HB4.out⟩
      case true =>
        have ndd5 := of_decide_eq_true hd5
        have nnd5 : ¬ (60 : Int) < (x.C.len : Int) := by omega
        cases d6
        case false =>
          have nd := of_decide_eq_false hd6
          have nd0 : (60 : Int) < (x.U.length : Int) := by omega
          have hv : V = false := HPA.out.symm
          subst hv
          go_wp2
          go_ret
          exact ⟨rfl, HB4.out⟩
        case true =>
          have ndd6 := of_decide_eq_true hd6
          have nnd6 : ¬ (60 : Int) < (x.U.length : Int) := by omega
          obtain ⟨w5, hw5⟩ : ∃ W, W = w4.alloc (.cells #[.slice qr x.R.len cr, .slice qm x.M.len cm, .slice qo x.O.len co] 39) := ⟨_, rfl⟩
          have hb5 : Below w4.heap.size w4 w5 := by rw [hw5]; exact (Below.refl _ _).alloc (Nat.le_refl _) _
          have HB5 := Lib.hid (HB4.out.trans (hb5.mono HB4.out.size))
          have T5 := Lib.hid (show w5.heap[w4.heap.size]? = some (.cells #[.slice qr x.R.len cr, .slice qm x.M.len cm, .slice qo x.O.len co] 39 (0, 0)) by rw [hw5]; exact heap_alloc_new _ _)
          have X5 := Lib.hid ((hb5.block w.heap.size (row_lt X4.out)).trans X4.out)
          have Y5 := Lib.hid ((hb5.block (w.heap.size + 1) (row_lt Y4.out)).trans Y4.out)
          have RT5 := Lib.hid (show RowsT w5 w4.heap.size [x.R, x.M, x.O] from fun j hj => by
            have hbl := row_lt T5.out
            have hj3 : j = 0 ∨ j = 1 ∨ j = 2 := by simp at hj; omega
            rcases hj3 with rfl | rfl | rfl
            · exact ⟨qr, cr, fun W hW => ⟨cell_of_row W w4.heap.size 0 _ _ _ ((hW.block _ hbl).trans T5.out), HR.out.below (HB5.out.trans (hW.mono HB5.out.size))⟩⟩
            · exact ⟨qm, cm, fun W hW => ⟨cell_of_row W w4.heap.size 1 _ _ _ ((hW.block _ hbl).trans T5.out), HM.out.below (HB5.out.trans (hW.mono HB5.out.size))⟩⟩
            · exact ⟨qo, co, fun W hW => ⟨cell_of_row W w4.heap.size 2 _ _ _ ((hW.block _ hbl).trans T5.out), HO.out.below (HB5.out.trans (hW.mono HB5.out.size))⟩⟩)
          have KA5 := Lib.hid (KA.out w4.heap.size 3 w5 RT5.out (row_lt T5.out))
          clear hb5
          go_wp2_with fail
          rw [← hw5]
          clear hw5 x0 x1 x2 x3 y0 y1 y2 y3 y4 y5 y6 y7 y8 y9
          refine KA5.out.mono ?_
          rintro e w6 ⟨rfl, hb⟩
          have HB6 := Lib.hid (HB5.out.trans (hb.mono HB5.out.size))
          have X6 := Lib.hid ((hb.block w.heap.size (row_lt X5.out)).trans X5.out)
          have Y6 := Lib.hid ((hb.block (w.heap.size + 1) (row_lt Y5.out)).trans Y5.out)
          clear hb
          obtain ⟨x0, x1, x2, x3⟩ := cell4_row X6.out
          obtain ⟨y0, y1, y2, y3, y4, y5, y6, y7, y8, y9⟩ := cell10_row Y6.out
          cases a1
          case false =>
            have hv : V = false := HPA.out.symm
            subst hv
            go_wp2
            go_ret
            exact ⟨rfl, HB6.out⟩
          case true =>
            obtain ⟨w7, hw7⟩ : ∃ W, W = w6.alloc (.cells #[.slice qc x.C.len cc] 39) := ⟨_, rfl⟩
            have hb7 : Below w6.heap.size w6 w7 := by rw [hw7]; exact (Below.refl _ _).alloc (Nat.le_refl _) _
            have HB7 := Lib.hid (HB6.out.trans (hb7.mono HB6.out.size))
            have T7 := Lib.hid (show w7.heap[w6.heap.size]? = some (.cells #[.slice qc x.C.len cc] 39 (0, 0)) by rw [hw7]; exact heap_alloc_new _ _)
            have Y7 := Lib.hid ((hb7.block (w.heap.size + 1) (row_lt Y6.out)).trans Y6.out)
            have RT7 := Lib.hid (show RowsT w7 w6.heap.size [x.C] from fun j hj => by
              have hbl := row_lt T7.out
              have hj3 : j = 0 := by simp at hj; omega
              subst hj3
              exact ⟨qc, cc, fun W hW => ⟨cell_of_row W w6.heap.size 0 _ _ _ ((hW.block _ hbl).trans T7.out), HD.out.below (HB7.out.trans (hW.mono HB7.out.size))⟩⟩)
            have KB7 := Lib.hid (KB.out w6.heap.size 1 w7 RT7.out (row_lt T7.out))
            clear hb7
            go_wp2_with fail
            rw [← hw7]
            clear hw7 x0 x1 x2 x3 y0 y1 y2 y3 y4 y5 y6 y7 y8 y9
            refine KB7.out.mono ?_
            rintro e w8 ⟨rfl, hb⟩
            have HB8 := Lib.hid (HB7.out.trans (hb.mono HB7.out.size))
            have Y8 := Lib.hid ((hb.block (w.heap.size + 1) (row_lt Y7.out)).trans Y7.out)
            clear hb
            obtain ⟨y0, y1, y2, y3, y4, y5, y6, y7, y8, y9⟩ := cell10_row Y8.out
            cases a2
            case false =>
              have hv : V = false := HPA.out.symm
              subst hv
              go_wp2
              go_ret
              exact ⟨rfl, HB8.out⟩
            case true =>
              go_wp2_with fail
              refine (KU.out _ HB8.out).mono ?_
              rintro e w9 ⟨rfl, hb⟩
              have HB9 := Lib.hid (HB8.out.trans (hb.mono HB8.out.size))
              clear hb
              have hv : V = r2 := HPA.out.symm
              subst hv
              go_wp2
              go_ret
              exact ⟨rfl, HB9.out⟩
  · have hc0 : cd = x.cd := by rw [hcd, if_neg h9]
    subst hc0
    have hq9 : (x.cd == 9) = false := by simpa using h9
    obtain ⟨x0, x1, x2, x3⟩ := cell4_row X2.out
    obtain ⟨y0, y1, y2, y3, y4, y5, y6, y7, y8, y9⟩ := cell10_row Y2.out
    obtain ⟨e0, e1, e2, e3, e4, e5, e6, e7⟩ := cell8_row G2.out
    rw [hw2] at x0 x1 x2 x3 y0 y1 y2 y3 y4 y5 y6 y7 y8 y9 e0 e1 e2 e3 e4 e5 e6 e7
    clear hcd hbS
    go_wp2_with fail
    rw [← hw2]
    clear hw2
    refine (KPS.out _ _ _ _ _ HB2.out ST2.out).mono ?_
    rintro e w4 ⟨rfl, hb⟩
    have HB4 := Lib.hid (HB2.out.trans (hb.mono HB2.out.size))
    have X4 := Lib.hid ((hb.block w.heap.size (row_lt X2.out)).trans X2.out)
    have Y4 := Lib.hid ((hb.block (w.heap.size + 1) (row_lt Y2.out)).trans Y2.out)
    clear hb x0 x1 x2 x3 y0 y1 y2 y3 y4 y5 y6 y7 y8 y9 e0 e1 e2 e3 e4 e5 e6 e7
    obtain ⟨x0, x1, x2, x3⟩ := cell4_row X4.out
    obtain ⟨y0, y1, y2, y3, y4, y5, y6, y7, y8, y9⟩ := cell10_row Y4.out
    cases bS
    case false =>
      have hv : V = false := HPA.out.symm
      subst hv
      go_wp2
      go_ret
      exact ⟨rfl, HB4.out⟩
    case true =>
      cases d5
      case false =>
        have nd := of_decide_eq_false hd5
        have nd0 : (60 : Int) < (x.C.len : Int) := by omega
        have hv : V = false := HPA.out.symm
        subst hv
        go_wp2
        go_ret
        exact ⟨rfl, HB4.out⟩
      case true =>
        have ndd5 := of_decide_eq_true hd5
        have nnd5 : ¬ (60 : Int) < (x.C.len : Int) := by omega
        cases d6
        case false =>
          have nd := of_decide_eq_false hd6
          have nd0 : (60 : Int) < (x.U.length : Int) := by omega
          have hv : V = false := HPA.out.symm
          subst hv
          go_wp2
          go_ret
          exact ⟨rfl, HB4.out⟩
        case true =>
          have ndd6 := of_decide_eq_true hd6
          have nnd6 : ¬ (60 : Int) < (x.U.length : Int) := by omega
          obtain ⟨w5, hw5⟩ : ∃ W, W = w4.alloc (.cells #[.slice qr x.R.len cr, .slice qm x.M.len cm, .slice qo x.O.len co] 39) := ⟨_, rfl⟩
          have hb5 : Below w4.heap.size w4 w5 := by rw [hw5]; exact (Below.refl _ _).alloc (Nat.le_refl _) _
          have HB5 := Lib.hid (HB4.out.trans (hb5.mono HB4.out.size))
          have T5 := Lib.hid (show w5.heap[w4.heap.size]? = some (.cells #[.slice qr x.R.len cr, .slice qm x.M.len cm, .slice qo x.O.len co] 39 (0, 0)) by rw [hw5]; exact heap_alloc_new _ _)
          have X5 := Lib.hid ((hb5.block w.heap.size (row_lt X4.out)).trans X4.out)
          have Y5 := Lib.hid ((hb5.block (w.heap.size + 1) (row_lt Y4.out)).trans Y4.out)
          have RT5 := Lib.hid (show RowsT w5 w4.heap.size [x.R, x.M, x.O] from fun j hj => by
            have hbl := row_lt T5.out
            have hj3 : j = 0 ∨ j = 1 ∨ j = 2 := by simp at hj; omega
            rcases hj3 with rfl | rfl | rfl
            · exact ⟨qr, cr, fun W hW => ⟨cell_of_row W w4.heap.size 0 _ _ _ ((hW.block _ hbl).trans T5.out), HR.out.below (HB5.out.trans (hW.mono HB5.out.size))⟩⟩
            · exact ⟨qm, cm, fun W hW => ⟨cell_of_row W w4.heap.size 1 _ _ _ ((hW.block _ hbl).trans T5.out), HM.out.below (HB5.out.trans (hW.mono HB5.out.size))⟩⟩
            · exact ⟨qo, co, fun W hW => ⟨cell_of_row W w4.heap.size 2 _ _ _ ((hW.block _ hbl).trans T5.out), HO.out.below (HB5.out.trans (hW.mono HB5.out.size))⟩⟩)
          have KA5 := Lib.hid (KA.out w4.heap.size 3 w5 RT5.out (row_lt T5.out))
          clear hb5
          go_wp2_with fail
          rw [← hw5]
          clear hw5 x0 x1 x2 x3 y0 y1 y2 y3 y4 y5 y6 y7 y8 y9
          refine KA5.out.mono ?_
          rintro e w6 ⟨rfl, hb⟩
          have HB6 := Lib.hid (HB5.out.trans (hb.mono HB5.out.size))
          have X6 := Lib.hid ((hb.block w.heap.size (row_lt X5.out)).trans X5.out)
          have Y6 := Lib.hid ((hb.block (w.heap.size + 1) (row_lt Y5.out)).trans Y5.out)
          clear hb
          obtain ⟨x0, x1, x2, x3⟩ := cell4_row X6.out
          obtain ⟨y0, y1, y2, y3, y4, y5, y6, y7, y8, y9⟩ := cell10_row Y6.out
          cases a1
          case false =>
            have hv : V = false := HPA.out.symm
            subst hv
            go_wp2
            go_ret
            exact ⟨rfl, HB6.out⟩
          case true =>
            obtain ⟨w7, hw7⟩ : ∃ W, W = w6.alloc (.cells #[.slice qc x.C.len cc] 39) := ⟨_, rfl⟩
            have hb7 : Below w6.heap.size w6 w7 := by rw [hw7]; exact (Below.refl _ _).alloc (Nat.le_refl _) _
            have HB7 := Lib.hid (HB6.out.trans (hb7.mono HB6.out.size))
            have T7 := Lib.hid (show w7.heap[w6.heap.size]? = some (.cells #[.slice qc x.C.len cc] 39 (0, 0)) by rw [hw7]; exact heap_alloc_new _ _)
            have Y7 := Lib.hid ((hb7.block (w.heap.size + 1) (row_lt Y6.out)).trans Y6.out)
            have RT7 := Lib.hid (show RowsT w7 w6.heap.size [x.C] from fun j hj => by
              have hbl := row_lt T7.out
              have hj3 : j = 0 := by simp at hj; omega
              subst hj3
              exact ⟨qc, cc, fun W hW => ⟨cell_of_row W w6.heap.size 0 _ _ _ ((hW.block _ hbl).trans T7.out), HD.out.below (HB7.out.trans (hW.mono HB7.out.size))⟩⟩)
            have KB7 := Lib.hid (KB.out w6.heap.size 1 w7 RT7.out (row_lt T7.out))
            clear hb7
            go_wp2_with fail
            rw [← hw7]
            clear hw7 x0 x1 x2 x3 y0 y1 y2 y3 y4 y5 y6 y7 y8 y9
            refine KB7.out.mono ?_
            rintro e w8 ⟨rfl, hb⟩
            have HB8 := Lib.hid (HB7.out.trans (hb.mono HB7.out.size))
            have Y8 := Lib.hid ((hb.block (w.heap.size + 1) (row_lt Y7.out)).trans Y7.out)
            clear hb
            obtain ⟨y0, y1, y2, y3, y4, y5, y6, y7, y8, y9⟩ := cell10_row Y8.out
            cases a2
            case false =>
              have hv : V = false := HPA.out.symm
              subst hv
              go_wp2
              go_ret
              exact ⟨rfl, HB8.out⟩
            case true =>
              go_wp2_with fail
              refine (KU.out _ HB8.out).mono ?_
              rintro e w9 ⟨rfl, hb⟩
              have HB9 := Lib.hid (HB8.out.trans (hb.mono HB8.out.size))
              clear hb
              have hv : V = r2 := HPA.out.symm
              subst hv
              go_wp2
              go_ret
              exact ⟨rfl, HB9.out⟩
end Go.Proofs.YthmababifgaejaaGreatDoor
namespace Go.Proofs.YthmababifgaejaaGreatDoor
open Go.ChangeShapes Go.WideShapes
theorem skip_s {P : Program} {ops : Array Oper} {S : List Nat} {C : World → Prop} {Q : Exit → Act → World → Prop} {i : Nat} {oi : Oper} {fuel : Nat} {listed : Array Bool} {a : Act} {w : World} (hi : ops[i]? = some oi) (hc : (Region.noSelect ops && (behindB ops S i && (noneYet S listed && (Region.free .any ops listed i && (Region.ready .any ops listed).contains i)))) = true)
    (hQ : ∀ c a w, Q (.panic c) (a.put oi.dst undef) w → Q (.panic c) a w) (hC : C w) (hw : Region.wanted oi (yielded ops a.tmps) = false) (h : wpAnyS P ops S C Q fuel (listed.setIfInBounds i true) (a.put oi.dst undef) w) : wpAnyS P ops S C Q (fuel + 1) listed a w := by
  simp only [Bool.and_eq_true] at hc
  obtain ⟨hs, hb, hn, hf, hr⟩ := hc
  exact first_s hi hs hb hQ fuel listed a w hC hn (Region.free_spec hi hf) (by simpa using hr) (.inr ⟨hw, rfl⟩) h
theorem one_skip {P : Program} {ops : Array Oper} {S : List Nat} {C : World → Prop} {Q : Exit → Act → World → Prop} {i : Nat} {oi : Oper} {fuel : Nat} {listed : Array Bool} {a : Act} {w : World} (hi : ops[i]? = some oi) (hr : Region.ready .any ops listed = [i]) (hC : C w) (hw : Region.wanted oi (yielded ops a.tmps) = false) (h : wpAnyS P ops S C Q fuel (listed.setIfInBounds i true) (a.put oi.dst undef) w) : wpAnyS P ops S C Q (fuel + 1) listed a w := by
  refine one_s hr ?_
  unfold Go.wpOp
  simp only [hi, hw, Bool.false_eq_true, if_false]
  exact ⟨fun _ => hC, h⟩
end Go.Proofs.YthmababifgaejaaGreatDoor
