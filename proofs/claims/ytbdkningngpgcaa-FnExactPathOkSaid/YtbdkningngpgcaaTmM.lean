/- The model of lists of terms of one width that are valid. No condition. What the specification's l06Terms returns. No condition. -/
import Derived.Test.YtbdkningngpgcaaTermOk
namespace Go.Proofs.Ytbdkningngpgcaa
open Go.ChangeShapes Go.WideShapes Go.ChangeAt Go.RowKit
/-- one term is valid -/
noncomputable def tkB (op wd n : Int) (nm : ByteArray) (k : Fo) : Bool := (accOne op wd n nm k 0 []).isSome
/-- all terms are valid and have a width -/
noncomputable def tmB : Fo → Int → Bool
  | .nil, _ => true
  | .cons op wd n nm k r, w => (decide (wd = w) && tkB op wd n nm k) && tmB r w
theorem tm_take : ∀ (F : Fo) (j : Nat) {op wd n w : Int} {nm : ByteArray} {k : Fo}, F.At j op wd n nm k → tmB (F.take (j + 1)) w = (tmB (F.take j) w && (decide (wd = w) && tkB op wd n nm k))
  | .nil, _, _, _, _, _, _, _, h => h.elim
  | .cons _ _ _ _ _ _, 0, _, _, _, _, _, _, ⟨rfl, rfl, rfl, rfl, rfl⟩ => by simp [Fo.take, Fo.take_zero, tmB]
  | .cons _ _ _ _ _ r, j + 1, _, _, _, _, _, _, h => by
    simp only [Fo.take, tmB]
    rw [tm_take r j h, ← Bool.and_assoc]
theorem tm_bad : ∀ (F : Fo) (j : Nat) {op wd n w : Int} {nm : ByteArray} {k : Fo}, F.At j op wd n nm k → (decide (wd = w) && tkB op wd n nm k) = false → tmB F w = false
  | .nil, _, _, _, _, _, _, _, h, _ => h.elim
  | .cons _ _ _ _ _ _, 0, _, _, _, _, _, _, ⟨rfl, rfl, rfl, rfl, rfl⟩, hb => by simp only [tmB, hb, Bool.false_and]
  | .cons _ _ _ _ _ r, j + 1, _, _, _, _, _, _, h, hb => by
    simp only [tmB, tm_bad r j h hb, Bool.and_false]
theorem tm_zero (F : Fo) (w : Int) : tmB (F.take 0) w = true := by rw [Fo.take_zero]; rfl
/-- what a node at an index costs -/
theorem at_cost : ∀ (F : Fo) (j : Nat) {op wd n : Int} {nm : ByteArray} {k : Fo}, F.At j op wd n nm k → nm.size + k.cost ≤ F.cost
  | .nil, _, _, _, _, _, _, h => h.elim
  | .cons _ _ _ _ _ r, 0, _, _, _, _, _, ⟨rfl, rfl, rfl, rfl, rfl⟩ => by simp only [Fo.cost]; omega
  | .cons _ _ _ _ _ r, j + 1, _, _, _, _, _, h => by have := at_cost r j h; simp only [Fo.cost]; omega
end Go.Proofs.Ytbdkningngpgcaa
namespace Go.Proofs.Ytbdkningngpgcaa
open Go.ChangeShapes Go.WideShapes Go.ChangeAt Go.RowKit
set_option maxRecDepth 100000 in
set_option maxHeartbeats 4000000 in
theorem s_terms (F : Fo) (vw : Int) (v : Value) (w : World) (hv : (F.cs 87).Is w 0 5 F.len v) (hc : F.cost ≤ 1048576) :
    Calls Try.prog 68 #[v, .int .i64 vw] w fun e w' => e = .returned (.bool (tmB F vw)) ∧ Below w.heap.size w w' := by
  have hml : maxLen = 9223372036854775807 := rfl
  have hFn := F.nodes_le
  have hFl := F.len_le
  rcases Fo.is_cases hv with ⟨h0, q, cap, rfl⟩ | ⟨hpos, b, o, cap, ys, rfl, hc1, hc2, _, hbl, hvs, hr⟩
  · have hF : F = .nil := by cases F with | nil => rfl | cons => simp [Fo.len] at h0
    subst hF
    clear hv h0 hc hFn hFl
    go_enter Try.func68, Try.ntmps68
    go_wp2
    refine wp_loop_rounds 1 ?_
    rw [rounds_succ]
    go_wp2
    go_ret
    exact ⟨rfl, Below.refl _ _⟩
  · have HI := Lib.hid (fun j (hj : j < F.len) => Fo.nth F hvs hr j hj)
    have HC := Lib.hid hc
    clear hv hvs hr
    go_enter Try.func68, Try.ntmps68
    go_wp2
    go_loopw [9] (fun i wr => ∃ j : Nat, j ≤ F.len ∧ i = .int .i64 j ∧ tmB (F.take j) vw = true ∧ Below w.heap.size w wr) (fun i _ => F.len - (intOf i).toNat)
    case atStart => exact ⟨0, Nat.zero_le _, rfl, tm_zero F vw, Below.refl _ _⟩
    case round =>
      obtain ⟨j, hj, rfl, ht, hb⟩ := hrel
      have HT := Lib.hid ht
      have HB := Lib.hid hb
      have hsr := hb.size
      by_cases hjn : j < F.len
      · obtain ⟨op, wd, n, nm, k, sv, hat, his, hrr⟩ := HI.out j hjn
        have hcst := at_cost F j hat
        have HTT := Lib.hid (tm_take F j (w := vw) hat)
        have HTB := Lib.hid (tm_bad F j (w := vw) hat)
        have hrr := rangeAt_below hb hrr
        have c0 : wr.cell? ⟨b, o + j * 5, none⟩ = some (.int .i64 op) := hrr 0 _ rfl
        have c1 : wr.cell? ⟨b, o + j * 5 + 1, none⟩ = some (.int .i64 wd) := hrr 1 _ rfl
        have c2 : wr.cell? ⟨b, o + j * 5 + 2, none⟩ = some (.int .i64 n) := hrr 2 _ rfl
        have c3 : wr.cell? ⟨b, o + j * 5 + 3, none⟩ = some (.string nm) := hrr 3 _ rfl
        have c4 : wr.cell? ⟨b, o + j * 5 + 4, none⟩ = some sv := hrr 4 _ rfl
        have hji : (j : Int) < (F.len : Int) := by omega
        have HIS := Lib.hid his
        have hbw : b < wr.heap.size := by omega
        clear his hat hrr ht hb
        obtain ⟨_, ⟨_, sq, sc, rfl, _⟩, _⟩ := HIS.out
        obtain ⟨w1, hw1⟩ : ∃ W, W = wr.alloc (.cells #[.int .i64 op, .int .i64 wd, .int .i64 n, .string nm, .slice sq k.len sc] 87) := ⟨_, rfl⟩
        have hb1 : Below wr.heap.size wr w1 := by rw [hw1]; exact (Below.refl _ _).alloc (Nat.le_refl _) _
        have HB1 := Lib.hid (HB.out.trans (hb1.mono hsr))
        have XB1 := Lib.hid (show w1.heap[wr.heap.size]? = some (.cells #[.int .i64 op, .int .i64 wd, .int .i64 n, .string nm, .slice sq k.len sc] 87 (0, 0)) by rw [hw1]; exact heap_alloc_new _ _)
        have KT := Lib.hid (s_termok k op wd n nm (.slice sq k.len sc) w1 (HIS.out.below HB1.out) (by omega) (by omega))
        have hs1 := HB1.out.size
        clear hb1
        go_wp2_with fail
        rw [← hw1]
        clear hw1 c0 c1 c2 c3 c4
        refine KT.out.mono ?_
        rintro e w2 ⟨rfl, hb2⟩
        have HB2 := Lib.hid (HB1.out.trans (hb2.mono hs1))
        have XB2 := Lib.hid ((hb2.block wr.heap.size ((Array.getElem?_eq_some_iff.1 XB1.out).1)).trans XB1.out)
        clear hb2
        obtain ⟨d1, hd1⟩ : ∃ d, (accOne op wd n nm k 0 []).isSome = d := ⟨_, rfl⟩
        unfold tkB at HTT HTB
        rw [hd1] at HTT HTB ⊢
        clear hd1
        have y1 : w2.cell? ⟨wr.heap.size, 1, none⟩ = some (.int .i64 wd) := cell_of_row w2 wr.heap.size 1 _ _ _ XB2.out
        cases d1
        case false =>
          have HV := Lib.hid (HTB.out (by simp))
          go_wp2
          go_ret
          rw [HV.out]
          exact ⟨rfl, HB2.out⟩
        case true =>
          by_cases hwd : wd = vw
          case neg =>
            have HV := Lib.hid (HTB.out (by rw [decide_eq_false hwd]; rfl))
            have hne : (wd == vw) = false := by simpa using hwd
            go_wp2
            go_ret
            rw [HV.out]
            exact ⟨rfl, HB2.out⟩
          case pos =>
            have HN := Lib.hid (show tmB (F.take (j + 1)) vw = true by rw [HTT.out, HT.out, decide_eq_true hwd]; rfl)
            clear HTT HTB
            subst hwd
            go_wp2
            go_roundw
            case rel => exact ⟨j + 1, by omega, by go_num, HN.out, HB2.out⟩
            case measure => simp [intOf]; omega
      · have ej : j = F.len := by omega
        have hji : ¬ ((j : Int) < (F.len : Int)) := by omega
        have HV := Lib.hid (show tmB F vw = true by rw [← F.take_all, ← ej]; exact HT.out)
        go_wp2
        go_ret
        rw [HV.out]
        exact ⟨rfl, HB.out⟩
end Go.Proofs.Ytbdkningngpgcaa
