/- varOf, l03Abs, literalsOk. No condition. -/
import Derived.Test.YtimjkgciakbolabClM
import Derived.Test.YtimjkgciakbolabMid
import Derived.WalkSpells
namespace Go.Proofs.Ytimjkgciakbolab
open Go.ChangeShapes Go.WideShapes Go.ChangeAt Go.RowKit
theorem iabs_cases (x : Int) : (x < 0 ∧ iabs x = -x) ∨ (0 ≤ x ∧ iabs x = x) := by unfold iabs; split <;> omega
set_option maxRecDepth 100000 in
theorem i_varof (x : Int) (h : -9223372036854775807 ≤ x ∧ x ≤ 9223372036854775807) (w : World) : Calls Try.prog 55 #[.int .i64 x] w fun e w' => e = .returned (.int .i64 (iabs x)) ∧ w = w' := by
  rcases iabs_cases x with ⟨h1, h2⟩ | ⟨h1, h2⟩
  all_goals
    rw [h2]
    clear h2
    go_enter Try.func55, Try.ntmps55
    go_wp2
    go_ret
    first | exact ⟨rfl, rfl⟩ | (refine ⟨?_, rfl⟩; congr 2; omega)
set_option maxRecDepth 100000 in
theorem s_abs (x : Int) (h : -9223372036854775807 ≤ x ∧ x ≤ 9223372036854775807) (w : World) : Calls Try.prog 32 #[.int .i64 x] w fun e w' => e = .returned (.int .i64 (iabs x)) ∧ w = w' := by
  rcases iabs_cases x with ⟨h1, h2⟩ | ⟨h1, h2⟩
  all_goals
    rw [h2]
    clear h2
    go_enter Try.func32, Try.ntmps32
    go_wp2
    go_ret
    exact ⟨rfl, rfl⟩
set_option maxRecDepth 100000 in
set_option maxHeartbeats 1000000 in
theorem i_lits0 (n : Int) (hn : 0 ≤ n) (hn2 : n ≤ 4611686018427387904) (l : List Int) (v : Value) (w : World) (hv : Cs.Shows w 0 1 v l.length (IntL.all l)) (hl : l.length ≤ 1048577) :
    Calls Try.prog 61 #[.int .i64 n, v] w fun e w' => e = .returned (.bool (litsB n l)) ∧ Below w.heap.size w w' := by
  rcases Cs.shows_cases hv with ⟨h0, q, cap, rfl⟩ | ⟨hpos, b, o, cap, rfl, _, _, hbl, hr⟩
  · have hL : l = [] := List.length_eq_zero_iff.1 h0
    subst hL
    clear hv hl h0
    go_enter Try.func61, Try.ntmps61
    go_wp2
    refine wp_loop_rounds 1 ?_
    rw [rounds_succ]
    go_wp2
    go_ret
    exact ⟨rfl, Below.refl _ _⟩
  · have HR := Lib.hid (fun (wr : World) (hb : Below w.heap.size w wr) j (h : j < l.length) => IntL.nth l j h (rangeAt_below hb hr))
    have HX := Lib.hid (fun j (h : j < l.length) => all_at (litB n) l j h)
    have HE := Lib.hid (show (l.drop l.length).all (litB n) = true by simp)
    have H0 := Lib.hid (show (l.drop 0).all (litB n) = litsB n l from rfl)
    clear hv hr
    go_enter Try.func61, Try.ntmps61
    go_wp2
    go_loopw [9] (fun i wr => ∃ (j : Nat), j ≤ l.length ∧ i = .int .i64 j ∧ (l.drop j).all (litB n) = litsB n l ∧ Below w.heap.size w wr) (fun i _ => l.length - (intOf i).toNat)
    case atStart => exact ⟨0, Nat.zero_le _, rfl, H0.out, Below.refl _ _⟩
    case round =>
      obtain ⟨j, hj, rfl, hrest, hb⟩ := hrel
      by_cases hjn : j < l.length
      · have c0 := HR.out wr hb j hjn
        have hx := HX.out j hjn
        generalize l[j] = x at *
        rw [hrest] at hx
        have HB := Lib.hid hb
        have HQ := Lib.hid hx
        have hki : (j : Int) < (l.length : Int) := by omega
        clear hb hrest hx
        by_cases g0 : x = 0
        · have HF := Lib.hid (show litsB n l = false by rw [HQ.out, litB_f (.inl g0)]; rfl)
          go_wp2
          go_ret
          exact ⟨by rw [HF.out] <;> rfl, HB.out⟩
        · by_cases g1 : x < -n
          · have HF := Lib.hid (show litsB n l = false by rw [HQ.out, litB_f (.inr (.inl g1))]; rfl)
            go_wp2
            go_ret
            exact ⟨by rw [HF.out] <;> rfl, HB.out⟩
          · by_cases g2 : n < x
            · have HF := Lib.hid (show litsB n l = false by rw [HQ.out, litB_f (.inr (.inr g2))]; rfl)
              go_wp2
              go_ret
              exact ⟨by rw [HF.out] <;> rfl, HB.out⟩
            · have HT := Lib.hid (show (l.drop (j + 1)).all (litB n) = litsB n l by rw [HQ.out, litB_t g0 (by omega) (by omega)]; rfl)
              go_wp2
              go_roundw
              case rel => exact ⟨j + 1, by omega, by go_num, HT.out, HB.out⟩
              case measure => simp [intOf]; omega
      · have HB := Lib.hid hb
        have hnj : ¬ ((j : Int) < (l.length : Int)) := by omega
        have HF := Lib.hid (show litsB n l = true by rw [← hrest, show j = l.length by omega]; exact HE.out)
        clear hb hrest
        go_wp2
        go_ret
        exact ⟨by rw [HF.out] <;> rfl, HB.out⟩
theorem i_lits (n : Int) (hn : 0 ≤ n) (hn2 : n ≤ 4611686018427387904) (l : List Int) (v : Value) (w : World) (hv : Cs.Shows w 0 1 v l.length (IntL.all l)) (_ : ∀ x ∈ l, IntL.Ok x) (hl : l.length ≤ 1048577) :
    Calls Try.prog 61 #[.int .i64 n, v] w fun e w' => e = .returned (.bool (litsB n l)) ∧ Below w.heap.size w w' := i_lits0 n hn hn2 l v w hv hl
set_option maxRecDepth 100000 in
/-- varOf of whatever int: the least one stays itself -/
theorem i_vo (x : Int) (h : -9223372036854775808 ≤ x ∧ x ≤ 9223372036854775807) (w : World) : Calls Try.prog 55 #[.int .i64 x] w fun e w' => e = .returned (.int .i64 (if x = -9223372036854775808 then x else iabs x)) ∧ w = w' := by
  by_cases hx : x = -9223372036854775808
  · subst hx
    have hwm : wrap64 9223372036854775808 = -9223372036854775808 := by unfold wrap64; omega
    go_enter Try.func55, Try.ntmps55
    go_wp2
    go_ret
    exact ⟨rfl, rfl⟩
  · rw [if_neg hx]
    exact i_varof x (by omega) w
set_option maxRecDepth 100000 in
theorem s_inb (x a b : Int) (c : Bool) (h : (decide (a ≤ x) && decide (x ≤ b)) = c) (w : World) : Calls Try.prog 31 #[.int .i64 x, .int .i64 a, .int .i64 b] w fun e w' => e = .returned (.bool c) ∧ w = w' := by
  subst h
  by_cases h1 : a ≤ x
  · by_cases h2 : x ≤ b
    · go_enter Try.func31, Try.ntmps31
      go_wp2
      go_ret
      exact ⟨by simp [h1, h2], rfl⟩
    · go_enter Try.func31, Try.ntmps31
      go_wp2
      go_ret
      exact ⟨by simp [h1, h2], rfl⟩
  · go_enter Try.func31, Try.ntmps31
    go_wp2
    go_ret
    exact ⟨by rw [show decide (a ≤ x) = false from by simp; omega]; rfl, rfl⟩
end Go.Proofs.Ytimjkgciakbolab
