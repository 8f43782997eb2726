/- What FormulaOk, its parts and their model return. No condition. -/
import Derived.Test.YtkgdmamafemniaaDoorClM
import Derived.Test.YtkgdmamafemniaaDoorFormula
import Derived.WalkSpells
namespace Go.Proofs.YtkgdmamafemniaaDoor
open Go.ChangeShapes Go.WideShapes Go.ChangeAt Go.RowKit
theorem iabs_cases (x : Int) : (x < 0 ∧ iabs x = -x) ∨ (0 ≤ x ∧ iabs x = x) := by unfold iabs; split <;> omega
set_option maxRecDepth 100000 in
theorem i_varof (x : Int) (h : -9223372036854775807 ≤ x ∧ x ≤ 9223372036854775807) (w : World) : Calls Tryd.prog 57 #[.int .i64 x] w fun e w' => e = .returned (.int .i64 (iabs x)) ∧ w = w' := by
  rcases iabs_cases x with ⟨h1, h2⟩ | ⟨h1, h2⟩
  all_goals
    rw [h2]
    clear h2
    go_enter Tryd.func57, Tryd.ntmps57
    go_wp2
    go_ret
    first | exact ⟨rfl, rfl⟩ | (refine ⟨?_, rfl⟩; congr 2; omega)
set_option maxRecDepth 100000 in
theorem s_abs (x : Int) (h : -9223372036854775807 ≤ x ∧ x ≤ 9223372036854775807) (w : World) : Calls Tryd.prog 55 #[.int .i64 x] w fun e w' => e = .returned (.int .i64 (iabs x)) ∧ w = w' := by
  rcases iabs_cases x with ⟨h1, h2⟩ | ⟨h1, h2⟩
  all_goals
    rw [h2]
    clear h2
    go_enter Tryd.func55, Tryd.ntmps55
    go_wp2
    go_ret
    exact ⟨rfl, rfl⟩
set_option maxRecDepth 100000 in
theorem s_in_lo (x a b : Int) (h : x < a) (w : World) : Calls Tryd.prog 37 #[.int .i64 x, .int .i64 a, .int .i64 b] w fun e w' => e = .returned (.bool false) ∧ w = w' := by
  go_enter Tryd.func37, Tryd.ntmps37
  go_wp2
  go_ret
  exact ⟨rfl, rfl⟩
set_option maxRecDepth 100000 in
theorem s_in_hi (x a b : Int) (h : b < x) (w : World) : Calls Tryd.prog 37 #[.int .i64 x, .int .i64 a, .int .i64 b] w fun e w' => e = .returned (.bool false) ∧ w = w' := by
  by_cases h1 : a ≤ x
  · have h2 : decide (x ≤ b) = false := by simp; omega
    go_enter Tryd.func37, Tryd.ntmps37
    go_wp2
    go_ret
    exact ⟨rfl, rfl⟩
  · exact s_in_lo x a b (by omega) w
set_option maxRecDepth 100000 in
theorem s_in_ok (x a b : Int) (h1 : a ≤ x) (h2 : x ≤ b) (w : World) : Calls Tryd.prog 37 #[.int .i64 x, .int .i64 a, .int .i64 b] w fun e w' => e = .returned (.bool true) ∧ w = w' := by
  go_enter Tryd.func37, Tryd.ntmps37
  go_wp2
  go_ret
  exact ⟨rfl, rfl⟩
set_option maxRecDepth 100000 in
set_option maxHeartbeats 1000000 in
theorem i_lits (n : Int) (hn : 0 ≤ n) (hn2 : n ≤ 4611686018427387904) (l : List Int) (v : Value) (w : World) (hv : Cs.Shows w 0 1 v l.length (IntL.all l)) (hok : ∀ x ∈ l, IntL.Ok x) (hl : l.length ≤ 1048577) :
    Calls Tryd.prog 56 #[.int .i64 n, v] w fun e w' => e = .returned (.bool (litsB n l)) ∧ Below w.heap.size w w' := by
  rcases Cs.shows_cases hv with ⟨h0, q, cap, rfl⟩ | ⟨hpos, b, o, cap, rfl, _, _, hbl, hr⟩
  · have hL : l = [] := List.length_eq_zero_iff.1 h0
    subst hL
    clear hv hl h0 hok
    go_enter Tryd.func56, Tryd.ntmps56
    go_wp2
    refine wp_loop_rounds 1 ?_
    rw [rounds_succ]
    go_wp2
    go_ret
    exact ⟨rfl, Below.refl _ _⟩
  · have HR := Lib.hid (fun (wr : World) (hb : Below w.heap.size w wr) j (h : j < l.length) => IntL.nth l j h (rangeAt_below hb hr))
    have HX := Lib.hid (fun j (h : j < l.length) => all_at (litB n) l j h)
    have HOK := Lib.hid (fun j (h : j < l.length) => hok l[j] (List.getElem_mem h))
    have HE := Lib.hid (show (l.drop l.length).all (litB n) = true by simp)
    have H0 := Lib.hid (show (l.drop 0).all (litB n) = litsB n l from rfl)
    clear hv hr hok
    go_enter Tryd.func56, Tryd.ntmps56
    go_wp2
    go_loopw [9] (fun i wr => ∃ (j : Nat), j ≤ l.length ∧ i = .int .i64 j ∧ (l.drop j).all (litB n) = litsB n l ∧ Below w.heap.size w wr) (fun i _ => l.length - (intOf i).toNat)
    case atStart => exact ⟨0, Nat.zero_le _, rfl, H0.out, Below.refl _ _⟩
    case round =>
      obtain ⟨j, hj, rfl, hrest, hb⟩ := hrel
      by_cases hjn : j < l.length
      · have c0 := HR.out wr hb j hjn
        have hx := HX.out j hjn
        have hok1 := HOK.out j hjn
        generalize l[j] = x at *
        rw [hrest] at hx
        have HB := Lib.hid hb
        have HQ := Lib.hid hx
        have hki : (j : Int) < (l.length : Int) := by omega
        unfold IntL.Ok at hok1
        clear hb hrest hx
        by_cases g0 : x = 0
        · have HF := Lib.hid (show litsB n l = false by rw [HQ.out, litB_f (.inl g0)]; rfl)
          go_wp2
          go_ret
          exact ⟨by rw [HF.out] <;> rfl, HB.out⟩
        · by_cases g1 : x < -n
          · have HF := Lib.hid (show litsB n l = false by rw [HQ.out, litB_f (.inr (.inl g1))]; rfl)
            go_wp2
            go_ret
            exact ⟨by rw [HF.out] <;> rfl, HB.out⟩
          · by_cases g2 : n < x
            · have HF := Lib.hid (show litsB n l = false by rw [HQ.out, litB_f (.inr (.inr g2))]; rfl)
              go_wp2
              go_ret
              exact ⟨by rw [HF.out] <;> rfl, HB.out⟩
            · have HT := Lib.hid (show (l.drop (j + 1)).all (litB n) = litsB n l by rw [HQ.out, litB_t g0 (by omega) (by omega)]; rfl)
              go_wp2
              go_roundw
              case rel => exact ⟨j + 1, by omega, by go_num, HT.out, HB.out⟩
              case measure => simp [intOf]; omega
      · have HB := Lib.hid hb
        have hnj : ¬ ((j : Int) < (l.length : Int)) := by omega
        have HF := Lib.hid (show litsB n l = true by rw [← hrest, show j = l.length by omega]; exact HE.out)
        clear hb hrest
        go_wp2
        go_ret
        exact ⟨by rw [HF.out] <;> rfl, HB.out⟩
set_option maxRecDepth 100000 in
set_option maxHeartbeats 1000000 in
theorem i_clause (n : Int) (hn : 0 ≤ n) (hn2 : n ≤ 4611686018427387904) (l : List Int) (v : Value) (w : World) (hv : Cs.Shows w 0 1 v l.length (IntL.all l)) (hok : ∀ x ∈ l, IntL.Ok x) (hl : l.length ≤ 1048577) :
    Calls Tryd.prog 46 #[.int .i64 n, v] w fun e w' => e = .returned (.bool (clB n l)) ∧ Below w.heap.size w w' := by
  have KL := Lib.hid (i_lits n hn hn2 l v w hv hok hl)
  by_cases hlit : litsB n l = true
  · rw [hlit] at KL
    have hcl : clB n l = ascB 0 l := by unfold clB; rw [hlit]; rfl
    have HCL := Lib.hid hcl
    have hmem := List.all_eq_true.1 hlit
    rcases Cs.shows_cases hv with ⟨h0, q, cap, rfl⟩ | ⟨hpos, b, o, cap, rfl, _, _, hbl, hr⟩
    · have hL : l = [] := List.length_eq_zero_iff.1 h0
      subst hL
      clear hv hl h0 hok hlit hcl hmem HCL
      go_enter Tryd.func46, Tryd.ntmps46
      go_wp2_with fail
      refine KL.out.mono ?_
      rintro e w1 ⟨rfl, hb1⟩
      go_wp2
      refine wp_loop_rounds 1 ?_
      rw [rounds_succ]
      go_wp2
      go_ret
      exact ⟨rfl, hb1⟩
    · have HR := Lib.hid (fun (wr : World) (hb : Below w.heap.size w wr) j (h : j < l.length) => IntL.nth l j h (rangeAt_below hb hr))
      have HX := Lib.hid (fun j (h : j < l.length) => List.drop_eq_getElem_cons h)
      have HOK := Lib.hid (fun j (h : j < l.length) => show l[j] ≠ 0 ∧ -n ≤ l[j] ∧ l[j] ≤ n by
        have := hmem l[j] (List.getElem_mem h); unfold litB at this; simpa using this)
      clear hv hr hok hmem hlit hcl
      go_enter Tryd.func46, Tryd.ntmps46
      go_wp2_with fail
      refine KL.out.mono ?_
      rintro e w1 ⟨rfl, hb1⟩
      have B1 := Lib.hid hb1
      clear hb1
      go_wp2
      go_loopw [5, 14] (fun s i wr => ∃ (j : Nat) (last : Int), j ≤ l.length ∧ i = .int .i64 j ∧ s = .int .i64 last ∧ 0 ≤ last ∧ last ≤ n ∧ ascB last (l.drop j) = ascB 0 l ∧ Below w.heap.size w wr) (fun _ i _ => l.length - (intOf i).toNat)
      case atStart => exact ⟨0, 0, Nat.zero_le _, rfl, rfl, Int.le_refl _, hn, rfl, B1.out⟩
      case round =>
        obtain ⟨j, last, hj, rfl, rfl, hla0, hla1, hrest, hb⟩ := hrel
        by_cases hjn : j < l.length
        · have c0 := HR.out wr hb j hjn
          have hx := HX.out j hjn
          have hok1 := HOK.out j hjn
          rw [hx] at hrest
          generalize l[j] = x at *
          have hna := iabs_nn x
          have han : iabs x ≤ n := by unfold iabs; split <;> omega
          have HB := Lib.hid hb
          have HQ := Lib.hid hrest
          have KV := Lib.hid (fun W => i_varof x (by omega) W)
          have hki : (j : Int) < (l.length : Int) := by omega
          clear hb hrest hx
          by_cases g0 : iabs x ≤ last
          · have HF := Lib.hid (show clB n l = false by rw [HCL.out, ← HQ.out, ascB, show decide (last < iabs x) = false by simp; omega]; exact Bool.false_and _)
            generalize iabs x = ax at *
            go_wp2_with (go_at_call 57; refine (KV.out _).mono ?_; rintro e w1 ⟨rfl, rfl⟩)
            go_ret
            exact ⟨by rw [HF.out] <;> rfl, HB.out⟩
          · have HT := Lib.hid (show ascB (iabs x) (l.drop (j + 1)) = ascB 0 l by rw [← HQ.out, ascB, show decide (last < iabs x) = true by simp; omega]; exact (Bool.true_and _).symm)
            generalize iabs x = ax at *
            go_wp2_with (go_at_call 57; refine (KV.out _).mono ?_; rintro e w1 ⟨rfl, rfl⟩)
            go_roundw
            case rel => exact ⟨j + 1, ax, by omega, by go_num, rfl, by omega, by omega, HT.out, HB.out⟩
            case measure => simp [intOf]; omega
        · have HB := Lib.hid hb
          have hnj : ¬ ((j : Int) < (l.length : Int)) := by omega
          have HF := Lib.hid (show clB n l = true by rw [HCL.out, ← hrest, List.drop_of_length_le (by omega)]; rfl)
          clear hb hrest
          go_wp2
          go_ret
          exact ⟨by rw [HF.out] <;> rfl, HB.out⟩
  · have hlit : litsB n l = false := by simpa using hlit
    rw [hlit] at KL
    have HF := Lib.hid (show clB n l = false by unfold clB; rw [hlit]; rfl)
    obtain ⟨_, q, cap, rfl, _⟩ := hv
    clear hlit hok
    go_enter Tryd.func46, Tryd.ntmps46
    go_wp2_with fail
    refine KL.out.mono ?_
    rintro e w1 ⟨rfl, hb1⟩
    go_wp2
    go_ret
    exact ⟨by rw [HF.out] <;> rfl, hb1⟩
set_option maxRecDepth 100000 in
set_option maxHeartbeats 1000000 in
theorem s_clause (n : Int) (hn : 0 ≤ n) (hn2 : n ≤ 4611686018427387904) (l : List Int) (v : Value) (w : World) (hv : Cs.Shows w 0 1 v l.length (IntL.all l)) (hok : ∀ x ∈ l, IntL.Ok x) (hl : l.length ≤ 1048577) :
    Calls Tryd.prog 43 #[v, .int .i64 n] w fun e w' => e = .returned (.bool (clB n l)) ∧ Below w.heap.size w w' := by
  rw [← cl_eq]
  rcases Cs.shows_cases hv with ⟨h0, q, cap, rfl⟩ | ⟨hpos, b, o, cap, rfl, _, _, hbl, hr⟩
  · have hL : l = [] := List.length_eq_zero_iff.1 h0
    subst hL
    clear hv hl h0 hok
    go_enter Tryd.func43, Tryd.ntmps43
    go_wp2
    refine wp_loop_rounds 1 ?_
    rw [rounds_succ]
    go_wp2
    go_ret
    exact ⟨rfl, Below.refl _ _⟩
  · have HR := Lib.hid (fun (wr : World) (hb : Below w.heap.size w wr) j (h : j < l.length) => IntL.nth l j h (rangeAt_below hb hr))
    have HX := Lib.hid (fun j (h : j < l.length) => List.drop_eq_getElem_cons h)
    have HOK := Lib.hid (fun j (h : j < l.length) => hok l[j] (List.getElem_mem h))
    clear hv hr hok
    go_enter Tryd.func43, Tryd.ntmps43
    go_wp2
    go_loopw [5, 10] (fun s i wr => ∃ (j : Nat) (last : Int), j ≤ l.length ∧ i = .int .i64 j ∧ s = .int .i64 last ∧ 0 ≤ last ∧ last ≤ n ∧ clR n last (l.drop j) = clR n 0 l ∧ Below w.heap.size w wr) (fun _ i _ => l.length - (intOf i).toNat)
    case atStart => exact ⟨0, 0, Nat.zero_le _, rfl, rfl, Int.le_refl _, hn, rfl, Below.refl _ _⟩
    case round =>
      obtain ⟨j, last, hj, rfl, rfl, hla0, hla1, hrest, hb⟩ := hrel
      by_cases hjn : j < l.length
      · have c0 := HR.out wr hb j hjn
        have hx := HX.out j hjn
        have hok1 := HOK.out j hjn
        rw [hx] at hrest
        generalize l[j] = x at *
        unfold IntL.Ok at hok1
        have HB := Lib.hid hb
        have HQ := Lib.hid hrest
        have hki : (j : Int) < (l.length : Int) := by omega
        clear hb hrest hx
        by_cases g1 : x < -n
        · have HF := Lib.hid (show clR n 0 l = false by rw [← HQ.out, clR, show decide (-n ≤ x) = false by simp; omega]; simp)
          have KI := Lib.hid (fun W => s_in_lo x (-n) n g1 W)
          go_wp2_with (go_at_call 37; refine (KI.out _).mono ?_; rintro e w1 ⟨rfl, rfl⟩)
          go_ret
          exact ⟨by rw [HF.out] <;> rfl, HB.out⟩
        · by_cases g2 : n < x
          · have HF := Lib.hid (show clR n 0 l = false by rw [← HQ.out, clR, show decide (x ≤ n) = false by simp; omega]; simp)
            have KI := Lib.hid (fun W => s_in_hi x (-n) n g2 W)
            go_wp2_with (go_at_call 37; refine (KI.out _).mono ?_; rintro e w1 ⟨rfl, rfl⟩)
            go_ret
            exact ⟨by rw [HF.out] <;> rfl, HB.out⟩
          · have hna := iabs_nn x
            have han : iabs x ≤ n := by unfold iabs; split <;> omega
            have KI := Lib.hid (fun W => s_in_ok x (-n) n (by omega) (by omega) W)
            have KV := Lib.hid (fun W => s_abs x (by omega) W)
            by_cases g0 : iabs x ≤ last
            · have HF := Lib.hid (show clR n 0 l = false by rw [← HQ.out, clR, show decide (last < iabs x) = false by simp; omega]; simp)
              generalize iabs x = ax at *
              go_wp2_with (first | (go_at_call 37; refine (KI.out _).mono ?_; rintro e w1 ⟨rfl, rfl⟩) | (go_at_call 55; refine (KV.out _).mono ?_; rintro e w1 ⟨rfl, rfl⟩))
              go_ret
              exact ⟨by rw [HF.out] <;> rfl, HB.out⟩
            · have HT := Lib.hid (show clR n (iabs x) (l.drop (j + 1)) = clR n 0 l by rw [← HQ.out, clR, show decide (last < iabs x) = true by simp; omega, show decide (-n ≤ x) = true by simp; omega, show decide (x ≤ n) = true by simp; omega]; simp)
              generalize iabs x = ax at *
              go_wp2_with (first | (go_at_call 37; refine (KI.out _).mono ?_; rintro e w1 ⟨rfl, rfl⟩) | (go_at_call 55; refine (KV.out _).mono ?_; rintro e w1 ⟨rfl, rfl⟩))
              go_roundw
              case rel => exact ⟨j + 1, ax, by omega, by go_num, rfl, by omega, by omega, HT.out, HB.out⟩
              case measure => simp [intOf]; omega
      · have HB := Lib.hid hb
        have hnj : ¬ ((j : Int) < (l.length : Int)) := by omega
        have HF := Lib.hid (show clR n 0 l = true by rw [← hrest, List.drop_of_length_le (by omega)]; rfl)
        clear hb hrest
        go_wp2
        go_ret
        exact ⟨by rw [HF.out] <;> rfl, HB.out⟩
set_option maxRecDepth 100000 in
set_option maxHeartbeats 1000000 in
theorem i_fmok (n : Int) (L : List (List Int)) (v : Value) (w : World) (hv : (Cs.rows IntSS.c L).Is w 0 1 L.length v) (hok : (-9223372036854775808 ≤ n ∧ n ≤ 9223372036854775807) ∧ IntSS.Ok L ∧ L.length ≤ maxLen) (hc : IntSS.costs L ≤ 1048576) :
    Calls Tryd.prog 27 #[.agg #[.int .i64 n, v]] w fun e w' => e = .returned (.bool (fmB n L)) ∧ Below w.heap.size w w' := by
  have hll := IntSS.len_le L
  have HV := Lib.hid hv
  have HL := Lib.hid hok.2.1
  obtain ⟨hn, _, _⟩ := hok
  by_cases g0 : n < 0
  · have HF := Lib.hid (fm_lt (L := L) (.inl g0))
    obtain ⟨_, ⟨_, q, cap, rfl, _⟩, _⟩ := hv
    clear HL
    go_enter Tryd.func27, Tryd.ntmps27
    go_wp2
    go_ret
    exact ⟨by rw [HF.out] <;> rfl, (Below.refl _ _).alloc (Nat.le_refl _) _⟩
  · by_cases g1 : 400 < n
    · have HF := Lib.hid (fm_lt (L := L) (.inr (.inl g1)))
      obtain ⟨_, ⟨_, q, cap, rfl, _⟩, _⟩ := hv
      clear HL
      go_enter Tryd.func27, Tryd.ntmps27
      go_wp2
      go_ret
      exact ⟨by rw [HF.out] <;> rfl, (Below.refl _ _).alloc (Nat.le_refl _) _⟩
    · by_cases g2 : 1600 < L.length
      · have HF := Lib.hid (fm_lt (n := n) (L := L) (.inr (.inr g2)))
        obtain ⟨_, ⟨_, q, cap, rfl, _⟩, _⟩ := hv
        clear HL
        have g2i : (1600 : Int) < (L.length : Int) := by omega
        have g0' : 0 ≤ n := by omega
        have g1' : n ≤ 400 := by omega
        go_enter Tryd.func27, Tryd.ntmps27
        go_wp2
        go_ret
        exact ⟨by rw [HF.out] <;> rfl, (Below.refl _ _).alloc (Nat.le_refl _) _⟩
      · have HM := Lib.hid (fm_in (n := n) (L := L) (by omega) (by omega) (by omega))
        have g2i : ¬ ((1600 : Int) < (L.length : Int)) := by omega
        have g0' : 0 ≤ n := by omega
        have g1' : n ≤ 400 := by omega
        rcases IntSS.cases hv with ⟨hL, q, cap, rfl⟩ | ⟨hpos, b, o, cap, rfl, _, _, hbl, hr⟩
        · subst hL
          have HF := Lib.hid (show fmB n [] = true by rw [HM.out]; rfl)
          clear hv HV HL hll
          go_enter Tryd.func27, Tryd.ntmps27
          go_wp2
          refine wp_loop_rounds 1 ?_
          rw [rounds_succ]
          go_wp2
          go_ret
          exact ⟨by rw [HF.out] <;> rfl, (Below.refl _ _).alloc (Nat.le_refl _) _⟩
        · have HR := Lib.hid hr
          have HX := Lib.hid (fun j (h : j < L.length) => all_at (clB n) L j h)
          have HCO := Lib.hid (fun j h => IntSS.cost_lt L j h)
          have HOK := Lib.hid (fun j (h : j < L.length) => HL.out L[j] (List.getElem_mem h))
          clear hv HV HL hr
          go_enter Tryd.func27, Tryd.ntmps27
          go_wp2
          go_loopw [22] (fun i wr => ∃ (j : Nat), j ≤ L.length ∧ i = .int .i64 j ∧ (L.drop j).all (clB n) = L.all (clB n) ∧ Below w.heap.size w wr ∧ Cell2 wr w.heap.size (.int .i64 n) (.slice (some ⟨b, o, none⟩) L.length cap)) (fun i _ => L.length - (intOf i).toNat)
          case atStart => exact ⟨0, Nat.zero_le _, rfl, rfl, (Below.refl _ _).alloc (Nat.le_refl _) _, cell2_alloc _ _ _ _⟩
          case round =>
            obtain ⟨j, hj, rfl, hrest, hb, hcell⟩ := hrel
            have HCL := Lib.hid hcell
            obtain ⟨x0, x1⟩ := hcell
            by_cases hjn : j < L.length
            · obtain ⟨qe, me, cpe, hme, c0, hsh⟩ := HR.out wr hb j hjn
              have hx := HX.out j hjn
              have hok1 := HOK.out j hjn
              have hco := HCO.out j hjn
              generalize L[j] = l at *
              rw [hrest] at hx
              have KC := Lib.hid (i_clause n g0' (by omega) l (.slice qe me cpe) wr hsh hok1.1 (by omega))
              have HB := Lib.hid hb
              have HQ := Lib.hid hx
              have hki : (j : Int) < (L.length : Int) := by omega
              clear hb hrest hx hsh hok1
              by_cases gc : clB n l = true
              · have HT := Lib.hid (show (L.drop (j + 1)).all (clB n) = L.all (clB n) by rw [HQ.out, gc]; rfl)
                rw [gc] at KC
                clear gc
                go_wp2_with fail
                refine KC.out.mono ?_
                rintro e w1 ⟨rfl, hb1⟩
                have HB1 := Lib.hid (HB.out.trans (hb1.mono HB.out.size))
                have HC1 := Lib.hid (HCL.out.below hb1)
                clear hb1
                go_wp2
                go_roundw
                case rel => exact ⟨j + 1, by omega, by go_num, HT.out, HB1.out, HC1.out⟩
                case measure => simp [intOf]; omega
              · have gc : clB n l = false := by simpa using gc
                have HF := Lib.hid (show fmB n L = false by rw [HM.out, HQ.out, gc]; rfl)
                rw [gc] at KC
                clear gc
                go_wp2_with fail
                refine KC.out.mono ?_
                rintro e w1 ⟨rfl, hb1⟩
                have HB1 := Lib.hid (HB.out.trans (hb1.mono HB.out.size))
                clear hb1
                go_wp2
                go_ret
                exact ⟨by rw [HF.out] <;> rfl, HB1.out⟩
            · have HB := Lib.hid hb
              have hnj : ¬ ((j : Int) < (L.length : Int)) := by omega
              have HF := Lib.hid (show fmB n L = true by rw [HM.out, ← hrest, List.drop_of_length_le (by omega)]; rfl)
              clear hb hrest
              go_wp2
              go_ret
              exact ⟨by rw [HF.out] <;> rfl, HB.out⟩
set_option maxRecDepth 100000 in
set_option maxHeartbeats 1000000 in
theorem s_fmok (n : Int) (L : List (List Int)) (v : Value) (w : World) (hv : (Cs.rows IntSS.c L).Is w 0 1 L.length v) (hok : (-9223372036854775808 ≤ n ∧ n ≤ 9223372036854775807) ∧ IntSS.Ok L ∧ L.length ≤ maxLen) (hc : IntSS.costs L ≤ 1048576) :
    Calls Tryd.prog 23 #[.agg #[.int .i64 n, v]] w fun e w' => e = .returned (.bool (fmB n L)) ∧ Below w.heap.size w w' := by
  have hll := IntSS.len_le L
  have HV := Lib.hid hv
  have HL := Lib.hid hok.2.1
  obtain ⟨hn, _, _⟩ := hok
  by_cases g0 : n < 0
  · have HF := Lib.hid (fm_lt (L := L) (.inl g0))
    obtain ⟨_, ⟨_, q, cap, rfl, _⟩, _⟩ := hv
    clear HL
    have KI := Lib.hid (fun W => s_in_lo n 0 400 g0 W)
    go_enter Tryd.func23, Tryd.ntmps23
    go_wp2_with (go_at_call 37; refine (KI.out _).mono ?_; rintro e w1 ⟨rfl, rfl⟩)
    go_ret
    exact ⟨by rw [HF.out] <;> rfl, (Below.refl _ _).alloc (Nat.le_refl _) _⟩
  · by_cases g1 : 400 < n
    · have HF := Lib.hid (fm_lt (L := L) (.inr (.inl g1)))
      obtain ⟨_, ⟨_, q, cap, rfl, _⟩, _⟩ := hv
      clear HL
      have KI := Lib.hid (fun W => s_in_hi n 0 400 g1 W)
      go_enter Tryd.func23, Tryd.ntmps23
      go_wp2_with (go_at_call 37; refine (KI.out _).mono ?_; rintro e w1 ⟨rfl, rfl⟩)
      go_ret
      exact ⟨by rw [HF.out] <;> rfl, (Below.refl _ _).alloc (Nat.le_refl _) _⟩
    · by_cases g2 : 1600 < L.length
      · have HF := Lib.hid (fm_lt (n := n) (L := L) (.inr (.inr g2)))
        obtain ⟨_, ⟨_, q, cap, rfl, _⟩, _⟩ := hv
        clear HL
        have g2i : (1600 : Int) < (L.length : Int) := by omega
        have g0' : 0 ≤ n := by omega
        have g1' : n ≤ 400 := by omega
        have KI := Lib.hid (fun W => s_in_ok n 0 400 g0' g1' W)
        go_enter Tryd.func23, Tryd.ntmps23
        go_wp2_with (go_at_call 37; refine (KI.out _).mono ?_; rintro e w1 ⟨rfl, rfl⟩)
        go_ret
        exact ⟨by rw [HF.out] <;> rfl, (Below.refl _ _).alloc (Nat.le_refl _) _⟩
      · have HM := Lib.hid (fm_in (n := n) (L := L) (by omega) (by omega) (by omega))
        have g2i : ¬ ((1600 : Int) < (L.length : Int)) := by omega
        have g0' : 0 ≤ n := by omega
        have g1' : n ≤ 400 := by omega
        have KI := Lib.hid (fun W => s_in_ok n 0 400 g0' g1' W)
        rcases IntSS.cases hv with ⟨hL, q, cap, rfl⟩ | ⟨hpos, b, o, cap, rfl, _, _, hbl, hr⟩
        · subst hL
          have HF := Lib.hid (show fmB n [] = true by rw [HM.out]; rfl)
          clear hv HV HL hll
          go_enter Tryd.func23, Tryd.ntmps23
          go_wp2_with (go_at_call 37; refine (KI.out _).mono ?_; rintro e w1 ⟨rfl, rfl⟩)
          refine wp_loop_rounds 1 ?_
          rw [rounds_succ]
          go_wp2
          go_ret
          exact ⟨by rw [HF.out] <;> rfl, (Below.refl _ _).alloc (Nat.le_refl _) _⟩
        · have HR := Lib.hid hr
          have HX := Lib.hid (fun j (h : j < L.length) => all_at (clB n) L j h)
          have HCO := Lib.hid (fun j h => IntSS.cost_lt L j h)
          have HOK := Lib.hid (fun j (h : j < L.length) => HL.out L[j] (List.getElem_mem h))
          clear hv HV HL hr
          go_enter Tryd.func23, Tryd.ntmps23
          go_wp2_with (go_at_call 37; refine (KI.out _).mono ?_; rintro e w1 ⟨rfl, rfl⟩)
          go_loopw [18] (fun i wr => ∃ (j : Nat), j ≤ L.length ∧ i = .int .i64 j ∧ (L.drop j).all (clB n) = L.all (clB n) ∧ Below w.heap.size w wr ∧ Cell2 wr w.heap.size (.int .i64 n) (.slice (some ⟨b, o, none⟩) L.length cap)) (fun i _ => L.length - (intOf i).toNat)
          case atStart => exact ⟨0, Nat.zero_le _, rfl, rfl, (Below.refl _ _).alloc (Nat.le_refl _) _, cell2_alloc _ _ _ _⟩
          case round =>
            obtain ⟨j, hj, rfl, hrest, hb, hcell⟩ := hrel
            have HCL := Lib.hid hcell
            obtain ⟨x0, x1⟩ := hcell
            by_cases hjn : j < L.length
            · obtain ⟨qe, me, cpe, hme, c0, hsh⟩ := HR.out wr hb j hjn
              have hx := HX.out j hjn
              have hok1 := HOK.out j hjn
              have hco := HCO.out j hjn
              generalize L[j] = l at *
              rw [hrest] at hx
              have KC := Lib.hid (s_clause n g0' (by omega) l (.slice qe me cpe) wr hsh hok1.1 (by omega))
              have HB := Lib.hid hb
              have HQ := Lib.hid hx
              have hki : (j : Int) < (L.length : Int) := by omega
              clear hb hrest hx hsh hok1
              by_cases gc : clB n l = true
              · have HT := Lib.hid (show (L.drop (j + 1)).all (clB n) = L.all (clB n) by rw [HQ.out, gc]; rfl)
                rw [gc] at KC
                clear gc
                go_wp2_with fail
                refine KC.out.mono ?_
                rintro e w1 ⟨rfl, hb1⟩
                have HB1 := Lib.hid (HB.out.trans (hb1.mono HB.out.size))
                have HC1 := Lib.hid (HCL.out.below hb1)
                clear hb1
                go_wp2
                go_roundw
                case rel => exact ⟨j + 1, by omega, by go_num, HT.out, HB1.out, HC1.out⟩
                case measure => simp [intOf]; omega
              · have gc : clB n l = false := by simpa using gc
                have HF := Lib.hid (show fmB n L = false by rw [HM.out, HQ.out, gc]; rfl)
                rw [gc] at KC
                clear gc
                go_wp2_with fail
                refine KC.out.mono ?_
                rintro e w1 ⟨rfl, hb1⟩
                have HB1 := Lib.hid (HB.out.trans (hb1.mono HB.out.size))
                clear hb1
                go_wp2
                go_ret
                exact ⟨by rw [HF.out] <;> rfl, HB1.out⟩
            · have HB := Lib.hid hb
              have hnj : ¬ ((j : Int) < (L.length : Int)) := by omega
              have HF := Lib.hid (show fmB n L = true by rw [HM.out, ← hrest, List.drop_of_length_le (by omega)]; rfl)
              clear hb hrest
              go_wp2
              go_ret
              exact ⟨by rw [HF.out] <;> rfl, HB.out⟩
end Go.Proofs.YtkgdmamafemniaaDoor
