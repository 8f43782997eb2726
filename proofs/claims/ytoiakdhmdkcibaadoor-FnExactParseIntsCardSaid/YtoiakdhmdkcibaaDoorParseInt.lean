/- What ParseInt and its model return, for every string of at most 1048576 bytes. -/
import Derived.Test.YtoiakdhmdkcibaaDoorFmt
import Derived.Test.YtoiakdhmdkcibaaDoorParse
namespace Go.Proofs.YtoiakdhmdkcibaaDoor
open Go.ChangeShapes Go.WideShapes Go.ChangeAt Go.RowKit
open Parse
def pairV (p : Int × Bool) : Value := .tuple #[.int .i64 p.1, .bool p.2]
theorem over_of (d m : Int) (h0 : 0 ≤ d) (h9 : d ≤ 9) : m < Int.tdiv (-9223372036854775808 + d) 10 ↔ m * 10 - d < -9223372036854775808 := by
  have e : (-9223372036854775808 + d) = -(9223372036854775808 - d) := by omega
  rw [e, Int.neg_tdiv, Int.tdiv_eq_ediv_of_nonneg (by omega)]
  omega
theorem drop_at (s : ByteArray) (k : Nat) (h : k < s.size) : s.data.toList.drop k = s[k] :: s.data.toList.drop (k + 1) := by
  have h' : k < s.data.toList.length := by rw [← Lib.size_eq]; exact h
  rw [List.drop_eq_getElem_cons h']
  rfl
theorem str_eq (l : List UInt8) (s : ByteArray) : (l == s.toList) = decide (l = s.data.toList) := by
  rw [Lib.toList_data, Bool.eq_iff_iff]
  simp
theorem loopP_bad (c : UInt8) (r : List UInt8) (m : Int) (h : ¬ (48 ≤ (c.toNat : Int) ∧ (c.toNat : Int) ≤ 57 ∧ -9223372036854775808 ≤ m * 10 - ((c.toNat : Int) - 48))) : loopP (c :: r) m = none := by
  simp only [loopP]
  rw [if_neg (fun q => h ⟨by omega, by omega, q.2.2⟩)]
theorem loopP_good (c : UInt8) (r : List UInt8) (m : Int) (h1 : 48 ≤ (c.toNat : Int)) (h2 : (c.toNat : Int) ≤ 57) (h3 : -9223372036854775808 ≤ m * 10 - ((c.toNat : Int) - 48)) : loopP (c :: r) m = loopP r (m * 10 - ((c.toNat : Int) - 48)) := by
  simp only [loopP]
  rw [if_pos ⟨by omega, by omega, h3⟩]
theorem ret_pair {p : Int × Bool} {a : Int} {b : Bool} (h : p = (a, b)) : Ending.returned (.tuple #[.int .i64 a, .bool b]) = .returned (pairV p) := by rw [h]; rfl
set_option maxRecDepth 100000 in
set_option maxHeartbeats 2000000 in
theorem s_parse_pos (s : ByteArray) (h1 : 1 ≤ s.size) (h2 : s.size ≤ 19) (hm : ((s[0]'(by omega)).toNat : Int) ≠ 45) (w : World) : Calls Tryd.prog 11 #[.string s] w fun e w' => e = .returned (pairV (specT s.data.toList s.data.toList false)) ∧ Below w.heap.size w w' := by
  have h0 : 0 < s.size := by omega
  have h45 : ((s[0].toNat : Int) == 45) = false := by simpa using hm
  clear hm
  have ht1 : 1 ≤ s.size := h1
  have ht2 : s.size ≤ 19 := h2
  go_enter Tryd.func11, Tryd.ntmps11
  go_wp2
  have HS := Lib.hid (show specT s.data.toList s.data.toList false = fin s.data.toList false (loopP s.data.toList 0) by
    unfold specT; rw [if_neg (by rw [← Lib.size_eq]; omega)])
  go_loop [6, 7] (fun n i => ∃ (k : Nat) (m : Int), k ≤ s.size ∧ i = .int .i64 k ∧ n = .int .i64 m ∧ loopP (s.data.toList.drop k) m = loopP s.data.toList 0 ∧ -9223372036854775808 ≤ m ∧ m ≤ 0) (fun _ i => s.size - (intOf i).toNat)
  case atStart => exact ⟨0, 0, Nat.zero_le _, rfl, rfl, by simp, by omega, by omega⟩
  case round =>
    obtain ⟨k, m, hk, rfl, rfl, hl, hm1, hm2⟩ := hrel
    by_cases hlt : k < s.size
    · have hbd : (s[k].toNat : Int) ≤ 255 := by have := UInt8.toNat_lt s[k]; omega
      rw [drop_at _ k hlt] at hl
      by_cases d1 : 48 ≤ (s[k].toNat : Int)
      · by_cases d2 : (s[k].toNat : Int) ≤ 57
        · by_cases d3 : m * 10 - ((s[k].toNat : Int) - 48) < -9223372036854775808
          · have hov := (over_of ((s[k].toNat : Int) - 48) m (by omega) (by omega)).2 d3
            rw [loopP_bad _ _ m (by omega)] at hl
            have HF := Lib.hid (show fin s.data.toList false (loopP s.data.toList 0) = (0, false) by rw [← hl]; rfl)
            clear hl d3
            go_wp2
            go_ret2
            exact ⟨ret_pair (HS.out.trans HF.out), Below.refl _ _⟩
          · have hov : Int.tdiv (-9223372036854775808 + ((s[k].toNat : Int) - 48)) 10 ≤ m := by
              have := mt (over_of ((s[k].toNat : Int) - 48) m (by omega) (by omega)).1 d3
              omega
            have d3' : -9223372036854775808 ≤ m * 10 - ((s[k].toNat : Int) - 48) := by omega
            rw [loopP_good _ _ m d1 d2 d3'] at hl
            have HL := Lib.hid hl
            clear hl d3
            go_wp2
            go_round
            case rel => exact ⟨k + 1, _, by omega, by go_num, rfl, HL.out, by omega, by omega⟩
            case measure => simp [intOf]; omega
        · have hx : decide ((s[k].toNat : Int) - 48 ≤ 9) = false := decide_eq_false (by omega)
          rw [loopP_bad _ _ m (by omega)] at hl
          have HF := Lib.hid (show fin s.data.toList false (loopP s.data.toList 0) = (0, false) by rw [← hl]; rfl)
          have d2' : 57 < (s[k].toNat : Int) := by omega
          clear hl d2
          go_wp2
          go_ret2
          exact ⟨ret_pair (HS.out.trans HF.out), Below.refl _ _⟩
      · have d1' : (s[k].toNat : Int) < 48 := by omega
        rw [loopP_bad _ _ m (by omega)] at hl
        have HF := Lib.hid (show fin s.data.toList false (loopP s.data.toList 0) = (0, false) by rw [← hl]; rfl)
        clear hl d1
        go_wp2
        go_ret2
        exact ⟨ret_pair (HS.out.trans HF.out), Below.refl _ _⟩
    · have hend : loopP s.data.toList 0 = some m := by
        rw [← hl, List.drop_of_length_le (by rw [← Lib.size_eq]; omega)]; rfl
      clear hl
      have HE := Lib.hid hend
      clear hend
      by_cases hmin : m ≤ -9223372036854775808
      · have HF := Lib.hid (show specT s.data.toList s.data.toList false = (0, false) by rw [HS.out, HE.out]; simp only [fin]; rw [if_neg (by simp), if_pos (by omega)])
        go_wp2
        go_ret2
        exact ⟨ret_pair HF.out, Below.refl _ _⟩
      · have hmin' : -9223372036854775808 < m := by omega
        clear hmin
        by_cases hc : Lib.itoa (-m) = s.data.toList
        · have HF := Lib.hid (show specT s.data.toList s.data.toList false = (-m, true) by rw [HS.out, HE.out]; simp only [fin]; rw [if_neg (by simp), if_neg (by omega)]; exact if_pos hc)
          have q1 : (Lib.itoa (-m) == s.toList) = true := by rw [str_eq]; exact decide_eq_true hc
          clear hc
          go_wp2_with (first | (go_at_call 9; refine (s_fmt _ (by omega) (by omega) _).mono ?_; rintro e w1 ⟨rfl, hb1⟩; have HB := Lib.hid hb1; clear hb1))
          go_ret2
          exact ⟨ret_pair HF.out, HB.out⟩
        · have HF := Lib.hid (show specT s.data.toList s.data.toList false = (0, false) by rw [HS.out, HE.out]; simp only [fin]; rw [if_neg (by simp), if_neg (by omega)]; exact if_neg hc)
          have q1 : (Lib.itoa (-m) == s.toList) = false := by rw [str_eq]; exact decide_eq_false hc
          clear hc
          go_wp2_with (first | (go_at_call 9; refine (s_fmt _ (by omega) (by omega) _).mono ?_; rintro e w1 ⟨rfl, hb1⟩; have HB := Lib.hid hb1; clear hb1))
          go_ret2
          exact ⟨ret_pair HF.out, HB.out⟩
set_option maxRecDepth 100000 in
set_option maxHeartbeats 2000000 in
theorem s_parse_neg (s : ByteArray) (h1 : 2 ≤ s.size) (h2 : s.size ≤ 20) (hm : ((s[0]'(by omega)).toNat : Int) = 45) (w : World) : Calls Tryd.prog 11 #[.string s] w fun e w' => e = .returned (pairV (specT s.data.toList s.data.toList.tail true)) ∧ Below w.heap.size w w' := by
  have h0 : 0 < s.size := by omega
  have h45 : ((s[0].toNat : Int) == 45) = true := by simpa using hm
  clear hm
  go_enter Tryd.func11, Tryd.ntmps11
  go_wp2
  have hts : (s.extract 1 s.size).size = s.size - 1 := by simp
  have htl : (s.extract 1 s.size).data.toList = s.data.toList.tail := by
    rw [Lib.extract_to_end, List.drop_one]
  generalize s.extract 1 s.size = t at *
  have HTL := Lib.hid htl
  have ht1 : 1 ≤ t.size := by omega
  have ht2 : t.size ≤ 19 := by omega
  clear htl hts
  have HS := Lib.hid (show specT s.data.toList s.data.toList.tail true = fin s.data.toList true (loopP t.data.toList 0) by
    rw [← HTL.out]; unfold specT; rw [if_neg (by rw [← Lib.size_eq]; omega)])
  go_loop [6, 7] (fun n i => ∃ (k : Nat) (m : Int), k ≤ t.size ∧ i = .int .i64 k ∧ n = .int .i64 m ∧ loopP (t.data.toList.drop k) m = loopP t.data.toList 0 ∧ -9223372036854775808 ≤ m ∧ m ≤ 0) (fun _ i => t.size - (intOf i).toNat)
  case atStart => exact ⟨0, 0, Nat.zero_le _, rfl, rfl, by simp, by omega, by omega⟩
  case round =>
    obtain ⟨k, m, hk, rfl, rfl, hl, hm1, hm2⟩ := hrel
    by_cases hlt : k < t.size
    · have hbd : (t[k].toNat : Int) ≤ 255 := by have := UInt8.toNat_lt t[k]; omega
      rw [drop_at _ k hlt] at hl
      by_cases d1 : 48 ≤ (t[k].toNat : Int)
      · by_cases d2 : (t[k].toNat : Int) ≤ 57
        · by_cases d3 : m * 10 - ((t[k].toNat : Int) - 48) < -9223372036854775808
          · have hov := (over_of ((t[k].toNat : Int) - 48) m (by omega) (by omega)).2 d3
            rw [loopP_bad _ _ m (by omega)] at hl
            have HF := Lib.hid (show fin s.data.toList true (loopP t.data.toList 0) = (0, false) by rw [← hl]; rfl)
            clear hl d3
            go_wp2
            go_ret2
            exact ⟨ret_pair (HS.out.trans HF.out), Below.refl _ _⟩
          · have hov : Int.tdiv (-9223372036854775808 + ((t[k].toNat : Int) - 48)) 10 ≤ m := by
              have := mt (over_of ((t[k].toNat : Int) - 48) m (by omega) (by omega)).1 d3
              omega
            have d3' : -9223372036854775808 ≤ m * 10 - ((t[k].toNat : Int) - 48) := by omega
            rw [loopP_good _ _ m d1 d2 d3'] at hl
            have HL := Lib.hid hl
            clear hl d3
            go_wp2
            go_round
            case rel => exact ⟨k + 1, _, by omega, by go_num, rfl, HL.out, by omega, by omega⟩
            case measure => simp [intOf]; omega
        · have hx : decide ((t[k].toNat : Int) - 48 ≤ 9) = false := decide_eq_false (by omega)
          rw [loopP_bad _ _ m (by omega)] at hl
          have HF := Lib.hid (show fin s.data.toList true (loopP t.data.toList 0) = (0, false) by rw [← hl]; rfl)
          have d2' : 57 < (t[k].toNat : Int) := by omega
          clear hl d2
          go_wp2
          go_ret2
          exact ⟨ret_pair (HS.out.trans HF.out), Below.refl _ _⟩
      · have d1' : (t[k].toNat : Int) < 48 := by omega
        rw [loopP_bad _ _ m (by omega)] at hl
        have HF := Lib.hid (show fin s.data.toList true (loopP t.data.toList 0) = (0, false) by rw [← hl]; rfl)
        clear hl d1
        go_wp2
        go_ret2
        exact ⟨ret_pair (HS.out.trans HF.out), Below.refl _ _⟩
    · have hend : loopP t.data.toList 0 = some m := by
        rw [← hl, List.drop_of_length_le (by rw [← Lib.size_eq]; omega)]; rfl
      clear hl
      have HE := Lib.hid hend
      clear hend
      by_cases hc : Lib.itoa (m) = s.data.toList
      · have HF := Lib.hid (show specT s.data.toList s.data.toList.tail true = (m, true) by rw [HS.out, HE.out]; simp only [fin]; rw [if_pos trivial]; exact if_pos hc)
        have q1 : (Lib.itoa (m) == s.toList) = true := by rw [str_eq]; exact decide_eq_true hc
        clear hc
        go_wp2_with (first | (go_at_call 9; refine (s_fmt _ (by omega) (by omega) _).mono ?_; rintro e w1 ⟨rfl, hb1⟩; have HB := Lib.hid hb1; clear hb1))
        go_ret2
        exact ⟨ret_pair HF.out, HB.out⟩
      · have HF := Lib.hid (show specT s.data.toList s.data.toList.tail true = (0, false) by rw [HS.out, HE.out]; simp only [fin]; rw [if_pos trivial]; exact if_neg hc)
        have q1 : (Lib.itoa (m) == s.toList) = false := by rw [str_eq]; exact decide_eq_false hc
        clear hc
        go_wp2_with (first | (go_at_call 9; refine (s_fmt _ (by omega) (by omega) _).mono ?_; rintro e w1 ⟨rfl, hb1⟩; have HB := Lib.hid hb1; clear hb1))
        go_ret2
        exact ⟨ret_pair HF.out, HB.out⟩
set_option maxRecDepth 100000 in
theorem s_parse_short (s : ByteArray) (h : s.size = 1) (hm : ((s[0]'(by omega)).toNat : Int) = 45) (w : World) : Calls Tryd.prog 11 #[.string s] w fun e w' => e = .returned (pairV (0, false)) ∧ Below w.heap.size w w' := by
  have h0 : 0 < s.size := by omega
  have h1 : s.size ≤ 1 := by omega
  have h45 : ((s[0].toNat : Int) == 45) = true := by simpa using hm
  clear hm h
  go_enter Tryd.func11, Tryd.ntmps11
  go_wp2
  go_ret2
  exact ⟨rfl, Below.refl _ _⟩
set_option maxRecDepth 100000 in
theorem s_parse_long (s : ByteArray) (h : 19 < s.size) (hmax : s.size ≤ 1048576) (hm : ((s[0]'(by omega)).toNat : Int) ≠ 45) (w : World) : Calls Tryd.prog 11 #[.string s] w fun e w' => e = .returned (pairV (0, false)) ∧ Below w.heap.size w w' := by
  have h0 : 0 < s.size := by omega
  have h45 : ((s[0].toNat : Int) == 45) = false := by simpa using hm
  clear hm
  go_enter Tryd.func11, Tryd.ntmps11
  go_wp2
  go_ret2
  exact ⟨rfl, Below.refl _ _⟩
set_option maxRecDepth 100000 in
theorem s_parse_neglong (s : ByteArray) (h : 20 < s.size) (hmax : s.size ≤ 1048576) (hm : ((s[0]'(by omega)).toNat : Int) = 45) (w : World) : Calls Tryd.prog 11 #[.string s] w fun e w' => e = .returned (pairV (0, false)) ∧ Below w.heap.size w w' := by
  have h0 : 0 < s.size := by omega
  have h45 : ((s[0].toNat : Int) == 45) = true := by simpa using hm
  clear hm
  go_enter Tryd.func11, Tryd.ntmps11
  go_wp2
  go_ret2
  exact ⟨rfl, Below.refl _ _⟩
set_option maxRecDepth 100000 in
theorem s_parse_none (w : World) : Calls Tryd.prog 11 #[.string ⟨#[]⟩] w fun e w' => e = .returned (pairV (0, false)) ∧ Below w.heap.size w w' := by
  go_enter Tryd.func11, Tryd.ntmps11
  go_wp2
  go_ret2
  exact ⟨rfl, Below.refl _ _⟩
theorem s_parse (s : ByteArray) (hmax : s.size ≤ 1048576) (w : World) : Calls Tryd.prog 11 #[.string s] w fun e w' => e = .returned (pairV (specP s.data.toList)) ∧ Below w.heap.size w w' := by
  have hz := Lib.size_eq s
  cases hl : s.data.toList with
  | nil =>
    have : s = ⟨#[]⟩ := by
      rw [ByteArray.ext_iff]
      apply Array.ext'
      rw [hl]
    subst this
    exact s_parse_none w
  | cons c r =>
    rw [hl] at hz
    simp only [List.length_cons] at hz
    have h0 : 0 < s.size := by omega
    have hc : s[0] = c := by
      have := drop_at s 0 h0
      rw [hl] at this
      injection this with h _
      exact h.symm
    have hcN : (s[0].toNat : Int) = (c.toNat : Int) := by rw [hc]
    by_cases h45 : c.toNat = 45
    · have e : specP (c :: r) = specT (c :: r) r true := by simp [specP, h45]
      have hm : (s[0].toNat : Int) = 45 := by omega
      rw [e]
      have hsp : (r.length < 1 ∨ 19 < r.length) → specT (c :: r) r true = (0, false) := fun h => if_pos h
      by_cases h1 : r.length < 1
      · rw [hsp (Or.inl h1)]; exact s_parse_short s (by omega) hm w
      · by_cases h2 : 19 < r.length
        · rw [hsp (Or.inr h2)]; exact s_parse_neglong s (by omega) hmax hm w
        · have := s_parse_neg s (by omega) (by omega) hm w
          rw [hl] at this
          exact this
    · have e : specP (c :: r) = specT (c :: r) (c :: r) false := by simp [specP, h45]
      have hm : (s[0].toNat : Int) ≠ 45 := by omega
      rw [e]
      by_cases h2 : 19 < s.size
      · have : specT (c :: r) (c :: r) false = (0, false) := if_pos (Or.inr (by simp only [List.length_cons]; omega))
        rw [this]; exact s_parse_long s h2 hmax hm w
      · have := s_parse_pos s (by omega) (by omega) hm w
        rw [hl] at this
        exact this
/-- ParseInt itself, over Atoi's contracts -/
theorem i_parse_ok (s : ByteArray) (hmax : s.size ≤ 1048576) (v : Int) (hq : Lib.atoiAll s.data.toList = .ok v) (w : World) (htab : Lib.TabIs Tryd.prog w "internal/strconv.uint64pow10" .u64 Lib.pow10Tab) : Calls Tryd.prog 12 #[.string s] w fun e w' => e = .returned (pairV (chk s.data.toList v)) ∧ Below w.heap.size w w' := by
  have hb := Lib.atoiAll_bounds hq
  have HQ := Lib.hid hq
  have HT := Lib.hid htab
  have hb1 := hb.1
  have hb2 := hb.2
  have key : ∀ W1, Below w.heap.size w W1 → Calls Tryd.prog 10 #[.int .i64 v] W1 fun e w' => e = .returned (.string ⟨(Lib.itoa v).toArray⟩) ∧ Below w.heap.size w w' := fun W1 h1 =>
    (i_fmt v hb1 hb2 W1 (var_below h1 HT.out)).mono fun e w' ⟨he, h2⟩ => ⟨he, h1.trans (h2.mono h1.size)⟩
  have KEY := Lib.hid key
  have bw : ∀ t, Below w.heap.size w (Lib.bytesWorld w 5 t) := fun t => Lib.bytesWorld_below w 5 t
  have BW := Lib.hid bw
  clear hq htab key bw hb
  by_cases hc : Lib.itoa v = s.data.toList
  · have q1 : (Lib.itoa v == s.toList) = true := by rw [str_eq]; exact decide_eq_true hc
    have HF := Lib.hid (show chk s.data.toList v = (v, true) from if_pos hc)
    clear hc
    go_enter Tryd.func12, Tryd.ntmps12
    go_wp2_with (first
      | (go_at_call 30; refine (Tryd.strconv_Atoi_ok s (by omega) v HQ.out _).mono ?_; rintro e W1 ⟨rfl, hW⟩; have hw1 : Below w.heap.size w W1 := (by rcases hW with rfl | ⟨t, rfl⟩ <;> first | exact Below.refl _ _ | exact BW.out t); have HW := Lib.hid hw1; clear hW hw1)
      | (go_at_call 10; refine (KEY.out _ HW.out).mono ?_; rintro e w2 ⟨rfl, hb2⟩; have HB := Lib.hid hb2; clear hb2))
    go_ret2
    exact ⟨ret_pair HF.out, HB.out⟩
  · have q1 : (Lib.itoa v == s.toList) = false := by rw [str_eq]; exact decide_eq_false hc
    have HF := Lib.hid (show chk s.data.toList v = (0, false) from if_neg hc)
    clear hc
    go_enter Tryd.func12, Tryd.ntmps12
    go_wp2_with (first
      | (go_at_call 30; refine (Tryd.strconv_Atoi_ok s (by omega) v HQ.out _).mono ?_; rintro e W1 ⟨rfl, hW⟩; have hw1 : Below w.heap.size w W1 := (by rcases hW with rfl | ⟨t, rfl⟩ <;> first | exact Below.refl _ _ | exact BW.out t); have HW := Lib.hid hw1; clear hW hw1)
      | (go_at_call 10; refine (KEY.out _ HW.out).mono ?_; rintro e w2 ⟨rfl, hb2⟩; have HB := Lib.hid hb2; clear hb2))
    go_ret2
    exact ⟨ret_pair HF.out, HB.out⟩
theorem i_parse_err (s : ByteArray) (w : World) (h : ∀ W, W = w → Calls Tryd.prog 30 #[.string s] W fun e w' => ∃ (x : Int) (N : Nat), e = .returned (.tuple #[.int .i64 x, .iface 53 (.pointer (some ⟨N, 0, none⟩))]) ∧ Below w.heap.size w w') : Calls Tryd.prog 12 #[.string s] w fun e w' => e = .returned (pairV (0, false)) ∧ Below w.heap.size w w' := by
  have HH := Lib.hid h
  clear h
  go_enter Tryd.func12, Tryd.ntmps12
  go_wp2_with (go_at_call 30; refine (HH.out _ rfl).mono ?_; rintro e W1 ⟨x, N, rfl, hW⟩; have HW := Lib.hid hW; clear hW)
  go_ret2
  exact ⟨rfl, HW.out⟩
def IsErr (w : World) (n : String) : Prop := ∃ tp p, w.var? Tryd.prog n = some #[.iface tp p]
theorem IsErr.below {w w' : World} {n : String} (h : IsErr w n) (hb : Below w.heap.size w w') : IsErr w' n := by
  obtain ⟨tp, p, hv⟩ := h
  exact ⟨tp, p, var_below hb hv⟩
/-- what ParseInt needs of the library's variables -/
structure Vars (w : World) : Prop where
  tab : Lib.TabIs Tryd.prog w "internal/strconv.uint64pow10" .u64 Lib.pow10Tab
  syn : IsErr w "strconv.ErrSyntax"
  rng : IsErr w "strconv.ErrRange"
theorem Vars.below {w w' : World} (h : Vars w) (hb : Below w.heap.size w w') : Vars w' := ⟨var_below hb h.tab, h.syn.below hb, h.rng.below hb⟩
theorem atoi_bad (s : ByteArray) (hlim : s.size ≤ 281474976710656) (hno : ∀ v, Lib.atoiAll s.data.toList ≠ .ok v) (w : World) (hsyn : IsErr w "strconv.ErrSyntax") (hrng : IsErr w "strconv.ErrRange") :
    Calls Tryd.prog 30 #[.string s] w fun e w' => ∃ (x : Int) (N : Nat), e = .returned (.tuple #[.int .i64 x, .iface 53 (.pointer (some ⟨N, 0, none⟩))]) ∧ Below w.heap.size w w' := by
  cases h : Lib.atoiAll s.data.toList
  · exact absurd h (hno _)
  · obtain ⟨tp, p, hs⟩ := hsyn
    refine Calls.mono (Any.strconv_Atoi_syntax_var Tryd.laysC172 s hlim h tp p w hs) fun e w' hh => ?_
    obtain ⟨N, he, _, _, hb⟩ := hh
    exact ⟨0, N, he, hb⟩
  · obtain ⟨tp, p, hs⟩ := hrng
    refine Calls.mono (Any.strconv_Atoi_range_var Tryd.laysC172 s hlim h tp p w hs) fun e w' hh => ?_
    obtain ⟨N, he, _, _, hb⟩ := hh
    exact ⟨_, N, he, hb⟩
theorem i_parse (s : ByteArray) (hmax : s.size ≤ 1048576) (w : World) (hv : Vars w) : Calls Tryd.prog 12 #[.string s] w fun e w' => e = .returned (pairV (specP s.data.toList)) ∧ Below w.heap.size w w' := by
  by_cases hq : ∃ v, Lib.atoiAll s.data.toList = .ok v
  · obtain ⟨v, hq⟩ := hq
    have e : specP s.data.toList = chk s.data.toList v := by rw [← implP_eq, implP, hq]
    rw [e]
    exact i_parse_ok s hmax v hq w hv.tab
  · have hno : ∀ v, Lib.atoiAll s.data.toList ≠ .ok v := fun v h => hq ⟨v, h⟩
    have e : specP s.data.toList = (0, false) := by
      rw [← implP_eq, implP]
      split
      · rename_i v h
        exact absurd h (hno v)
      · rfl
    rw [e]
    refine i_parse_err s w fun W hW => ?_
    subst hW
    exact atoi_bad s (by omega) hno W hv.syn hv.rng
theorem law_parse (s : ByteArray) (w : World) (hv : Vars w) : Calls Tryd.prog 4 #[.string s] w fun e w' => e = .returned (.bool true) ∧ Below w.heap.size w w' := by
  by_cases hs : s.size ≤ 1048576
  · have HV := Lib.hid hv
    clear hv
    unfold pairV at *
    generalize hp : specP s.data.toList = p
    have HS := Lib.hid (fun W => s_parse s hs W)
    have HI := Lib.hid (fun W h => i_parse s hs W h)
    unfold pairV at HS HI
    rw [hp] at HS HI
    obtain ⟨x, b⟩ := p
    clear hp
    go_enter Tryd.func4, Tryd.ntmps4
    go_wp2_with (first
      | (go_at_call 11; refine (HS.out _).mono ?_; rintro e w1 ⟨rfl, hb1⟩; have HB1 := Lib.hid hb1; clear hb1)
      | (go_at_call 12; refine (HI.out _ (HV.out.below HB1.out)).mono ?_; rintro e w2 ⟨rfl, hb2⟩; have HB2 := Lib.hid hb2; clear hb2))
    go_ret
    exact ⟨rfl, HB1.out.trans (HB2.out.mono HB1.out.size)⟩
  · have hs' : 1048576 < s.size := by omega
    go_enter Tryd.func4, Tryd.ntmps4
    go_wp2
    go_ret
    exact ⟨rfl, Below.refl _ _⟩
end Go.Proofs.YtoiakdhmdkcibaaDoor
