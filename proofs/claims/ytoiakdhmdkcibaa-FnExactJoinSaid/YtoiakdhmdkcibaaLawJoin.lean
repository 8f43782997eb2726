/- The law FnExactJoin, walked by the contracts of all that it calls. -/
import Derived.Test.YtoiakdhmdkcibaaJoin
import Derived.Test.YtoiakdhmdkcibaaStrEq
import Derived.Test.YtoiakdhmdkcibaaStrTo
namespace Go.Proofs.Ytoiakdhmdkcibaa
open Go.ChangeShapes Go.WideShapes Go.ChangeAt Go.RowKit
def tot (xs : List ByteArray) : Nat := (xs.map (·.size)).sum
theorem tot_step (xs : List ByteArray) (k : Nat) (hk : k < xs.length) : tot (xs.take (k + 1)) = tot (xs.take k) + xs[k].size := by
  unfold tot
  rw [List.take_succ_eq_append_getElem hk, List.map_append, List.sum_append]
  simp
theorem JN_tot (xs : List ByteArray) (sep : ByteArray) : ∀ k, k ≤ xs.length → (JN (xs.take k) sep).length ≤ tot (xs.take k) + k * sep.size
  | 0, _ => by simp [JN, Lib.join_nil]
  | k + 1, h => by
    have ih := JN_tot xs sep k (by omega)
    have hk : k < xs.length := by omega
    rw [tot_step xs k hk, Nat.succ_mul]
    by_cases h0 : 0 < k
    · rw [JN_step xs sep k hk h0, List.length_append, List.length_append, ← Lib.size_eq xs[k], ← Lib.size_eq sep]
      omega
    · have e : k = 0 := by omega
      subst e
      rw [Nat.zero_add, JN_one xs sep hk, ← Lib.size_eq]
      omega
/-- szStringS tells that something is left just if all the strings and their number together fit -/
def SzEnd (xs : List ByteArray) (w : World) (e : Ending) (w' : World) : Prop := ∃ r : Int, e = .returned (.int .i64 r) ∧ -1 ≤ r ∧ r ≤ 1048576 ∧ (0 ≤ r → tot xs + xs.length ≤ 1048576) ∧ w = w'
set_option maxRecDepth 100000 in
set_option maxHeartbeats 1000000 in
theorem sz_some (b o c n : Nat) (xs : List ByteArray) (hn : xs.length = n) (hmax : n ≤ 9223372036854775807) (hx : ∀ x ∈ xs, x.size ≤ 9223372036854775807) (w : World) (h : At w b o (xs.map Value.string)) :
    Calls Try.prog 9 #[.slice (some ⟨b, o, none⟩) n c, .int .i64 1048576] w (SzEnd xs w) := by
  have H := Lib.hid h
  have HN := Lib.hid hn
  have HX := Lib.hid hx
  clear h hn hx
  by_cases hbig : n ≤ 1048576
  · go_enter Try.func9, Try.ntmps9
    go_wp2
    go_loop [1, 5] (fun l i => ∃ (k : Nat) (m : Int), k ≤ n ∧ i = .int .i64 k ∧ l = .int .i64 m ∧ 0 ≤ m ∧ m + n + (tot (xs.take k) : Int) = 1048576) (fun _ i => n - (intOf i).toNat)
    case atStart => exact ⟨0, 1048576 - n, Nat.zero_le _, rfl, rfl, by omega, by simp [tot]⟩
    case round =>
      obtain ⟨k, m, hk, rfl, rfl, hm0, hm⟩ := hrel
      by_cases hlt : k < n
      · have hkx : k < xs.length := by rw [HN.out]; exact hlt
        have hcell := H.out.str k hkx
        have hs := HX.out xs[k] (List.getElem_mem hkx)
        have HT := Lib.hid (tot_step xs k hkx)
        have hm1 : m ≤ 1048576 := by omega
        have HM := Lib.hid hm
        clear hm
        have hki : (k : Int) < (n : Int) := by omega
        generalize xs[k] = x at *
        by_cases hneg : m - x.size < 0
        · go_wp2
          go_ret
          exact ⟨-1, rfl, by omega, by omega, fun h => absurd h (by omega), rfl⟩
        · have hpos : 0 ≤ m - x.size := by omega
          clear hneg
          go_wp2
          go_round
          case rel => exact ⟨k + 1, _, by omega, by go_num, rfl, by omega, by rw [HT.out]; have := HM.out; omega⟩
          case measure => simp [intOf]; omega
      · have HE := Lib.hid (show xs.take k = xs from List.take_of_length_le (by rw [HN.out]; omega))
        have HM := Lib.hid hm
        clear hm
        go_wp2
        go_ret
        refine ⟨m, rfl, by omega, ?_, fun _ => ?_, rfl⟩
        · have := HM.out; omega
        · have := HM.out
          rw [HE.out] at this
          rw [HN.out]
          omega
  · have hneg : (1048576 : Int) - n < 0 := by omega
    go_enter Try.func9, Try.ntmps9
    go_wp2
    go_ret
    exact ⟨-1, rfl, by omega, by omega, fun h => absurd h (by omega), rfl⟩
set_option maxRecDepth 100000 in
theorem sz_none (a : Option Addr) (c : Nat) (w : World) : Calls Try.prog 9 #[.slice a 0 c, .int .i64 1048576] w (fun e w' => e = .returned (.int .i64 1048576) ∧ w = w') := by
  go_enter Try.func9, Try.ntmps9
  go_wp2
  refine wp_loop_rounds 1 ?_
  rw [rounds_succ]
  go_wp2
  go_ret
  exact ⟨rfl, rfl⟩
set_option maxRecDepth 100000 in
theorem law_join_longsep (a : Option Addr) (n c : Nat) (sep : ByteArray) (hs : 1048576 < sep.size) (w : World) : Calls Try.prog 3 #[.slice a n c, .string sep] w fun e w' => e = .returned (.bool true) ∧ Below w.heap.size w w' := by
  go_enter Try.func3, Try.ntmps3
  go_wp2
  go_ret
  exact ⟨rfl, Below.refl _ _⟩
set_option maxRecDepth 100000 in
theorem law_join_none (a : Option Addr) (c : Nat) (sep : ByteArray) (hs : sep.size ≤ 1048576) (w : World) : Calls Try.prog 3 #[.slice a 0 c, .string sep] w fun e w' => e = .returned (.bool true) ∧ Below w.heap.size w w' := by
  go_enter Try.func3, Try.ntmps3
  go_wp2_with fail
  refine (sz_none _ _ _).mono ?_
  rintro e w0 ⟨rfl, rfl⟩
  go_wp2_with fail
  refine (to_strs_none _ _ _).mono ?_
  rintro e w1 ⟨rfl, hb1, _⟩
  have B1 := Lib.hid hb1
  clear hb1
  go_wp2_with fail
  refine (s_join_none _ _ _ _).mono ?_
  rintro e w2 ⟨rfl, rfl⟩
  go_wp2_with fail
  refine (to_strs_none _ _ _).mono ?_
  rintro e w3 ⟨rfl, hb3, _⟩
  have B3 := Lib.hid (B1.out.trans (hb3.mono B1.out.size))
  clear hb3
  go_wp2_with fail
  refine (i_join_none _ _ _ _).mono ?_
  rintro e w4 ⟨rfl, rfl⟩
  go_wp2_with fail
  refine (to_strs_none _ _ _).mono ?_
  rintro e w5 ⟨rfl, hb5, _⟩
  have B5 := Lib.hid (B3.out.trans (hb5.mono B3.out.size))
  clear hb5
  go_wp2_with fail
  refine (eq_strs_none _ _ _ _ _).mono ?_
  rintro e w6 ⟨rfl, hb6⟩
  have B6 := Lib.hid (B5.out.trans (hb6.mono B5.out.size))
  clear hb6
  go_wp2
  go_ret
  exact ⟨rfl, B6.out⟩
set_option maxRecDepth 100000 in
set_option maxHeartbeats 1000000 in
theorem law_join_some (b o c n : Nat) (xs : List ByteArray) (sep : ByteArray) (hs : sep.size ≤ 1048576) (hn : xs.length = n) (hmax : n ≤ 9223372036854775807) (hx : ∀ x ∈ xs, x.size ≤ 9223372036854775807) (w : World) (hl : b < w.heap.size) (h : At w b o (xs.map Value.string)) :
    Calls Try.prog 3 #[.slice (some ⟨b, o, none⟩) n c, .string sep] w fun e w' => e = .returned (.bool true) ∧ Below w.heap.size w w' := by
  have H := Lib.hid h
  have HN := Lib.hid hn
  have HX := Lib.hid hx
  clear h hn hx
  go_enter Try.func3, Try.ntmps3
  go_wp2_with fail
  refine (sz_some b o c n xs HN.out hmax HX.out _ H.out).mono ?_
  rintro e w0 ⟨r, rfl, hr0, hr1, hr, rfl⟩
  have HRR := Lib.hid hr
  clear hr
  by_cases hneg : r < 0
  · go_wp2
    go_ret
    exact ⟨rfl, Below.refl _ _⟩
  · have hpos : 0 ≤ r := by omega
    have hfit := HRR.out hpos
    rw [HN.out] at hfit
    have hn20 : n ≤ 1048576 := by omega
    have hJ : (JN xs sep).length ≤ 140737488355328 := by
      have := JN_tot xs sep n (by rw [HN.out]; exact Nat.le_refl _)
      rw [List.take_of_length_le (by rw [HN.out]; exact Nat.le_refl _)] at this
      have h2 : n * sep.size ≤ 1048576 * 1048576 := Nat.mul_le_mul hn20 hs
      omega
    have HJ := Lib.hid hJ
    clear hneg hfit hJ HRR
    go_wp2_with fail
    refine (to_strs b o c n xs HN.out hn20 _ hl H.out).mono ?_
    rintro e w1 ⟨rfl, hA1, hb1, hs1⟩
    have A1 := Lib.hid hA1
    have B1 := Lib.hid hb1
    clear hA1 hb1
    go_wp2_with fail
    refine (s_join w.heap.size 0 n n xs sep HN.out (by omega) hs HJ.out _ A1.out).mono ?_
    rintro e w2 ⟨rfl, rfl⟩
    have l2 : b < w1.heap.size := Nat.lt_of_lt_of_le hl B1.out.size
    have A2 := Lib.hid (H.out.below B1.out hl)
    go_wp2_with fail
    refine (to_strs b o c n xs HN.out hn20 _ l2 A2.out).mono ?_
    rintro e w3 ⟨rfl, hA3, hb3, hs3⟩
    have A3 := Lib.hid hA3
    have B3 := Lib.hid (B1.out.trans (hb3.mono B1.out.size))
    clear hA3 hb3
    go_wp2_with fail
    refine (i_join w1.heap.size 0 n n xs sep HN.out (by omega) (Nat.le_refl _) HJ.out _ hs3 A3.out).mono ?_
    rintro e w4 ⟨rfl, hb4⟩
    have A4 := Lib.hid (A3.out.below hb4 hs3)
    have s4 : w1.heap.size < w4.heap.size := Nat.lt_of_lt_of_le hs3 hb4.size
    have B4 := Lib.hid (B3.out.trans (hb4.mono B3.out.size))
    have l4 : b < w4.heap.size := Nat.lt_of_lt_of_le hl B4.out.size
    have A4' := Lib.hid (H.out.below B4.out hl)
    clear hb4
    go_wp2_with fail
    refine (to_strs b o c n xs HN.out hn20 _ l4 A4'.out).mono ?_
    rintro e w5 ⟨rfl, hA5, hb5, hs5⟩
    have A5 := Lib.hid hA5
    have A5' := Lib.hid (A4.out.below hb5 s4)
    have s5 : w1.heap.size < w5.heap.size := Nat.lt_of_lt_of_le s4 hb5.size
    have B5 := Lib.hid (B4.out.trans (hb5.mono B4.out.size))
    clear hA5 hb5
    go_wp2_with fail
    refine (eq_strs w1.heap.size 0 n w4.heap.size 0 n n xs HN.out (by omega) _ s5 hs5 A5'.out A5.out).mono ?_
    rintro e w6 ⟨rfl, hb6⟩
    have B6 := Lib.hid (B5.out.trans (hb6.mono B5.out.size))
    clear hb6
    go_wp2
    go_ret
    exact ⟨rfl, B6.out⟩
end Go.Proofs.Ytoiakdhmdkcibaa
