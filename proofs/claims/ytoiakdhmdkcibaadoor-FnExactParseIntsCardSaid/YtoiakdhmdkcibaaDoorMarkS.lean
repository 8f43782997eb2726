/- The marks that the laws write into lists of strings, and their reading: markText, markStringS, heldStringS; the comparison of two owned lists. -/
import Derived.Test.YtoiakdhmdkcibaaDoorFmt
import Derived.Test.YtoiakdhmdkcibaaDoorFormatInts
import Derived.Test.YtoiakdhmdkcibaaDoorStrEq
namespace Go.Proofs.YtoiakdhmdkcibaaDoor
open Go.ChangeShapes Go.WideShapes Go.ChangeAt Go.RowKit
def mk (k : Nat) : ByteArray := ⟨(109 :: Lib.decDigits k).toArray⟩
set_option maxRecDepth 100000 in
theorem mark_text (n : Nat) (h1 : 1 ≤ n) (hmax : n ≤ 9223372036854775807) (w : World) : Calls Tryd.prog 32 #[.int .i64 n] w fun e w' => e = .returned (.string (mk n)) ∧ Below w.heap.size w w' := by
  have HL := Lib.hid (dec_len n (by omega))
  have hn0 : (n : Int) ≥ 1 := by omega
  go_enter Tryd.func32, Tryd.ntmps32
  go_wp2
  go_loopw [0, 3] (fun a s wr => ∃ (k : Nat) (acc : List UInt8), k ≤ n ∧ a = .int .i64 k ∧ s = .string ⟨acc.toArray⟩ ∧ Lib.decDigits n = (if k = 0 then [] else Lib.decDigits k) ++ acc ∧ Below w.heap.size w wr) (fun a _ _ => (intOf a).toNat)
  case atStart => exact ⟨n, [], Nat.le_refl _, rfl, rfl, by rw [if_neg (by omega)]; simp, Below.refl _ _⟩
  case round =>
    obtain ⟨k, acc, hk, rfl, rfl, hd, hb⟩ := hrel
    have hsz := hb.size
    have hal : acc.length ≤ 20 := by
      have := HL.out
      rw [hd, List.length_append] at this
      omega
    obtain ⟨c, hc1, hc2, hc3⟩ := digit_of k
    have HC1 := Lib.hid hc1
    have HC2 := Lib.hid hc2
    have HC3 := Lib.hid hc3
    have HD := Lib.hid hd
    have HB := Lib.hid hb
    clear hd hb hc1 hc2 hc3
    by_cases h0 : 0 < k
    · have hcv := fun (w : World) => conv1 w c (48 + (k : Int) % 10) HC1.out
      go_wp2
      go_roundw
      case rel =>
        refine ⟨k / 10, c :: acc, by omega, by simp, by rw [cat1], ?_, HB.out.alloc hsz _⟩
        rw [HD.out, if_neg (by omega)]
        by_cases h9 : 9 < k
        · rw [if_neg (by omega), HC2.out h9]; simp
        · rw [if_pos (by omega), HC3.out (by omega)]; simp
      case measure => simp [intOf]; omega
    · have HE := Lib.hid (show Lib.decDigits n = acc by rw [HD.out, if_pos (by omega)]; rfl)
      go_wp2
      go_ret
      refine ⟨?_, HB.out⟩
      unfold mk
      rw [HE.out]
      show Ending.returned (.string _) = _
      rw [cat1]
/-- the marks from a on -/
def marks (a n : Nat) : List ByteArray := (List.range n).map fun i => mk (a + i)
theorem marks_len (a n : Nat) : (marks a n).length = n := by simp [marks]
theorem set_mark (a : Nat) (cur : List Value) (k : Nat) (hk : k < cur.length) (h : cur.take k = ((marks a cur.length).map Value.string).take k) : (cur.set k (.string (mk (a + k)))).take (k + 1) = ((marks a cur.length).map Value.string).take (k + 1) := by
  apply List.ext_getElem?
  intro j
  by_cases hj : j < k
  · have := congrArg (·[j]?) h
    simp only [List.getElem?_take, hj, if_true] at this
    simp only [List.getElem?_take, show j < k + 1 by omega, if_true]
    rw [List.getElem?_set_ne (by omega), this]
  · by_cases e : j = k
    · subst e
      simp [marks, hk]
    · simp [List.getElem?_take, show ¬ j < k + 1 by omega]
set_option maxRecDepth 100000 in
theorem mark_none (a : Option Addr) (c : Nat) (w : World) : Calls Tryd.prog 16 #[.slice a 0 c, .int .i64 1] w fun e w' => e = .returned (.int .i64 1) ∧ Below w.heap.size w w' := by
  go_enter Tryd.func16, Tryd.ntmps16
  go_wp2
  refine wp_loop_rounds 1 ?_
  rw [rounds_succ]
  go_wp2
  go_ret
  exact ⟨rfl, Below.refl _ _⟩
set_option maxRecDepth 100000 in
theorem held_none (a : Option Addr) (c : Nat) (w : World) : Calls Tryd.prog 17 #[.slice a 0 c, .int .i64 1] w fun e w' => e = .returned (.int .i64 1) ∧ Below w.heap.size w w' := by
  go_enter Tryd.func17, Tryd.ntmps17
  go_wp2
  refine wp_loop_rounds 1 ?_
  rw [rounds_succ]
  go_wp2
  go_ret
  exact ⟨rfl, Below.refl _ _⟩
set_option maxRecDepth 100000 in
set_option maxHeartbeats 1000000 in
theorem mark_some (g n cap base : Nat) (xs : List Value) (hmax : n ≤ 1048577) (w : World) (hown : w.ownsRow base 9 1 (.slice (some ⟨g, 0, none⟩) n cap) n xs) :
    Calls Tryd.prog 16 #[.slice (some ⟨g, 0, none⟩) n cap, .int .i64 1] w fun e w' => e = .returned (.int .i64 (1 + n)) ∧ w'.ownsRow base 9 1 (.slice (some ⟨g, 0, none⟩) n cap) n ((marks 1 n).map Value.string) ∧ Below base w w' := by
  have hbase := (hown.lt g rfl).1
  have hbs : base ≤ w.heap.size := by have := (hown.lt g rfl).2; omega
  have HO := Lib.hid hown
  clear hown
  go_enter Tryd.func16, Tryd.ntmps16
  go_wp2
  go_loopw [1, 5] (fun m i wr => ∃ (k : Nat) (cur : List Value), k ≤ n ∧ i = .int .i64 k ∧ m = .int .i64 (1 + k) ∧ wr.ownsRow base 9 1 (.slice (some ⟨g, 0, none⟩) n cap) n cur ∧ cur.take k = ((marks 1 n).map Value.string).take k ∧ Below base w wr) (fun _ i _ => n - (intOf i).toNat)
  case atStart => exact ⟨0, xs, Nat.zero_le _, rfl, rfl, HO.out, rfl, Below.refl _ _⟩
  case round =>
    obtain ⟨k, cur, hk, rfl, rfl, hown, hcur, hb⟩ := hrel
    by_cases hlt : k < n
    · have hcl : cur.length = n := by rw [hown.1]; omega
      have HO1 := Lib.hid hown
      have HB := Lib.hid hb
      have HC := Lib.hid (set_mark 1 cur k (by omega) (by rw [hcl]; exact hcur))
      have HCL := Lib.hid hcl
      have hki : (k : Int) < (n : Int) := by omega
      clear hown hb hcur hcl
      go_wp2_with fail
      have e1 : ((1 : Int) + (k : Int)) = ((1 + k : Nat) : Int) := by omega
      rw [e1]
      refine (mark_text (1 + k) (by omega) (by omega) _).mono ?_
      rintro e w1 ⟨rfl, hb1⟩
      have ho2 := ownsRow_below HO1.out hb1
      have HB1 := Lib.hid (HB.out.trans (hb1.mono (Nat.le_trans hbs HB.out.size)))
      obtain ⟨old, hold⟩ : ∃ old, w1.cell? ⟨g, k, none⟩ = some old := ⟨cur[k]'(by have := HCL.out; omega), by
        rw [ho2.cellAt k (by omega)]; exact List.getElem?_eq_getElem (by have := HCL.out; omega)⟩
      have hfz := ho2.frozenAt k
      have HST := Lib.hid (ho2.stored k (.string (mk (1 + k)))).1
      have HBN := Lib.hid (HB1.out.setCell (p := ⟨g, k, none⟩) hbase (.string (mk (1 + k))))
      clear ho2 hb1 e1
      go_wp2
      go_roundw
      case rel =>
        refine ⟨k + 1, _, by omega, by go_num, by go_num, HST.out, ?_, HBN.out⟩
        have := HC.out
        rw [HCL.out] at this
        exact this
      case measure => simp [intOf]; omega
    · have HB := Lib.hid hb
      have ek : k = n := by omega
      have hcl : cur.length = n := by rw [hown.1]; omega
      have e1 : cur.take k = cur := List.take_of_length_le (by omega)
      have e2 : ((marks 1 n).map Value.string).take k = (marks 1 n).map Value.string := List.take_of_length_le (by rw [List.length_map, marks_len]; omega)
      rw [e1, e2] at hcur
      rw [hcur] at hown
      have HO1 := Lib.hid hown
      clear hown hb hcur e1 e2 hcl
      subst ek
      go_wp2
      go_ret
      exact ⟨rfl, HO1.out, HB.out⟩
end Go.Proofs.YtoiakdhmdkcibaaDoor
