/- The law FnExactParseInts, walked by the contracts of all that it calls. -/
import Derived.Test.YtoiakdhmdkcibaaDoorParseInts
namespace Go.Proofs.YtoiakdhmdkcibaaDoor
open Go.ChangeShapes Go.WideShapes Go.ChangeAt Go.RowKit
open Pieces Parse
theorem empty_of (s : ByteArray) (h : ¬ 0 < s.size) : s = ⟨#[]⟩ := by
  have e : s.size = 0 := by omega
  rw [ByteArray.ext_iff]
  exact Array.eq_empty_of_size_eq_zero e
theorem parsed_empty : outs (parsed (⟨#[]⟩ : ByteArray).data.toList) = ([], true) := by simp [parsed, outs]
theorem s_ints_any (s : ByteArray) (hs : s.size ≤ 1048576) (w : World) : Calls Tryd.prog 24 #[.string s] w (OwnsInts (outs (parsed s.data.toList)) w) := by
  by_cases h : 0 < s.size
  · exact s_ints s h hs w
  · rw [empty_of s h, parsed_empty]
    exact s_ints_none w
theorem i_ints_any (s : ByteArray) (hs : s.size ≤ 1048576) (w : World) (hm : HasMax w) (hv : Vars w) : Calls Tryd.prog 25 #[.string s] w (OwnsInts (outs (parsed s.data.toList)) w) := by
  by_cases h : 0 < s.size
  · exact i_ints s h hs w hm hv
  · rw [empty_of s h, parsed_empty]
    exact i_ints_none w
theorem ints_count (s : ByteArray) (hs : s.size ≤ 1048576) : (outs (parsed s.data.toList)).1.length ≤ 1048577 := by
  unfold parsed
  split
  · simp [outs]
  · cases h : numsOf (sp 32 s.data.toList) with
    | none => simp [outs]
    | some zs =>
      have h1 := nums_len _ _ h
      have h2 := sp_length 32 s.data.toList
      rw [← Lib.size_eq] at h2
      show zs.length ≤ 1048577
      omega
set_option maxRecDepth 100000 in
set_option maxHeartbeats 2000000 in
theorem law_ints_short (s : ByteArray) (hs : s.size ≤ 1048576) (w : World) (hm : HasMax w) (hv : Vars w) : Calls Tryd.prog 8 #[.string s] w fun e w' => e = .returned (.bool true) ∧ Below w.heap.size w w' := by
  have hn := ints_count s hs
  have HM := Lib.hid hm
  have HV := Lib.hid hv
  have KS := Lib.hid (fun W => s_ints_any s hs W)
  have KI := Lib.hid (fun W h1 h2 => i_ints_any s hs W h1 h2)
  clear hm hv
  generalize outs (parsed s.data.toList) = p at *
  obtain ⟨zs, b⟩ := p
  unfold OwnsInts at KS KI
  simp only at hn KS KI
  generalize hxn : zs.length = n at hn
  have HXN := Lib.hid hxn
  clear hxn
  go_enter Tryd.func8, Tryd.ntmps8
  go_wp2_with fail
  refine (KS.out _).mono ?_
  rintro e w1 ⟨v0, rfl, ho1, hb1⟩
  have B1 := Lib.hid hb1
  have O1 := Lib.hid ho1
  clear hb1 ho1
  go_wp2_with fail
  refine (KI.out _ (HM.out.below B1.out) (HV.out.below B1.out)).mono ?_
  rintro e w2 ⟨v1, rfl, ho2, hb2⟩
  have B2 := Lib.hid hb2
  have O2 := Lib.hid ho2
  have O12 := Lib.hid (ownsRow_below O1.out hb2)
  clear hb2 ho2
  go_wp2_with fail
  refine (eqI_own rfl (by rw [HXN.out]; exact hn) O2.out O12.out).mono ?_
  rintro e w3 ⟨rfl, hb3⟩
  have B3 := Lib.hid hb3
  have O3 := Lib.hid (ownsRow_below O2.out hb3)
  have C3 := Lib.hid (B2.out.trans (hb3.mono B2.out.size))
  clear hb3
  go_wp2_with fail
  refine (markI_own (by rw [HXN.out]; omega) O3.out (Nat.le_trans B2.out.size B3.out.size)).mono ?_
  rintro e w4 ⟨rfl, ho4, hb4⟩
  rw [HXN.out] at ho4
  rw [HXN.out]
  have O4 := Lib.hid ho4
  have C4 := Lib.hid (C3.out.trans hb4)
  clear hb4 ho4
  go_wp2_with fail
  refine (heldI_own (by omega) O4.out).mono ?_
  rintro e w5 ⟨rfl, hb5⟩
  have O5 := Lib.hid (ownsRow_below O4.out hb5)
  have C5 := Lib.hid (C4.out.trans (hb5.mono C4.out.size))
  clear hb5
  go_wp2_with fail
  refine (KI.out _ (HM.out.below (B1.out.trans (C5.out.mono B1.out.size))) (HV.out.below (B1.out.trans (C5.out.mono B1.out.size)))).mono ?_
  rintro e w6 ⟨v2, rfl, ho6, hb6⟩
  have O6 := Lib.hid ho6
  have O56 := Lib.hid (ownsRow_below O5.out hb6)
  have C6 := Lib.hid (C5.out.trans (hb6.mono C5.out.size))
  have O16 := Lib.hid (ownsRow_below O1.out C6.out)
  clear hb6 ho6
  go_wp2_with fail
  refine (eqI_own rfl (by rw [HXN.out]; exact hn) O6.out O16.out).mono ?_
  rintro e w7 ⟨rfl, hb7⟩
  have O7 := Lib.hid (ownsRow_below O56.out hb7)
  have C7 := Lib.hid (C6.out.trans (hb7.mono C6.out.size))
  clear hb7
  go_wp2_with fail
  refine (heldI_own (by omega) O7.out).mono ?_
  rintro e w8 ⟨rfl, hb8⟩
  have C8 := Lib.hid (C7.out.trans (hb8.mono C7.out.size))
  clear hb8
  go_wp2
  go_ret
  exact ⟨rfl, B1.out.trans (C8.out.mono B1.out.size)⟩
theorem law_ints (s : ByteArray) (w : World) (hm : HasMax w) (hv : Vars w) : Calls Tryd.prog 8 #[.string s] w fun e w' => e = .returned (.bool true) ∧ Below w.heap.size w w' := by
  by_cases hs : s.size ≤ 1048576
  · exact law_ints_short s hs w hm hv
  · have hs' : 1048576 < s.size := by omega
    clear hm hv
    go_enter Tryd.func8, Tryd.ntmps8
    go_wp2
    go_ret
    exact ⟨rfl, Below.refl _ _⟩
end Go.Proofs.YtoiakdhmdkcibaaDoor
