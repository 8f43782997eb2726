/- The law FnExactFormatInts, walked by the contracts of all that it calls. -/
import Derived.Test.YtoiakdhmdkcibaaDoorFormatInts
namespace Go.Proofs.YtoiakdhmdkcibaaDoor
open Go.ChangeShapes Go.WideShapes Go.ChangeAt Go.RowKit
/-- a slice of ints that came in: its elements -/
def IntsIn (w : World) (a : Option Addr) (len : Nat) (zs : List Int) : Prop :=
  zs.length = len ∧ (∀ z ∈ zs, InR z) ∧ (len = 0 ∨ ∃ b o, a = some ⟨b, o, none⟩ ∧ b < w.heap.size ∧ At w b o (zs.map (Value.int .i64)))
set_option maxRecDepth 100000 in
theorem law_fmts_none (a : Option Addr) (c : Nat) (w : World) : Calls Tryd.prog 7 #[.slice a 0 c] w fun e w' => e = .returned (.bool true) ∧ Below w.heap.size w w' := by
  go_enter Tryd.func7, Tryd.ntmps7
  go_wp2_with fail
  refine (to_ints_none _ _ _).mono ?_
  rintro e w1 ⟨rfl, hb1, _⟩
  have B1 := Lib.hid hb1
  clear hb1
  go_wp2_with fail
  refine (s_fmts_none _ _ _).mono ?_
  rintro e w2 ⟨rfl, hb2⟩
  have B2 := Lib.hid (B1.out.trans (hb2.mono B1.out.size))
  clear hb2
  go_wp2_with fail
  refine (to_ints_none _ _ _).mono ?_
  rintro e w3 ⟨rfl, hb3, _⟩
  have B3 := Lib.hid (B2.out.trans (hb3.mono B2.out.size))
  clear hb3
  go_wp2_with fail
  refine (i_fmts_none _ _ _).mono ?_
  rintro e w4 ⟨rfl, hb4⟩
  have B4 := Lib.hid (B3.out.trans (hb4.mono B3.out.size))
  clear hb4
  go_wp2_with fail
  refine (to_ints_none _ _ _).mono ?_
  rintro e w5 ⟨rfl, hb5, _⟩
  have B5 := Lib.hid (B4.out.trans (hb5.mono B4.out.size))
  clear hb5
  go_wp2_with fail
  refine (eq_ints_none _ _ _ _ _).mono ?_
  rintro e w6 ⟨rfl, hb6⟩
  have B6 := Lib.hid (B5.out.trans (hb6.mono B5.out.size))
  clear hb6
  go_wp2
  go_ret
  exact ⟨rfl, B6.out⟩
set_option maxRecDepth 100000 in
set_option maxHeartbeats 1000000 in
theorem law_fmts_some (b o c n : Nat) (zs : List Int) (hz : zs.length = n) (hr : ∀ z ∈ zs, InR z) (hmax : n ≤ 1048576) (w : World) (htab : Lib.TabIs Tryd.prog w "internal/strconv.uint64pow10" .u64 Lib.pow10Tab) (hl : b < w.heap.size) (h : At w b o (zs.map (Value.int .i64))) :
    Calls Tryd.prog 7 #[.slice (some ⟨b, o, none⟩) n c] w fun e w' => e = .returned (.bool true) ∧ Below w.heap.size w w' := by
  have H := Lib.hid h
  have HZ := Lib.hid hz
  have HR := Lib.hid hr
  have HT := Lib.hid htab
  clear h hz hr htab
  go_enter Tryd.func7, Tryd.ntmps7
  go_wp2_with fail
  refine (to_ints b o c n zs HZ.out hmax _ hl H.out).mono ?_
  rintro e w1 ⟨rfl, hA1, hb1, hs1⟩
  have A1 := Lib.hid hA1
  have B1 := Lib.hid hb1
  clear hA1 hb1
  go_wp2_with fail
  refine (s_fmts w.heap.size 0 n n zs HZ.out HR.out hmax _ hs1 A1.out).mono ?_
  rintro e w2 ⟨rfl, hb2⟩
  have B2 := Lib.hid (B1.out.trans (hb2.mono B1.out.size))
  have l2 : b < w2.heap.size := Nat.lt_of_lt_of_le hl B2.out.size
  have A2 := Lib.hid (H.out.below B2.out hl)
  clear hb2
  go_wp2_with fail
  refine (to_ints b o c n zs HZ.out hmax _ l2 A2.out).mono ?_
  rintro e w3 ⟨rfl, hA3, hb3, hs3⟩
  have A3 := Lib.hid hA3
  have B3 := Lib.hid (B2.out.trans (hb3.mono B2.out.size))
  have T3 := Lib.hid (show Lib.TabIs Tryd.prog w3 "internal/strconv.uint64pow10" .u64 Lib.pow10Tab from var_below B3.out HT.out)
  clear hA3 hb3
  go_wp2_with fail
  refine (i_fmts w2.heap.size 0 n n zs HZ.out HR.out hmax _ T3.out hs3 A3.out).mono ?_
  rintro e w4 ⟨rfl, hb4⟩
  have A4 := Lib.hid (A3.out.below hb4 hs3)
  have s4 : w2.heap.size < w4.heap.size := Nat.lt_of_lt_of_le hs3 hb4.size
  have B4 := Lib.hid (B3.out.trans (hb4.mono B3.out.size))
  have l4 : b < w4.heap.size := Nat.lt_of_lt_of_le hl B4.out.size
  have A4' := Lib.hid (H.out.below B4.out hl)
  clear hb4
  go_wp2_with fail
  refine (to_ints b o c n zs HZ.out hmax _ l4 A4'.out).mono ?_
  rintro e w5 ⟨rfl, hA5, hb5, hs5⟩
  have A5 := Lib.hid hA5
  have A5' := Lib.hid (A4.out.below hb5 s4)
  have s5 : w2.heap.size < w5.heap.size := Nat.lt_of_lt_of_le s4 hb5.size
  have B5 := Lib.hid (B4.out.trans (hb5.mono B4.out.size))
  clear hA5 hb5
  go_wp2_with fail
  refine (eq_ints w2.heap.size 0 n w4.heap.size 0 n n zs HZ.out (by omega) _ s5 hs5 A5'.out A5.out).mono ?_
  rintro e w6 ⟨rfl, hb6⟩
  have B6 := Lib.hid (B5.out.trans (hb6.mono B5.out.size))
  clear hb6
  go_wp2
  go_ret
  exact ⟨rfl, B6.out⟩
set_option maxRecDepth 100000 in
theorem law_fmts_long (a : Option Addr) (n c : Nat) (hn : 1048576 < n) (w : World) : Calls Tryd.prog 7 #[.slice a n c] w fun e w' => e = .returned (.bool true) ∧ Below w.heap.size w w' := by
  go_enter Tryd.func7, Tryd.ntmps7
  go_wp2
  go_ret
  exact ⟨rfl, Below.refl _ _⟩
theorem law_fmts (a : Option Addr) (n c : Nat) (zs : List Int) (w : World) (h : IntsIn w a n zs) (htab : Lib.TabIs Tryd.prog w "internal/strconv.uint64pow10" .u64 Lib.pow10Tab) : Calls Tryd.prog 7 #[.slice a n c] w fun e w' => e = .returned (.bool true) ∧ Below w.heap.size w w' := by
  obtain ⟨hz, hr, h0 | ⟨b, o, rfl, hl, hA⟩⟩ := h
  · subst h0
    exact law_fmts_none a c w
  · by_cases hmax : n ≤ 1048576
    · exact law_fmts_some b o c n zs hz hr hmax w htab hl hA
    · exact law_fmts_long _ n c (by omega) w
end Go.Proofs.YtoiakdhmdkcibaaDoor
