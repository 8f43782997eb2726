/- The law FnExactMakeClause, walked by the contracts of all that it calls. -/
import Derived.Test.YtkoeegeplginkaaFlInt
import Derived.Test.YtkoeegeplginkaaMcI
import Derived.Deep.RegionWith
namespace Go.Proofs.Ytkoeegeplginkaa
open Go.ChangeShapes Go.WideShapes Go.ChangeAt Go.RowKit
set_option maxRecDepth 100000 in
set_option maxHeartbeats 4000000 in
theorem law_FnExactMakeClause (L0 : List Int) (s0 : Value) (w : World) (hs0 : Cs.Shows w 0 1 s0 L0.length (IntL.all L0)) (hok0 : ∀ x ∈ L0, IntL.Ok x) (hl0 : L0.length ≤ maxLen) :
    Calls Try.prog 8 #[s0] w fun e w' => e = .returned (.bool true) ∧ Below w.heap.size w w' := by
  have hml : maxLen = 9223372036854775807 := rfl
  have IS0 := Lib.hid hs0
  have OK0 := Lib.hid hok0
  obtain ⟨_, q0, cap0, rfl, _⟩ := hs0
  clear hok0
  by_cases hlen0 : L0.length ≤ 1048576
  · have hleni0 : ¬ ((1048576 : Int) < (L0.length : Int)) := by omega
    obtain ⟨V, hV⟩ : ∃ V, mcL L0 = V := ⟨_, rfl⟩
    obtain ⟨B, hB⟩ : ∃ B, (mcV L0).isSome = B := ⟨_, rfl⟩
    have hvl : V.length ≤ 2097152 := by rw [← hV]; have := mcL_len L0; omega
    have KS := Lib.hid (fun v0 W h0 => s_mkcl L0 v0 W h0 OK0.out hlen0)
    have KI := Lib.hid (fun v0 W h0 => i_mkcl L0 v0 W h0 OK0.out hlen0)
    unfold McShow at KS
    unfold McOwn at KI
    rw [hV, hB] at KS KI
    clear hV hB
    go_enter Try.func8, Try.ntmps8
    have C0 := Lib.hid (Below.refl w.heap.size w)
    go_wp2_with fail
    refine (to_Int L0 _ _ (IS0.out.below C0.out) (by omega)).mono ?_
    rintro e w1 ⟨gp0, rfl, hh, hb⟩
    have Hp0 := Lib.hid hh
    clear hh
    replace C0 := Lib.hid (C0.out.trans (hb.mono C0.out.size))
    clear hb
    have C1 := Lib.hid (Below.refl w1.heap.size w1)
    go_wp2_with fail
    refine (KS.out _ _ ((Cs.shows_of_owns (own_keep Hp0.out C1.out)).down (Nat.zero_le _))).mono ?_
    rintro e w2 ⟨hb, sq0, sc0, rfl, hs⟩
    replace C0 := Lib.hid (C0.out.trans (hb.mono C0.out.size))
    replace C1 := Lib.hid (C1.out.trans (hb.mono C1.out.size))
    clear hb
    have SF := Lib.hid hs
    clear hs
    have C2 := Lib.hid (Below.refl w2.heap.size w2)
    clear C1
    go_wp2_with fail
    have Zx0C0 := Lib.hid C0.out.size
    have Zx0C2 := Lib.hid C2.out.size
    refine (to_Int L0 _ _ (IS0.out.below C0.out) (by omega)).mono ?_
    rintro e w3 ⟨gx0, rfl, hh, hb⟩
    have Hx0 := Lib.hid hh
    clear hh
    replace C0 := Lib.hid (C0.out.trans (hb.mono C0.out.size))
    replace C2 := Lib.hid (C2.out.trans (hb.mono C2.out.size))
    clear hb
    have C3 := Lib.hid (Below.refl w3.heap.size w3)
    go_wp2_with fail
    have ZGC0 := Lib.hid C0.out.size
    have ZGC2 := Lib.hid C2.out.size
    have Yx0 := Lib.hid (fun g (hg : g ∈ (.slice (some ⟨gx0, 0, none⟩) L0.length L0.length : Value).ownBlock.toList) => (own_lt (own_keep Hx0.out C3.out) hg).2)
    refine (KI.out _ _ ((Cs.shows_of_owns (own_keep Hx0.out C3.out)).down (Nat.zero_le _))).mono ?_
    rintro e w4 ⟨hb, iq0, ic0, rfl, hh⟩
    replace C0 := Lib.hid (C0.out.trans (hb.mono C0.out.size))
    replace C2 := Lib.hid (C2.out.trans (hb.mono C2.out.size))
    replace C3 := Lib.hid (C3.out.trans (hb.mono C3.out.size))
    clear hb
    have GF := Lib.hid hh
    clear hh
    have LG := Lib.hid (fun g (hg : g ∈ (.slice iq0 V.length ic0 : Value).ownBlock.toList) => (own_lt GF.out hg).1)
    have C4 := Lib.hid (Below.refl w4.heap.size w4)
    go_wp2_with fail
    refine (eq_Int V _ _ _ ((Cs.shows_of_owns (own_keep GF.out C4.out)).down (Nat.zero_le _)) (SF.out.below C2.out) (by omega)).mono ?_
    rintro e w5 ⟨rfl, hb⟩
    replace C0 := Lib.hid (C0.out.trans (hb.mono C0.out.size))
    replace C2 := Lib.hid (C2.out.trans (hb.mono C2.out.size))
    replace C3 := Lib.hid (C3.out.trans (hb.mono C3.out.size))
    replace C4 := Lib.hid (C4.out.trans (hb.mono C4.out.size))
    clear hb
    go_wp2_with fail
    refine (to_Int L0 _ _ (IS0.out.below C0.out) (by omega)).mono ?_
    rintro e w6 ⟨ge0, rfl, hh, hb⟩
    have He0 := Lib.hid hh
    clear hh
    replace C0 := Lib.hid (C0.out.trans (hb.mono C0.out.size))
    replace C2 := Lib.hid (C2.out.trans (hb.mono C2.out.size))
    replace C3 := Lib.hid (C3.out.trans (hb.mono C3.out.size))
    replace C4 := Lib.hid (C4.out.trans (hb.mono C4.out.size))
    clear hb
    have C5 := Lib.hid (Below.refl w6.heap.size w6)
    go_wp2_with fail
    refine (eq_Int L0 _ _ _ ((Cs.shows_of_owns (own_keep Hx0.out C3.out)).down (Nat.zero_le _)) ((Cs.shows_of_owns (own_keep He0.out C5.out)).down (Nat.zero_le _)) (by omega)).mono ?_
    rintro e w7 ⟨rfl, hb⟩
    replace C0 := Lib.hid (C0.out.trans (hb.mono C0.out.size))
    replace C2 := Lib.hid (C2.out.trans (hb.mono C2.out.size))
    replace C3 := Lib.hid (C3.out.trans (hb.mono C3.out.size))
    replace C4 := Lib.hid (C4.out.trans (hb.mono C4.out.size))
    replace C5 := Lib.hid (C5.out.trans (hb.mono C5.out.size))
    clear hb
    go_wp2_with fail
    refine (mark_Int L0 _ 1 _ _ (own_keep Hx0.out C3.out) (by omega) (by omega)).mono ?_
    rintro e w8 ⟨rfl, hh, hap⟩
    clear hh
    have LX := Lib.hid (fun g (hg : g ∈ (.slice (some ⟨gx0, 0, none⟩) L0.length L0.length : Value).ownBlock.toList) => (own_lt Hx0.out hg).1)
    have GN := Lib.hid (own_same (own_keep GF.out C4.out) (fun g hg => hap.block g (own_lt (own_keep GF.out C4.out) hg).2 (fun hm => by have h1 := LG.out g hg; have h2 := Yx0.out g hm; omega)))
    replace C0 := Lib.hid (C0.out.trans (hap.below C0.out.size (fun g hg => Nat.le_trans Zx0C0.out (LX.out g hg))))
    replace C2 := Lib.hid (C2.out.trans (hap.below C2.out.size (fun g hg => Nat.le_trans Zx0C2.out (LX.out g hg))))
    clear hap LX GF
    have GF := GN
    clear GN C3 C4 C5
    have C6 := Lib.hid (Below.refl w8.heap.size w8)
    go_wp2_with fail
    refine (eq_Int V _ _ _ ((Cs.shows_of_owns (own_keep GF.out C6.out)).down (Nat.zero_le _)) (SF.out.below C2.out) (by omega)).mono ?_
    rintro e w9 ⟨rfl, hb⟩
    replace C0 := Lib.hid (C0.out.trans (hb.mono C0.out.size))
    replace C2 := Lib.hid (C2.out.trans (hb.mono C2.out.size))
    replace C6 := Lib.hid (C6.out.trans (hb.mono C6.out.size))
    clear hb
    go_wp2_with fail
    refine (mark_Int V _ 1 _ _ (own_keep GF.out C6.out) (by omega) (by omega)).mono ?_
    rintro e w10 ⟨rfl, hh, hap⟩
    have GM := Lib.hid hh
    clear hh
    replace C0 := Lib.hid (C0.out.trans (hap.below C0.out.size (fun g hg => Nat.le_trans ZGC0.out (LG.out g hg))))
    replace C2 := Lib.hid (C2.out.trans (hap.below C2.out.size (fun g hg => Nat.le_trans ZGC2.out (LG.out g hg))))
    clear hap GF LG C6
    have C7 := Lib.hid (Below.refl w10.heap.size w10)
    go_wp2_with fail
    refine (held_Int V _ 1 _ ((Cs.shows_of_owns (own_keep GM.out C7.out)).down (Nat.zero_le _)) (by omega) (by omega)).mono ?_
    rintro e w11 ⟨rfl, hb⟩
    replace C0 := Lib.hid (C0.out.trans (hb.mono C0.out.size))
    replace C2 := Lib.hid (C2.out.trans (hb.mono C2.out.size))
    replace C7 := Lib.hid (C7.out.trans (hb.mono C7.out.size))
    clear hb
    go_wp2_with fail
    refine (to_Int L0 _ _ (IS0.out.below C0.out) (by omega)).mono ?_
    rintro e w12 ⟨gh0, rfl, hh, hb⟩
    have Hh0 := Lib.hid hh
    clear hh
    replace C0 := Lib.hid (C0.out.trans (hb.mono C0.out.size))
    replace C2 := Lib.hid (C2.out.trans (hb.mono C2.out.size))
    replace C7 := Lib.hid (C7.out.trans (hb.mono C7.out.size))
    clear hb
    have C8 := Lib.hid (Below.refl w12.heap.size w12)
    go_wp2_with fail
    refine (KI.out _ _ ((Cs.shows_of_owns (own_keep Hh0.out C8.out)).down (Nat.zero_le _))).mono ?_
    rintro e w13 ⟨hb, jq0, jc0, rfl, hh⟩
    replace C0 := Lib.hid (C0.out.trans (hb.mono C0.out.size))
    replace C2 := Lib.hid (C2.out.trans (hb.mono C2.out.size))
    replace C7 := Lib.hid (C7.out.trans (hb.mono C7.out.size))
    replace C8 := Lib.hid (C8.out.trans (hb.mono C8.out.size))
    clear hb
    have GF := Lib.hid hh
    clear hh
    have C9 := Lib.hid (Below.refl w13.heap.size w13)
    go_wp2_with fail
    refine (eq_Int V _ _ _ ((Cs.shows_of_owns (own_keep GF.out C9.out)).down (Nat.zero_le _)) (SF.out.below C2.out) (by omega)).mono ?_
    rintro e w14 ⟨rfl, hb⟩
    replace C0 := Lib.hid (C0.out.trans (hb.mono C0.out.size))
    replace C2 := Lib.hid (C2.out.trans (hb.mono C2.out.size))
    replace C7 := Lib.hid (C7.out.trans (hb.mono C7.out.size))
    replace C8 := Lib.hid (C8.out.trans (hb.mono C8.out.size))
    replace C9 := Lib.hid (C9.out.trans (hb.mono C9.out.size))
    clear hb
    go_wp2_with fail
    refine (held_Int V _ 1 _ ((Cs.shows_of_owns (own_keep GM.out C7.out)).down (Nat.zero_le _)) (by omega) (by omega)).mono ?_
    rintro e w15 ⟨rfl, hb⟩
    replace C0 := Lib.hid (C0.out.trans (hb.mono C0.out.size))
    replace C2 := Lib.hid (C2.out.trans (hb.mono C2.out.size))
    replace C7 := Lib.hid (C7.out.trans (hb.mono C7.out.size))
    replace C8 := Lib.hid (C8.out.trans (hb.mono C8.out.size))
    replace C9 := Lib.hid (C9.out.trans (hb.mono C9.out.size))
    clear hb
    go_wp2
    go_ret
    exact ⟨rfl, C0.out⟩
  · have hlong0 : (1048576 : Int) < (L0.length : Int) := by omega
    go_enter Try.func8, Try.ntmps8
    have C0 := Lib.hid (Below.refl w.heap.size w)
    go_wp2
    go_ret
    exact ⟨rfl, C0.out⟩
end Go.Proofs.Ytkoeegeplginkaa
