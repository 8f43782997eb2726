/- The law FnExactResolve, walked by the contracts of all that it calls. -/
import Derived.Test.YtkoeegeplginkaaFlInt
import Derived.Test.YtkoeegeplginkaaRsI
import Derived.Deep.RegionWith
namespace Go.Proofs.Ytkoeegeplginkaa
open Go.ChangeShapes Go.WideShapes Go.ChangeAt Go.RowKit
set_option maxRecDepth 100000 in
set_option maxHeartbeats 4000000 in
theorem law_FnExactResolve (L0 : List Int) (s0 : Value) (L1 : List Int) (s1 : Value) (a2 : Int) (w : World) (hs0 : Cs.Shows w 0 1 s0 L0.length (IntL.all L0)) (hok0 : ∀ x ∈ L0, IntL.Ok x) (hl0 : L0.length ≤ maxLen) (hs1 : Cs.Shows w 0 1 s1 L1.length (IntL.all L1)) (hok1 : ∀ x ∈ L1, IntL.Ok x) (hl1 : L1.length ≤ maxLen)  :
    Calls Try.prog 13 #[s0, s1, .int .i64 a2] w fun e w' => e = .returned (.bool true) ∧ Below w.heap.size w w' := by
  have hml : maxLen = 9223372036854775807 := rfl
  have IS0 := Lib.hid hs0
  have OK0 := Lib.hid hok0
  obtain ⟨_, q0, cap0, rfl, _⟩ := hs0
  clear hok0
  have IS1 := Lib.hid hs1
  have OK1 := Lib.hid hok1
  obtain ⟨_, q1, cap1, rfl, _⟩ := hs1
  clear hok1
  by_cases hlen0 : L0.length ≤ 1048576
  · have hleni0 : ¬ ((1048576 : Int) < (L0.length : Int)) := by omega
    by_cases hlen1 : L1.length ≤ 1048576
    · have hleni1 : ¬ ((1048576 : Int) < (L1.length : Int)) := by omega
      obtain ⟨V, hV⟩ : ∃ V, rsL L0 L1 a2 = V := ⟨_, rfl⟩
      obtain ⟨B, hB⟩ : ∃ B, (rsV L0 L1 a2).isSome = B := ⟨_, rfl⟩
      have hvl : V.length ≤ 2097152 := by rw [← hV]; have := rsL_len L0 L1 a2; omega
      have KS := Lib.hid (fun v0 v1 W h0 h1 => s_resolve L0 L1 a2 v0 v1 W h0 h1 OK0.out OK1.out hlen0 hlen1)
      have KI := Lib.hid (fun v0 v1 W h0 h1 => i_resolve L0 L1 a2 v0 v1 W h0 h1 OK0.out OK1.out hlen0 hlen1)
      unfold RsShow at KS
      unfold RsOwn at KI
      rw [hV, hB] at KS KI
      clear hV hB
      go_enter Try.func13, Try.ntmps13
      have C0 := Lib.hid (Below.refl w.heap.size w)
      go_wp2_with fail
      refine (to_Int L0 _ _ (IS0.out.below C0.out) (by omega)).mono ?_
      rintro e w1 ⟨gp0, rfl, hh, hb⟩
      have Hp0 := Lib.hid hh
      clear hh
      replace C0 := Lib.hid (C0.out.trans (hb.mono C0.out.size))
      clear hb
      have C1 := Lib.hid (Below.refl w1.heap.size w1)
      go_wp2_with fail
      refine (to_Int L1 _ _ (IS1.out.below C0.out) (by omega)).mono ?_
      rintro e w2 ⟨gp1, rfl, hh, hb⟩
      have Hp1 := Lib.hid hh
      clear hh
      replace C0 := Lib.hid (C0.out.trans (hb.mono C0.out.size))
      replace C1 := Lib.hid (C1.out.trans (hb.mono C1.out.size))
      clear hb
      have C2 := Lib.hid (Below.refl w2.heap.size w2)
      go_wp2_with fail
      refine (KS.out _ _ _ ((Cs.shows_of_owns (own_keep Hp0.out C1.out)).down (Nat.zero_le _)) ((Cs.shows_of_owns (own_keep Hp1.out C2.out)).down (Nat.zero_le _))).mono ?_
      rintro e w3 ⟨hb, sq0, sc0, rfl, hs⟩
      replace C0 := Lib.hid (C0.out.trans (hb.mono C0.out.size))
      replace C1 := Lib.hid (C1.out.trans (hb.mono C1.out.size))
      replace C2 := Lib.hid (C2.out.trans (hb.mono C2.out.size))
      clear hb
      have SF := Lib.hid hs
      clear hs
      have C3 := Lib.hid (Below.refl w3.heap.size w3)
      clear C1
      clear C2
      go_wp2_with fail
      have Zx0C0 := Lib.hid C0.out.size
      have Zx0C3 := Lib.hid C3.out.size
      refine (to_Int L0 _ _ (IS0.out.below C0.out) (by omega)).mono ?_
      rintro e w4 ⟨gx0, rfl, hh, hb⟩
      have Hx0 := Lib.hid hh
      clear hh
      replace C0 := Lib.hid (C0.out.trans (hb.mono C0.out.size))
      replace C3 := Lib.hid (C3.out.trans (hb.mono C3.out.size))
      clear hb
      have C4 := Lib.hid (Below.refl w4.heap.size w4)
      go_wp2_with fail
      have Zx1C0 := Lib.hid C0.out.size
      have Zx1C3 := Lib.hid C3.out.size
      have Qx0x1 := Lib.hid C4.out.size
      refine (to_Int L1 _ _ (IS1.out.below C0.out) (by omega)).mono ?_
      rintro e w5 ⟨gx1, rfl, hh, hb⟩
      have Hx1 := Lib.hid hh
      clear hh
      replace C0 := Lib.hid (C0.out.trans (hb.mono C0.out.size))
      replace C3 := Lib.hid (C3.out.trans (hb.mono C3.out.size))
      replace C4 := Lib.hid (C4.out.trans (hb.mono C4.out.size))
      clear hb
      have C5 := Lib.hid (Below.refl w5.heap.size w5)
      go_wp2_with fail
      have ZGC0 := Lib.hid C0.out.size
      have ZGC3 := Lib.hid C3.out.size
      have Yx0 := Lib.hid (fun g (hg : g ∈ (.slice (some ⟨gx0, 0, none⟩) L0.length L0.length : Value).ownBlock.toList) => (own_lt (own_keep Hx0.out C4.out) hg).2)
      have Yx1 := Lib.hid (fun g (hg : g ∈ (.slice (some ⟨gx1, 0, none⟩) L1.length L1.length : Value).ownBlock.toList) => (own_lt (own_keep Hx1.out C5.out) hg).2)
      refine (KI.out _ _ _ ((Cs.shows_of_owns (own_keep Hx0.out C4.out)).down (Nat.zero_le _)) ((Cs.shows_of_owns (own_keep Hx1.out C5.out)).down (Nat.zero_le _))).mono ?_
      rintro e w6 ⟨hb, iq0, ic0, rfl, hh⟩
      replace C0 := Lib.hid (C0.out.trans (hb.mono C0.out.size))
      replace C3 := Lib.hid (C3.out.trans (hb.mono C3.out.size))
      replace C4 := Lib.hid (C4.out.trans (hb.mono C4.out.size))
      replace C5 := Lib.hid (C5.out.trans (hb.mono C5.out.size))
      clear hb
      have GF := Lib.hid hh
      clear hh
      have LG := Lib.hid (fun g (hg : g ∈ (.slice iq0 V.length ic0 : Value).ownBlock.toList) => (own_lt GF.out hg).1)
      have C6 := Lib.hid (Below.refl w6.heap.size w6)
      go_wp2_with fail
      refine (eq_Int V _ _ _ ((Cs.shows_of_owns (own_keep GF.out C6.out)).down (Nat.zero_le _)) (SF.out.below C3.out) (by omega)).mono ?_
      rintro e w7 ⟨rfl, hb⟩
      replace C0 := Lib.hid (C0.out.trans (hb.mono C0.out.size))
      replace C3 := Lib.hid (C3.out.trans (hb.mono C3.out.size))
      replace C4 := Lib.hid (C4.out.trans (hb.mono C4.out.size))
      replace C5 := Lib.hid (C5.out.trans (hb.mono C5.out.size))
      replace C6 := Lib.hid (C6.out.trans (hb.mono C6.out.size))
      clear hb
      go_wp2_with fail
      refine (to_Int L0 _ _ (IS0.out.below C0.out) (by omega)).mono ?_
      rintro e w8 ⟨ge0, rfl, hh, hb⟩
      have He0 := Lib.hid hh
      clear hh
      replace C0 := Lib.hid (C0.out.trans (hb.mono C0.out.size))
      replace C3 := Lib.hid (C3.out.trans (hb.mono C3.out.size))
      replace C4 := Lib.hid (C4.out.trans (hb.mono C4.out.size))
      replace C5 := Lib.hid (C5.out.trans (hb.mono C5.out.size))
      replace C6 := Lib.hid (C6.out.trans (hb.mono C6.out.size))
      clear hb
      have C7 := Lib.hid (Below.refl w8.heap.size w8)
      go_wp2_with fail
      refine (eq_Int L0 _ _ _ ((Cs.shows_of_owns (own_keep Hx0.out C4.out)).down (Nat.zero_le _)) ((Cs.shows_of_owns (own_keep He0.out C7.out)).down (Nat.zero_le _)) (by omega)).mono ?_
      rintro e w9 ⟨rfl, hb⟩
      replace C0 := Lib.hid (C0.out.trans (hb.mono C0.out.size))
      replace C3 := Lib.hid (C3.out.trans (hb.mono C3.out.size))
      replace C4 := Lib.hid (C4.out.trans (hb.mono C4.out.size))
      replace C5 := Lib.hid (C5.out.trans (hb.mono C5.out.size))
      replace C6 := Lib.hid (C6.out.trans (hb.mono C6.out.size))
      replace C7 := Lib.hid (C7.out.trans (hb.mono C7.out.size))
      clear hb
      go_wp2_with fail
      refine (to_Int L1 _ _ (IS1.out.below C0.out) (by omega)).mono ?_
      rintro e w10 ⟨ge1, rfl, hh, hb⟩
      have He1 := Lib.hid hh
      clear hh
      replace C0 := Lib.hid (C0.out.trans (hb.mono C0.out.size))
      replace C3 := Lib.hid (C3.out.trans (hb.mono C3.out.size))
      replace C4 := Lib.hid (C4.out.trans (hb.mono C4.out.size))
      replace C5 := Lib.hid (C5.out.trans (hb.mono C5.out.size))
      replace C6 := Lib.hid (C6.out.trans (hb.mono C6.out.size))
      replace C7 := Lib.hid (C7.out.trans (hb.mono C7.out.size))
      clear hb
      have C8 := Lib.hid (Below.refl w10.heap.size w10)
      go_wp2_with fail
      refine (eq_Int L1 _ _ _ ((Cs.shows_of_owns (own_keep Hx1.out C5.out)).down (Nat.zero_le _)) ((Cs.shows_of_owns (own_keep He1.out C8.out)).down (Nat.zero_le _)) (by omega)).mono ?_
      rintro e w11 ⟨rfl, hb⟩
      replace C0 := Lib.hid (C0.out.trans (hb.mono C0.out.size))
      replace C3 := Lib.hid (C3.out.trans (hb.mono C3.out.size))
      replace C4 := Lib.hid (C4.out.trans (hb.mono C4.out.size))
      replace C5 := Lib.hid (C5.out.trans (hb.mono C5.out.size))
      replace C6 := Lib.hid (C6.out.trans (hb.mono C6.out.size))
      replace C7 := Lib.hid (C7.out.trans (hb.mono C7.out.size))
      replace C8 := Lib.hid (C8.out.trans (hb.mono C8.out.size))
      clear hb
      go_wp2_with fail
      refine (mark_Int L0 _ 1 _ _ (own_keep Hx0.out C4.out) (by omega) (by omega)).mono ?_
      rintro e w12 ⟨rfl, hh, hap⟩
      clear hh
      have LX := Lib.hid (fun g (hg : g ∈ (.slice (some ⟨gx0, 0, none⟩) L0.length L0.length : Value).ownBlock.toList) => (own_lt Hx0.out hg).1)
      have GN := Lib.hid (own_same (own_keep GF.out C6.out) (fun g hg => hap.block g (own_lt (own_keep GF.out C6.out) hg).2 (fun hm => by have h1 := LG.out g hg; have h2 := Yx0.out g hm; omega)))
      have Nx1 := Lib.hid (own_same (own_keep Hx1.out C5.out) (fun g hg => hap.block g (own_lt (own_keep Hx1.out C5.out) hg).2 (fun hm => by have h1 := (own_lt Hx1.out hg).1; have h2 := (own_lt Hx0.out hm).2; have h3 := Qx0x1.out; omega)))
      replace C0 := Lib.hid (C0.out.trans (hap.below C0.out.size (fun g hg => Nat.le_trans Zx0C0.out (LX.out g hg))))
      replace C3 := Lib.hid (C3.out.trans (hap.below C3.out.size (fun g hg => Nat.le_trans Zx0C3.out (LX.out g hg))))
      have C9 := Lib.hid (Below.refl w12.heap.size w12)
      clear hap LX GF
      have GF := GN
      clear GN C4 C5 C6 C7 C8
      have C10 := Lib.hid (Below.refl w12.heap.size w12)
      go_wp2_with fail
      refine (mark_Int L1 _ (1 + L0.length) _ _ (own_keep Nx1.out C9.out) (by omega) (by omega)).mono ?_
      rintro e w13 ⟨rfl, hh, hap⟩
      clear hh
      have LX := Lib.hid (fun g (hg : g ∈ (.slice (some ⟨gx1, 0, none⟩) L1.length L1.length : Value).ownBlock.toList) => (own_lt Hx1.out hg).1)
      have GN := Lib.hid (own_same (own_keep GF.out C10.out) (fun g hg => hap.block g (own_lt (own_keep GF.out C10.out) hg).2 (fun hm => by have h1 := LG.out g hg; have h2 := Yx1.out g hm; omega)))
      replace C0 := Lib.hid (C0.out.trans (hap.below C0.out.size (fun g hg => Nat.le_trans Zx1C0.out (LX.out g hg))))
      replace C3 := Lib.hid (C3.out.trans (hap.below C3.out.size (fun g hg => Nat.le_trans Zx1C3.out (LX.out g hg))))
      clear hap LX GF
      have GF := GN
      clear GN C9 C10
      have C11 := Lib.hid (Below.refl w13.heap.size w13)
      go_wp2_with fail
      refine (eq_Int V _ _ _ ((Cs.shows_of_owns (own_keep GF.out C11.out)).down (Nat.zero_le _)) (SF.out.below C3.out) (by omega)).mono ?_
      rintro e w14 ⟨rfl, hb⟩
      replace C0 := Lib.hid (C0.out.trans (hb.mono C0.out.size))
      replace C3 := Lib.hid (C3.out.trans (hb.mono C3.out.size))
      replace C11 := Lib.hid (C11.out.trans (hb.mono C11.out.size))
      clear hb
      go_wp2_with fail
      refine (mark_Int V _ 1 _ _ (own_keep GF.out C11.out) (by omega) (by omega)).mono ?_
      rintro e w15 ⟨rfl, hh, hap⟩
      have GM := Lib.hid hh
      clear hh
      replace C0 := Lib.hid (C0.out.trans (hap.below C0.out.size (fun g hg => Nat.le_trans ZGC0.out (LG.out g hg))))
      replace C3 := Lib.hid (C3.out.trans (hap.below C3.out.size (fun g hg => Nat.le_trans ZGC3.out (LG.out g hg))))
      clear hap GF LG C11
      have C12 := Lib.hid (Below.refl w15.heap.size w15)
      go_wp2_with fail
      refine (held_Int V _ 1 _ ((Cs.shows_of_owns (own_keep GM.out C12.out)).down (Nat.zero_le _)) (by omega) (by omega)).mono ?_
      rintro e w16 ⟨rfl, hb⟩
      replace C0 := Lib.hid (C0.out.trans (hb.mono C0.out.size))
      replace C3 := Lib.hid (C3.out.trans (hb.mono C3.out.size))
      replace C12 := Lib.hid (C12.out.trans (hb.mono C12.out.size))
      clear hb
      go_wp2_with fail
      refine (to_Int L0 _ _ (IS0.out.below C0.out) (by omega)).mono ?_
      rintro e w17 ⟨gh0, rfl, hh, hb⟩
      have Hh0 := Lib.hid hh
      clear hh
      replace C0 := Lib.hid (C0.out.trans (hb.mono C0.out.size))
      replace C3 := Lib.hid (C3.out.trans (hb.mono C3.out.size))
      replace C12 := Lib.hid (C12.out.trans (hb.mono C12.out.size))
      clear hb
      have C13 := Lib.hid (Below.refl w17.heap.size w17)
      go_wp2_with fail
      refine (to_Int L1 _ _ (IS1.out.below C0.out) (by omega)).mono ?_
      rintro e w18 ⟨gh1, rfl, hh, hb⟩
      have Hh1 := Lib.hid hh
      clear hh
      replace C0 := Lib.hid (C0.out.trans (hb.mono C0.out.size))
      replace C3 := Lib.hid (C3.out.trans (hb.mono C3.out.size))
      replace C12 := Lib.hid (C12.out.trans (hb.mono C12.out.size))
      replace C13 := Lib.hid (C13.out.trans (hb.mono C13.out.size))
      clear hb
      have C14 := Lib.hid (Below.refl w18.heap.size w18)
      go_wp2_with fail
      refine (KI.out _ _ _ ((Cs.shows_of_owns (own_keep Hh0.out C13.out)).down (Nat.zero_le _)) ((Cs.shows_of_owns (own_keep Hh1.out C14.out)).down (Nat.zero_le _))).mono ?_
      rintro e w19 ⟨hb, jq0, jc0, rfl, hh⟩
      replace C0 := Lib.hid (C0.out.trans (hb.mono C0.out.size))
      replace C3 := Lib.hid (C3.out.trans (hb.mono C3.out.size))
      replace C12 := Lib.hid (C12.out.trans (hb.mono C12.out.size))
      replace C13 := Lib.hid (C13.out.trans (hb.mono C13.out.size))
      replace C14 := Lib.hid (C14.out.trans (hb.mono C14.out.size))
      clear hb
      have GF := Lib.hid hh
      clear hh
      have C15 := Lib.hid (Below.refl w19.heap.size w19)
      go_wp2_with fail
      refine (eq_Int V _ _ _ ((Cs.shows_of_owns (own_keep GF.out C15.out)).down (Nat.zero_le _)) (SF.out.below C3.out) (by omega)).mono ?_
      rintro e w20 ⟨rfl, hb⟩
      replace C0 := Lib.hid (C0.out.trans (hb.mono C0.out.size))
      replace C3 := Lib.hid (C3.out.trans (hb.mono C3.out.size))
      replace C12 := Lib.hid (C12.out.trans (hb.mono C12.out.size))
      replace C13 := Lib.hid (C13.out.trans (hb.mono C13.out.size))
      replace C14 := Lib.hid (C14.out.trans (hb.mono C14.out.size))
      replace C15 := Lib.hid (C15.out.trans (hb.mono C15.out.size))
      clear hb
      go_wp2_with fail
      refine (held_Int V _ 1 _ ((Cs.shows_of_owns (own_keep GM.out C12.out)).down (Nat.zero_le _)) (by omega) (by omega)).mono ?_
      rintro e w21 ⟨rfl, hb⟩
      replace C0 := Lib.hid (C0.out.trans (hb.mono C0.out.size))
      replace C3 := Lib.hid (C3.out.trans (hb.mono C3.out.size))
      replace C12 := Lib.hid (C12.out.trans (hb.mono C12.out.size))
      replace C13 := Lib.hid (C13.out.trans (hb.mono C13.out.size))
      replace C14 := Lib.hid (C14.out.trans (hb.mono C14.out.size))
      replace C15 := Lib.hid (C15.out.trans (hb.mono C15.out.size))
      clear hb
      go_wp2
      go_ret
      exact ⟨rfl, C0.out⟩
    · have hlong1 : (1048576 : Int) < (L1.length : Int) := by omega
      go_enter Try.func13, Try.ntmps13
      have C0 := Lib.hid (Below.refl w.heap.size w)
      go_wp2
      go_ret
      exact ⟨rfl, C0.out⟩
  · have hlong0 : (1048576 : Int) < (L0.length : Int) := by omega
    go_enter Try.func13, Try.ntmps13
    have C0 := Lib.hid (Below.refl w.heap.size w)
    go_wp2
    go_ret
    exact ⟨rfl, C0.out⟩
end Go.Proofs.Ytkoeegeplginkaa
