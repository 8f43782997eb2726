/- What Words and its model return, for every string of at most 1048576 bytes. -/
import Derived.Test.YtoiakdhmdkcibaaDoorSplitLines
namespace Go.Proofs.YtoiakdhmdkcibaaDoor
open Go.ChangeShapes Go.WideShapes Go.ChangeAt Go.RowKit
open Pieces
def ne (L : List (List UInt8)) : List (List UInt8) := L.filter fun x => !x.isEmpty
theorem ne_append (a b : List (List UInt8)) : ne (a ++ b) = ne a ++ ne b := by simp [ne]
theorem ne_one (x : List UInt8) (h : x ≠ []) : ne [x] = [x] := by
  cases x with
  | nil => exact absurd rfl h
  | cons a r => rfl
theorem ne_le (L : List (List UInt8)) : (ne L).length ≤ L.length := List.length_filter_le _ _
theorem words_count (s : ByteArray) (hs : s.size ≤ 1048576) : (Pieces.strs (wordsOf s.data.toList)).length ≤ 1048577 := by
  rw [strs_len]
  have h := sp_length 32 s.data.toList
  rw [← Lib.size_eq] at h
  have := ne_le (sp 32 s.data.toList)
  show (ne (sp 32 s.data.toList)).length ≤ _
  omega
/-- impl: the pieces that are not empty -/
theorem ne_take_hit (L : List (List UInt8)) (k : Nat) (hk : k < L.length) (h : L[k] ≠ []) : ne (L.take (k + 1)) = ne (L.take k) ++ [L[k]] := by
  rw [List.take_succ_eq_append_getElem hk, ne_append, ne_one _ h]
theorem ne_take_miss (L : List (List UInt8)) (k : Nat) (hk : k < L.length) (h : L[k] = []) : ne (L.take (k + 1)) = ne (L.take k) := by
  rw [List.take_succ_eq_append_getElem hk, ne_append, h]
  simp [ne]
set_option maxRecDepth 100000 in
set_option maxHeartbeats 4000000 in
theorem i_words (s : ByteArray) (hs : s.size ≤ 1048576) (w : World) (hm : HasMax w) : Calls Tryd.prog 14 #[.string s] w (OwnsStr (strs (wordsOf s.data.toList)) w) := by
  have hlen := splitB_len 32 s
  have hle := sp_length 32 s.data.toList
  rw [← Lib.size_eq] at hle
  rw [strs_len] at hlen
  have hn20 : Lib.countB s ⟨#[32]⟩ + 1 ≤ 1048577 := by omega
  have K := Lib.hid (i_split 32 s hs w hm)
  have HLEN := Lib.hid hlen
  clear hm hlen hle
  have HW := Lib.hid (show wordsOf s.data.toList = ne (sp 32 s.data.toList) from rfl)
  generalize Lib.countB s ⟨#[32]⟩ + 1 = n at *
  generalize sp 32 s.data.toList = L at *
  obtain ⟨i0, hi, hz0, hz1, hz2⟩ := info_parts infoStr
  go_enter Tryd.func14, Tryd.ntmps14
  go_wp2_with (go_at_call 31; refine (K.out).mono ?_; rintro e w1 ⟨rfl, hown, hb⟩; have HO1 := Lib.hid hown; have HB1 := Lib.hid hb; clear hown hb)
  have hsz1 : w.heap.size < w1.heap.size := (HO1.out.lt w.heap.size rfl).2
  have HA := Lib.hid (ownsRow_at HO1.out).1
  go_loopw [3, 9] (fun v i wr => ∃ (k m : Nat), k ≤ n ∧ i = .int .i64 k ∧ m ≤ k ∧ m = (ne (L.take k)).length ∧ wr.ownsRow w1.heap.size 9 1 v m ((strs (ne (L.take k))).map Value.string) ∧ Below w1.heap.size w1 wr) (fun _ i _ => n - (intOf i).toNat)
  case atStart => exact ⟨0, 0, Nat.zero_le _, rfl, Nat.le_refl _, rfl, World.ownsRow_nil _ _ _ _, Below.refl _ _⟩
  case round =>
    obtain ⟨k, m, hk, rfl, hmk, hmm, hown, hb⟩ := hrel
    have HO := Lib.hid hown
    have HB := Lib.hid hb
    have HMM := Lib.hid hmm
    by_cases hlt : k < n
    · have hkL : k < L.length := by rw [HLEN.out]; exact hlt
      have hcell : wr.cell? ⟨w.heap.size, k, none⟩ = some (.string ⟨L[k].toArray⟩) := by
        have := (HA.out.below hb hsz1) k (.string ⟨L[k].toArray⟩) (by simp [Pieces.strs, hkL])
        rw [Nat.zero_add] at this
        exact this
      have hki : (k : Int) < (n : Int) := by omega
      clear hown hb hmm
      by_cases hemp : L[k] = []
      · have HT := Lib.hid (ne_take_miss L k hkL hemp)
        rw [hemp] at hcell
        clear hemp
        go_wp2
        go_roundw
        case rel => exact ⟨k + 1, m, by omega, by go_num, by omega, by rw [HT.out]; exact HMM.out, by rw [HT.out]; exact HO.out, HB.out⟩
        case measure => simp [intOf]; omega
      · have HT := Lib.hid (ne_take_hit L k hkL hemp)
        obtain ⟨x, r, hxr⟩ : ∃ x r, L[k] = x :: r := by
          cases hq : L[k] with
          | nil => exact absurd hq hemp
          | cons x r => exact ⟨x, r, rfl⟩
        rw [hxr] at hcell HT
        clear hemp hxr
        go_wp2_with (at_builtin; refine wpList_append_own _ rfl _ _ 27 rfl w1.heap.size 9 i0 (.string ByteArray.empty) 1 16 Tryd.underlying27 hi hz0 hz1 hz2 rfl (by decide) _ _ _ rfl (HO.out.alloc _) ⟨_, 0, none⟩ 1 1 [.string ⟨(x :: r).toArray⟩] rfl rfl ?c1 ?c2 ?c3 ?c4 ?c5 ?_)
        case c1 =>
          intro j u hj
          match j, hj with
          | 0, hj => simp at hj; subst hj; simp [Addr.add]
        case c2 => intro u hu; simp at hu; subst hu; rfl
        case c3 => unfold maxLen; omega
        case c4 => omega
        case c5 => have := HB.out.size; simp; omega
        intro v' w2 hown' hgrow _
        have R1 := Lib.hid (own_push hown' HMM.out)
        have R2 := Lib.hid ((HB.out.alloc HB.out.size _).grown hgrow (by have := HB.out.size; simp; omega) (fun q hq => ((HO.out.lt q hq).1)))
        clear hown' hgrow
        go_wp2
        go_roundw
        case rel => exact ⟨k + 1, m + 1, by omega, by go_num, by omega, by rw [HT.out, List.length_append, ← HMM.out]; rfl, by rw [HT.out]; have q := R1.out; rw [List.length_append, ← HMM.out] at q; exact q, R2.out⟩
        case measure => simp [intOf]; omega
    · have e1 : L.take k = L := List.take_of_length_le (by rw [HLEN.out]; omega)
      have HE := Lib.hid e1
      clear hown hb hmm e1
      go_wp2
      go_ret
      refine ⟨_, rfl, ?_, HB1.out.trans (HB.out.mono (Nat.le_of_lt hsz1))⟩
      have q := HO.out
      rw [HMM.out, HE.out] at q
      rw [HW.out, strs_len]
      refine ⟨q.1, ?_⟩
      rcases q.2 with h | ⟨g, cap, cur, h1, h2, h3⟩
      · exact .inl h
      · exact .inr ⟨g, cap, cur, h1, by omega, h3⟩
/-- where a scan for words stands -/
def St (l : List UInt8) (done : List (List UInt8)) (fr : Int) (k : Nat) : Prop :=
  (k ≤ l.length ∧ fr = -1 ∧ Scan 32 l done [] k) ∨ (k ≤ l.length ∧ ∃ f : Nat, fr = f ∧ f < k ∧ Scan 32 l done ((l.drop f).take (k - f)) k) ∨ (k = l.length + 1 ∧ fr = -1 ∧ wordsOf l = ne done)
theorem cur_ne (l : List UInt8) (f k : Nat) (h : f < k) (hk : k ≤ l.length) : (l.drop f).take (k - f) ≠ [] := by
  intro e
  have := congrArg List.length e
  rw [List.length_take, List.length_drop, List.length_nil] at this
  omega
theorem words_end (l : List UInt8) (done : List (List UInt8)) (cur : List UInt8) (k : Nat) (h : Scan 32 l done cur k) (hk : l.length ≤ k) : wordsOf l = ne (done ++ [cur]) := by
  show ne (sp 32 l) = _
  rw [scan_end 32 l done cur k h hk]
theorem ne_nil_end (done : List (List UInt8)) : ne (done ++ [[]]) = ne done := by rw [ne_append]; simp [ne]
set_option maxRecDepth 100000 in
set_option maxHeartbeats 8000000 in
theorem s_words (s : ByteArray) (hs : s.size ≤ 1048576) (w : World) : Calls Tryd.prog 13 #[.string s] w (OwnsStr (strs (wordsOf s.data.toList)) w) := by
  have HSZ := Lib.hid (Lib.size_eq s)
  obtain ⟨i0, hi, hz0, hz1, hz2⟩ := info_parts infoStr
  go_enter Tryd.func13, Tryd.ntmps13
  go_wp2
  go_loopw [3, 4, 5] (fun v fr i wr => ∃ (k m : Nat) (g : Int) (done : List (List UInt8)), k ≤ s.size + 1 ∧ i = .int .i64 k ∧ fr = .int .i64 g ∧ m ≤ k ∧ m = (ne done).length ∧ wr.ownsRow w.heap.size 9 1 v m ((strs (ne done)).map Value.string) ∧ St s.data.toList done g k ∧ Below w.heap.size w wr) (fun _ _ i _ => s.size + 1 - (intOf i).toNat)
  case atStart => exact ⟨0, 0, -1, [], Nat.zero_le _, rfl, rfl, Nat.le_refl _, rfl, World.ownsRow_made w #[] 0 (Nat.le_refl _) (by decide) rfl, Or.inl ⟨Nat.zero_le _, rfl, scan_start 32 _⟩, (Below.refl _ _).alloc (Nat.le_refl _) _⟩
  case round =>
    obtain ⟨k, m, g, done, hk, rfl, rfl, hmk, hmm, hown, hst, hb⟩ := hrel
    have HO := Lib.hid hown
    have HB := Lib.hid hb
    have HMM := Lib.hid hmm
    clear hown hb hmm
    rcases hst with ⟨hkl, rfl, hsc⟩ | ⟨hkl, f, rfl, hfk, hsc⟩ | ⟨hke, rfl, hw⟩
    · rw [← HSZ.out] at hkl
      have HSC := Lib.hid hsc
      clear hsc
      have hki : (k : Int) ≤ (s.size : Int) := by omega
      by_cases hlt : k < s.size
      · have hkL : k < s.data.toList.length := by rw [← HSZ.out]; exact hlt
        have hkn : ((k : Int) == (s.size : Int)) = false := by simp; omega
        by_cases hc : s[k] = 32
        · have h32 : ((s[k].toNat : Int) == 32) = true := by rw [hc]; rfl
          have HS2 := Lib.hid (scan_hit 32 _ _ _ _ HSC.out hkL (by rw [byte_at s k hlt]; exact hc))
          clear hc
          go_wp2
          go_roundw
          case rel => exact ⟨k + 1, m, -1, done ++ [[]], by omega, by go_num, rfl, by omega, by rw [ne_nil_end]; exact HMM.out, by rw [ne_nil_end]; exact HO.out, Or.inl ⟨hkL, rfl, HS2.out⟩, HB.out⟩
          case measure => simp [intOf]; omega
        · have h32 : ((s[k].toNat : Int) == 32) = false := by
            have : s[k].toNat ≠ 32 := fun e => hc (UInt8.toNat_inj.1 e)
            simp; omega
          have HS2 := Lib.hid (scan_miss 32 _ _ _ _ HSC.out hkL (by rw [byte_at s k hlt]; exact hc))
          have HCS := Lib.hid (cur_step s.data.toList k k (Nat.le_refl _) hkL)
          clear hc
          go_wp2
          go_roundw
          case rel => exact ⟨k + 1, m, k, done, by omega, by go_num, rfl, by omega, HMM.out, HO.out, Or.inr (Or.inl ⟨hkL, k, rfl, Nat.lt_succ_self _, by rw [HCS.out]; simpa using HS2.out⟩), HB.out⟩
          case measure => simp [intOf]; omega
      · have hke : k = s.size := by omega
        subst hke
        have hkn : ((s.size : Int) == (s.size : Int)) = true := by simp
        have HW := Lib.hid (words_end _ _ _ _ HSC.out (by rw [← HSZ.out]; exact Nat.le_refl _))
        go_wp2
        go_roundw
        case rel => exact ⟨s.size + 1, m, -1, done, by omega, by go_num, rfl, by omega, HMM.out, HO.out, Or.inr (Or.inr ⟨by rw [← HSZ.out], rfl, by rw [HW.out, ne_nil_end]⟩), HB.out⟩
        case measure => simp [intOf]
    · rw [← HSZ.out] at hkl
      have HSC := Lib.hid hsc
      clear hsc
      have hki : (k : Int) ≤ (s.size : Int) := by omega
      have hfk' : f ≤ k := by omega
      have hcur := cur_ne s.data.toList f k hfk (by rw [← HSZ.out]; exact hkl)
      have HC := Lib.hid (str_cut s f k)
      have HN := Lib.hid (show ne (done ++ [(s.data.toList.drop f).take (k - f)]) = ne done ++ [(s.data.toList.drop f).take (k - f)] by rw [ne_append, ne_one _ hcur])
      clear hcur
      by_cases hlt : k < s.size
      · have hkL : k < s.data.toList.length := by rw [← HSZ.out]; exact hlt
        have hkn : ((k : Int) == (s.size : Int)) = false := by simp; omega
        by_cases hc : s[k] = 32
        · have h32 : ((s[k].toNat : Int) == 32) = true := by rw [hc]; rfl
          have HS2 := Lib.hid (scan_hit 32 _ _ _ _ HSC.out hkL (by rw [byte_at s k hlt]; exact hc))
          clear hc
          go_wp2_with (at_builtin; refine wpList_append_own _ rfl _ _ 27 rfl w.heap.size 9 i0 (.string ByteArray.empty) 1 16 Tryd.underlying27 hi hz0 hz1 hz2 rfl (by decide) _ _ _ rfl (HO.out.alloc _) ⟨_, 0, none⟩ 1 1 [.string (s.extract f k)] rfl rfl ?ca1 ?ca2 ?ca3 ?ca4 ?ca5 ?_)
          case ca1 =>
            intro j u hj
            match j, hj with
            | 0, hj => simp at hj; subst hj; simp [Addr.add]
          case ca2 => intro u hu; simp at hu; subst hu; rfl
          case ca3 => unfold maxLen; omega
          case ca4 => omega
          case ca5 => have := HB.out.size; simp; omega
          intro v' w2 hown' hgrow _
          rw [HC.out] at hown'
          have R1 := Lib.hid (own_push hown' HMM.out)
          have R2 := Lib.hid ((HB.out.alloc HB.out.size _).grown hgrow (by have := HB.out.size; simp; omega) (fun q hq => ((HO.out.lt q hq).1)))
          clear hown' hgrow
          go_wp2
          go_roundw
          case rel => exact ⟨k + 1, m + 1, -1, _, by omega, by go_num, rfl, by omega, by rw [HN.out, List.length_append, ← HMM.out]; rfl, by rw [HN.out]; have q := R1.out; rw [List.length_append, ← HMM.out] at q; exact q, Or.inl ⟨hkL, rfl, HS2.out⟩, R2.out⟩
          case measure => simp [intOf]; omega
        · have h32 : ((s[k].toNat : Int) == 32) = false := by
            have : s[k].toNat ≠ 32 := fun e => hc (UInt8.toNat_inj.1 e)
            simp; omega
          have HS2 := Lib.hid (scan_miss 32 _ _ _ _ HSC.out hkL (by rw [byte_at s k hlt]; exact hc))
          have HCS := Lib.hid (cur_step s.data.toList f k (by omega) hkL)
          clear hc
          go_wp2
          go_roundw
          case rel => exact ⟨k + 1, m, f, done, by omega, by go_num, rfl, by omega, HMM.out, HO.out, Or.inr (Or.inl ⟨hkL, f, rfl, by omega, by rw [HCS.out]; exact HS2.out⟩), HB.out⟩
          case measure => simp [intOf]; omega
      · have hke : k = s.size := by omega
        subst hke
        have hkn : ((s.size : Int) == (s.size : Int)) = true := by simp
        have HW := Lib.hid (words_end _ _ _ _ HSC.out (by rw [← HSZ.out]; exact Nat.le_refl _))
        go_wp2_with (at_builtin; refine wpList_append_own _ rfl _ _ 27 rfl w.heap.size 9 i0 (.string ByteArray.empty) 1 16 Tryd.underlying27 hi hz0 hz1 hz2 rfl (by decide) _ _ _ rfl (HO.out.alloc _) ⟨_, 0, none⟩ 1 1 [.string (s.extract f s.size)] rfl rfl ?cb1 ?cb2 ?cb3 ?cb4 ?cb5 ?_)
        case cb1 =>
          intro j u hj
          match j, hj with
          | 0, hj => simp at hj; subst hj; simp [Addr.add]
        case cb2 => intro u hu; simp at hu; subst hu; rfl
        case cb3 => unfold maxLen; omega
        case cb4 => omega
        case cb5 => have := HB.out.size; simp; omega
        intro v' w2 hown' hgrow _
        rw [HC.out] at hown'
        have R1 := Lib.hid (own_push hown' HMM.out)
        have R2 := Lib.hid ((HB.out.alloc HB.out.size _).grown hgrow (by have := HB.out.size; simp; omega) (fun q hq => ((HO.out.lt q hq).1)))
        clear hown' hgrow
        go_wp2
        go_roundw
        case rel => exact ⟨s.size + 1, m + 1, -1, _, by omega, by go_num, rfl, by omega, by rw [HN.out, List.length_append, ← HMM.out]; rfl, by rw [HN.out]; have q := R1.out; rw [List.length_append, ← HMM.out] at q; exact q, Or.inr (Or.inr ⟨by rw [← HSZ.out], rfl, HW.out⟩), R2.out⟩
        case measure => simp [intOf]
    · rw [← HSZ.out] at hke
      subst hke
      have HW := Lib.hid hw
      clear hw
      have hki : (s.size : Int) < ((s.size + 1 : Nat) : Int) := by omega
      go_wp2
      go_ret
      refine ⟨_, rfl, ?_, HB.out⟩
      rw [HW.out, strs_len, ← HMM.out]
      exact HO.out
end Go.Proofs.YtoiakdhmdkcibaaDoor
