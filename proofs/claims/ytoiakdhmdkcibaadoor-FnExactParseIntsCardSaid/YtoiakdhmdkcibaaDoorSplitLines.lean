/- What SplitLines and its model return, for every string of at most 1048576 bytes. -/
import Derived.Test.YtoiakdhmdkcibaaDoorHeldS
import Derived.Test.YtoiakdhmdkcibaaDoorPieces
namespace Go.Proofs.YtoiakdhmdkcibaaDoor
open Go.ChangeShapes Go.WideShapes Go.ChangeAt Go.RowKit
open Pieces
/-- what comes back is a new list of just these strings -/
def OwnsStr (xs : List ByteArray) (w : World) (e : Ending) (w' : World) : Prop := ∃ v, e = .returned v ∧ w'.ownsRow w.heap.size 9 1 v xs.length (xs.map Value.string) ∧ Below w.heap.size w w'
theorem cur_step (l : List UInt8) (f k : Nat) (hf : f ≤ k) (hk : k < l.length) : (l.drop f).take (k + 1 - f) = (l.drop f).take (k - f) ++ [l[k]] := by
  have e : k + 1 - f = (k - f) + 1 := by omega
  rw [e, List.take_succ_eq_append_getElem (by rw [List.length_drop]; omega)]
  congr 1
  rw [List.getElem_drop]
  simp only [show f + (k - f) = k by omega]
theorem str_cut (s : ByteArray) (f k : Nat) : s.extract f k = ⟨((s.data.toList.drop f).take (k - f)).toArray⟩ := by
  rw [ByteArray.ext_iff]
  apply Array.ext'
  rw [Lib.extract_data]
theorem str_rest (s : ByteArray) (f : Nat) : s.extract f s.size = ⟨(s.data.toList.drop f).toArray⟩ := by
  rw [ByteArray.ext_iff]
  apply Array.ext'
  rw [Lib.extract_to_end]
theorem byte_at (s : ByteArray) (k : Nat) (_h : k < s.size) (h' : k < s.data.toList.length) : s.data.toList[k] = s[k] := rfl
theorem own_push {w : World} {B : Nat} {v : Value} {n : Nat} {done : List (List UInt8)} {cur : List UInt8} (h : w.ownsRow B 9 1 v (n + 1) ((strs done).map Value.string ++ [Value.string ⟨cur.toArray⟩])) (hn : n = done.length) : w.ownsRow B 9 1 v (done ++ [cur]).length ((strs (done ++ [cur])).map Value.string) := by
  subst hn
  rw [strs_append, List.map_append, List.length_append]
  exact h
set_option maxRecDepth 100000 in
set_option maxHeartbeats 4000000 in
theorem s_lines (s : ByteArray) (hs : s.size ≤ 1048576) (w : World) : Calls Tryd.prog 18 #[.string s] w (OwnsStr (strs (linesOf s.data.toList)) w) := by
  have hL := Lib.size_eq s
  have HSZ := Lib.hid hL
  clear hL
  obtain ⟨i0, hi, hz0, hz1, hz2⟩ := info_parts infoStr
  go_enter Tryd.func18, Tryd.ntmps18
  go_wp2
  go_loopw [3, 4, 5] (fun v fr i wr => ∃ (k f : Nat) (done : List (List UInt8)), k ≤ s.size ∧ f ≤ k ∧ i = .int .i64 k ∧ fr = .int .i64 f ∧ done.length ≤ k ∧ wr.ownsRow w.heap.size 9 1 v done.length ((strs done).map Value.string) ∧ Scan 10 s.data.toList done ((s.data.toList.drop f).take (k - f)) k ∧ Below w.heap.size w wr) (fun _ _ i _ => s.size - (intOf i).toNat)
  case atStart => exact ⟨0, 0, [], Nat.zero_le _, Nat.le_refl _, rfl, rfl, Nat.le_refl _, World.ownsRow_made w #[] 0 (Nat.le_refl _) (by decide) rfl, by simpa using scan_start 10 s.data.toList, (Below.refl _ _).alloc (Nat.le_refl _) _⟩
  case round =>
    obtain ⟨k, f, done, hk, hf, rfl, rfl, hdl, hown, hsc, hb⟩ := hrel
    have HO := Lib.hid hown
    have HSC := Lib.hid hsc
    have HB := Lib.hid hb
    clear hown hsc hb
    by_cases hlt : k < s.size
    · have hkl : k < s.data.toList.length := by rw [← HSZ.out]; exact hlt
      have hki : (k : Int) < (s.size : Int) := by omega
      by_cases hc : s[k] = 10
      · have h10 : ((s[k].toNat : Int) == 10) = true := by rw [hc]; rfl
        have HS2 := Lib.hid (scan_hit 10 _ _ _ _ HSC.out hkl (by rw [byte_at s k hlt]; exact hc))
        have HC := Lib.hid (str_cut s f k)
        clear hc
        go_wp2_with (at_builtin; refine wpList_append_own _ rfl _ _ 27 rfl w.heap.size 9 i0 (.string ByteArray.empty) 1 16 Tryd.underlying27 hi hz0 hz1 hz2 rfl (by decide) _ _ _ rfl (HO.out.alloc _) ⟨_, 0, none⟩ 1 1 [.string (s.extract f k)] rfl rfl ?c1 ?c2 ?c3 ?c4 ?c5 ?_)
        case c1 =>
          intro j u hj
          match j, hj with
          | 0, hj => simp at hj; subst hj; simp [Addr.add]
        case c2 => intro u hu; simp at hu; subst hu; rfl
        case c3 => unfold maxLen; omega
        case c4 => omega
        case c5 => have := HB.out.size; simp; omega
        intro v' w2 hown' hgrow _
        rw [HC.out] at hown'
        have R1 := Lib.hid (own_push hown' rfl)
        have R2 := Lib.hid ((HB.out.alloc HB.out.size _).grown hgrow (by have := HB.out.size; simp; omega) (fun q hq => ((HO.out.lt q hq).1)))
        clear hown' hgrow
        go_wp2
        go_roundw
        case rel => exact ⟨k + 1, k + 1, _, by omega, Nat.le_refl _, by go_num, by go_num, by rw [List.length_append]; simp; omega, R1.out, by simpa using HS2.out, R2.out⟩
        case measure => simp [intOf]; omega
      · have h10 : ((s[k].toNat : Int) == 10) = false := by
          have : s[k].toNat ≠ 10 := fun e => hc (UInt8.toNat_inj.1 e)
          simp; omega
        have HS2 := Lib.hid (scan_miss 10 _ _ _ _ HSC.out hkl (by rw [byte_at s k hlt]; exact hc))
        have HCS := Lib.hid (cur_step s.data.toList f k hf hkl)
        clear hc
        go_wp2
        go_roundw
        case rel => exact ⟨k + 1, f, done, by omega, by omega, by go_num, rfl, by omega, HO.out, by rw [HCS.out]; exact HS2.out, HB.out⟩
        case measure => simp [intOf]; omega
    · have ek : k = s.size := by omega
      subst ek
      have HE := Lib.hid (lines_end s.data.toList done _ _ HSC.out (by rw [← HSZ.out]; exact Nat.le_refl _))
      by_cases hfl : f < s.size
      · have hfi : (f : Int) < (s.size : Int) := by omega
        have HC := Lib.hid (str_rest s f)
        have hcur : (s.data.toList.drop f).take (s.size - f) = s.data.toList.drop f := List.take_of_length_le (by rw [List.length_drop, ← HSZ.out]; exact Nat.le_refl _)
        have hne : s.data.toList.drop f ≠ [] := by
          intro h
          have := congrArg List.length h
          rw [List.length_drop, ← HSZ.out, List.length_nil] at this
          omega
        have HR := Lib.hid (show linesOf s.data.toList = done ++ [s.data.toList.drop f] by rw [HE.out, hcur, if_neg hne])
        clear hcur hne
        go_wp2_with (at_builtin; refine wpList_append_own _ rfl _ _ 27 rfl w.heap.size 9 i0 (.string ByteArray.empty) 1 16 Tryd.underlying27 hi hz0 hz1 hz2 rfl (by decide) _ _ _ rfl (HO.out.alloc _) ⟨_, 0, none⟩ 1 1 [.string (s.extract f s.size)] rfl rfl ?d1 ?d2 ?d3 ?d4 ?d5 ?_)
        case d1 =>
          intro j u hj
          match j, hj with
          | 0, hj => simp at hj; subst hj; simp [Addr.add]
        case d2 => intro u hu; simp at hu; subst hu; rfl
        case d3 => unfold maxLen; omega
        case d4 => omega
        case d5 => have := HB.out.size; simp; omega
        intro v' w2 hown' hgrow _
        rw [HC.out] at hown'
        have R1 := Lib.hid (own_push hown' rfl)
        have R2 := Lib.hid ((HB.out.alloc HB.out.size _).grown hgrow (by have := HB.out.size; simp; omega) (fun q hq => ((HO.out.lt q hq).1)))
        clear hown' hgrow
        go_wp2
        go_ret
        refine ⟨v', rfl, ?_, R2.out⟩
        rw [HR.out, strs_len]
        exact R1.out
      · have hfe : f = s.size := by omega
        have hcur : (s.data.toList.drop f).take (s.size - f) = [] := by rw [hfe]; simp
        have HR := Lib.hid (show linesOf s.data.toList = done by rw [HE.out, hcur, if_pos rfl])
        have hfi : (s.size : Int) ≤ (f : Int) := by omega
        clear hcur hfe
        go_wp2
        go_ret
        refine ⟨_, rfl, ?_, HB.out⟩
        rw [HR.out, strs_len]
        exact HO.out
theorem own_shrink {w : World} {B : Nat} {e : TypeId} {g n cap : Nat} {xs : List Value} (h : w.ownsRow B e 1 (.slice (some ⟨g, 0, none⟩) n cap) n xs) (m : Nat) (hm : m ≤ n) : w.ownsRow B e 1 (.slice (some ⟨g, 0, none⟩) m cap) m (xs.take m) := by
  have hl := h.1
  rcases h.2 with ⟨h', _⟩ | ⟨g', cap', cur, h', h2, h3, h4, h5, h6, h7⟩
  · cases h'
  · cases h'
    refine ⟨by rw [List.length_take]; omega, .inr ⟨g, cap, cur, rfl, h2, h3, by omega, h5, h6, ?_⟩⟩
    rw [← h7, List.take_take]
    congr 1
    omega
def HasMax (w : World) : Prop := ∃ m, w.cell? ⟨3, 0, none⟩ = some (.int .i64 m)
theorem HasMax.below {w w' : World} (h : HasMax w) (hb : Below w.heap.size w w') : HasMax w' := by
  obtain ⟨m, hm⟩ := h
  exact ⟨m, (hb.cell (World.block_lt_of_cell? _ _ hm)).trans hm⟩
theorem splitB_one (c : UInt8) (s : ByteArray) : Lib.splitB ⟨#[c]⟩ 0 (Lib.countB s ⟨#[c]⟩) s = strs (sp c s.data.toList) := by
  apply strs_of
  rw [Lib.splitB_data]
  exact split_one c s.data.toList
theorem splitB_len (c : UInt8) (s : ByteArray) : (strs (sp c s.data.toList)).length = Lib.countB s ⟨#[c]⟩ + 1 := by
  rw [← splitB_one]
  exact Lib.splitB_all ⟨#[c]⟩ (show 1 ≤ (#[c] : Array UInt8).size by simp) 0 _ s rfl
/-- strings.Split at one byte -/
theorem i_split (c : UInt8) (s : ByteArray) (hs : s.size ≤ 1048576) (w : World) (hm : HasMax w) : Calls Tryd.prog 31 #[.string s, .string ⟨#[c]⟩] w fun e w' => e = .returned (.slice (some ⟨w.heap.size, 0, none⟩) (Lib.countB s ⟨#[c]⟩ + 1) (Lib.countB s ⟨#[c]⟩ + 1)) ∧ w'.ownsRow w.heap.size 9 1 (.slice (some ⟨w.heap.size, 0, none⟩) (Lib.countB s ⟨#[c]⟩ + 1) (Lib.countB s ⟨#[c]⟩ + 1)) (Lib.countB s ⟨#[c]⟩ + 1) ((strs (sp c s.data.toList)).map Value.string) ∧ Below w.heap.size w w' := by
  obtain ⟨m, hm⟩ := hm
  have hlen := splitB_len c s
  have hle : (strs (sp c s.data.toList)).length ≤ 1048577 := by
    rw [strs_len]
    have := sp_length c s.data.toList
    rw [← Lib.size_eq] at this
    omega
  refine (Tryd.strings_Split s ⟨#[c]⟩ m w (by omega) hm (by show 1 ≤ (#[c] : Array UInt8).size; simp)).mono fun e w' ⟨he, hw⟩ => ?_
  refine ⟨he, ?_, ?_⟩
  · rw [hw, splitB_one]
    have := World.ownsRow_lit (base := w.heap.size) (e := 9) (size := 1) w ((strs (sp c s.data.toList)).map Value.string).toArray (Lib.countB s ⟨#[c]⟩ + 1) (Nat.le_refl _) (by unfold maxLen; omega) (by simp; omega)
    simpa using this
  · rw [hw]
    exact (Below.refl _ _).alloc (Nat.le_refl _) _
theorem lines_drop (l : List UInt8) (n : Nat) (hn : (sp 10 l).length = n + 1) (h : (sp 10 l)[n]? = some []) : linesOf l = (sp 10 l).take n := by
  unfold linesOf
  rw [List.getLast?_eq_getElem?, hn, Nat.add_sub_cancel, if_pos h, List.dropLast_eq_take, hn, Nat.add_sub_cancel]
theorem lines_keep (l : List UInt8) (n : Nat) (hn : (sp 10 l).length = n + 1) (x : UInt8) (r : List UInt8) (h : (sp 10 l)[n]? = some (x :: r)) : linesOf l = sp 10 l := by
  unfold linesOf
  rw [List.getLast?_eq_getElem?, hn, Nat.add_sub_cancel, h, if_neg (by simp)]
set_option maxRecDepth 100000 in
set_option maxHeartbeats 1000000 in
theorem i_lines (s : ByteArray) (hs : s.size ≤ 1048576) (w : World) (hm : HasMax w) : Calls Tryd.prog 19 #[.string s] w (OwnsStr (strs (linesOf s.data.toList)) w) := by
  have HM := Lib.hid hm
  have hlen := splitB_len 10 s
  have hle := sp_length 10 s.data.toList
  rw [← Lib.size_eq] at hle
  rw [strs_len] at hlen
  have hn20 : Lib.countB s ⟨#[10]⟩ ≤ 1048576 := by omega
  have K := Lib.hid (i_split 10 s hs w hm)
  have HLEN := Lib.hid hlen
  obtain ⟨ll, hll⟩ : ∃ ll, (sp 10 s.data.toList)[Lib.countB s ⟨#[10]⟩]? = some ll := ⟨(sp 10 s.data.toList)[Lib.countB s ⟨#[10]⟩]'(by omega), List.getElem?_eq_getElem (by omega)⟩
  have key : ∀ w1 : World, w1.ownsRow w.heap.size 9 1 (.slice (some ⟨w.heap.size, 0, none⟩) (Lib.countB s ⟨#[10]⟩ + 1) (Lib.countB s ⟨#[10]⟩ + 1)) (Lib.countB s ⟨#[10]⟩ + 1) ((strs (sp 10 s.data.toList)).map Value.string) → w1.cell? ⟨w.heap.size, Lib.countB s ⟨#[10]⟩, none⟩ = some (.string ⟨ll.toArray⟩) := fun w1 ho => by
    have := (ownsRow_at ho).1 (Lib.countB s ⟨#[10]⟩) (.string ⟨ll.toArray⟩) (by simp [Pieces.strs, hll])
    rw [Nat.zero_add] at this
    exact this
  have KEY := Lib.hid key
  have HLL := Lib.hid hll
  clear hm hlen hle hll key
  generalize Lib.countB s ⟨#[10]⟩ = n at *
  cases ll with
  | nil =>
    have HD := Lib.hid (lines_drop s.data.toList n HLEN.out HLL.out)
    go_enter Tryd.func19, Tryd.ntmps19
    go_wp2_with (go_at_call 31; refine (K.out).mono ?_; rintro e w1 ⟨rfl, hown, hb⟩; have HO := Lib.hid hown; have HB := Lib.hid hb; have hcell := KEY.out w1 hown; clear hown hb)
    go_ret
    refine ⟨_, rfl, ?_, HB.out⟩
    have h1 := own_shrink HO.out n (by omega)
    rw [HD.out, strs_len, List.length_take, HLEN.out]
    have e1 : min n (n + 1) = n := by omega
    have e2 : (strs ((sp 10 s.data.toList).take n)).map Value.string = ((strs (sp 10 s.data.toList)).map Value.string).take n := by simp [Pieces.strs]
    rw [e1, e2]
    exact h1
  | cons x r =>
    have HD := Lib.hid (lines_keep s.data.toList n HLEN.out x r HLL.out)
    go_enter Tryd.func19, Tryd.ntmps19
    go_wp2_with (go_at_call 31; refine (K.out).mono ?_; rintro e w1 ⟨rfl, hown, hb⟩; have HO := Lib.hid hown; have HB := Lib.hid hb; have hcell := KEY.out w1 hown; clear hown hb)
    go_ret
    refine ⟨_, rfl, ?_, HB.out⟩
    rw [HD.out, strs_len, HLEN.out]
    exact HO.out
theorem lines_count (s : ByteArray) (hs : s.size ≤ 1048576) : (Pieces.strs (linesOf s.data.toList)).length ≤ 1048577 := by
  rw [strs_len]
  have h := sp_length 10 s.data.toList
  rw [← Lib.size_eq] at h
  unfold linesOf
  split
  · rw [List.length_dropLast]; omega
  · omega
end Go.Proofs.YtoiakdhmdkcibaaDoor
