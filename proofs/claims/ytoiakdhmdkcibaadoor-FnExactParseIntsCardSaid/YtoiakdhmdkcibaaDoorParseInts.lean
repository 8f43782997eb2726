/- What ParseInts and its model return, for every string of at most 1048576 bytes. -/
import Derived.Test.YtoiakdhmdkcibaaDoorMarkI
import Derived.Test.YtoiakdhmdkcibaaDoorSplitLines
import Derived.Test.YtoiakdhmdkcibaaDoorParseInt
namespace Go.Proofs.YtoiakdhmdkcibaaDoor
open Go.ChangeShapes Go.WideShapes Go.ChangeAt Go.RowKit
open Pieces Parse
/-- the numbers that the pieces spell, if each spells one -/
def numsOf : List (List UInt8) → Option (List Int)
  | [] => some []
  | x :: r => if (specP x).2 = true then (numsOf r).map ((specP x).1 :: ·) else none
theorem nums_append (a b : List (List UInt8)) : numsOf (a ++ b) = (numsOf a).bind fun za => (numsOf b).map (za ++ ·) := by
  induction a with
  | nil => cases h : numsOf b <;> simp [numsOf, h]
  | cons x r ih =>
    simp only [List.cons_append, numsOf]
    split
    · rw [ih]
      cases numsOf r <;> cases numsOf b <;> simp
    · simp
theorem nums_snoc (a : List (List UInt8)) (x : List UInt8) (zs : List Int) (n : Int) (h : numsOf a = some zs) (hx : specP x = (n, true)) : numsOf (a ++ [x]) = some (zs ++ [n]) := by
  rw [nums_append, h]
  simp [numsOf, hx]
theorem nums_bad (a b : List (List UInt8)) (x : List UInt8) (n : Int) (hx : specP x = (n, false)) : numsOf (a ++ x :: b) = none := by
  rw [nums_append]
  cases numsOf a <;> simp [numsOf, hx]
theorem nums_len (a : List (List UInt8)) (zs : List Int) (h : numsOf a = some zs) : zs.length = a.length := by
  induction a generalizing zs with
  | nil => simp [numsOf] at h; subst h; rfl
  | cons x r ih =>
    simp only [numsOf] at h
    split at h
    · cases hr : numsOf r with
      | none => rw [hr] at h; simp at h
      | some zr =>
        rw [hr] at h
        simp at h
        subst h
        simp [ih zr hr]
    · cases h
def parsed (l : List UInt8) : Option (List Int) := if l = [] then some [] else numsOf (sp 32 l)
def outs : Option (List Int) → List Int × Bool
  | some zs => (zs, true)
  | none => ([], false)
theorem parsed_ne (l : List UInt8) (h : l ≠ []) : parsed l = numsOf (sp 32 l) := if_neg h
/-- a new list of just these ints, and whether it was one -/
def OwnsInts (p : List Int × Bool) (w : World) (e : Ending) (w' : World) : Prop := ∃ v, e = .returned (.tuple #[v, .bool p.2]) ∧ w'.ownsRow w.heap.size 3 1 v p.1.length (p.1.map (Value.int .i64)) ∧ Below w.heap.size w w'
theorem owns_fail {w w' : World} (hb : Below w.heap.size w w') : OwnsInts (outs none) w (.returned (.tuple #[.slice none 0 0, .bool false])) w' := ⟨_, rfl, World.ownsRow_nil _ _ _ _, hb⟩
theorem scan_cut (l : List UInt8) (done : List (List UInt8)) (cur : List UInt8) (i : Nat) (h : Scan 32 l done cur i) (hi : i < l.length) (hc : l[i] = 32) : ∃ b, sp 32 l = done ++ cur :: b := by
  have h2 := scan_hit 32 l done cur i h hi hc
  unfold Scan at h2
  rw [pre_nil _ (sp_ne 32 _)] at h2
  exact ⟨sp 32 (l.drop (i + 1)), by rw [h2]; simp⟩
theorem own_pushI {w : World} {B : Nat} {v : Value} {n : Nat} {zs : List Int} {z : Int} (h : w.ownsRow B 3 1 v (n + 1) (zs.map (Value.int .i64) ++ [Value.int .i64 z])) (hn : n = zs.length) : w.ownsRow B 3 1 v (zs ++ [z]).length ((zs ++ [z]).map (Value.int .i64)) := by
  subst hn
  rw [List.map_append, List.length_append]
  exact h
theorem s_parse' (s : ByteArray) (hmax : s.size ≤ 1048576) (n : Int) (b : Bool) (h : specP s.data.toList = (n, b)) (w : World) : Calls Tryd.prog 11 #[.string s] w fun e w' => e = .returned (.tuple #[.int .i64 n, .bool b]) ∧ Below w.heap.size w w' := by
  have := s_parse s hmax w
  unfold pairV at this
  rw [h] at this
  exact this
theorem i_parse' (s : ByteArray) (hmax : s.size ≤ 1048576) (n : Int) (b : Bool) (h : specP s.data.toList = (n, b)) (w : World) (hv : Vars w) : Calls Tryd.prog 12 #[.string s] w fun e w' => e = .returned (.tuple #[.int .i64 n, .bool b]) ∧ Below w.heap.size w w' := by
  have := i_parse s hmax w hv
  unfold pairV at this
  rw [h] at this
  exact this
theorem cut_size (s : ByteArray) (f k : Nat) (hk : k ≤ s.size) : (s.extract f k).size ≤ s.size := by
  rw [Lib.size_eq (s.extract f k), Lib.extract_data, List.length_take]
  omega
set_option maxRecDepth 100000 in
set_option maxHeartbeats 8000000 in
theorem s_ints (s : ByteArray) (hpos : 0 < s.size) (hs : s.size ≤ 1048576) (w : World) : Calls Tryd.prog 24 #[.string s] w (OwnsInts (outs (parsed s.data.toList)) w) := by
  have HSZ := Lib.hid (Lib.size_eq s)
  have HPN := Lib.hid (parsed_ne s.data.toList (by intro h; have := Lib.size_eq s; rw [h, List.length_nil] at this; omega))
  obtain ⟨i0, hi, hz0, hz1, hz2⟩ := info_parts infoInt
  go_enter Tryd.func24, Tryd.ntmps24
  go_wp2
  go_loopw [4, 5, 6] (fun v fr i wr => ∃ (k f : Nat) (done : List (List UInt8)) (zs : List Int), k ≤ s.size + 1 ∧ i = .int .i64 k ∧ fr = .int .i64 f ∧ f ≤ k ∧ zs.length ≤ k ∧ numsOf done = some zs ∧ wr.ownsRow w.heap.size 3 1 v zs.length (zs.map (Value.int .i64)) ∧ ((k ≤ s.size ∧ Scan 32 s.data.toList done ((s.data.toList.drop f).take (k - f)) k) ∨ (k = s.size + 1 ∧ numsOf (sp 32 s.data.toList) = some zs)) ∧ Below w.heap.size w wr) (fun _ _ i _ => s.size + 1 - (intOf i).toNat)
  case atStart => exact ⟨0, 0, [], [], Nat.zero_le _, rfl, rfl, Nat.le_refl _, Nat.le_refl _, rfl, World.ownsRow_made w #[] 0 (Nat.le_refl _) (by decide) rfl, Or.inl ⟨Nat.zero_le _, by simpa using scan_start 32 s.data.toList⟩, (Below.refl _ _).alloc (Nat.le_refl _) _⟩
  case round =>
    obtain ⟨k, f, done, zs, hk, rfl, rfl, hfk, hzk, hnd, hown, hst, hb⟩ := hrel
    have HO := Lib.hid hown
    have HB := Lib.hid hb
    have HND := Lib.hid hnd
    clear hown hb hnd
    rcases hst with ⟨hkl, hsc⟩ | ⟨hke, hw⟩
    · have HSC := Lib.hid hsc
      have hcs := cut_size s f k hkl
      have HCD := Lib.hid (show (s.extract f k).data.toList = (s.data.toList.drop f).take (k - f) from Lib.extract_data s f k)
      clear hsc
      have hki : (k : Int) ≤ (s.size : Int) := by omega
      by_cases hlt : k < s.size
      · have hkL : k < s.data.toList.length := by rw [← HSZ.out]; exact hlt
        have hkn : ((k : Int) == (s.size : Int)) = false := by simp; omega
        by_cases hc : s[k] = 32
        · have h32 : ((s[k].toNat : Int) == 32) = true := by rw [hc]; rfl
          have HCUT := Lib.hid (scan_cut _ _ _ _ HSC.out hkL (by rw [byte_at s k hlt]; exact hc))
          have HS2 := Lib.hid (scan_hit 32 _ _ _ _ HSC.out hkL (by rw [byte_at s k hlt]; exact hc))
          clear hc
          obtain ⟨n, b, hnb⟩ : ∃ n b, specP (s.extract f k).data.toList = (n, b) := ⟨_, _, rfl⟩
          have HP := Lib.hid (fun W => s_parse' (s.extract f k) (by omega) n b hnb W)
          rw [HCD.out] at hnb
          have HNB := Lib.hid hnb
          clear hnb
          cases b with
          | false =>
            have HF := Lib.hid (show parsed s.data.toList = none by rw [HPN.out]; obtain ⟨b, hb⟩ := HCUT.out; rw [hb]; exact nums_bad _ _ _ _ HNB.out)
            go_wp2_with (go_at_call 11; refine (HP.out _).mono ?_; rintro e w1 ⟨rfl, hb1⟩; have HB1 := Lib.hid (HB.out.trans (hb1.mono HB.out.size)); clear hb1)
            go_ret2
            rw [HF.out]
            exact owns_fail HB1.out
          | true =>
            have HN := Lib.hid (nums_snoc _ _ _ _ HND.out HNB.out)
            go_wp2_with fail
            refine (HP.out _).mono ?_
            rintro e w1 ⟨rfl, hb1⟩
            have HO1 := Lib.hid (ownsRow_below HO.out hb1)
            have HB1 := Lib.hid (HB.out.trans (hb1.mono HB.out.size))
            clear hb1
            go_wp2_with (at_builtin; refine wpList_append_own _ rfl _ _ 31 rfl w.heap.size 3 i0 (.int .i64 0) 1 8 Tryd.underlying31 hi hz0 hz1 hz2 rfl (by decide) _ _ _ rfl (HO1.out.alloc _) ⟨_, 0, none⟩ 1 1 [.int .i64 n] rfl rfl ?ca1 ?ca2 ?ca3 ?ca4 ?ca5 ?_)
            case ca1 =>
              intro j u hj
              match j, hj with
              | 0, hj => simp at hj; subst hj; simp [Addr.add]
            case ca2 => intro u hu; simp at hu; subst hu; rfl
            case ca3 => unfold maxLen; omega
            case ca4 => omega
            case ca5 => have := HB1.out.size; simp; omega
            intro v' w2 hown' hgrow _
            have R1 := Lib.hid (own_pushI hown' rfl)
            have R2 := Lib.hid ((HB1.out.alloc HB1.out.size _).grown hgrow (by have := HB1.out.size; simp; omega) (fun q hq => ((HO1.out.lt q hq).1)))
            clear hown' hgrow
            go_wp2
            go_roundw
            case rel => exact ⟨k + 1, k + 1, _, _, by omega, by go_num, by go_num, Nat.le_refl _, by rw [List.length_append]; simp; omega, HN.out, R1.out, Or.inl ⟨hkL, by simpa using HS2.out⟩, R2.out⟩
            case measure => simp [intOf]; omega
        · have h32 : ((s[k].toNat : Int) == 32) = false := by
            have : s[k].toNat ≠ 32 := fun e => hc (UInt8.toNat_inj.1 e)
            simp; omega
          have HS2 := Lib.hid (scan_miss 32 _ _ _ _ HSC.out hkL (by rw [byte_at s k hlt]; exact hc))
          have HCS := Lib.hid (cur_step s.data.toList f k hfk hkL)
          clear hc
          go_wp2
          go_roundw
          case rel => exact ⟨k + 1, f, done, zs, by omega, by go_num, rfl, by omega, by omega, HND.out, HO.out, Or.inl ⟨hkL, by rw [HCS.out]; exact HS2.out⟩, HB.out⟩
          case measure => simp [intOf]; omega
      · have hke : k = s.size := by omega
        subst hke
        have hkn : ((s.size : Int) == (s.size : Int)) = true := by simp
        have HW := Lib.hid (scan_end 32 _ _ _ _ HSC.out (by rw [← HSZ.out]; exact Nat.le_refl _))
        obtain ⟨n, b, hnb⟩ : ∃ n b, specP (s.extract f s.size).data.toList = (n, b) := ⟨_, _, rfl⟩
        have HP := Lib.hid (fun W => s_parse' (s.extract f s.size) (by omega) n b hnb W)
        rw [HCD.out] at hnb
        have HNB := Lib.hid hnb
        clear hnb
        cases b with
        | false =>
          have HF := Lib.hid (show parsed s.data.toList = none by rw [HPN.out, HW.out]; exact nums_bad _ _ _ _ HNB.out)
          go_wp2_with (go_at_call 11; refine (HP.out _).mono ?_; rintro e w1 ⟨rfl, hb1⟩; have HB1 := Lib.hid (HB.out.trans (hb1.mono HB.out.size)); clear hb1)
          go_ret2
          rw [HF.out]
          exact owns_fail HB1.out
        | true =>
          have HN := Lib.hid (nums_snoc _ _ _ _ HND.out HNB.out)
          go_wp2_with fail
          refine (HP.out _).mono ?_
          rintro e w1 ⟨rfl, hb1⟩
          have HO1 := Lib.hid (ownsRow_below HO.out hb1)
          have HB1 := Lib.hid (HB.out.trans (hb1.mono HB.out.size))
          clear hb1
          go_wp2_with (at_builtin; refine wpList_append_own _ rfl _ _ 31 rfl w.heap.size 3 i0 (.int .i64 0) 1 8 Tryd.underlying31 hi hz0 hz1 hz2 rfl (by decide) _ _ _ rfl (HO1.out.alloc _) ⟨_, 0, none⟩ 1 1 [.int .i64 n] rfl rfl ?cb1 ?cb2 ?cb3 ?cb4 ?cb5 ?_)
          case cb1 =>
            intro j u hj
            match j, hj with
            | 0, hj => simp at hj; subst hj; simp [Addr.add]
          case cb2 => intro u hu; simp at hu; subst hu; rfl
          case cb3 => unfold maxLen; omega
          case cb4 => omega
          case cb5 => have := HB1.out.size; simp; omega
          intro v' w2 hown' hgrow _
          have R1 := Lib.hid (own_pushI hown' rfl)
          have R2 := Lib.hid ((HB1.out.alloc HB1.out.size _).grown hgrow (by have := HB1.out.size; simp; omega) (fun q hq => ((HO1.out.lt q hq).1)))
          clear hown' hgrow
          go_wp2
          go_roundw
          case rel => exact ⟨s.size + 1, s.size + 1, _, _, by omega, by go_num, by go_num, Nat.le_refl _, by rw [List.length_append]; simp; omega, HN.out, R1.out, Or.inr ⟨rfl, by rw [HW.out]; exact HN.out⟩, R2.out⟩
          case measure => simp [intOf]
    · subst hke
      have HF := Lib.hid (show outs (parsed s.data.toList) = (zs, true) by rw [HPN.out, hw]; rfl)
      clear hw
      have hki : (s.size : Int) < ((s.size + 1 : Nat) : Int) := by omega
      go_wp2
      go_ret2
      rw [HF.out]
      exact ⟨_, rfl, HO.out, HB.out⟩
set_option maxRecDepth 100000 in
theorem s_ints_none (w : World) : Calls Tryd.prog 24 #[.string ⟨#[]⟩] w (OwnsInts ([], true) w) := by
  go_enter Tryd.func24, Tryd.ntmps24
  go_wp2
  refine wp_loop_rounds 1 ?_
  rw [rounds_succ]
  go_wp2
  go_ret2
  exact ⟨_, rfl, World.ownsRow_made w #[] 0 (Nat.le_refl _) (by decide) rfl, (Below.refl _ _).alloc (Nat.le_refl _) _⟩
set_option maxRecDepth 100000 in
theorem i_ints_none (w : World) : Calls Tryd.prog 25 #[.string ⟨#[]⟩] w (OwnsInts ([], true) w) := by
  go_enter Tryd.func25, Tryd.ntmps25
  go_wp2
  go_ret2
  exact ⟨_, rfl, World.ownsRow_nil _ _ _ _, Below.refl _ _⟩
theorem nonempty (s : ByteArray) (h1 : 0 < s.size) : s.toList.isEmpty = false := by
  rw [Bool.eq_false_iff]
  intro h
  have e := List.isEmpty_iff.mp h
  rw [Lib.toList_data] at e
  have q := Lib.size_eq s
  rw [e, List.length_nil] at q
  omega
theorem take_step (L : List (List UInt8)) (k : Nat) (hk : k < L.length) : L.take (k + 1) = L.take k ++ [L[k]] := List.take_succ_eq_append_getElem hk
theorem drop_step (L : List (List UInt8)) (k : Nat) (hk : k < L.length) : L = L.take k ++ L[k] :: L.drop (k + 1) := by
  rw [← List.drop_eq_getElem_cons hk, List.take_append_drop]
set_option maxRecDepth 100000 in
set_option maxHeartbeats 8000000 in
theorem i_ints (s : ByteArray) (hpos : 0 < s.size) (hs : s.size ≤ 1048576) (w : World) (hm : HasMax w) (hv : Vars w) : Calls Tryd.prog 25 #[.string s] w (OwnsInts (outs (parsed s.data.toList)) w) := by
  have HPN := Lib.hid (parsed_ne s.data.toList (by intro h; have := Lib.size_eq s; rw [h, List.length_nil] at this; omega))
  have hlen := splitB_len 32 s
  have hle := sp_length 32 s.data.toList
  rw [← Lib.size_eq] at hle
  rw [strs_len] at hlen
  have hn20 : Lib.countB s ⟨#[32]⟩ + 1 ≤ 1048577 := by omega
  have K := Lib.hid (i_split 32 s hs w hm)
  have HLEN := Lib.hid hlen
  have HV := Lib.hid hv
  have hem := nonempty s hpos
  have hpc : ∀ x ∈ sp 32 s.data.toList, x.length ≤ 1048576 := fun x hx => by
    have := sp_piece 32 s.data.toList x hx
    rw [← Lib.size_eq] at this
    omega
  have HPC := Lib.hid hpc
  clear hm hlen hle hv hpc
  generalize Lib.countB s ⟨#[32]⟩ + 1 = n at *
  generalize sp 32 s.data.toList = L at *
  obtain ⟨i0, hi, hz0, hz1, hz2⟩ := info_parts infoInt
  go_enter Tryd.func25, Tryd.ntmps25
  go_wp2_with (go_at_call 31; refine (K.out).mono ?_; rintro e w1 ⟨rfl, hown, hb⟩; have HO1 := Lib.hid hown; have HB1 := Lib.hid hb; clear hown hb)
  have hsz1 : w.heap.size < w1.heap.size := (HO1.out.lt w.heap.size rfl).2
  have HA := Lib.hid (ownsRow_at HO1.out).1
  go_loopw [4, 14] (fun v i wr => ∃ (k : Nat) (zs : List Int), k ≤ n ∧ i = .int .i64 k ∧ zs.length ≤ k ∧ numsOf (L.take k) = some zs ∧ wr.ownsRow w1.heap.size 3 1 v zs.length (zs.map (Value.int .i64)) ∧ Below w1.heap.size w1 wr) (fun _ i _ => n - (intOf i).toNat)
  case atStart => exact ⟨0, [], Nat.zero_le _, rfl, Nat.le_refl _, rfl, World.ownsRow_nil _ _ _ _, Below.refl _ _⟩
  case round =>
    obtain ⟨k, zs, hk, rfl, hzk, hnd, hown, hb⟩ := hrel
    have HO := Lib.hid hown
    have HB := Lib.hid hb
    have HND := Lib.hid hnd
    by_cases hlt : k < n
    · have hkL : k < L.length := by rw [HLEN.out]; exact hlt
      have hcell : wr.cell? ⟨w.heap.size, k, none⟩ = some (.string ⟨L[k].toArray⟩) := by
        have := (HA.out.below hb hsz1) k (.string ⟨L[k].toArray⟩) (by simp [Pieces.strs, hkL])
        rw [Nat.zero_add] at this
        exact this
      have hki : (k : Int) < (n : Int) := by omega
      have hxs : (⟨L[k].toArray⟩ : ByteArray).size ≤ 1048576 := by
        have := HPC.out L[k] (List.getElem_mem hkL)
        simpa [ByteArray.size] using this
      have HT := Lib.hid (take_step L k hkL)
      have HD := Lib.hid (drop_step L k hkL)
      have hbw : Below w.heap.size w wr := HB1.out.trans (HB.out.mono (Nat.le_of_lt hsz1))
      have HVr := Lib.hid (HV.out.below hbw)
      clear hown hb hnd hbw
      obtain ⟨m, b, hnb⟩ : ∃ m b, specP L[k] = (m, b) := ⟨_, _, rfl⟩
      have HP := Lib.hid (fun W h => i_parse' (⟨L[k].toArray⟩ : ByteArray) hxs m b (by simpa using hnb) W h)
      have HNB := Lib.hid hnb
      clear hnb
      generalize L[k] = x at *
      cases b with
      | false =>
        have HF := Lib.hid (show parsed s.data.toList = none by rw [HPN.out, HD.out]; exact nums_bad _ _ _ _ HNB.out)
        go_wp2_with fail
        refine (HP.out _ HVr.out).mono ?_
        rintro e w2 ⟨rfl, hb2⟩
        have HB2 := Lib.hid (HB.out.trans (hb2.mono HB.out.size))
        clear hb2
        go_wp2
        go_ret2
        rw [HF.out]
        exact owns_fail (HB1.out.trans (HB2.out.mono (Nat.le_of_lt hsz1)))
      | true =>
        have HN := Lib.hid (nums_snoc _ _ _ _ HND.out HNB.out)
        go_wp2_with fail
        refine (HP.out _ HVr.out).mono ?_
        rintro e w2 ⟨rfl, hb2⟩
        have HO2 := Lib.hid (ownsRow_below HO.out hb2)
        have HB2 := Lib.hid (HB.out.trans (hb2.mono HB.out.size))
        clear hb2
        go_wp2_with (at_builtin; refine wpList_append_own _ rfl _ _ 31 rfl w1.heap.size 3 i0 (.int .i64 0) 1 8 Tryd.underlying31 hi hz0 hz1 hz2 rfl (by decide) _ _ _ rfl (HO2.out.alloc _) ⟨_, 0, none⟩ 1 1 [.int .i64 m] rfl rfl ?c1 ?c2 ?c3 ?c4 ?c5 ?_)
        case c1 =>
          intro j u hj
          match j, hj with
          | 0, hj => simp at hj; subst hj; simp [Addr.add]
        case c2 => intro u hu; simp at hu; subst hu; rfl
        case c3 => unfold maxLen; omega
        case c4 => omega
        case c5 => have := HB2.out.size; simp; omega
        intro v' w3 hown' hgrow _
        have R1 := Lib.hid (own_pushI hown' rfl)
        have R2 := Lib.hid ((HB2.out.alloc HB2.out.size _).grown hgrow (by have := HB2.out.size; simp; omega) (fun q hq => ((HO2.out.lt q hq).1)))
        clear hown' hgrow
        go_wp2
        go_roundw
        case rel => exact ⟨k + 1, zs ++ [m], by omega, by go_num, by rw [List.length_append]; simp; omega, by rw [HT.out]; exact HN.out, R1.out, R2.out⟩
        case measure => simp [intOf]; omega
    · have e1 : L.take k = L := List.take_of_length_le (by rw [HLEN.out]; omega)
      have HF := Lib.hid (show outs (parsed s.data.toList) = (zs, true) by rw [HPN.out, ← e1, hnd]; rfl)
      clear hown hb hnd e1
      go_wp2
      go_ret2
      rw [HF.out]
      refine ⟨_, rfl, ?_, HB1.out.trans (HB.out.mono (Nat.le_of_lt hsz1))⟩
      have q := HO.out
      refine ⟨q.1, ?_⟩
      rcases q.2 with h | ⟨g, cap, cur, h1, h2, h3⟩
      · exact .inl h
      · exact .inr ⟨g, cap, cur, h1, by omega, h3⟩
end Go.Proofs.YtoiakdhmdkcibaaDoor
