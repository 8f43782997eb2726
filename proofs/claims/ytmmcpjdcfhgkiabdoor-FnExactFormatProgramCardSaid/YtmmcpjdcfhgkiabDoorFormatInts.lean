/- What FormatInts and its model return for a list of ints that lies in memory. -/
import Derived.Test.YtmmcpjdcfhgkiabDoorFmt
import Derived.Test.YtmmcpjdcfhgkiabDoorJoin
import Derived.Test.YtmmcpjdcfhgkiabDoorAt
import Derived.WalkKit
import Derived.ProofKit
import Derived.OpenShut
import Derived.Handy
import Derived.Lib.Hide
import Derived.Below
import Derived.IntWalk
import Derived.WalkLawsBesides
import Derived.Deep.QuietTactic
import Derived.BigQuiet
import Derived.OwnWalk
import Derived.Laws.OwnMore
import Derived.Deep.OwnRows
import Derived.WalkSmall
namespace Go.Proofs.YtmmcpjdcfhgkiabDoor
open Go.ChangeShapes Go.WideShapes Go.ChangeAt Go.RowKit
def FS (zs : List Int) : List ByteArray := zs.map fun z => ⟨(Lib.itoa z).toArray⟩
theorem FS_len (zs : List Int) : (FS zs).length = zs.length := by simp [FS]
def InR (z : Int) : Prop := -9223372036854775808 ≤ z ∧ z ≤ 9223372036854775807
theorem itoa_len (z : Int) (h : InR z) : (Lib.itoa z).length ≤ 21 := by
  unfold InR at h
  unfold Lib.itoa
  split
  · have := dec_len z.natAbs (by omega)
    simp; omega
  · have := dec_len z.toNat (by omega)
    omega
theorem FS_size (zs : List Int) (hr : ∀ z ∈ zs, InR z) (k : Nat) (hk : k < (FS zs).length) : (FS zs)[k].size ≤ 21 := by
  have hk' : k < zs.length := by rw [FS_len] at hk; exact hk
  have e : (FS zs)[k] = ⟨(Lib.itoa zs[k]).toArray⟩ := by simp [FS]
  rw [e]
  have := itoa_len zs[k] (hr _ (List.getElem_mem hk'))
  rw [Lib.size_eq]
  exact this
theorem JN_le (xs : List ByteArray) (sep : ByteArray) (m : Nat) (hx : ∀ (k : Nat) (hk : k < xs.length), xs[k].size ≤ m) : ∀ k, k ≤ xs.length → (JN (xs.take k) sep).length ≤ k * (m + sep.size)
  | 0, _ => by simp [JN, Lib.join_nil]
  | k + 1, h => by
    have ih := JN_le xs sep m hx k (by omega)
    have hk : k < xs.length := by omega
    have h1 := hx k hk
    rw [Nat.succ_mul]
    by_cases h0 : 0 < k
    · rw [JN_step xs sep k hk h0, List.length_append, List.length_append, ← Lib.size_eq xs[k], ← Lib.size_eq sep]
      omega
    · have e : k = 0 := by omega
      subst e
      rw [Nat.zero_add, JN_one xs sep hk, ← Lib.size_eq]
      omega
theorem JN_FS (zs : List Int) (hr : ∀ z ∈ zs, InR z) (hn : zs.length ≤ 1048576) : (JN (FS zs) ⟨#[32]⟩).length ≤ 140737488355328 := by
  have h := JN_le (FS zs) ⟨#[32]⟩ 21 (FS_size zs hr) (FS zs).length (Nat.le_refl _)
  rw [List.take_length, FS_len] at h
  have e : (⟨#[32]⟩ : ByteArray).size = 1 := rfl
  rw [e] at h
  omega
theorem ownsRow_below {w w1 : World} {base : Nat} {e : TypeId} {size : Nat} {v : Value} {n : Nat} {xs : List Value} (h : w.ownsRow base e size v n xs) (hb : Below w.heap.size w w1) : w1.ownsRow base e size v n xs := by
  refine ⟨h.1, ?_⟩
  rcases h.2 with h' | ⟨g, cap, cur, h1, h2, h3, h4⟩
  · exact .inl h'
  · refine .inr ⟨g, cap, cur, h1, h2, ?_, h4⟩
    have hlt : g < w.heap.size := by
      rcases Nat.lt_or_ge g w.heap.size with h' | h'
      · exact h'
      · rw [Array.getElem?_eq_none h'] at h3; cases h3
    rw [hb.block g hlt]
    exact h3
theorem ownsRow_at {w : World} {base : Nat} {e : TypeId} {g cap n : Nat} {xs : List Value} (h : w.ownsRow base e 1 (.slice (some ⟨g, 0, none⟩) n cap) n xs) : At w g 0 xs ∧ base ≤ g ∧ g < w.heap.size ∧ n ≤ cap := by
  refine ⟨fun j u hu => ?_, (h.lt g rfl).1, (h.lt g rfl).2, ?_⟩
  · have := h.cells (g := g) rfl j u hu
    have e : (⟨g, 0, none⟩ : Addr).add j = ⟨g, 0 + j, none⟩ := by
      by_cases hj : j = 0
      · subst hj; rfl
      · simp [Addr.add, hj]
    rw [e] at this
    exact this
  · rcases h.2 with ⟨h', _⟩ | ⟨g', cap', cur, h', _, _, hnc, _⟩
    · cases h'
    · cases h'
      exact hnc
theorem FS_at (zs : List Int) (k : Nat) (hk : k < zs.length) : (FS zs).take (k + 1) = (FS zs).take k ++ [⟨(Lib.itoa zs[k]).toArray⟩] := by
  rw [List.take_succ_eq_append_getElem (by rw [FS_len]; exact hk)]
  simp [FS]
set_option maxRecDepth 100000 in
set_option maxHeartbeats 2000000 in
theorem s_fmts (b o c n : Nat) (zs : List Int) (hz : zs.length = n) (hr : ∀ z ∈ zs, InR z) (hmax : n ≤ 1048576) (w : World) (hl : b < w.heap.size) (h : At w b o (zs.map (Value.int .i64))) :
    Calls Tryd.prog 11 #[.slice (some ⟨b, o, none⟩) n c] w fun e w' => e = .returned (.string ⟨(JN (FS zs) ⟨#[32]⟩).toArray⟩) ∧ Below w.heap.size w w' := by
  have H := Lib.hid h
  have HZ := Lib.hid hz
  have HR := Lib.hid hr
  have HJ := Lib.hid (JN_FS zs hr (by omega))
  clear h hz hr
  obtain ⟨i0, hi, hz0, hz1, hz2⟩ := info_parts infoStr
  go_enter Tryd.func11, Tryd.ntmps11
  go_wp2
  go_loopw [3, 9] (fun v i wr => ∃ k : Nat, k ≤ n ∧ i = .int .i64 k ∧ wr.ownsRow w.heap.size 9 1 v k (((FS zs).take k).map Value.string) ∧ Below w.heap.size w wr) (fun _ i _ => n - (intOf i).toNat)
  case atStart => exact ⟨0, Nat.zero_le _, rfl, World.ownsRow_made w #[] 0 (Nat.le_refl _) (by decide) rfl, (Below.refl _ _).alloc (Nat.le_refl _) _⟩
  case round =>
    obtain ⟨k, hk, rfl, hown, hb⟩ := hrel
    by_cases hlt : k < n
    · have hkz : k < zs.length := by rw [HZ.out]; exact hlt
      have hx := ((H.out).below hb hl).int k hkz
      have hzr := HR.out zs[k] (List.getElem_mem hkz)
      have HZR := Lib.hid hzr
      have HFA := Lib.hid (FS_at zs k hkz)
      have HO := Lib.hid hown
      have HB := Lib.hid hb
      clear hown hb hzr
      generalize zs[k] = z at *
      have hki : (k : Int) < (n : Int) := by omega
      go_wp2_with fail
      refine (s_fmt z HZR.out.1 HZR.out.2 _).mono ?_
      rintro e w1 ⟨rfl, hb1⟩
      have HO1 := Lib.hid (ownsRow_below HO.out hb1)
      have HB1 := Lib.hid (HB.out.trans (hb1.mono HB.out.size))
      clear hb1
      go_wp2_with (at_builtin; refine wpList_append_own _ rfl _ _ 46 rfl w.heap.size 9 i0 (.string ByteArray.empty) 1 16 Tryd.underlying46 hi hz0 hz1 hz2 rfl (by decide) _ _ _ rfl (HO1.out.alloc _) ⟨w1.heap.size, 0, none⟩ 1 1 [.string ⟨(Lib.itoa z).toArray⟩] rfl rfl ?c1 ?c2 ?c3 ?c4 ?c5 ?_)
      case c1 =>
        intro j u hj
        match j, hj with
        | 0, hj => simp at hj; subst hj; simp [Addr.add]
      case c2 => intro u hu; simp at hu; subst hu; rfl
      case c3 => unfold maxLen; omega
      case c4 => omega
      case c5 => have := HB1.out.size; simp; omega
      intro v' w2 hown' hgrow _
      have R1 := Lib.hid hown'
      have R2 := Lib.hid ((HB1.out.alloc HB1.out.size (.cells #[.string ⟨(Lib.itoa z).toArray⟩] 9)).grown hgrow (by have := HB1.out.size; simp; omega) (fun q hq => ((HO1.out.lt q hq).1)))
      clear hown' hgrow
      go_wp2
      go_roundw
      case rel => exact ⟨k + 1, by omega, by go_num, by rw [HFA.out, List.map_append, List.map_take]; exact R1.out, R2.out⟩
      case measure => simp [intOf]; omega
    · have e1 : (FS zs).take k = FS zs := List.take_of_length_le (by rw [FS_len, HZ.out]; omega)
      have ek : k = n := by omega
      rw [e1, ek] at hown
      have HB := Lib.hid hb
      have hlen : (FS zs).length = n := by rw [FS_len, HZ.out]
      have HLEN := Lib.hid hlen
      clear hb e1 hlen ek
      rcases hown.2 with ⟨rfl, hn0⟩ | ⟨g, cap, cur, rfl, _⟩
      · have e0 : FS zs = [] := List.length_eq_zero_iff.1 (by rw [HLEN.out]; exact hn0)
        have HE := Lib.hid e0
        clear hown e0 hn0
        go_wp2_with (go_at_call 22; refine (s_join_none _ _ _ _).mono ?_; rintro e w' ⟨rfl, rfl⟩)
        go_ret
        exact ⟨by rw [HE.out]; rfl, HB.out⟩
      · have HA := Lib.hid (ownsRow_at hown)
        clear hown
        go_wp2_with fail
        refine (s_join g 0 cap n (FS zs) ⟨#[32]⟩ HLEN.out (by omega) (by decide) HJ.out _ HA.out.1).mono ?_
        rintro e w' ⟨rfl, rfl⟩
        go_wp2
        go_ret
        exact ⟨rfl, HB.out⟩
set_option maxRecDepth 100000 in
theorem s_fmts_none (a : Option Addr) (c : Nat) (w : World) : Calls Tryd.prog 11 #[.slice a 0 c] w fun e w' => e = .returned (.string ⟨#[]⟩) ∧ Below w.heap.size w w' := by
  go_enter Tryd.func11, Tryd.ntmps11
  go_wp2
  refine wp_loop_rounds 1 ?_
  rw [rounds_succ]
  go_wp2_with (go_at_call 22; refine (s_join_none _ _ _ _).mono ?_; rintro e w' ⟨rfl, rfl⟩)
  go_ret
  exact ⟨rfl, (Below.refl _ _).alloc (Nat.le_refl _) _⟩
set_option maxRecDepth 100000 in
set_option maxHeartbeats 2000000 in
theorem i_fmts (b o c n : Nat) (zs : List Int) (hz : zs.length = n) (hr : ∀ z ∈ zs, InR z) (hmax : n ≤ 1048576) (w : World) (htab : Lib.TabIs Tryd.prog w "internal/strconv.uint64pow10" .u64 Lib.pow10Tab) (hl : b < w.heap.size) (h : At w b o (zs.map (Value.int .i64))) :
    Calls Tryd.prog 15 #[.slice (some ⟨b, o, none⟩) n c] w fun e w' => e = .returned (.string ⟨(JN (FS zs) ⟨#[32]⟩).toArray⟩) ∧ Below w.heap.size w w' := by
  have H := Lib.hid h
  have HZ := Lib.hid hz
  have HR := Lib.hid hr
  have HT := Lib.hid htab
  have HJ := Lib.hid (JN_FS zs hr (by omega))
  clear h hz hr htab
  obtain ⟨i0, hi, hz0, hz1, hz2⟩ := info_parts infoStr
  go_enter Tryd.func15, Tryd.ntmps15
  go_wp2_with (refine wpList_make_own _ rfl _ _ 46 rfl w.heap.size 9 i0 (.string ByteArray.empty) 1 Tryd.underlying46 hi hz0 hz1 .i64 .i64 _ n rfl rfl rfl (by rw [hz2]; omega) (by unfold maxLen; omega) (Nat.le_refl _) ?_; intro w1 hown hgrow; have hb1 := (Below.refl w.heap.size w).grown hgrow (Nat.le_refl _) (fun k e => by cases e); have HO := Lib.hid hown; have HB1 := Lib.hid hb1; clear hown hgrow hb1)
  go_loopw [3, 11] (fun v i wr => ∃ k : Nat, k ≤ n ∧ i = .int .i64 k ∧ wr.ownsRow w.heap.size 9 1 v k (((FS zs).take k).map Value.string) ∧ Below w.heap.size w wr) (fun _ i _ => n - (intOf i).toNat)
  case atStart => exact ⟨0, Nat.zero_le _, rfl, HO.out, HB1.out⟩
  case round =>
    obtain ⟨k, hk, rfl, hown, hb⟩ := hrel
    by_cases hlt : k < n
    · have hkz : k < zs.length := by rw [HZ.out]; exact hlt
      have hx := ((H.out).below hb hl).int k hkz
      have hzr := HR.out zs[k] (List.getElem_mem hkz)
      have HZR := Lib.hid hzr
      have HFA := Lib.hid (FS_at zs k hkz)
      have HO := Lib.hid hown
      have HB := Lib.hid hb
      have HTr := Lib.hid (show Lib.TabIs Tryd.prog wr "internal/strconv.uint64pow10" .u64 Lib.pow10Tab from var_below hb HT.out)
      clear hown hb hzr
      generalize zs[k] = z at *
      have hki : (k : Int) < (n : Int) := by omega
      go_wp2_with fail
      refine (i_fmt z HZR.out.1 HZR.out.2 _ HTr.out).mono ?_
      rintro e w1 ⟨rfl, hb1⟩
      have HO1 := Lib.hid (ownsRow_below HO.out hb1)
      have HB1 := Lib.hid (HB.out.trans (hb1.mono HB.out.size))
      clear hb1
      go_wp2_with (at_builtin; refine wpList_append_own _ rfl _ _ 46 rfl w.heap.size 9 i0 (.string ByteArray.empty) 1 16 Tryd.underlying46 hi hz0 hz1 hz2 rfl (by decide) _ _ _ rfl (HO1.out.alloc _) ⟨w1.heap.size, 0, none⟩ 1 1 [.string ⟨(Lib.itoa z).toArray⟩] rfl rfl ?c1 ?c2 ?c3 ?c4 ?c5 ?_)
      case c1 =>
        intro j u hj
        match j, hj with
        | 0, hj => simp at hj; subst hj; simp [Addr.add]
      case c2 => intro u hu; simp at hu; subst hu; rfl
      case c3 => unfold maxLen; omega
      case c4 => omega
      case c5 => have := HB1.out.size; simp; omega
      intro v' w2 hown' hgrow _
      have R1 := Lib.hid hown'
      have R2 := Lib.hid ((HB1.out.alloc HB1.out.size (.cells #[.string ⟨(Lib.itoa z).toArray⟩] 9)).grown hgrow (by have := HB1.out.size; simp; omega) (fun q hq => ((HO1.out.lt q hq).1)))
      clear hown' hgrow
      go_wp2
      go_roundw
      case rel => exact ⟨k + 1, by omega, by go_num, by rw [HFA.out, List.map_append, List.map_take]; exact R1.out, R2.out⟩
      case measure => simp [intOf]; omega
    · have e1 : (FS zs).take k = FS zs := List.take_of_length_le (by rw [FS_len, HZ.out]; omega)
      have ek : k = n := by omega
      rw [e1, ek] at hown
      have HB := Lib.hid hb
      have hlen : (FS zs).length = n := by rw [FS_len, HZ.out]
      have HLEN := Lib.hid hlen
      clear hb e1 hlen ek
      rcases hown.2 with ⟨rfl, hn0⟩ | ⟨g, cap, cur, rfl, _⟩
      · have e0 : FS zs = [] := List.length_eq_zero_iff.1 (by rw [HLEN.out]; exact hn0)
        have HE := Lib.hid e0
        clear hown e0 hn0
        go_wp2_with (go_at_call 31; refine (i_join_none _ _ _ _).mono ?_; rintro e w' ⟨rfl, rfl⟩)
        go_ret
        exact ⟨by rw [HE.out]; rfl, HB.out⟩
      · have HA := Lib.hid (ownsRow_at hown)
        clear hown
        go_wp2_with fail
        refine (i_join g 0 cap n (FS zs) ⟨#[32]⟩ HLEN.out (by omega) HA.out.2.2.2 HJ.out _ HA.out.2.2.1 HA.out.1).mono ?_
        rintro e w' ⟨rfl, hbJ⟩
        have HBJ := Lib.hid hbJ
        clear hbJ
        go_wp2
        go_ret
        exact ⟨rfl, HB.out.trans (HBJ.out.mono HB.out.size)⟩
set_option maxRecDepth 100000 in
theorem i_fmts_none (a : Option Addr) (c : Nat) (w : World) : Calls Tryd.prog 15 #[.slice a 0 c] w fun e w' => e = .returned (.string ⟨#[]⟩) ∧ Below w.heap.size w w' := by
  have hmk : ∀ w : World, (Instr.makeSlice 46 (.int .i64 0) (.int .i64 0)).run Tryd.prog w = .ok (.slice (some ⟨w.heap.size, 0, none⟩) 0 0) (w.alloc (.cells (madeCells #[.string ByteArray.empty] 0) 9)) := fun w => run_make_row' (P := Tryd.prog) 46 9 (.string ByteArray.empty) 16 Tryd.underlying46 infoStr rfl .i64 .i64 0 (by decide) (by decide) w
  go_enter Tryd.func15, Tryd.ntmps15
  go_wp2
  refine wp_loop_rounds 1 ?_
  rw [rounds_succ]
  go_wp2_with (go_at_call 31; refine (i_join_none _ _ _ _).mono ?_; rintro e w' ⟨rfl, rfl⟩)
  go_ret
  exact ⟨rfl, (Below.refl _ _).alloc (Nat.le_refl _) _⟩
end Go.Proofs.YtmmcpjdcfhgkiabDoor
