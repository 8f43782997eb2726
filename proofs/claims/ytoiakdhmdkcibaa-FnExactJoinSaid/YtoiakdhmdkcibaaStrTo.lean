/- The copies and comparisons of lists of strings that the laws make: toStringS and toStringS. -/
import Derived.Test.YtoiakdhmdkcibaaStrAt
import Derived.WalkKit
import Derived.ProofKit
import Derived.OpenShut
import Derived.Handy
import Derived.Lib.Hide
import Derived.Below
import Derived.IntWalk
import Derived.WalkLawsBesides
import Derived.Deep.QuietTactic
import Derived.BigQuiet
import Derived.OwnWalk
import Derived.Laws.OwnMore
import Derived.Deep.OwnRows
import Derived.WalkSmall
namespace Go.Proofs.Ytoiakdhmdkcibaa
open Go.ChangeShapes Go.WideShapes Go.ChangeAt Go.RowKit
set_option maxRecDepth 100000 in
theorem to_strs_none (a : Option Addr) (c : Nat) (w : World) :
    Calls Try.prog 11 #[.slice a 0 c] w fun e w' => e = .returned (.slice (some ⟨w.heap.size, 0, none⟩) 0 0) ∧ Below w.heap.size w w' ∧ w.heap.size < w'.heap.size := by
  have hmk : ∀ w : World, (Instr.makeSlice 22 (.int .i64 0) (.int .i64 0)).run Try.prog w = .ok (.slice (some ⟨w.heap.size, 0, none⟩) 0 0) (w.alloc (.cells (madeCells #[.string ByteArray.empty] 0) 9)) := fun w => run_make_row' (P := Try.prog) 22 9 (.string ByteArray.empty) 16 Try.underlying22 infoStr rfl .i64 .i64 0 (by decide) (by decide) w
  go_enter Try.func11, Try.ntmps11
  go_wp2
  refine wp_loop_rounds 1 ?_
  rw [rounds_succ]
  go_wp2
  go_ret
  exact ⟨rfl, (Below.refl _ _).alloc (Nat.le_refl _) _, by simp⟩
theorem set_takeS (zs : List ByteArray) (cur : List Value) (k : Nat) (hk : k < zs.length) (hc : cur.length = zs.length) (h : cur.take k = (zs.map (Value.string)).take k) : (cur.set k (.string zs[k])).take (k + 1) = (zs.map (Value.string)).take (k + 1) := by
  apply List.ext_getElem?
  intro j
  by_cases hj : j < k
  · have := congrArg (·[j]?) h
    simp only [List.getElem?_take, hj, if_true] at this
    simp only [List.getElem?_take, show j < k + 1 by omega, if_true]
    rw [List.getElem?_set_ne (by omega), this]
  · by_cases e : j = k
    · subst e
      simp [hk, hc]
    · simp [List.getElem?_take, show ¬ j < k + 1 by omega]
set_option maxRecDepth 100000 in
set_option maxHeartbeats 1000000 in
theorem to_strs (b o c n : Nat) (zs : List ByteArray) (hz : zs.length = n) (hmax : n ≤ 1048576) (w : World) (hl : b < w.heap.size) (h : At w b o (zs.map (Value.string))) :
    Calls Try.prog 11 #[.slice (some ⟨b, o, none⟩) n c] w fun e w' => e = .returned (.slice (some ⟨w.heap.size, 0, none⟩) n n) ∧ At w' w.heap.size 0 (zs.map (Value.string)) ∧ Below w.heap.size w w' ∧ w.heap.size < w'.heap.size := by
  have H := Lib.hid h
  have HZ := Lib.hid hz
  clear h hz
  obtain ⟨i0, hi, hz0, hz1, hz2⟩ := info_parts infoStr
  go_enter Try.func11, Try.ntmps11
  go_wp2_with (refine wpList_make_full _ rfl _ _ 22 rfl w.heap.size 9 i0 (.string ByteArray.empty) 1 Try.underlying22 hi hz0 hz1 .i64 .i64 _ _ n rfl rfl rfl rfl (by rw [hz2]; omega) (by unfold maxLen; omega) (Nat.le_refl _) ?_; intro w1 hown hgrow; have hb1 := (Below.refl w.heap.size w).grown hgrow (Nat.le_refl _) (fun k e => by cases e); have HO := Lib.hid hown; have HB1 := Lib.hid hb1; clear hown hgrow hb1)
  go_loopw [4] (fun i wr => ∃ (k : Nat) (cur : List Value), k ≤ n ∧ i = .int .i64 k ∧ wr.ownsRow w.heap.size 9 1 (.slice (some ⟨w.heap.size, 0, none⟩) n n) n cur ∧ cur.take k = (zs.map (Value.string)).take k ∧ Below w.heap.size w wr) (fun i _ => n - (intOf i).toNat)
  case atStart => exact ⟨0, _, Nat.zero_le _, rfl, HO.out, rfl, HB1.out⟩
  case round =>
    obtain ⟨k, cur, hk, rfl, hown, hcur, hb⟩ := hrel
    by_cases hlt : k < n
    · have hkz : k < zs.length := by rw [HZ.out]; exact hlt
      have hcl : cur.length = zs.length := by rw [hown.1, HZ.out]; omega
      have hx := ((H.out).below hb hl).str k hkz
      obtain ⟨old, hold⟩ : ∃ old, wr.cell? ⟨w.heap.size, k, none⟩ = some old := ⟨cur[k]'(by omega), by
        rw [hown.cellAt k (by omega)]; exact List.getElem?_eq_getElem (by omega)⟩
      have hfz := hown.frozenAt k
      have hst := hown.stored k (.string zs[k])
      have hcur' := set_takeS zs cur k hkz hcl hcur
      have HST := Lib.hid hst.1
      have HC := Lib.hid hcur'
      have hbn : Below w.heap.size w (wr.setCell ⟨w.heap.size, k, none⟩ (.string zs[k])) := hb.setCell (Nat.le_refl _) _
      have HB := Lib.hid hbn
      have hki : (k : Int) < (n : Int) := by omega
      clear hown hcur hb hst hcur' hbn hcl
      generalize hz' : zs[k] = z at *
      go_wp2
      go_roundw
      case rel => exact ⟨k + 1, _, by omega, by go_num, HST.out, HC.out, HB.out⟩
      case measure => simp [intOf]; omega
    · go_wp2
      go_ret
      refine ⟨rfl, ?_, hb, ?_⟩
      · intro j u hu
        have hj : j < n := by
          have := (List.getElem?_eq_some_iff.1 hu).1
          simp at this
          rw [HZ.out] at this
          exact this
        rw [Nat.zero_add, hown.cellAt j (by omega), ← hu]
        have e1 : cur.take k = cur := List.take_of_length_le (by rw [hown.1]; omega)
        have e2 : (zs.map (Value.string)).take k = zs.map (Value.string) := List.take_of_length_le (by rw [List.length_map, HZ.out]; omega)
        rw [e1, e2] at hcur
        rw [hcur]
      · exact (hown.lt w.heap.size rfl).2
end Go.Proofs.Ytoiakdhmdkcibaa
