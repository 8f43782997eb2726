/- The copies and comparisons of lists of ints that the laws make: toIntS and eqIntS. -/
import Derived.Test.YtkgdmamafemniaaDoorAt
import Derived.WalkKit
import Derived.ProofKit
import Derived.OpenShut
import Derived.Handy
import Derived.Lib.Hide
import Derived.Below
import Derived.IntWalk
import Derived.WalkLawsBesides
import Derived.Deep.QuietTactic
import Derived.BigQuiet
import Derived.OwnWalk
import Derived.Laws.OwnMore
import Derived.Deep.OwnRows
import Derived.WalkSmall
namespace Go.Proofs.YtkgdmamafemniaaDoor
open Go.ChangeShapes Go.WideShapes Go.ChangeAt Go.RowKit
set_option maxRecDepth 100000 in
theorem eq_ints (b1 o1 c1 b2 o2 c2 n : Nat) (zs : List Int) (hz : zs.length = n) (hmax : n ≤ 1048577) (w : World) (hl1 : b1 < w.heap.size) (hl2 : b2 < w.heap.size) (h1 : At w b1 o1 (zs.map (Value.int .i64))) (h2 : At w b2 o2 (zs.map (Value.int .i64))) :
    Calls Tryd.prog 49 #[.slice (some ⟨b1, o1, none⟩) n c1, .slice (some ⟨b2, o2, none⟩) n c2] w fun e w' => e = .returned (.bool true) ∧ Below w.heap.size w w' := by
  have H1 := Lib.hid h1
  have H2 := Lib.hid h2
  have HZ := Lib.hid hz
  clear h1 h2 hz
  go_enter Tryd.func49, Tryd.ntmps49
  go_wp2
  go_loopw [5] (fun i wr => ∃ k : Nat, k ≤ n ∧ i = .int .i64 k ∧ Below w.heap.size w wr) (fun i _ => n - (intOf i).toNat)
  case atStart => exact ⟨0, Nat.zero_le _, rfl, Below.refl _ _⟩
  case round =>
    obtain ⟨k, hk, rfl, hb⟩ := hrel
    by_cases hlt : k < n
    · have hx1 := ((H1.out).below hb hl1).int k (by rw [HZ.out]; exact hlt)
      have hx2 := ((H2.out).below hb hl2).int k (by rw [HZ.out]; exact hlt)
      generalize zs[k]'(by rw [HZ.out]; exact hlt) = z at hx1 hx2
      have HB := Lib.hid hb
      clear hb
      have hki : (k : Int) < (n : Int) := by omega
      go_wp2
      go_quiet (fail)
      go_wp2
      go_roundw
      case rel => exact ⟨k + 1, by omega, by go_num, below_drewN HB.out _⟩
      case measure => simp [intOf]; omega
    · go_wp2
      go_ret
      exact ⟨rfl, hb⟩
set_option maxRecDepth 100000 in
theorem eq_ints_none (a1 a2 : Option Addr) (c1 c2 : Nat) (w : World) :
    Calls Tryd.prog 49 #[.slice a1 0 c1, .slice a2 0 c2] w fun e w' => e = .returned (.bool true) ∧ Below w.heap.size w w' := by
  go_enter Tryd.func49, Tryd.ntmps49
  go_wp2
  refine wp_loop_rounds 1 ?_
  rw [rounds_succ]
  go_wp2
  go_ret
  exact ⟨rfl, Below.refl _ _⟩
theorem infoInt : (Tryd.prog.info? 3).map (fun i => (i.zero, i.size, i.bytes)) = some (some (.int .i64 0), 1, 8) := by kernel_rfl
set_option maxRecDepth 100000 in
theorem to_ints_none (a : Option Addr) (c : Nat) (w : World) :
    Calls Tryd.prog 45 #[.slice a 0 c] w fun e w' => e = .returned (.slice (some ⟨w.heap.size, 0, none⟩) 0 0) ∧ Below w.heap.size w w' ∧ w.heap.size < w'.heap.size := by
  have hmk : ∀ w : World, (Instr.makeSlice 49 (.int .i64 0) (.int .i64 0)).run Tryd.prog w = .ok (.slice (some ⟨w.heap.size, 0, none⟩) 0 0) (w.alloc (.cells (madeCells #[.int .i64 0] 0) 3)) := fun w => run_make_row' (P := Tryd.prog) 49 3 (.int .i64 0) 8 Tryd.underlying49 infoInt rfl .i64 .i64 0 (by decide) (by decide) w
  go_enter Tryd.func45, Tryd.ntmps45
  go_wp2
  refine wp_loop_rounds 1 ?_
  rw [rounds_succ]
  go_wp2
  go_ret
  exact ⟨rfl, (Below.refl _ _).alloc (Nat.le_refl _) _, by simp⟩
theorem set_take (zs : List Int) (cur : List Value) (k : Nat) (hk : k < zs.length) (hc : cur.length = zs.length) (h : cur.take k = (zs.map (Value.int .i64)).take k) : (cur.set k (.int .i64 zs[k])).take (k + 1) = (zs.map (Value.int .i64)).take (k + 1) := by
  apply List.ext_getElem?
  intro j
  by_cases hj : j < k
  · have := congrArg (·[j]?) h
    simp only [List.getElem?_take, hj, if_true] at this
    simp only [List.getElem?_take, show j < k + 1 by omega, if_true]
    rw [List.getElem?_set_ne (by omega), this]
  · by_cases e : j = k
    · subst e
      simp [hk, hc]
    · simp [List.getElem?_take, show ¬ j < k + 1 by omega]
set_option maxRecDepth 100000 in
set_option maxHeartbeats 1000000 in
theorem to_ints (b o c n : Nat) (zs : List Int) (hz : zs.length = n) (hmax : n ≤ 1048576) (w : World) (hl : b < w.heap.size) (h : At w b o (zs.map (Value.int .i64))) :
    Calls Tryd.prog 45 #[.slice (some ⟨b, o, none⟩) n c] w fun e w' => e = .returned (.slice (some ⟨w.heap.size, 0, none⟩) n n) ∧ At w' w.heap.size 0 (zs.map (Value.int .i64)) ∧ Below w.heap.size w w' ∧ w.heap.size < w'.heap.size := by
  have H := Lib.hid h
  have HZ := Lib.hid hz
  clear h hz
  obtain ⟨i0, hi, hz0, hz1, hz2⟩ := info_parts infoInt
  go_enter Tryd.func45, Tryd.ntmps45
  go_wp2_with (refine wpList_make_full _ rfl _ _ 49 rfl w.heap.size 3 i0 (.int .i64 0) 1 Tryd.underlying49 hi hz0 hz1 .i64 .i64 _ _ n rfl rfl rfl rfl (by rw [hz2]; omega) (by unfold maxLen; omega) (Nat.le_refl _) ?_; intro w1 hown hgrow; have hb1 := (Below.refl w.heap.size w).grown hgrow (Nat.le_refl _) (fun k e => by cases e); have HO := Lib.hid hown; have HB1 := Lib.hid hb1; clear hown hgrow hb1)
  go_loopw [4] (fun i wr => ∃ (k : Nat) (cur : List Value), k ≤ n ∧ i = .int .i64 k ∧ wr.ownsRow w.heap.size 3 1 (.slice (some ⟨w.heap.size, 0, none⟩) n n) n cur ∧ cur.take k = (zs.map (Value.int .i64)).take k ∧ Below w.heap.size w wr) (fun i _ => n - (intOf i).toNat)
  case atStart => exact ⟨0, _, Nat.zero_le _, rfl, HO.out, rfl, HB1.out⟩
  case round =>
    obtain ⟨k, cur, hk, rfl, hown, hcur, hb⟩ := hrel
    by_cases hlt : k < n
    · have hkz : k < zs.length := by rw [HZ.out]; exact hlt
      have hcl : cur.length = zs.length := by rw [hown.1, HZ.out]; omega
      have hx := ((H.out).below hb hl).int k hkz
      obtain ⟨old, hold⟩ : ∃ old, wr.cell? ⟨w.heap.size, k, none⟩ = some old := ⟨cur[k]'(by omega), by
        rw [hown.cellAt k (by omega)]; exact List.getElem?_eq_getElem (by omega)⟩
      have hfz := hown.frozenAt k
      have hst := hown.stored k (.int .i64 zs[k])
      have hcur' := set_take zs cur k hkz hcl hcur
      have HST := Lib.hid hst.1
      have HC := Lib.hid hcur'
      have hbn : Below w.heap.size w (wr.setCell ⟨w.heap.size, k, none⟩ (.int .i64 zs[k])) := hb.setCell (Nat.le_refl _) _
      have HB := Lib.hid hbn
      have hki : (k : Int) < (n : Int) := by omega
      clear hown hcur hb hst hcur' hbn hcl
      generalize hz' : zs[k] = z at *
      go_wp2
      go_roundw
      case rel => exact ⟨k + 1, _, by omega, by go_num, HST.out, HC.out, HB.out⟩
      case measure => simp [intOf]; omega
    · go_wp2
      go_ret
      refine ⟨rfl, ?_, hb, ?_⟩
      · intro j u hu
        have hj : j < n := by
          have := (List.getElem?_eq_some_iff.1 hu).1
          simp at this
          rw [HZ.out] at this
          exact this
        rw [Nat.zero_add, hown.cellAt j (by omega), ← hu]
        have e1 : cur.take k = cur := List.take_of_length_le (by rw [hown.1]; omega)
        have e2 : (zs.map (Value.int .i64)).take k = zs.map (Value.int .i64) := List.take_of_length_le (by rw [List.length_map, HZ.out]; omega)
        rw [e1, e2] at hcur
        rw [hcur]
      · exact (hown.lt w.heap.size rfl).2
end Go.Proofs.YtkgdmamafemniaaDoor
