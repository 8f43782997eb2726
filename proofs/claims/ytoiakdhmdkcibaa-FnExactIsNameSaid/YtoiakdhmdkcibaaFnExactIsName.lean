/- Proved: for every string the law FnExactIsName returns true and leaves everything as it was: IsName answers as its model does. No condition. -/
import Derived.Test.YtoiakdhmdkcibaaRows
import Derived.WalkKit
import Derived.ProofKit
import Derived.OpenShut
import Derived.Lib.Hide
import Derived.Lib.Strings
import Derived.WalkLawsBesides
import Derived.ShutString
namespace Go.Proofs.Ytoiakdhmdkcibaa.fnExactIsName
open Go.ChangeShapes Go.WideShapes Go.ChangeAt Go.RowKit
open Go.ChangeMaps (open_string shut_string)
set_option linter.unusedVariables false      -- a walk need not use every 'w<i>' (that an integer argument fits its kind)

theorem own : ownKnob Try.prog.godebug = none := by kernel_rfl

def good (s : ByteArray) (j : Nat) : Prop := ∀ h : j < s.size, (97 ≤ ((s[j]'h).toNat : Int) ∧ ((s[j]'h).toNat : Int) ≤ 122) ∨ (j ≠ 0 ∧ 48 ≤ ((s[j]'h).toNat : Int) ∧ ((s[j]'h).toNat : Int) ≤ 57)
def AllGood (s : ByteArray) (k : Nat) : Prop := ∀ j, j < k → good s j
def IsNm (s : ByteArray) : Prop := 1 ≤ s.size ∧ s.size ≤ 8 ∧ AllGood s s.size
open Classical in
noncomputable def nmB (s : ByteArray) : Bool := decide (IsNm s)
theorem nmB_false (s : ByteArray) (h : ¬ IsNm s) : nmB s = false := by simp [nmB, h]
theorem nmB_true (s : ByteArray) (h : IsNm s) : nmB s = true := by simp [nmB, h]
theorem nmB_bad (s : ByteArray) (j : Nat) (hj : j < s.size) (h : ¬ good s j) : nmB s = false := nmB_false s fun hn => h (hn.2.2 j hj)
theorem AllGood.succ (s : ByteArray) (k : Nat) (h : AllGood s k) (hg : good s k) : AllGood s (k + 1) := by
  intro j hj
  by_cases e : j = k
  · subst e; exact hg
  · exact h j (by omega)

theorem ret_bool {a b : Bool} (h : a = b) : Ending.returned (.bool a) = .returned (.bool b) := by rw [h]

theorem s_isName (s : ByteArray) (hs : s.size ≤ 1048576) (w : World) : Calls Try.prog 14 #[.string s] w fun e w' => e = .returned (.bool (nmB s)) ∧ w = w' := by
  go_enter Try.func14, Try.ntmps14
  go_wp2
  go_loop [3] (fun i => ∃ k : Nat, k ≤ s.size ∧ i = .int .i64 k ∧ AllGood s k) (fun i => s.size - (intOf i).toNat)
  case atStart => exact ⟨0, Nat.zero_le _, rfl, fun j hj => absurd hj (by omega)⟩
  case round =>
    obtain ⟨k, hk, rfl, hg⟩ := hrel
    by_cases hlt : k < s.size
    · have HG := Lib.hid hg
      clear hg
      have hbd : (s[k].toNat : Int) ≤ 255 := by have := UInt8.toNat_lt s[k]; omega
      have hbd0 : 0 ≤ (s[k].toNat : Int) := by omega
      by_cases a1 : 97 ≤ (s[k].toNat : Int)
      · by_cases a2 : (s[k].toNat : Int) ≤ 122
        · go_wp2
          go_round
          case rel => exact ⟨k + 1, by omega, by go_num, HG.out.succ _ _ (fun _ => Or.inl ⟨a1, a2⟩)⟩
          case measure => simp [intOf]; omega
        · have hx : decide ((s[k].toNat : Int) ≤ 122) = false := by simp; omega
          have hy : decide ((s[k].toNat : Int) ≤ 57) = false := by simp; omega
          have a3 : 48 ≤ (s[k].toNat : Int) := by omega
          have hb : nmB s = false := nmB_bad s k hlt (fun h => by have := h hlt; omega)
          have HB := Lib.hid hb
          clear hb a2
          by_cases hz : 0 < k
          · have hzz : ((k : Int) == 0) = false := by simp; omega
            go_wp2
            go_ret
            exact ⟨ret_bool HB.out.symm, rfl⟩
          · have hzz : ((k : Int) == 0) = true := by simp; omega
            go_wp2
            go_ret
            exact ⟨ret_bool HB.out.symm, rfl⟩
      · have a1' : (s[k].toNat : Int) < 97 := by omega
        clear a1
        by_cases hz : 0 < k
        · have hzz : ((k : Int) == 0) = false := by simp; omega
          by_cases a3 : 48 ≤ (s[k].toNat : Int)
          · by_cases a4 : (s[k].toNat : Int) ≤ 57
            · go_wp2
              go_round
              case rel => exact ⟨k + 1, by omega, by go_num, HG.out.succ _ _ (fun _ => Or.inr ⟨by omega, a3, a4⟩)⟩
              case measure => simp [intOf]; omega
            · have hy : decide ((s[k].toNat : Int) ≤ 57) = false := by simp; omega
              have HB := Lib.hid (nmB_bad s k hlt (fun h => by have := h hlt; omega))
              clear a4
              go_wp2
              go_ret
              exact ⟨ret_bool HB.out.symm, rfl⟩
          · have a3' : (s[k].toNat : Int) < 48 := by omega
            have HB := Lib.hid (nmB_bad s k hlt (fun h => by have := h hlt; omega))
            clear a3
            go_wp2
            go_ret
            exact ⟨ret_bool HB.out.symm, rfl⟩
        · have hzz : ((k : Int) == 0) = true := by simp; omega
          have HB := Lib.hid (nmB_bad s k hlt (fun h => by have := h hlt; omega))
          go_wp2
          go_ret
          exact ⟨ret_bool HB.out.symm, rfl⟩
    · have HG := Lib.hid (show AllGood s s.size from fun j hj => hg j (by omega))
      clear hg
      by_cases b1 : 1 ≤ s.size
      · by_cases b2 : s.size ≤ 8
        · go_wp2
          go_ret
          exact ⟨ret_bool (by rw [nmB_true s ⟨b1, b2, HG.out⟩]; have : (s.size : Int) ≤ 8 := by omega
                              simp [this]), rfl⟩
        · have hx : decide ((s.size : Int) ≤ 8) = false := decide_eq_false (by omega)
          have HB := Lib.hid (nmB_false s (fun h => b2 h.2.1))
          clear b2
          go_wp2
          go_ret
          exact ⟨ret_bool HB.out.symm, rfl⟩
      · have HB := Lib.hid (nmB_false s (fun h => b1 h.1))
        have b1' : s.size < 1 := by omega
        clear b1
        go_wp2
        go_ret
        exact ⟨ret_bool HB.out.symm, rfl⟩

theorem grown_iter (w : World) (s : ByteArray) (pos : Nat) : Grown w (w.iter s pos) := by
  refine ⟨World.keptBut_alloc w _ _, fun a => ?_, (World.iter_extends w s pos).size⟩
  by_cases h : a.block = w.heap.size
  · have e1 := World.iter_heap w s pos
    rw [← h] at e1
    have e2 : w.heap[a.block]? = none := Array.getElem?_eq_none (by omega)
    simp [World.frozen?, e1, e2]
  · exact World.frozen?_alloc_old _ _ _ h

theorem nonempty (s : ByteArray) (h1 : 1 ≤ s.size) : s.toList.isEmpty = false := by
  rw [Bool.eq_false_iff]
  intro h
  have e := List.isEmpty_iff.mp h
  rw [Lib.toList_data] at e
  have q := Lib.size_eq s
  rw [e, List.length_nil] at q
  omega

set_option maxRecDepth 100000 in
set_option maxHeartbeats 1000000 in
theorem i_isName_short (s : ByteArray) (h1 : 1 ≤ s.size) (h2 : s.size ≤ 8) (w : World) : Calls Try.prog 15 #[.string s] w fun e w' => e = .returned (.bool (nmB s)) ∧ Grown w w' := by
  have he := nonempty s h1
  go_enter Try.func15, Try.ntmps15
  go_wp2
  go_loopw [3] (fun _ w' => ∃ k : Nat, k ≤ s.size ∧ w' = w.iter s k ∧ AllGood s k) (fun _ w' => s.size - w'.iterPos w.heap.size)
  case atStart => exact ⟨0, Nat.zero_le _, rfl, fun j hj => absurd hj (by omega)⟩
  case round =>
    obtain ⟨k, hk, rfl, hg⟩ := hrel
    have HG := Lib.hid hg
    clear hg
    by_cases hlt : k < s.size
    · by_cases hasc : (s[k].toNat : Int) < 128
      · have hnx : ∀ ty, (Instr.next (.pointer (some ⟨w.heap.size, 0, none⟩)) true ty).run Try.prog (w.iter s k) = _ := fun ty => run_next_ascii w s k ty hlt (by omega)
        have hbd0 : 0 ≤ (s[k].toNat : Int) := by omega
        by_cases a1 : 97 ≤ (s[k].toNat : Int)
        · by_cases a2 : (s[k].toNat : Int) ≤ 122
          · go_wp2
            go_roundw
            case rel => exact ⟨k + 1, by omega, rfl, HG.out.succ _ _ (fun _ => Or.inl ⟨a1, a2⟩)⟩
            case measure => simp; omega
          · have hx : decide ((s[k].toNat : Int) ≤ 122) = false := by simp; omega
            have hy : decide ((s[k].toNat : Int) ≤ 57) = false := by simp; omega
            have a3 : 48 ≤ (s[k].toNat : Int) := by omega
            have HB := Lib.hid (nmB_bad s k hlt (fun h => by have := h hlt; omega))
            clear a2
            by_cases hz : 0 < k
            · have hzz : ((k : Int) == 0) = false := by simp; omega
              go_wp2
              go_ret
              exact ⟨ret_bool HB.out.symm, grown_iter _ _ _⟩
            · have hzz : ((k : Int) == 0) = true := by simp; omega
              go_wp2
              go_ret
              exact ⟨ret_bool HB.out.symm, grown_iter _ _ _⟩
        · have a1' : (s[k].toNat : Int) < 97 := by omega
          clear a1
          by_cases hz : 0 < k
          · have hzz : ((k : Int) == 0) = false := by simp; omega
            by_cases a3 : 48 ≤ (s[k].toNat : Int)
            · by_cases a4 : (s[k].toNat : Int) ≤ 57
              · go_wp2
                go_roundw
                case rel => exact ⟨k + 1, by omega, rfl, HG.out.succ _ _ (fun _ => Or.inr ⟨by omega, a3, a4⟩)⟩
                case measure => simp; omega
              · have hy : decide ((s[k].toNat : Int) ≤ 57) = false := by simp; omega
                have HB := Lib.hid (nmB_bad s k hlt (fun h => by have := h hlt; omega))
                clear a4
                go_wp2
                go_ret
                exact ⟨ret_bool HB.out.symm, grown_iter _ _ _⟩
            · have a3' : (s[k].toNat : Int) < 48 := by omega
              have HB := Lib.hid (nmB_bad s k hlt (fun h => by have := h hlt; omega))
              clear a3
              go_wp2
              go_ret
              exact ⟨ret_bool HB.out.symm, grown_iter _ _ _⟩
          · have hzz : ((k : Int) == 0) = true := by simp; omega
            have HB := Lib.hid (nmB_bad s k hlt (fun h => by have := h hlt; omega))
            by_cases a3 : 48 ≤ (s[k].toNat : Int)
            · by_cases a4 : (s[k].toNat : Int) ≤ 57
              · go_wp2
                go_ret
                exact ⟨ret_bool HB.out.symm, grown_iter _ _ _⟩
              · have hy : decide ((s[k].toNat : Int) ≤ 57) = false := by simp; omega
                clear a4
                go_wp2
                go_ret
                exact ⟨ret_bool HB.out.symm, grown_iter _ _ _⟩
            · have a3' : (s[k].toNat : Int) < 48 := by omega
              clear a3
              go_wp2
              go_ret
              exact ⟨ret_bool HB.out.symm, grown_iter _ _ _⟩
      · have hnx : ∀ ty, (Instr.next (.pointer (some ⟨w.heap.size, 0, none⟩)) true ty).run Try.prog (w.iter s k) = _ := fun ty => run_next_any w s k ty hlt
        have hd := (decode_high s k hlt (by omega)).1
        have HB := Lib.hid (nmB_bad s k hlt (fun h => by have := h hlt; omega))
        generalize hr : (Utf8.decode s k).1 = r at *
        have a1 : 97 ≤ (r : Int) := by omega
        have a3 : 48 ≤ (r : Int) := by omega
        have hx : decide ((r : Int) ≤ 122) = false := by simp; omega
        have hy : decide ((r : Int) ≤ 57) = false := by simp; omega
        clear hr hasc
        by_cases hz : 0 < k
        · have hzz : ((k : Int) == 0) = false := by simp; omega
          go_wp2
          go_ret
          exact ⟨ret_bool HB.out.symm, grown_iter _ _ _⟩
        · have hzz : ((k : Int) == 0) = true := by simp; omega
          go_wp2
          go_ret
          exact ⟨ret_bool HB.out.symm, grown_iter _ _ _⟩
    · have hnx : ∀ ty, (Instr.next (.pointer (some ⟨w.heap.size, 0, none⟩)) true ty).run Try.prog (w.iter s k) = _ := fun ty => run_next_end w s k ty hlt
      have HT := Lib.hid (nmB_true s ⟨h1, h2, fun j hj => HG.out j (by omega)⟩)
      go_wp2
      go_ret
      exact ⟨ret_bool HT.out.symm, grown_iter _ _ _⟩

theorem i_isName (s : ByteArray) (hs : s.size ≤ 1048576) (w : World) : Calls Try.prog 15 #[.string s] w fun e w' => e = .returned (.bool (nmB s)) ∧ Grown w w' := by
  by_cases h1 : 1 ≤ s.size
  · by_cases h2 : s.size ≤ 8
    · exact i_isName_short s h1 h2 w
    · have HB := Lib.hid (nmB_false s (fun h => h2 h.2.1))
      have h2' : 8 < s.size := by omega
      have he := nonempty s h1
      clear h2
      go_enter Try.func15, Try.ntmps15
      go_wp2
      go_ret
      exact ⟨ret_bool HB.out.symm, Grown.refl _⟩
  · have HB := Lib.hid (nmB_false s (fun h => h1 h.1))
    have e : s = ByteArray.empty := by
      have : s.size = 0 := by omega
      cases s with | mk d => simp [ByteArray.size] at this; subst this; rfl
    subst e
    go_enter Try.func15, Try.ntmps15
    go_wp2
    go_ret
    exact ⟨ret_bool HB.out.symm, Grown.refl _⟩


/-! ### STEP 1: THE WALK: the Go text returns true. 'Grown w w'': the world has at most new blocks (Derived/RowKit3.lean). Part the cases AHEAD of 'go_enter' where a test parts the walk; take each callee by a contract of your own. -/
set_option maxHeartbeats 2000000 in
theorem walk (a0 : ByteArray) (w0 : a0.size ≤ maxLen) (w : World) :
    Calls Try.prog 4 #[.string a0] w fun e w' => e = .returned (.bool true) ∧ Grown w w' := by
  by_cases hs : a0.size ≤ 1048576
  · go_enter Try.func4, Try.ntmps4
    go_wp2_with (first | (go_at_call 14; refine (s_isName a0 hs _).mono ?_; rintro e w' ⟨rfl, rfl⟩) | (go_at_call 15; refine (i_isName a0 hs _).mono ?_; rintro e w' ⟨rfl, hG⟩))
    go_ret
    exact ⟨rfl, hG⟩
  · have hs' : 1048576 < a0.size := by omega
    go_enter Try.func4, Try.ntmps4
    go_wp2
    go_ret
    exact ⟨rfl, Grown.refl _⟩

/-! ### THE ROW's STEP: WRITTEN OUT: LEAVE IT -/
set_option maxRecDepth 100000 in
theorem lifted (os : Os) (started : os.Started) (H : Type) (enc : TypeId × Value → H) :
    ReturnsInHanded {} Try.checked os 4 .any (Rows.fnExactIsNameSpec.pre6 enc Try.prog Try.f4 Rows.fnExactIsNameRow.domain false) (Rows.fnExactIsNameSpec.post enc Try.prog Try.f4 false true false false) := by
  refine returnsInHanded_of_change (C := Try.checked) own started (by kernel_rfl) Try.func4
    (ChangeSpec.witness6 (enc := enc) (C := Try.checked) false ⟨#[], #[.string ByteArray.empty], []⟩ 8 (by kernel_rfl) (by kernel_rfl) (by kernel_rfl) (by kernel_rfl)) ?_
  intro W base args ds gs before hval0 hW hcnd _
  have hval : ∀ (j : Nat) t v, Try.f4.params[j]? = some t → args[j]? = some v → Value.okWide Try.prog W .any base t v := hval0
  have hW' := hW
  obtain ⟨p, q, hA0, hV, rfl, hfz, hnd⟩ := hW
  have hA : DataW.TrodAll enc Try.prog W 0 (fun _ => true) true Try.f4.params.toList args.toList ds p := hA0
  rw [Try.params4] at hA hval
  obtain ⟨v0, vs0, d0, ds0, p0, q0, hargs, rfl, rfl, h0, r0⟩ := trodAll_cons hA
  obtain ⟨rfl, rfl, rfl⟩ := trodAll_nil r0
  obtain rfl : args = #[v0] := by cases args; simp_all
  obtain ⟨rfl, rfl⟩ := trodVars_none hV
  obtain ⟨a0, rfl, rfl, rfl, w0⟩ := open_string Try.underlying9 (hval 0 9 v0 rfl rfl) h0
  clear hA0 hval0
  simp only [List.append_nil] at hW'
  refine (walk a0 w0 W).mono fun e W' ⟨he, hg⟩ => ?_
  subst he
  exact ⟨_, rfl, post_of_same (pa := []) (pv := []) hW' (fun _ _ _ => (trodAll_cons_mk (shut_bool Try.underlying4 _) trodAll_mk0)) (fun sp _ => (trodAll_cons_mk (shut_string Try.underlying9 w0) trodAll_mk0)) (fun _ _ => rfl) rfl
    (hg.frame _) hg.2.1 (ok_one (by kernel_rfl) rfl (okWide_bool_mk Try.underlying4 _))⟩

theorem over : Rows.fnExactIsNameRow.holds Try.pinned (OpenSpec.ofChange Rows.fnExactIsNameSpec) :=
  OpenClaim.holds_of_wide 4 Try.f4 rfl rfl rfl rfl rfl rfl rfl ⟨rfl, rfl, rfl, rfl, rfl⟩ rfl rfl rfl rfl rfl (by kernel_rfl) Try.func4 (by kernel_rfl)
    (of_decide_eq_true (by kernel_rfl)) (by unfold Func.isWrapper; first | (rw [if_pos (by decide +kernel)]; kernel_rfl) | (rw [if_neg (by decide +kernel)]; exact ⟨rfl, rfl⟩))
    (fun os started H enc _ => lifted os started H enc)

/-- ████ THE STATEMENT ████ -/
theorem proved : Rows.FnExactIsNameSaid :=
  over
#print axioms proved
end Go.Proofs.Ytoiakdhmdkcibaa.fnExactIsName
