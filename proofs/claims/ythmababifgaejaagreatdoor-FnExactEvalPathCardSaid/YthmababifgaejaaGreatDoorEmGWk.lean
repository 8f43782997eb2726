/- Contracts of WordOk, widthOk and their model: whether a number is a word. Contracts of IsName and its model: both say whether a string is a name. When a node fits to its kids, and when a tree of nodes is a term. No condition. l02Few: whether a term has few nodes, counted down behind a pointer. l02Node: nodes that the specification's first test refuses. -/
import Derived.Test.YthmababifgaejaaGreatDoorRows
import Derived.WalkKit
import Derived.ProofKit
import Derived.OpenShut
import Derived.Handy
import Derived.Lib.Hide
import Derived.Below
import Derived.IntWalk
import Derived.WalkLawsBesides
import Derived.WalkSmall
import Derived.Lib.Strings
import Derived.RowKit3
import Derived.Test.YthmababifgaejaaGreatDoorEmGCs
import Derived.Deep.RegionWith
import Derived.Deep.LoopGhost
namespace Go.Proofs.YthmababifgaejaaGreatDoor
open Go.ChangeShapes Go.WideShapes Go.ChangeAt Go.RowKit
theorem pw (w : Int) (h1 : 1 ≤ w) (h2 : w ≤ 16) : 2 ≤ (2 : Int) ^ w.toNat ∧ (2 : Int) ^ w.toNat ≤ 65536 := by
  have : w = 1 ∨ w = 2 ∨ w = 3 ∨ w = 4 ∨ w = 5 ∨ w = 6 ∨ w = 7 ∨ w = 8 ∨ w = 9 ∨ w = 10 ∨ w = 11 ∨ w = 12 ∨ w = 13 ∨ w = 14 ∨ w = 15 ∨ w = 16 := by omega
  rcases this with h | h | h | h | h | h | h | h | h | h | h | h | h | h | h | h <;> subst h <;> decide
def IsWk (w a : Int) : Prop := 1 ≤ w ∧ w ≤ 16 ∧ 0 ≤ a ∧ a ≤ 2 ^ w.toNat - 1
instance (w a : Int) : Decidable (IsWk w a) := by unfold IsWk; infer_instance
/-- whether a number is a word of so many bits -/
def wkB (w a : Int) : Bool := decide (IsWk w a)
theorem ok_cases (w a : Int) : (w < 1 ∧ wkB w a = false) ∨ (1 ≤ w ∧ 16 < w ∧ wkB w a = false) ∨ (1 ≤ w ∧ w ≤ 16 ∧ a < 0 ∧ wkB w a = false) ∨ (1 ≤ w ∧ w ≤ 16 ∧ 0 ≤ a ∧ 2 ^ w.toNat - 1 < a ∧ wkB w a = false) ∨ (1 ≤ w ∧ w ≤ 16 ∧ 0 ≤ a ∧ a ≤ 2 ^ w.toNat - 1 ∧ wkB w a = true) := by
  by_cases h : IsWk w a
  · have : wkB w a = true := decide_eq_true h
    obtain ⟨h1, h2, h3, h4⟩ := h
    exact .inr (.inr (.inr (.inr ⟨h1, h2, h3, h4, this⟩)))
  · have hf : wkB w a = false := decide_eq_false h
    unfold IsWk at h
    by_cases h1 : 1 ≤ w
    · by_cases h2 : w ≤ 16
      · obtain ⟨q1, q2⟩ := pw w h1 h2
        by_cases h3 : 0 ≤ a
        · exact .inr (.inr (.inr (.inl ⟨h1, h2, h3, by omega, hf⟩)))
        · exact .inr (.inr (.inl ⟨h1, h2, by omega, hf⟩))
      · exact .inr (.inl ⟨h1, by omega, hf⟩)
    · exact .inl ⟨by omega, hf⟩
/-- whether a number is a width -/
def wdB (w : Int) : Bool := decide (1 ≤ w ∧ w ≤ 16)
theorem wd_cases (w : Int) : (w < 1 ∧ wdB w = false) ∨ (1 ≤ w ∧ 16 < w ∧ wdB w = false) ∨ (1 ≤ w ∧ w ≤ 16 ∧ wdB w = true) := by
  unfold wdB
  by_cases h : 1 ≤ w
  · by_cases h' : w ≤ 16
    · exact .inr (.inr ⟨h, h', by simp; omega⟩)
    · exact .inr (.inl ⟨h, by omega, by simp; omega⟩)
  · exact .inl ⟨by omega, by simp; omega⟩
theorem wk_wd {w a : Int} (h : wkB w a = true) : wdB w = true := by
  have : IsWk w a := of_decide_eq_true h
  exact decide_eq_true ⟨this.1, this.2.1⟩
theorem s_wk (w a : Int) (W : World) : Calls Tryz.prog 77 #[.int .i64 w, .int .i64 a] W fun e W' => e = .returned (.bool (wkB w a)) ∧ W = W' := by
  rcases ok_cases w a with ⟨h1, he⟩ | ⟨h1, h2, he⟩ | ⟨h1, h2, h3, he⟩ | ⟨h1, h2, h3, h4, he⟩ | ⟨h1, h2, h3, h4, he⟩
  · rw [he]
    clear he
    go_enter Tryz.func77, Tryz.ntmps77
    go_wp2
    all_goals go_ret
    all_goals exact ⟨rfl, rfl⟩
  · rw [he]
    clear he
    have hx : decide (w ≤ 16) = false := by simp; omega
    go_enter Tryz.func77, Tryz.ntmps77
    go_wp2
    all_goals go_ret
    all_goals exact ⟨rfl, rfl⟩
  · rw [he]
    clear he
    obtain ⟨hp1, hp2⟩ := pw w h1 h2
    go_enter Tryz.func77, Tryz.ntmps77
    go_wp2
    all_goals go_ret
    all_goals exact ⟨rfl, rfl⟩
  · rw [he]
    clear he
    obtain ⟨hp1, hp2⟩ := pw w h1 h2
    have hx : decide (a ≤ 2 ^ w.toNat - 1) = false := by simp; omega
    go_enter Tryz.func77, Tryz.ntmps77
    go_wp2
    all_goals go_ret
    all_goals exact ⟨rfl, rfl⟩
  · rw [he]
    clear he
    obtain ⟨hp1, hp2⟩ := pw w h1 h2
    go_enter Tryz.func77, Tryz.ntmps77
    go_wp2
    all_goals go_ret
    all_goals exact ⟨rfl, rfl⟩
theorem i_wk (w a : Int) (W : World) : Calls Tryz.prog 90 #[.int .i64 w, .int .i64 a] W fun e W' => e = .returned (.bool (wkB w a)) ∧ W = W' := by
  rcases ok_cases w a with ⟨h1, he⟩ | ⟨h1, h2, he⟩ | ⟨h1, h2, h3, he⟩ | ⟨h1, h2, h3, h4, he⟩ | ⟨h1, h2, h3, h4, he⟩
  · rw [he]
    clear he
    go_enter Tryz.func90, Tryz.ntmps90
    go_wp2
    all_goals go_ret
    all_goals exact ⟨rfl, rfl⟩
  · rw [he]
    clear he
    have hx : decide (w ≤ 16) = false := by simp; omega
    go_enter Tryz.func90, Tryz.ntmps90
    go_wp2
    all_goals go_ret
    all_goals exact ⟨rfl, rfl⟩
  · rw [he]
    clear he
    obtain ⟨hp1, hp2⟩ := pw w h1 h2
    go_enter Tryz.func90, Tryz.ntmps90
    go_wp2
    all_goals go_ret
    all_goals exact ⟨rfl, rfl⟩
  · rw [he]
    clear he
    obtain ⟨hp1, hp2⟩ := pw w h1 h2
    have hx : decide (a ≤ 2 ^ w.toNat - 1) = false := by simp; omega
    go_enter Tryz.func90, Tryz.ntmps90
    go_wp2
    all_goals go_ret
    all_goals exact ⟨rfl, rfl⟩
  · rw [he]
    clear he
    obtain ⟨hp1, hp2⟩ := pw w h1 h2
    go_enter Tryz.func90, Tryz.ntmps90
    go_wp2
    all_goals go_ret
    all_goals exact ⟨rfl, rfl⟩
theorem i_wd (w : Int) (W : World) : Calls Tryz.prog 97 #[.int .i64 w] W fun e W' => e = .returned (.bool (wdB w)) ∧ W = W' := by
  rcases wd_cases w with ⟨h1, he⟩ | ⟨h1, h2, he⟩ | ⟨h1, h2, he⟩
  all_goals
    rw [he]
    clear he
  · go_enter Tryz.func97, Tryz.ntmps97
    go_wp2
    go_ret
    exact ⟨rfl, rfl⟩
  · have hx : decide (w ≤ 16) = false := by simp; omega
    go_enter Tryz.func97, Tryz.ntmps97
    go_wp2
    go_ret
    exact ⟨rfl, rfl⟩
  · go_enter Tryz.func97, Tryz.ntmps97
    go_wp2
    go_ret
    exact ⟨rfl, rfl⟩
theorem s_wd (w : Int) (W : World) : Calls Tryz.prog 57 #[.int .i64 w, .int .i64 1, .int .i64 16] W fun e W' => e = .returned (.bool (wdB w)) ∧ W = W' := by
  rcases wd_cases w with ⟨h1, he⟩ | ⟨h1, h2, he⟩ | ⟨h1, h2, he⟩
  all_goals
    rw [he]
    clear he
  · go_enter Tryz.func57, Tryz.ntmps57
    go_wp2
    go_ret
    exact ⟨rfl, rfl⟩
  · have hx : decide (w ≤ 16) = false := by simp; omega
    go_enter Tryz.func57, Tryz.ntmps57
    go_wp2
    go_ret
    exact ⟨rfl, rfl⟩
  · go_enter Tryz.func57, Tryz.ntmps57
    go_wp2
    go_ret
    exact ⟨rfl, rfl⟩
end Go.Proofs.YthmababifgaejaaGreatDoor
namespace Go.Proofs.YthmababifgaejaaGreatDoor
open Go.ChangeShapes Go.WideShapes Go.ChangeAt Go.RowKit
def good (s : ByteArray) (j : Nat) : Prop := ∀ h : j < s.size, (97 ≤ ((s[j]'h).toNat : Int) ∧ ((s[j]'h).toNat : Int) ≤ 122) ∨ (j ≠ 0 ∧ 48 ≤ ((s[j]'h).toNat : Int) ∧ ((s[j]'h).toNat : Int) ≤ 57)
def AllGood (s : ByteArray) (k : Nat) : Prop := ∀ j, j < k → good s j
def IsNm (s : ByteArray) : Prop := 1 ≤ s.size ∧ s.size ≤ 8 ∧ AllGood s s.size
open Classical in
noncomputable def nmB (s : ByteArray) : Bool := decide (IsNm s)
theorem nmB_false (s : ByteArray) (h : ¬ IsNm s) : nmB s = false := by simp [nmB, h]
theorem nmB_true (s : ByteArray) (h : IsNm s) : nmB s = true := by simp [nmB, h]
theorem nmB_bad (s : ByteArray) (j : Nat) (hj : j < s.size) (h : ¬ good s j) : nmB s = false := nmB_false s fun hn => h (hn.2.2 j hj)
theorem AllGood.succ (s : ByteArray) (k : Nat) (h : AllGood s k) (hg : good s k) : AllGood s (k + 1) := by
  intro j hj
  by_cases e : j = k
  · subst e; exact hg
  · exact h j (by omega)

theorem ret_bool {a b : Bool} (h : a = b) : Ending.returned (.bool a) = .returned (.bool b) := by rw [h]

theorem s_isName (s : ByteArray) (hs : s.size ≤ 1048576) (w : World) : Calls Tryz.prog 116 #[.string s] w fun e w' => e = .returned (.bool (nmB s)) ∧ w = w' := by
  go_enter Tryz.func116, Tryz.ntmps116
  go_wp2
  go_loop [3] (fun i => ∃ k : Nat, k ≤ s.size ∧ i = .int .i64 k ∧ AllGood s k) (fun i => s.size - (intOf i).toNat)
  case atStart => exact ⟨0, Nat.zero_le _, rfl, fun j hj => absurd hj (by omega)⟩
  case round =>
    obtain ⟨k, hk, rfl, hg⟩ := hrel
    by_cases hlt : k < s.size
    · have HG := Lib.hid hg
      clear hg
      have hbd : (s[k].toNat : Int) ≤ 255 := by have := UInt8.toNat_lt s[k]; omega
      have hbd0 : 0 ≤ (s[k].toNat : Int) := by omega
      by_cases a1 : 97 ≤ (s[k].toNat : Int)
      · by_cases a2 : (s[k].toNat : Int) ≤ 122
        · go_wp2
          go_round
          case rel => exact ⟨k + 1, by omega, by go_num, HG.out.succ _ _ (fun _ => Or.inl ⟨a1, a2⟩)⟩
          case measure => simp [intOf]; omega
        · have hx : decide ((s[k].toNat : Int) ≤ 122) = false := by simp; omega
          have hy : decide ((s[k].toNat : Int) ≤ 57) = false := by simp; omega
          have a3 : 48 ≤ (s[k].toNat : Int) := by omega
          have hb : nmB s = false := nmB_bad s k hlt (fun h => by have := h hlt; omega)
          have HB := Lib.hid hb
          clear hb a2
          by_cases hz : 0 < k
          · have hzz : ((k : Int) == 0) = false := by simp; omega
            go_wp2
            go_ret
            exact ⟨ret_bool HB.out.symm, rfl⟩
          · have hzz : ((k : Int) == 0) = true := by simp; omega
            go_wp2
            go_ret
            exact ⟨ret_bool HB.out.symm, rfl⟩
      · have a1' : (s[k].toNat : Int) < 97 := by omega
        clear a1
        by_cases hz : 0 < k
        · have hzz : ((k : Int) == 0) = false := by simp; omega
          by_cases a3 : 48 ≤ (s[k].toNat : Int)
          · by_cases a4 : (s[k].toNat : Int) ≤ 57
            · go_wp2
              go_round
              case rel => exact ⟨k + 1, by omega, by go_num, HG.out.succ _ _ (fun _ => Or.inr ⟨by omega, a3, a4⟩)⟩
              case measure => simp [intOf]; omega
            · have hy : decide ((s[k].toNat : Int) ≤ 57) = false := by simp; omega
              have HB := Lib.hid (nmB_bad s k hlt (fun h => by have := h hlt; omega))
              clear a4
              go_wp2
              go_ret
              exact ⟨ret_bool HB.out.symm, rfl⟩
          · have a3' : (s[k].toNat : Int) < 48 := by omega
            have HB := Lib.hid (nmB_bad s k hlt (fun h => by have := h hlt; omega))
            clear a3
            go_wp2
            go_ret
            exact ⟨ret_bool HB.out.symm, rfl⟩
        · have hzz : ((k : Int) == 0) = true := by simp; omega
          have HB := Lib.hid (nmB_bad s k hlt (fun h => by have := h hlt; omega))
          go_wp2
          go_ret
          exact ⟨ret_bool HB.out.symm, rfl⟩
    · have HG := Lib.hid (show AllGood s s.size from fun j hj => hg j (by omega))
      clear hg
      by_cases b1 : 1 ≤ s.size
      · by_cases b2 : s.size ≤ 8
        · go_wp2
          go_ret
          exact ⟨ret_bool (by rw [nmB_true s ⟨b1, b2, HG.out⟩]; have : (s.size : Int) ≤ 8 := by omega
                              simp [this]), rfl⟩
        · have hx : decide ((s.size : Int) ≤ 8) = false := decide_eq_false (by omega)
          have HB := Lib.hid (nmB_false s (fun h => b2 h.2.1))
          clear b2
          go_wp2
          go_ret
          exact ⟨ret_bool HB.out.symm, rfl⟩
      · have HB := Lib.hid (nmB_false s (fun h => b1 h.1))
        have b1' : s.size < 1 := by omega
        clear b1
        go_wp2
        go_ret
        exact ⟨ret_bool HB.out.symm, rfl⟩

theorem below_iter (w : World) (s : ByteArray) (pos : Nat) : Below w.heap.size w (w.iter s pos) := (Below.refl _ w).alloc (Nat.le_refl _) _

theorem nonempty (s : ByteArray) (h1 : 1 ≤ s.size) : s.toList.isEmpty = false := by
  rw [Bool.eq_false_iff]
  intro h
  have e := List.isEmpty_iff.mp h
  rw [Lib.toList_data] at e
  have q := Lib.size_eq s
  rw [e, List.length_nil] at q
  omega

set_option maxRecDepth 100000 in
set_option maxHeartbeats 1000000 in
theorem i_isName_short (s : ByteArray) (h1 : 1 ≤ s.size) (h2 : s.size ≤ 8) (w : World) : Calls Tryz.prog 142 #[.string s] w fun e w' => e = .returned (.bool (nmB s)) ∧ Below w.heap.size w w' := by
  have he := nonempty s h1
  go_enter Tryz.func142, Tryz.ntmps142
  go_wp2
  go_loopw [3] (fun _ w' => ∃ k : Nat, k ≤ s.size ∧ w' = w.iter s k ∧ AllGood s k) (fun _ w' => s.size - w'.iterPos w.heap.size)
  case atStart => exact ⟨0, Nat.zero_le _, rfl, fun j hj => absurd hj (by omega)⟩
  case round =>
    obtain ⟨k, hk, rfl, hg⟩ := hrel
    have HG := Lib.hid hg
    clear hg
    by_cases hlt : k < s.size
    · by_cases hasc : (s[k].toNat : Int) < 128
      · have hnx : ∀ ty, (Instr.next (.pointer (some ⟨w.heap.size, 0, none⟩)) true ty).run Tryz.prog (w.iter s k) = _ := fun ty => run_next_ascii w s k ty hlt (by omega)
        have hbd0 : 0 ≤ (s[k].toNat : Int) := by omega
        by_cases a1 : 97 ≤ (s[k].toNat : Int)
        · by_cases a2 : (s[k].toNat : Int) ≤ 122
          · go_wp2
            go_roundw
            case rel => exact ⟨k + 1, by omega, rfl, HG.out.succ _ _ (fun _ => Or.inl ⟨a1, a2⟩)⟩
            case measure => simp; omega
          · have hx : decide ((s[k].toNat : Int) ≤ 122) = false := by simp; omega
            have hy : decide ((s[k].toNat : Int) ≤ 57) = false := by simp; omega
            have a3 : 48 ≤ (s[k].toNat : Int) := by omega
            have HB := Lib.hid (nmB_bad s k hlt (fun h => by have := h hlt; omega))
            clear a2
            by_cases hz : 0 < k
            · have hzz : ((k : Int) == 0) = false := by simp; omega
              go_wp2
              go_ret
              exact ⟨ret_bool HB.out.symm, below_iter _ _ _⟩
            · have hzz : ((k : Int) == 0) = true := by simp; omega
              go_wp2
              go_ret
              exact ⟨ret_bool HB.out.symm, below_iter _ _ _⟩
        · have a1' : (s[k].toNat : Int) < 97 := by omega
          clear a1
          by_cases hz : 0 < k
          · have hzz : ((k : Int) == 0) = false := by simp; omega
            by_cases a3 : 48 ≤ (s[k].toNat : Int)
            · by_cases a4 : (s[k].toNat : Int) ≤ 57
              · go_wp2
                go_roundw
                case rel => exact ⟨k + 1, by omega, rfl, HG.out.succ _ _ (fun _ => Or.inr ⟨by omega, a3, a4⟩)⟩
                case measure => simp; omega
              · have hy : decide ((s[k].toNat : Int) ≤ 57) = false := by simp; omega
                have HB := Lib.hid (nmB_bad s k hlt (fun h => by have := h hlt; omega))
                clear a4
                go_wp2
                go_ret
                exact ⟨ret_bool HB.out.symm, below_iter _ _ _⟩
            · have a3' : (s[k].toNat : Int) < 48 := by omega
              have HB := Lib.hid (nmB_bad s k hlt (fun h => by have := h hlt; omega))
              clear a3
              go_wp2
              go_ret
              exact ⟨ret_bool HB.out.symm, below_iter _ _ _⟩
          · have hzz : ((k : Int) == 0) = true := by simp; omega
            have HB := Lib.hid (nmB_bad s k hlt (fun h => by have := h hlt; omega))
            by_cases a3 : 48 ≤ (s[k].toNat : Int)
            · by_cases a4 : (s[k].toNat : Int) ≤ 57
              · go_wp2
                go_ret
                exact ⟨ret_bool HB.out.symm, below_iter _ _ _⟩
              · have hy : decide ((s[k].toNat : Int) ≤ 57) = false := by simp; omega
                clear a4
                go_wp2
                go_ret
                exact ⟨ret_bool HB.out.symm, below_iter _ _ _⟩
            · have a3' : (s[k].toNat : Int) < 48 := by omega
              clear a3
              go_wp2
              go_ret
              exact ⟨ret_bool HB.out.symm, below_iter _ _ _⟩
      · have hnx : ∀ ty, (Instr.next (.pointer (some ⟨w.heap.size, 0, none⟩)) true ty).run Tryz.prog (w.iter s k) = _ := fun ty => run_next_any w s k ty hlt
        have hd := (decode_high s k hlt (by omega)).1
        have HB := Lib.hid (nmB_bad s k hlt (fun h => by have := h hlt; omega))
        generalize hr : (Utf8.decode s k).1 = r at *
        have a1 : 97 ≤ (r : Int) := by omega
        have a3 : 48 ≤ (r : Int) := by omega
        have hx : decide ((r : Int) ≤ 122) = false := by simp; omega
        have hy : decide ((r : Int) ≤ 57) = false := by simp; omega
        clear hr hasc
        by_cases hz : 0 < k
        · have hzz : ((k : Int) == 0) = false := by simp; omega
          go_wp2
          go_ret
          exact ⟨ret_bool HB.out.symm, below_iter _ _ _⟩
        · have hzz : ((k : Int) == 0) = true := by simp; omega
          go_wp2
          go_ret
          exact ⟨ret_bool HB.out.symm, below_iter _ _ _⟩
    · have hnx : ∀ ty, (Instr.next (.pointer (some ⟨w.heap.size, 0, none⟩)) true ty).run Tryz.prog (w.iter s k) = _ := fun ty => run_next_end w s k ty hlt
      have HT := Lib.hid (nmB_true s ⟨h1, h2, fun j hj => HG.out j (by omega)⟩)
      go_wp2
      go_ret
      exact ⟨ret_bool HT.out.symm, below_iter _ _ _⟩

theorem i_isName (s : ByteArray) (hs : s.size ≤ 1048576) (w : World) : Calls Tryz.prog 142 #[.string s] w fun e w' => e = .returned (.bool (nmB s)) ∧ Below w.heap.size w w' := by
  by_cases h1 : 1 ≤ s.size
  · by_cases h2 : s.size ≤ 8
    · exact i_isName_short s h1 h2 w
    · have HB := Lib.hid (nmB_false s (fun h => h2 h.2.1))
      have h2' : 8 < s.size := by omega
      have he := nonempty s h1
      clear h2
      go_enter Tryz.func142, Tryz.ntmps142
      go_wp2
      go_ret
      exact ⟨ret_bool HB.out.symm, Below.refl _ _⟩
  · have HB := Lib.hid (nmB_false s (fun h => h1 h.1))
    have e : s = ByteArray.empty := by
      have : s.size = 0 := by omega
      cases s with | mk d => simp [ByteArray.size] at this; subst this; rfl
    subst e
    go_enter Tryz.func142, Tryz.ntmps142
    go_wp2
    go_ret
    exact ⟨ret_bool HB.out.symm, Below.refl _ _⟩

end Go.Proofs.YthmababifgaejaaGreatDoor
namespace Go.Proofs.YthmababifgaejaaGreatDoor
open Go.ChangeShapes Go.WideShapes Go.RowKit
namespace Fo
/-- the widths of the nodes of a slice -/
def ws : Fo → List Int
  | .nil => []
  | .cons _ wd _ _ _ r => wd :: r.ws
theorem ws_len : ∀ F : Fo, F.ws.length = F.len
  | .nil => rfl
  | .cons _ _ _ _ _ r => by simp only [ws, len, List.length_cons, ws_len r]
end Fo
/-- how many kids an operation has; -1 for what is none -/
def kc (op : Int) : Int := if op = 0 ∨ op = 22 then 0 else if op = 1 ∨ op = 2 ∨ op = 19 ∨ op = 20 ∨ op = 21 then 1 else if op = 17 then 3 else if 3 ≤ op ∧ op ≤ 18 then 2 else -1
/-- whether widths fit -/
def wfB (op wd n : Int) : List Int → Bool
  | [a] => if op = 19 then decide (0 ≤ n) && decide (n ≤ wrap64 (a - wd)) else if op = 20 ∨ op = 21 then decide (a ≤ wd) else decide (a = wd)
  | [a, b] => if op = 18 then decide (wrap64 (a + b) = wd) else if 14 ≤ op ∧ op ≤ 16 then decide (wd = 1) && decide (a = b) else decide (a = wd) && decide (b = wd)
  | [a, b, c] => decide (a = 1) && decide (b = wd) && decide (c = wd)
  | _ => false
/-- whether a node fits to kids of some widths -/
noncomputable def fitB (op wd n : Int) (nm : ByteArray) (ws : List Int) : Bool :=
  wdB wd && decide ((ws.length : Int) = kc op) && (decide (n = 0) || decide (op = 0) || decide (op = 19)) && (nm.toList.isEmpty || decide (op = 22)) &&
    (if op = 0 then wkB wd n else if op = 22 then nmB nm else wfB op wd n ws)
namespace Fo
/-- whether all nodes fit, all the way down -/
noncomputable def allB : Fo → Bool
  | .nil => true
  | .cons op wd n nm k r => (fitB op wd n nm k.ws && k.allB) && r.allB
end Fo
theorem op_casesT (op : Int) : op = 0 ∨ op = 1 ∨ op = 2 ∨ (3 ≤ op ∧ op ≤ 13) ∨ (14 ≤ op ∧ op ≤ 16) ∨ op = 17 ∨ op = 18 ∨ op = 19 ∨ op = 20 ∨ op = 21 ∨ op = 22 ∨ (op < 0 ∨ 22 < op) := by omega
theorem len1 {k : Fo} (h : k.len = 1) : ∃ op wd n nm k', k = .cons op wd n nm k' .nil := by
  cases k with
  | nil => cases h
  | cons op wd n nm k' r => cases r with
    | nil => exact ⟨op, wd, n, nm, k', rfl⟩
    | cons => simp [Fo.len] at h
theorem len2 {k : Fo} (h : k.len = 2) : ∃ op wd n nm k' op2 wd2 n2 nm2 k2, k = .cons op wd n nm k' (.cons op2 wd2 n2 nm2 k2 .nil) := by
  cases k with
  | nil => cases h
  | cons op wd n nm k' r =>
    obtain ⟨op2, wd2, n2, nm2, k2, rfl⟩ := len1 (k := r) (by simpa [Fo.len] using h)
    exact ⟨_, _, _, _, _, _, _, _, _, _, rfl⟩
theorem len3 {k : Fo} (h : k.len = 3) : ∃ op wd n nm k' op2 wd2 n2 nm2 k2 op3 wd3 n3 nm3 k3, k = .cons op wd n nm k' (.cons op2 wd2 n2 nm2 k2 (.cons op3 wd3 n3 nm3 k3 .nil)) := by
  cases k with
  | nil => cases h
  | cons op wd n nm k' r =>
    obtain ⟨op2, wd2, n2, nm2, k2, op3, wd3, n3, nm3, k3, rfl⟩ := len2 (k := r) (by simpa [Fo.len] using h)
    exact ⟨_, _, _, _, _, _, _, _, _, _, _, _, _, _, _, rfl⟩
/-- the width of the node at an index, where it lies -/
theorem width_at {w : World} {T : TypeId} {k : Fo} {b o : Nat} {ys : List Value} (hv : (k.cs T).Vs w 0 ys) (hr : w.rangeAt b o ys) (j : Nat) (hj : j < k.len) : ∃ v, k.ws[j]? = some v ∧ w.cell? ⟨b, o + j * 5 + 1, none⟩ = some (.int .i64 v) := by
  have hw : ∀ (k : Fo) (j : Nat) {op wd n : Int} {nm : ByteArray} {k' : Fo}, k.At j op wd n nm k' → k.ws[j]? = some wd := by
    intro k
    induction k with
    | nil => intro j op wd n nm k' h; exact h.elim
    | cons op wd n nm k r _ ih =>
      intro j op' wd' n' nm' k' h
      cases j with
      | zero => obtain ⟨_, rfl, _⟩ := h; rfl
      | succ j => exact ih j h
  obtain ⟨op, wd, n, nm, k', v, hat, _, hrr⟩ := Fo.nth k hv hr j hj
  exact ⟨wd, hw k j hat, hrr 1 _ rfl⟩
end Go.Proofs.YthmababifgaejaaGreatDoor
namespace Go.Proofs.YthmababifgaejaaGreatDoor
open Go.ChangeShapes Go.WideShapes Go.ChangeAt Go.RowKit
/-- the counter's block -/
def Cnt (pb : Nat) (l : Int) (w : World) : Prop := w.heap[pb]? = some (.cells #[.int .i64 l] 3 (0, 0))
theorem Cnt.keep {pb : Nat} {l : Int} {w w' : World} (h : Cnt pb l w) (hb : Below w.heap.size w w') : Cnt pb l w' := by
  unfold Cnt at h ⊢
  rw [hb.block pb (Array.getElem?_eq_some_iff.1 h).1]; exact h
theorem Cnt.step {pb : Nat} {l l' : Int} {w : World} (h : Cnt pb l w) : Cnt pb l' (w.setCell ⟨pb, 0, none⟩ (.int .i64 l')) := heap_setCell_same w pb 0 _ _ _ h
/-- what a node with its kids leaves of a counter -/
def FewC (k : Fo) : Prop := ∀ (w0 : World) (op wd n : Int) (nm : ByteArray) (s : Value) (pb l : Nat) (w : World), (k.cs 64).Is w0 0 5 k.len s → Below w0.heap.size w0 w → Cnt pb l w → w0.heap.size ≤ pb → l ≤ 240 →
  Calls Tryz.prog 104 #[.agg #[.int .i64 op, .int .i64 wd, .int .i64 n, .string nm, s], .pointer (some ⟨pb, 0, none⟩)] w fun e w' => e = .returned (.bool (decide (1 + k.nodes ≤ l))) ∧ Below w0.heap.size w0 w' ∧ Cnt pb (left l (1 + k.nodes)) w' ∧ Apart [pb] w w'
set_option maxRecDepth 100000 in
set_option maxHeartbeats 4000000 in
theorem few_loop (F : Fo) (hF : F.AllK FewC) : FewC F := by
  intro w0 op0 wd0 n0 nm0 v pb l w hv hb0 hst hpb hl
  have hml : maxLen = 9223372036854775807 := rfl
  have hFl : F.len ≤ F.nodes := F.len_le
  have HV := Lib.hid hv
  obtain ⟨_, ⟨_, q, cap, rfl, _⟩, _⟩ := hv
  have hsz0 := hb0.size
  have hbs : pb < w.heap.size := (Array.getElem?_eq_some_iff.1 hst).1
  have f0 : w.cell? ⟨pb, 0, none⟩ = some (.int .i64 l) := cell_of_row w pb 0 _ _ _ hst
  have z0 : w.frozen? ⟨pb, 0, none⟩ = false := frozen_of_row w pb 0 _ _ hst
  have hwr : IntKind.i64.wrap ((l : Int) - 1) = (l : Int) - 1 := IntWalk.i64_in _ (by omega)
  obtain ⟨W1, hW1⟩ : ∃ W1, W1 = (w.setCell ⟨pb, 0, none⟩ (.int .i64 ((l : Int) - 1))).alloc (.cells #[.int .i64 op0, .int .i64 wd0, .int .i64 n0, .string nm0, .slice q F.len cap] 64) := ⟨_, rfl⟩
  have hss : (w.setCell ⟨pb, 0, none⟩ (.int .i64 ((l : Int) - 1))).heap.size = w.heap.size := by simp [World.setCell]
  have HS1 : Hid (Cnt pb ((l : Int) - 1) W1) := Lib.hid (by rw [hW1]; exact hst.step.keep ((Below.refl _ _).alloc (Nat.le_refl _) _))
  have HB1 : Hid (Below w0.heap.size w0 W1) := Lib.hid (by rw [hW1]; exact (hb0.setCell hpb _).alloc (by rw [hss]; exact hsz0) _)
  have X1 : Hid (W1.heap[w.heap.size]? = some (.cells #[.int .i64 op0, .int .i64 wd0, .int .i64 n0, .string nm0, .slice q F.len cap] 64 (0, 0))) := Lib.hid (by
    rw [hW1, ← hss]
    exact heap_alloc_new _ _)
  have A1 : Hid (Apart [pb] w W1) := Lib.hid (by rw [hW1]; exact ((Apart.refl _ _).setCell (by simp) _).trans (Apart.of_below ((Below.refl _ _).alloc (Nat.le_refl _) _)))
  have hwW : w.heap.size < W1.heap.size := by rw [hW1]; simp [World.setCell]
  clear hst hb0
  go_enter Tryz.func104, Tryz.ntmps104
  go_wp2_with fail
  rw [← hW1]
  have HI : Hid (∀ j, j < F.len → ∃ b o cap', q = some ⟨b, o, none⟩ ∧ b < w0.heap.size ∧ ∃ op wd n nm k v, F.At j op wd n nm k ∧ (k.cs 64).Is w0 0 5 k.len v ∧ w0.rangeAt b (o + j * 5) [.int .i64 op, .int .i64 wd, .int .i64 n, .string nm, v] ∧ cap' = cap) := Lib.hid (fun j hj => by
    rcases Fo.is_cases HV.out with ⟨h0, _⟩ | ⟨hpos, b, o, cap', ys, hq, _, _, _, hbl, hvs, hr⟩
    · omega
    · injection hq with e1 e2 e3
      exact ⟨b, o, cap', e1, hbl, by
        obtain ⟨op, wd, n, nm, k, v, h1, h2, h3⟩ := Fo.nth F hvs hr j hj
        exact ⟨op, wd, n, nm, k, v, h1, h2, h3, e3.symm⟩⟩)
  have HK := Lib.hid hF
  have HD := Lib.hid F.drop_all
  have HD0 := Lib.hid F.drop_zero
  have HR : Hid (∃ x : Int, Cnt pb x W1 ∧ ((∃ m : Nat, x = m ∧ m + 1 + F.nodes = l + (F.drop 0).nodes ∧ m ≤ 240) ∨ (x = -1 ∧ l < 1 + F.nodes))) := Lib.hid ⟨_, HS1.out, by
    rw [HD0.out]
    by_cases h : l = 0
    · exact .inr ⟨by omega, by omega⟩
    · exact .inl ⟨l - 1, by omega, by omega, by omega⟩⟩
  have hend0 : ∀ m : Nat, m + 1 + F.nodes = l + (F.drop F.len).nodes → left l (1 + F.nodes) = m ∧ decide (1 + F.nodes ≤ l) = true := fun m h => by
    rw [HD.out] at h
    simp only [Fo.nodes, Nat.add_zero] at h
    refine ⟨by unfold left; rw [if_pos (by omega)]; omega, decide_eq_true (by omega)⟩
  have HE0 := Lib.hid hend0
  have HE1 : Hid (l < 1 + F.nodes → left l (1 + F.nodes) = -1 ∧ decide (1 + F.nodes ≤ l) = false) := Lib.hid (fun h => ⟨by unfold left; rw [if_neg (by omega)], decide_eq_false (by omega)⟩)
  clear hF hend0 hW1 hss HS1
  go_loopw [5] (fun i wr => ∃ (j : Nat) (x : Int), j ≤ F.len ∧ i = .int .i64 j ∧ Cnt pb x wr ∧ Below w0.heap.size w0 wr ∧ wr.heap[w.heap.size]? = some (.cells #[.int .i64 op0, .int .i64 wd0, .int .i64 n0, .string nm0, .slice q F.len cap] 64 (0, 0)) ∧ Apart [pb] w wr ∧ ((∃ m : Nat, x = m ∧ m + 1 + F.nodes = l + (F.drop j).nodes ∧ m ≤ 240) ∨ (x = -1 ∧ l < 1 + F.nodes))) (fun i _ => F.len - (intOf i).toNat)
  case atStart => obtain ⟨x, h1, h2⟩ := HR.out; exact ⟨0, x, Nat.zero_le _, rfl, h1, HB1.out, X1.out, A1.out, h2⟩
  case round =>
    clear HR HB1 X1 A1
    obtain ⟨j, x, hj, rfl, hcn, hb, hx5, hap, hor⟩ := hrel
    have y0 : wr.cell? ⟨pb, 0, none⟩ = some (.int .i64 x) := cell_of_row wr pb 0 _ _ _ hcn
    have HX := Lib.hid hx5
    have x4 : wr.cell? ⟨w.heap.size, 4, none⟩ = some (.slice q F.len cap) := cell_of_row wr _ 4 _ _ _ hx5
    have HA := Lib.hid hap
    clear hx5 hap
    have HB := Lib.hid hb
    have HC := Lib.hid hcn
    have hsz := hb.size
    rcases hor with ⟨m, rfl, hm, hm2⟩ | ⟨rfl, hm⟩
    · by_cases hjn : j < F.len
      · obtain ⟨b, o, _, rfl, hbl, op, wd, n, nm, k, v, hat, his, hrr, _⟩ := HI.out j hjn
        obtain ⟨hn1, hn2⟩ := Fo.at_nodes F j hat
        have hk := Fo.at_allK F j hat HK.out
        have HIS := Lib.hid his
        obtain ⟨_, ⟨_, q', cap2, rfl, _⟩, _⟩ := his
        have hrr := rangeAt_below hb hrr
        have c0 : wr.cell? ⟨b, o + j * 5, none⟩ = some (.int .i64 op) := hrr 0 _ rfl
        have c1 : wr.cell? ⟨b, o + j * 5 + 1, none⟩ = some (.int .i64 wd) := hrr 1 _ rfl
        have c2 : wr.cell? ⟨b, o + j * 5 + 2, none⟩ = some (.int .i64 n) := hrr 2 _ rfl
        have c3 : wr.cell? ⟨b, o + j * 5 + 3, none⟩ = some (.string nm) := hrr 3 _ rfl
        have c4 : wr.cell? ⟨b, o + j * 5 + 4, none⟩ = some (.slice q' k.len cap2) := hrr 4 _ rfl
        have SO := Lib.hid (hk w0 op wd n nm _ pb m wr HIS.out hb hcn hpb hm2)
        have hki : (j : Int) < (F.len : Int) := by omega
        have hm0 : decide ((0 : Int) ≤ (m : Int)) = true := by simp
        have HM := Lib.hid (And.intro hm hn1)
        clear hb hcn hrr hat hk hn1 hm hn2 HIS HI HV
        go_wp2_with (go_at_call 104; refine SO.out.mono ?_; rintro e w3 ⟨rfl, hb3, hc3, ha3⟩)
        have HX3 := Lib.hid ((ha3.block w.heap.size (by have := (Array.getElem?_eq_some_iff.1 HX.out).1; exact this) (by simp; omega)).trans HX.out)
        go_roundw
        case rel =>
          refine ⟨j + 1, _, by omega, by go_num, hc3, hb3, HX3.out, HA.out.trans ha3, ?_⟩
          obtain ⟨h1, h2⟩ := HM.out
          unfold left
          by_cases h : 1 + k.nodes ≤ m
          · rw [if_pos h]; exact .inl ⟨m - (1 + k.nodes), by omega, by omega, by omega⟩
          · rw [if_neg h]; exact .inr ⟨rfl, by omega⟩
        case measure => simp [intOf]; omega
      · have ej : j = F.len := by omega
        subst ej
        obtain ⟨h1, h2⟩ := HE0.out m hm
        have H12 := Lib.hid (And.intro h1 h2)
        clear h1 h2
        have hnj : decide ((F.len : Int) < (F.len : Int)) = false := by simp
        have hm0 : decide ((0 : Int) ≤ (m : Int)) = true := by simp
        clear hb hcn hm HI HV
        go_wp2
        go_ret
        exact ⟨by rw [H12.out.2]; rfl, HB.out, by rw [H12.out.1]; exact HC.out, HA.out⟩
    · obtain ⟨h1, h2⟩ := HE1.out hm
      have H12 := Lib.hid (And.intro h1 h2)
      clear h1 h2
      clear hb hcn hm HI HV
      by_cases hjn : j < F.len
      · have hki : decide ((j : Int) < (F.len : Int)) = true := by simp; omega
        go_wp2
        go_ret
        exact ⟨by rw [H12.out.2]; rfl, HB.out, by rw [H12.out.1]; exact HC.out, HA.out⟩
      · have hki : decide ((j : Int) < (F.len : Int)) = false := by simp; omega
        go_wp2
        go_ret
        exact ⟨by rw [H12.out.2]; rfl, HB.out, by rw [H12.out.1]; exact HC.out, HA.out⟩
theorem few_any : ∀ F : Fo, FewC F := Fo.every few_loop
end Go.Proofs.YthmababifgaejaaGreatDoor
namespace Go.Proofs.YthmababifgaejaaGreatDoor
open Go.ChangeShapes Go.WideShapes Go.ChangeAt Go.RowKit
theorem s_in (a lo hi : Int) (b : Bool) (h : (decide (lo ≤ a) && decide (a ≤ hi)) = b) (W : World) : Calls Tryz.prog 57 #[.int .i64 a, .int .i64 lo, .int .i64 hi] W fun e W' => e = .returned (.bool b) ∧ W = W' := by
  subst h
  by_cases h1 : lo ≤ a
  · have e1 : decide (lo ≤ a) = true := decide_eq_true h1
    by_cases h2 : a ≤ hi
    · have e2 : decide (a ≤ hi) = true := decide_eq_true h2
      rw [e1, e2]
      go_enter Tryz.func57, Tryz.ntmps57
      go_wp2
      go_ret
      exact ⟨rfl, rfl⟩
    · have e2 : decide (a ≤ hi) = false := decide_eq_false h2
      rw [e1, e2]
      go_enter Tryz.func57, Tryz.ntmps57
      go_wp2
      go_ret
      exact ⟨rfl, rfl⟩
  · have e1 : decide (lo ≤ a) = false := decide_eq_false h1
    rw [e1, Bool.false_and]
    go_enter Tryz.func57, Tryz.ntmps57
    go_wp2
    go_ret
    exact ⟨rfl, rfl⟩
set_option maxRecDepth 100000 in
set_option maxHeartbeats 2000000 in
theorem nd_bad_w (op wd n : Int) (nm : ByteArray) (s : Value) (k : Fo) (w : World) (his : (k.cs 64).Is w 0 5 k.len s) (hw : wdB wd = false) :
    Calls Tryz.prog 105 #[.agg #[.int .i64 op, .int .i64 wd, .int .i64 n, .string nm, s]] w fun e w' => e = .returned (.bool (false)) ∧ Below w.heap.size w w' := by
  obtain ⟨_, ⟨_, q, cap, rfl, _⟩, _⟩ := his
  have KW := Lib.hid (fun W => s_wd wd W)
  rw [hw] at KW
  go_enter Tryz.func105, Tryz.ntmps105
  go_wp2_with (go_at_call 57; refine (KW.out _).mono ?_; rintro e w1 ⟨rfl, rfl⟩)
  go_ret
  exact ⟨rfl, (Below.refl _ _).alloc (Nat.le_refl _) _⟩
set_option maxRecDepth 100000 in
set_option maxHeartbeats 2000000 in
theorem nd_bad_nm (op wd n : Int) (nm : ByteArray) (s : Value) (k : Fo) (w : World) (his : (k.cs 64).Is w 0 5 k.len s) (hw : wdB wd = true) (hnm : nm.toList.isEmpty = false) (hop22 : op ≠ 22) :
    Calls Tryz.prog 105 #[.agg #[.int .i64 op, .int .i64 wd, .int .i64 n, .string nm, s]] w fun e w' => e = .returned (.bool (false)) ∧ Below w.heap.size w w' := by
  obtain ⟨_, ⟨_, q, cap, rfl, _⟩, _⟩ := his
  have KW := Lib.hid (fun W => s_wd wd W)
  rw [hw] at KW
  have hne : (!nm.toList.isEmpty) = true := by rw [hnm]; rfl
  have hop_22 : ((op : Int) == 22) = false := by simpa using hop22
  have gop_22 : ((op : Int) != 22) = true := by simpa using hop22
  go_enter Tryz.func105, Tryz.ntmps105
  go_wp2_with (go_at_call 57; refine (KW.out _).mono ?_; rintro e w1 ⟨rfl, rfl⟩)
  go_ret
  exact ⟨rfl, (Below.refl _ _).alloc (Nat.le_refl _) _⟩
set_option maxRecDepth 100000 in
set_option maxHeartbeats 2000000 in
theorem nd_bad_n (op wd n : Int) (s : Value) (k : Fo) (w : World) (his : (k.cs 64).Is w 0 5 k.len s) (hw : wdB wd = true) (hn0 : n ≠ 0) (hop0 : op ≠ 0) (hop19 : op ≠ 19) :
    Calls Tryz.prog 105 #[.agg #[.int .i64 op, .int .i64 wd, .int .i64 n, .string ⟨#[]⟩, s]] w fun e w' => e = .returned (.bool (false)) ∧ Below w.heap.size w w' := by
  obtain ⟨_, ⟨_, q, cap, rfl, _⟩, _⟩ := his
  have KW := Lib.hid (fun W => s_wd wd W)
  rw [hw] at KW
  have hn_0 : ((n : Int) == 0) = false := by simpa using hn0
  have gn_0 : ((n : Int) != 0) = true := by simpa using hn0
  have hop_0 : ((op : Int) == 0) = false := by simpa using hop0
  have gop_0 : ((op : Int) != 0) = true := by simpa using hop0
  have hop_19 : ((op : Int) == 19) = false := by simpa using hop19
  have gop_19 : ((op : Int) != 19) = true := by simpa using hop19
  go_enter Tryz.func105, Tryz.ntmps105
  go_wp2_with (go_at_call 57; refine (KW.out _).mono ?_; rintro e w1 ⟨rfl, rfl⟩)
  go_ret
  exact ⟨rfl, (Below.refl _ _).alloc (Nat.le_refl _) _⟩
set_option maxRecDepth 100000 in
set_option maxHeartbeats 2000000 in
theorem nd_bad_n2 (wd n : Int) (nm : ByteArray) (s : Value) (k : Fo) (w : World) (his : (k.cs 64).Is w 0 5 k.len s) (hw : wdB wd = true) (hnm : nm.toList.isEmpty = false) (hn0 : n ≠ 0) :
    Calls Tryz.prog 105 #[.agg #[.int .i64 22, .int .i64 wd, .int .i64 n, .string nm, s]] w fun e w' => e = .returned (.bool (false)) ∧ Below w.heap.size w w' := by
  obtain ⟨_, ⟨_, q, cap, rfl, _⟩, _⟩ := his
  have KW := Lib.hid (fun W => s_wd wd W)
  rw [hw] at KW
  have hne : (!nm.toList.isEmpty) = true := by rw [hnm]; rfl
  have hn_0 : ((n : Int) == 0) = false := by simpa using hn0
  have gn_0 : ((n : Int) != 0) = true := by simpa using hn0
  go_enter Tryz.func105, Tryz.ntmps105
  go_wp2_with (go_at_call 57; refine (KW.out _).mono ?_; rintro e w1 ⟨rfl, rfl⟩)
  go_ret
  exact ⟨rfl, (Below.refl _ _).alloc (Nat.le_refl _) _⟩
end Go.Proofs.YthmababifgaejaaGreatDoor
