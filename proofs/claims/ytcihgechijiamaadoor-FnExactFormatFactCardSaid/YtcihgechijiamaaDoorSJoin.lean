/- What the specification's Join returns for a list of strings that lies in memory. -/
import Derived.Test.YtcihgechijiamaaDoorStrAt
import Derived.Lib.Join
import Derived.Lib.Strings
namespace Go.Proofs.YtcihgechijiamaaDoor
open Go.ChangeShapes Go.WideShapes Go.ChangeAt Go.RowKit
def JN (xs : List ByteArray) (by' : ByteArray) : List UInt8 := Lib.join (xs.map (·.data.toList)) by'.data.toList
theorem joinTail_append (sep : List UInt8) (a b : List (List UInt8)) : Lib.joinTail sep (a ++ b) = Lib.joinTail sep a ++ Lib.joinTail sep b := by simp [Lib.joinTail]
theorem join_snoc (l : List (List UInt8)) (x sep : List UInt8) (h : l ≠ []) : Lib.join (l ++ [x]) sep = Lib.join l sep ++ sep ++ x := by
  cases l with
  | nil => exact absurd rfl h
  | cons y r =>
    rw [List.cons_append, Lib.join_cons, Lib.join_cons, joinTail_append]
    simp [Lib.joinTail]
theorem join_prefix (a b : List (List UInt8)) (sep : List UInt8) : (Lib.join a sep).length ≤ (Lib.join (a ++ b) sep).length := by
  cases a with
  | nil => simp [Lib.join_nil]
  | cons y r =>
    rw [List.cons_append, Lib.join_cons, Lib.join_cons, joinTail_append]
    simp
theorem JN_take_le (xs : List ByteArray) (sep : ByteArray) (k : Nat) : (JN (xs.take k) sep).length ≤ (JN xs sep).length := by
  have := join_prefix ((xs.take k).map (·.data.toList)) ((xs.drop k).map (·.data.toList)) sep.data.toList
  rw [← List.map_append, List.take_append_drop] at this
  exact this
theorem JN_step (xs : List ByteArray) (sep : ByteArray) (k : Nat) (hk : k < xs.length) (h0 : 0 < k) : JN (xs.take (k + 1)) sep = JN (xs.take k) sep ++ sep.data.toList ++ xs[k].data.toList := by
  unfold JN
  rw [List.take_succ_eq_append_getElem hk, List.map_append]
  exact join_snoc _ _ _ (by intro h; have q := congrArg List.length h; rw [List.length_map, List.length_take, List.length_nil] at q; omega)
theorem JN_one (xs : List ByteArray) (sep : ByteArray) (hk : 0 < xs.length) : JN (xs.take 1) sep = xs[0].data.toList := by
  unfold JN
  rw [List.take_succ_eq_append_getElem hk]
  simp [Lib.join_one]
theorem JN_succ (xs : List ByteArray) (sep : ByteArray) (k : Nat) (hk : k < xs.length) (h0 : 0 < k) : (⟨(JN (xs.take k) sep).toArray⟩ : ByteArray) ++ sep ++ xs[k] = ⟨(JN (xs.take (k + 1)) sep).toArray⟩ := by
  rw [ByteArray.ext_iff, JN_step xs sep k hk h0]
  apply Array.ext'
  simp
theorem JN_first (xs : List ByteArray) (sep : ByteArray) (hk : 0 < xs.length) : (⟨(JN [] sep).toArray⟩ : ByteArray) ++ xs[0] = ⟨(JN (xs.take 1) sep).toArray⟩ := by
  rw [ByteArray.ext_iff, JN_one xs sep hk]
  apply Array.ext'
  simp [JN, Lib.join_nil]
theorem size_le (xs : List ByteArray) (sep : ByteArray) (k : Nat) (hk : k < xs.length) : xs[k].size ≤ (JN xs sep).length := by
  have h1 := JN_take_le xs sep (k + 1)
  by_cases h0 : 0 < k
  · rw [JN_step xs sep k hk h0, List.length_append, ← Lib.size_eq xs[k]] at h1
    omega
  · have e : k = 0 := by omega
    subst e
    rw [Nat.zero_add, JN_one xs sep hk, ← Lib.size_eq] at h1
    exact h1
set_option maxRecDepth 100000 in
theorem s_join_none (a : Option Addr) (c : Nat) (sep : ByteArray) (w : World) : Calls Tryd.prog 46 #[.slice a 0 c, .string sep] w fun e w' => e = .returned (.string ⟨#[]⟩) ∧ w = w' := by
  go_enter Tryd.func46, Tryd.ntmps46
  go_wp2
  refine wp_loop_rounds 1 ?_
  rw [rounds_succ]
  go_wp2
  go_ret
  exact ⟨rfl, rfl⟩
set_option maxRecDepth 100000 in
set_option maxHeartbeats 1000000 in
theorem s_join (b o c n : Nat) (xs : List ByteArray) (sep : ByteArray) (hn : xs.length = n) (hmax : n ≤ 1048577) (hsep : sep.size ≤ 1048576) (hlen : (JN xs sep).length ≤ 140737488355328) (w : World) (h : At w b o (xs.map Value.string)) :
    Calls Tryd.prog 46 #[.slice (some ⟨b, o, none⟩) n c, .string sep] w fun e w' => e = .returned (.string ⟨(JN xs sep).toArray⟩) ∧ w = w' := by
  have H := Lib.hid h
  have HN := Lib.hid hn
  clear h hn
  go_enter Tryd.func46, Tryd.ntmps46
  go_wp2
  go_loop [5, 10] (fun s i => ∃ k : Nat, k ≤ n ∧ i = .int .i64 k ∧ s = .string ⟨(JN (xs.take k) sep).toArray⟩) (fun _ i => n - (intOf i).toNat)
  case atStart => exact ⟨0, Nat.zero_le _, rfl, rfl⟩
  case round =>
    obtain ⟨k, hk, rfl, rfl⟩ := hrel
    by_cases hlt : k < n
    · have hkx : k < xs.length := by rw [HN.out]; exact hlt
      have hx := H.out.str k hkx
      have hsz := size_le xs sep k hkx
      have hpre := JN_take_le xs sep k
      have hpre1 : (JN (xs.take k) sep).length ≤ 140737488355328 := by omega
      have hsz1 : xs[k].size ≤ 140737488355328 := by omega
      by_cases h0 : 0 < k
      · have HE := Lib.hid (JN_succ xs sep k hkx h0)
        generalize xs[k] = x at *
        generalize JN (xs.take k) sep = J at *
        clear hsz hpre
        go_wp2
        go_round
        case rel => exact ⟨k + 1, by omega, by go_num, congrArg Value.string HE.out⟩
        case measure => simp [intOf]; omega
      · have e : k = 0 := by omega
        subst e
        have HE := Lib.hid (JN_first xs sep hkx)
        have hJ0 : (JN [] sep).length ≤ 0 := by simp [JN, Lib.join_nil]
        rw [Nat.add_zero] at hx
        generalize xs[0] = x at *
        clear hsz hpre hpre1
        go_wp2
        go_round
        case rel => exact ⟨1, by omega, rfl, congrArg Value.string HE.out⟩
        case measure => simp [intOf]; omega
    · have HE := Lib.hid (show xs.take k = xs from List.take_of_length_le (by rw [HN.out]; omega))
      go_wp2
      go_ret
      exact ⟨by rw [HE.out]; rfl, rfl⟩
end Go.Proofs.YtcihgechijiamaaDoor
