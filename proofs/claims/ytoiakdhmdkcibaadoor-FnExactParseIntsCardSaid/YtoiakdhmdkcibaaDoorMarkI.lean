/- The marks that the laws write into lists of ints, and their reading: markIntS, heldIntS; the three over a list that is owned, whatever its value. -/
import Derived.Test.YtoiakdhmdkcibaaDoorFormatInts
import Derived.Test.YtoiakdhmdkcibaaDoorIntS
namespace Go.Proofs.YtoiakdhmdkcibaaDoor
open Go.ChangeShapes Go.WideShapes Go.ChangeAt Go.RowKit
/-- the marks from a on -/
def marksI (a n : Nat) : List Int := (List.range n).map fun i => ((a + i : Nat) : Int)
theorem marksI_len (a n : Nat) : (marksI a n).length = n := by simp [marksI]
theorem set_markI (a : Nat) (cur : List Value) (k : Nat) (hk : k < cur.length) (h : cur.take k = ((marksI a cur.length).map (Value.int .i64)).take k) : (cur.set k (.int .i64 ((a + k : Nat) : Int))).take (k + 1) = ((marksI a cur.length).map (Value.int .i64)).take (k + 1) := by
  apply List.ext_getElem?
  intro j
  by_cases hj : j < k
  · have := congrArg (·[j]?) h
    simp only [List.getElem?_take, hj, if_true] at this
    simp only [List.getElem?_take, show j < k + 1 by omega, if_true]
    rw [List.getElem?_set_ne (by omega), this]
  · by_cases e : j = k
    · subst e
      simp [marksI, hk]
    · simp [List.getElem?_take, show ¬ j < k + 1 by omega]
set_option maxRecDepth 100000 in
theorem markI_none (a : Option Addr) (c : Nat) (w : World) : Calls Tryd.prog 26 #[.slice a 0 c, .int .i64 1] w fun e w' => e = .returned (.int .i64 1) ∧ Below w.heap.size w w' := by
  go_enter Tryd.func26, Tryd.ntmps26
  go_wp2
  refine wp_loop_rounds 1 ?_
  rw [rounds_succ]
  go_wp2
  go_ret
  exact ⟨rfl, Below.refl _ _⟩
set_option maxRecDepth 100000 in
theorem heldI_none (a : Option Addr) (c : Nat) (w : World) : Calls Tryd.prog 27 #[.slice a 0 c, .int .i64 1] w fun e w' => e = .returned (.int .i64 1) ∧ Below w.heap.size w w' := by
  go_enter Tryd.func27, Tryd.ntmps27
  go_wp2
  refine wp_loop_rounds 1 ?_
  rw [rounds_succ]
  go_wp2
  go_ret
  exact ⟨rfl, Below.refl _ _⟩
set_option maxRecDepth 100000 in
set_option maxHeartbeats 1000000 in
theorem markI_some (g n cap base : Nat) (xs : List Value) (hmax : n ≤ 1048577) (w : World) (hown : w.ownsRow base 3 1 (.slice (some ⟨g, 0, none⟩) n cap) n xs) :
    Calls Tryd.prog 26 #[.slice (some ⟨g, 0, none⟩) n cap, .int .i64 1] w fun e w' => e = .returned (.int .i64 (1 + n)) ∧ w'.ownsRow base 3 1 (.slice (some ⟨g, 0, none⟩) n cap) n ((marksI 1 n).map (Value.int .i64)) ∧ Below base w w' := by
  have hbase := (hown.lt g rfl).1
  have HO := Lib.hid hown
  clear hown
  go_enter Tryd.func26, Tryd.ntmps26
  go_wp2
  go_loopw [1, 5] (fun m i wr => ∃ (k : Nat) (cur : List Value), k ≤ n ∧ i = .int .i64 k ∧ m = .int .i64 (1 + k) ∧ wr.ownsRow base 3 1 (.slice (some ⟨g, 0, none⟩) n cap) n cur ∧ cur.take k = ((marksI 1 n).map (Value.int .i64)).take k ∧ Below base w wr) (fun _ i _ => n - (intOf i).toNat)
  case atStart => exact ⟨0, xs, Nat.zero_le _, rfl, rfl, HO.out, rfl, Below.refl _ _⟩
  case round =>
    obtain ⟨k, cur, hk, rfl, rfl, hown, hcur, hb⟩ := hrel
    by_cases hlt : k < n
    · have hcl : cur.length = n := by rw [hown.1]; omega
      have HC := Lib.hid (set_markI 1 cur k (by omega) (by rw [hcl]; exact hcur))
      have HCL := Lib.hid hcl
      have hki : (k : Int) < (n : Int) := by omega
      obtain ⟨old, hold⟩ : ∃ old, wr.cell? ⟨g, k, none⟩ = some old := ⟨cur[k]'(by omega), by
        rw [hown.cellAt k (by omega)]; exact List.getElem?_eq_getElem (by omega)⟩
      have hfz := hown.frozenAt k
      have e1 : ((1 + k : Nat) : Int) = 1 + (k : Int) := by omega
      have HST := Lib.hid (hown.stored k (.int .i64 ((1 + k : Nat) : Int))).1
      have HBN := Lib.hid (hb.setCell (p := ⟨g, k, none⟩) hbase (.int .i64 ((1 + k : Nat) : Int)))
      rw [e1] at HST HBN HC
      clear hown hb hcur hcl e1
      go_wp2
      go_roundw
      case rel =>
        refine ⟨k + 1, _, by omega, by go_num, by go_num, HST.out, ?_, HBN.out⟩
        have := HC.out
        rw [HCL.out] at this
        exact this
      case measure => simp [intOf]; omega
    · have HB := Lib.hid hb
      have ek : k = n := by omega
      have hcl : cur.length = n := by rw [hown.1]; omega
      have e1 : cur.take k = cur := List.take_of_length_le (by omega)
      have e2 : ((marksI 1 n).map (Value.int .i64)).take k = (marksI 1 n).map (Value.int .i64) := List.take_of_length_le (by rw [List.length_map, marksI_len]; omega)
      rw [e1, e2] at hcur
      rw [hcur] at hown
      have HO1 := Lib.hid hown
      clear hown hb hcur e1 e2 hcl
      subst ek
      go_wp2
      go_ret
      exact ⟨rfl, HO1.out, HB.out⟩
set_option maxRecDepth 100000 in
set_option maxHeartbeats 1000000 in
theorem heldI_some (g n cap base : Nat) (hmax : n ≤ 1048577) (w : World) (hown : w.ownsRow base 3 1 (.slice (some ⟨g, 0, none⟩) n cap) n ((marksI 1 n).map (Value.int .i64))) :
    Calls Tryd.prog 27 #[.slice (some ⟨g, 0, none⟩) n cap, .int .i64 1] w fun e w' => e = .returned (.int .i64 (1 + n)) ∧ Below w.heap.size w w' := by
  have HA := Lib.hid (ownsRow_at hown).1
  clear hown
  go_enter Tryd.func27, Tryd.ntmps27
  go_wp2
  go_loop [1, 5] (fun m i => ∃ (k : Nat), k ≤ n ∧ i = .int .i64 k ∧ m = .int .i64 (1 + k)) (fun _ i => n - (intOf i).toNat)
  case atStart => exact ⟨0, Nat.zero_le _, rfl, rfl⟩
  case round =>
    obtain ⟨k, hk, rfl, rfl⟩ := hrel
    by_cases hkn : k < n
    · have hx0 := HA.out.int k (by rw [marksI_len]; exact hkn)
      have em : (marksI 1 n)[k]'(by rw [marksI_len]; exact hkn) = 1 + (k : Int) := by simp [marksI]
      rw [em, Nat.zero_add] at hx0
      have hki : (k : Int) < (n : Int) := by omega
      clear em
      go_wp2
      go_round
      case rel => exact ⟨k + 1, by omega, by go_num, by go_num⟩
      case measure => simp [intOf]; omega
    · have ek : k = n := by omega
      subst ek
      go_wp2
      go_ret
      exact ⟨rfl, Below.refl _ _⟩
theorem eqI_own {b1 b2 n : Nat} {v1 v2 : Value} {xs : List Int} (hn : xs.length = n) (hmax : n ≤ 1048577) {w : World} (h1 : w.ownsRow b1 3 1 v1 n (xs.map (Value.int .i64))) (h2 : w.ownsRow b2 3 1 v2 n (xs.map (Value.int .i64))) :
    Calls Tryd.prog 23 #[v1, v2] w fun e w' => e = .returned (.bool true) ∧ Below w.heap.size w w' := by
  rcases h1.2 with ⟨rfl, hn0⟩ | ⟨g1, c1, cur1, rfl, _⟩
  · rcases h2.2 with ⟨rfl, _⟩ | ⟨g2, c2, cur2, rfl, _⟩
    · exact eq_ints_none _ _ _ _ w
    · rw [hn0]
      exact eq_ints_none _ _ _ _ w
  · rcases h2.2 with ⟨rfl, hn0⟩ | ⟨g2, c2, cur2, rfl, _⟩
    · rw [hn0]
      exact eq_ints_none _ _ _ _ w
    · have a1 := ownsRow_at h1
      have a2 := ownsRow_at h2
      exact eq_ints g1 0 c1 g2 0 c2 n xs hn hmax w a1.2.2.1 a2.2.2.1 a1.1 a2.1
theorem markI_own {base n : Nat} {v : Value} {xs : List Value} (hmax : n ≤ 1048577) {w : World} (h : w.ownsRow base 3 1 v n xs) (hbase : base ≤ w.heap.size) :
    Calls Tryd.prog 26 #[v, .int .i64 1] w fun e w' => e = .returned (.int .i64 (1 + n)) ∧ w'.ownsRow base 3 1 v n ((marksI 1 n).map (Value.int .i64)) ∧ Below base w w' := by
  rcases h.2 with ⟨rfl, hn0⟩ | ⟨g, c, cur, rfl, _⟩
  · subst hn0
    refine (markI_none _ _ w).mono fun e w' ⟨he, hb⟩ => ⟨he, ⟨by simp [marksI], .inl ⟨rfl, rfl⟩⟩, hb.mono hbase⟩
  · exact markI_some g n c base xs hmax w h
theorem heldI_own {base n : Nat} {v : Value} (hmax : n ≤ 1048577) {w : World} (h : w.ownsRow base 3 1 v n ((marksI 1 n).map (Value.int .i64))) :
    Calls Tryd.prog 27 #[v, .int .i64 1] w fun e w' => e = .returned (.int .i64 (1 + n)) ∧ Below w.heap.size w w' := by
  rcases h.2 with ⟨rfl, hn0⟩ | ⟨g, c, cur, rfl, _⟩
  · subst hn0
    exact heldI_none _ _ w
  · exact heldI_some g n c base hmax w h
end Go.Proofs.YtoiakdhmdkcibaaDoor
