/- heldStringS over the marks; the comparison, the marks and their reading for a list that is owned, whatever its value. -/
import Derived.Test.YtoiakdhmdkcibaaDoorMarkS
import Derived.Deep.RegionWith
namespace Go.Proofs.YtoiakdhmdkcibaaDoor
open Go.ChangeShapes Go.WideShapes Go.ChangeAt Go.RowKit
set_option maxRecDepth 100000 in
set_option maxHeartbeats 1000000 in
theorem held_some (g n cap base : Nat) (hmax : n ≤ 1048577) (w : World) (hown : w.ownsRow base 9 1 (.slice (some ⟨g, 0, none⟩) n cap) n ((marks 1 n).map Value.string)) :
    Calls Tryd.prog 17 #[.slice (some ⟨g, 0, none⟩) n cap, .int .i64 1] w fun e w' => e = .returned (.int .i64 (1 + n)) ∧ Below w.heap.size w w' := by
  have hlt := (hown.lt g rfl).2
  have HA := Lib.hid (ownsRow_at hown).1
  clear hown
  go_enter Tryd.func17, Tryd.ntmps17
  go_wp2
  go_loopw [1, 5] (fun m i wr => ∃ (k : Nat), k ≤ n ∧ i = .int .i64 k ∧ m = .int .i64 (1 + k) ∧ Below w.heap.size w wr) (fun _ i _ => n - (intOf i).toNat)
  case atStart => exact ⟨0, Nat.zero_le _, rfl, rfl, Below.refl _ _⟩
  case round =>
    obtain ⟨k, hk, rfl, rfl, hb⟩ := hrel
    by_cases hkn : k < n
    · have hx0 := (HA.out.below hb hlt).str k (by rw [marks_len]; exact hkn)
      have em : (marks 1 n)[k]'(by rw [marks_len]; exact hkn) = mk (1 + k) := by simp [marks]
      rw [em, Nat.zero_add] at hx0
      have hsz := hb.size
      have hgl : g < wr.heap.size := by omega
      have HB := Lib.hid hb
      have hki : (k : Int) < (n : Int) := by omega
      have MT := Lib.hid (fun W => mark_text (1 + k) (by omega) (by omega) W)
      have hcast : ((1 + k : Nat) : Int) = 1 + (k : Int) := by omega
      rw [hcast] at MT
      clear hb em hcast
      go_wp2
      go_region_with (go_at_call 32; refine (MT.out _).mono ?_; rintro e w1 ⟨rfl, hb1⟩; have hx1 : w1.cell? ⟨g, k, none⟩ = some (.string (mk (1 + k))) := (hb1.cell (p := ⟨g, k, none⟩) hgl).trans hx0; have HB1 := Lib.hid hb1; clear hb1)
      all_goals
        go_wp2
        go_roundw
        case rel => exact ⟨k + 1, by omega, by go_num, by go_num, HB.out.drew.trans (HB1.out.mono hsz)⟩
        case measure => simp [intOf]; omega
    · have ek : k = n := by omega
      subst ek
      go_wp2
      go_ret
      exact ⟨rfl, hb⟩
/-- the three over a list that is owned, whatever its value -/
theorem eq_own {b1 b2 n : Nat} {v1 v2 : Value} {xs : List ByteArray} (hn : xs.length = n) (hmax : n ≤ 1048577) {w : World} (h1 : w.ownsRow b1 9 1 v1 n (xs.map Value.string)) (h2 : w.ownsRow b2 9 1 v2 n (xs.map Value.string)) :
    Calls Tryd.prog 15 #[v1, v2] w fun e w' => e = .returned (.bool true) ∧ Below w.heap.size w w' := by
  rcases h1.2 with ⟨rfl, hn0⟩ | ⟨g1, c1, cur1, rfl, _⟩
  · rcases h2.2 with ⟨rfl, _⟩ | ⟨g2, c2, cur2, rfl, _⟩
    · exact eq_strs_none _ _ _ _ w
    · rw [hn0]
      exact eq_strs_none _ _ _ _ w
  · rcases h2.2 with ⟨rfl, hn0⟩ | ⟨g2, c2, cur2, rfl, _⟩
    · rw [hn0]
      exact eq_strs_none _ _ _ _ w
    · have a1 := ownsRow_at h1
      have a2 := ownsRow_at h2
      exact eq_strs g1 0 c1 g2 0 c2 n xs hn hmax w a1.2.2.1 a2.2.2.1 a1.1 a2.1
theorem mark_own {base n : Nat} {v : Value} {xs : List Value} (hmax : n ≤ 1048577) {w : World} (h : w.ownsRow base 9 1 v n xs) (hbase : base ≤ w.heap.size) :
    Calls Tryd.prog 16 #[v, .int .i64 1] w fun e w' => e = .returned (.int .i64 (1 + n)) ∧ w'.ownsRow base 9 1 v n ((marks 1 n).map Value.string) ∧ Below base w w' := by
  rcases h.2 with ⟨rfl, hn0⟩ | ⟨g, c, cur, rfl, _⟩
  · subst hn0
    refine (mark_none _ _ w).mono fun e w' ⟨he, hb⟩ => ⟨he, ⟨by simp [marks], .inl ⟨rfl, rfl⟩⟩, hb.mono hbase⟩
  · exact mark_some g n c base xs hmax w h
theorem held_own {base n : Nat} {v : Value} (hmax : n ≤ 1048577) {w : World} (h : w.ownsRow base 9 1 v n ((marks 1 n).map Value.string)) :
    Calls Tryd.prog 17 #[v, .int .i64 1] w fun e w' => e = .returned (.int .i64 (1 + n)) ∧ Below w.heap.size w w' := by
  rcases h.2 with ⟨rfl, hn0⟩ | ⟨g, c, cur, rfl, _⟩
  · subst hn0
    exact held_none _ _ w
  · exact held_some g n c base hmax w h
end Go.Proofs.YtoiakdhmdkcibaaDoor
