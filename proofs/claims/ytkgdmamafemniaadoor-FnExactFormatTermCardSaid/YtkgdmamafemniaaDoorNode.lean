/- l02Node: nodes that the specification's first test refuses. -/
import Derived.Test.YtkgdmamafemniaaDoorTk
import Derived.Deep.RegionWith
import Derived.Deep.LoopGhost
namespace Go.Proofs.YtkgdmamafemniaaDoor
open Go.ChangeShapes Go.WideShapes Go.ChangeAt Go.RowKit
theorem s_in (a lo hi : Int) (b : Bool) (h : (decide (lo ≤ a) && decide (a ≤ hi)) = b) (W : World) : Calls Tryd.prog 37 #[.int .i64 a, .int .i64 lo, .int .i64 hi] W fun e W' => e = .returned (.bool b) ∧ W = W' := by
  subst h
  by_cases h1 : lo ≤ a
  · have e1 : decide (lo ≤ a) = true := decide_eq_true h1
    by_cases h2 : a ≤ hi
    · have e2 : decide (a ≤ hi) = true := decide_eq_true h2
      rw [e1, e2]
      go_enter Tryd.func37, Tryd.ntmps37
      go_wp2
      go_ret
      exact ⟨rfl, rfl⟩
    · have e2 : decide (a ≤ hi) = false := decide_eq_false h2
      rw [e1, e2]
      go_enter Tryd.func37, Tryd.ntmps37
      go_wp2
      go_ret
      exact ⟨rfl, rfl⟩
  · have e1 : decide (lo ≤ a) = false := decide_eq_false h1
    rw [e1, Bool.false_and]
    go_enter Tryd.func37, Tryd.ntmps37
    go_wp2
    go_ret
    exact ⟨rfl, rfl⟩
set_option maxRecDepth 100000 in
set_option maxHeartbeats 2000000 in
theorem nd_bad_w (op wd n : Int) (nm : ByteArray) (s : Value) (k : Fo) (w : World) (his : (k.cs 29).Is w 0 5 k.len s) (hw : wdB wd = false) :
    Calls Tryd.prog 34 #[.agg #[.int .i64 op, .int .i64 wd, .int .i64 n, .string nm, s]] w fun e w' => e = .returned (.bool (false)) ∧ Below w.heap.size w w' := by
  obtain ⟨_, ⟨_, q, cap, rfl, _⟩, _⟩ := his
  have KW := Lib.hid (fun W => s_wd wd W)
  rw [hw] at KW
  go_enter Tryd.func34, Tryd.ntmps34
  go_wp2_with (go_at_call 37; refine (KW.out _).mono ?_; rintro e w1 ⟨rfl, rfl⟩)
  go_ret
  exact ⟨rfl, (Below.refl _ _).alloc (Nat.le_refl _) _⟩
set_option maxRecDepth 100000 in
set_option maxHeartbeats 2000000 in
theorem nd_bad_nm (op wd n : Int) (nm : ByteArray) (s : Value) (k : Fo) (w : World) (his : (k.cs 29).Is w 0 5 k.len s) (hw : wdB wd = true) (hnm : nm.toList.isEmpty = false) (hop22 : op ≠ 22) :
    Calls Tryd.prog 34 #[.agg #[.int .i64 op, .int .i64 wd, .int .i64 n, .string nm, s]] w fun e w' => e = .returned (.bool (false)) ∧ Below w.heap.size w w' := by
  obtain ⟨_, ⟨_, q, cap, rfl, _⟩, _⟩ := his
  have KW := Lib.hid (fun W => s_wd wd W)
  rw [hw] at KW
  have hne : (!nm.toList.isEmpty) = true := by rw [hnm]; rfl
  have hop_22 : ((op : Int) == 22) = false := by simpa using hop22
  have gop_22 : ((op : Int) != 22) = true := by simpa using hop22
  go_enter Tryd.func34, Tryd.ntmps34
  go_wp2_with (go_at_call 37; refine (KW.out _).mono ?_; rintro e w1 ⟨rfl, rfl⟩)
  go_ret
  exact ⟨rfl, (Below.refl _ _).alloc (Nat.le_refl _) _⟩
set_option maxRecDepth 100000 in
set_option maxHeartbeats 2000000 in
theorem nd_bad_n (op wd n : Int) (s : Value) (k : Fo) (w : World) (his : (k.cs 29).Is w 0 5 k.len s) (hw : wdB wd = true) (hn0 : n ≠ 0) (hop0 : op ≠ 0) (hop19 : op ≠ 19) :
    Calls Tryd.prog 34 #[.agg #[.int .i64 op, .int .i64 wd, .int .i64 n, .string ⟨#[]⟩, s]] w fun e w' => e = .returned (.bool (false)) ∧ Below w.heap.size w w' := by
  obtain ⟨_, ⟨_, q, cap, rfl, _⟩, _⟩ := his
  have KW := Lib.hid (fun W => s_wd wd W)
  rw [hw] at KW
  have hn_0 : ((n : Int) == 0) = false := by simpa using hn0
  have gn_0 : ((n : Int) != 0) = true := by simpa using hn0
  have hop_0 : ((op : Int) == 0) = false := by simpa using hop0
  have gop_0 : ((op : Int) != 0) = true := by simpa using hop0
  have hop_19 : ((op : Int) == 19) = false := by simpa using hop19
  have gop_19 : ((op : Int) != 19) = true := by simpa using hop19
  go_enter Tryd.func34, Tryd.ntmps34
  go_wp2_with (go_at_call 37; refine (KW.out _).mono ?_; rintro e w1 ⟨rfl, rfl⟩)
  go_ret
  exact ⟨rfl, (Below.refl _ _).alloc (Nat.le_refl _) _⟩
set_option maxRecDepth 100000 in
set_option maxHeartbeats 2000000 in
theorem nd_bad_n2 (wd n : Int) (nm : ByteArray) (s : Value) (k : Fo) (w : World) (his : (k.cs 29).Is w 0 5 k.len s) (hw : wdB wd = true) (hnm : nm.toList.isEmpty = false) (hn0 : n ≠ 0) :
    Calls Tryd.prog 34 #[.agg #[.int .i64 22, .int .i64 wd, .int .i64 n, .string nm, s]] w fun e w' => e = .returned (.bool (false)) ∧ Below w.heap.size w w' := by
  obtain ⟨_, ⟨_, q, cap, rfl, _⟩, _⟩ := his
  have KW := Lib.hid (fun W => s_wd wd W)
  rw [hw] at KW
  have hne : (!nm.toList.isEmpty) = true := by rw [hnm]; rfl
  have hn_0 : ((n : Int) == 0) = false := by simpa using hn0
  have gn_0 : ((n : Int) != 0) = true := by simpa using hn0
  go_enter Tryd.func34, Tryd.ntmps34
  go_wp2_with (go_at_call 37; refine (KW.out _).mono ?_; rintro e w1 ⟨rfl, rfl⟩)
  go_ret
  exact ⟨rfl, (Below.refl _ _).alloc (Nat.le_refl _) _⟩
end Go.Proofs.YtkgdmamafemniaaDoor
