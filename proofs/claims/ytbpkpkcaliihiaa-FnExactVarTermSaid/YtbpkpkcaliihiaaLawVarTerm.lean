/- The law FnExactVarTerm, walked by the contracts of all that it calls. -/
import Derived.Test.YtbpkpkcaliihiaaNilT
import Derived.Test.YtbpkpkcaliihiaaWk
import Derived.Test.YtbpkpkcaliihiaaNm
namespace Go.Proofs.Ytbpkpkcaliihiaa
open Go.ChangeShapes Go.WideShapes Go.ChangeAt Go.RowKit
theorem s_var_false (w : Int) (nm : ByteArray) (hs : nm.size ≤ 1048576) (h : (wdB w && nmB nm) = false) (W : World) : Calls Try.prog 39 #[.int .i64 w, .string nm] W fun e W' => e = .returned (.agg #[.int .i64 0, .int .i64 0, .int .i64 0, .string ⟨#[]⟩, .slice none 0 0]) ∧ Below W.heap.size W W' := by
  rcases wd_cases w with ⟨h1, he⟩ | ⟨h1, h2, he⟩ | ⟨h1, h2, he⟩
  · clear h
    have KW := Lib.hid (fun W => s_wd w W)
    rw [he] at KW
    clear he
    go_enter Try.func39, Try.ntmps39
    go_wp2_with (go_at_call 73; refine (KW.out _).mono ?_; rintro e w1 ⟨rfl, rfl⟩)
    refine bodyPost_ret (v := .agg #[.int .i64 0, .int .i64 0, .int .i64 0, .string ⟨#[]⟩, .slice none 0 0]) (by simp [results, Try.results39, go_sem]) rfl ⟨rfl, ?_⟩
    repeat (first | refine Below.setCell ?_ (by first | (simp; done) | (simp; omega)) _ | refine Below.alloc ?_ (by first | (simp; done) | (simp; omega)) _ | exact Below.refl _ _)
  · clear h
    have KW := Lib.hid (fun W => s_wd w W)
    rw [he] at KW
    clear he
    have hx : decide (w ≤ 16) = false := by simp; omega
    go_enter Try.func39, Try.ntmps39
    go_wp2_with (go_at_call 73; refine (KW.out _).mono ?_; rintro e w1 ⟨rfl, rfl⟩)
    refine bodyPost_ret (v := .agg #[.int .i64 0, .int .i64 0, .int .i64 0, .string ⟨#[]⟩, .slice none 0 0]) (by simp [results, Try.results39, go_sem]) rfl ⟨rfl, ?_⟩
    repeat (first | refine Below.setCell ?_ (by first | (simp; done) | (simp; omega)) _ | refine Below.alloc ?_ (by first | (simp; done) | (simp; omega)) _ | exact Below.refl _ _)
  · have hn : nmB nm = false := by rw [he] at h; simpa using h
    have KN := Lib.hid (fun W => s_isName nm hs W)
    rw [hn] at KN
    have KW := Lib.hid (fun W => s_wd w W)
    rw [he] at KW
    clear he h hn
    go_enter Try.func39, Try.ntmps39
    go_wp2_with (first | (go_at_call 73; refine (KW.out _).mono ?_; rintro e w1 ⟨rfl, rfl⟩) | (go_at_call 54; refine (KN.out _).mono ?_; rintro e w1 ⟨rfl, rfl⟩))
    refine bodyPost_ret (v := .agg #[.int .i64 0, .int .i64 0, .int .i64 0, .string ⟨#[]⟩, .slice none 0 0]) (by simp [results, Try.results39, go_sem]) rfl ⟨rfl, ?_⟩
    repeat (first | refine Below.setCell ?_ (by first | (simp; done) | (simp; omega)) _ | refine Below.alloc ?_ (by first | (simp; done) | (simp; omega)) _ | exact Below.refl _ _)
theorem s_var_true (w : Int) (nm : ByteArray) (hs : nm.size ≤ 1048576) (h : (wdB w && nmB nm) = true) (W : World) : Calls Try.prog 39 #[.int .i64 w, .string nm] W fun e W' => e = .returned (.agg #[.int .i64 22, .int .i64 w, .int .i64 0, .string nm, .slice none 0 0]) ∧ Below W.heap.size W W' := by
  rcases wd_cases w with ⟨h1, he⟩ | ⟨h1, h2, he⟩ | ⟨h1, h2, he⟩
  · rw [he] at h; simp at h
  · rw [he] at h; simp at h
  · have hn : nmB nm = true := by rw [he] at h; simpa using h
    have KN := Lib.hid (fun W => s_isName nm hs W)
    rw [hn] at KN
    have KW := Lib.hid (fun W => s_wd w W)
    rw [he] at KW
    clear he h hn
    go_enter Try.func39, Try.ntmps39
    go_wp2_with (first | (go_at_call 73; refine (KW.out _).mono ?_; rintro e w1 ⟨rfl, rfl⟩) | (go_at_call 54; refine (KN.out _).mono ?_; rintro e w1 ⟨rfl, rfl⟩))
    refine bodyPost_ret (v := .agg #[.int .i64 22, .int .i64 w, .int .i64 0, .string nm, .slice none 0 0]) (by simp [results, Try.results39, go_sem]) rfl ⟨rfl, ?_⟩
    repeat (first | refine Below.setCell ?_ (by first | (simp; done) | (simp; omega)) _ | refine Below.alloc ?_ (by first | (simp; done) | (simp; omega)) _ | exact Below.refl _ _)
theorem i_var_false (w : Int) (nm : ByteArray) (hs : nm.size ≤ 1048576) (h : (wdB w && nmB nm) = false) (W : World) : Calls Try.prog 40 #[.int .i64 w, .string nm] W fun e W' => e = .returned (.agg #[.int .i64 0, .int .i64 0, .int .i64 0, .string ⟨#[]⟩, .slice none 0 0]) ∧ Below W.heap.size W W' := by
  rcases wd_cases w with ⟨h1, he⟩ | ⟨h1, h2, he⟩ | ⟨h1, h2, he⟩
  · clear h
    have KW := Lib.hid (fun W => i_wd w W)
    rw [he] at KW
    clear he
    go_enter Try.func40, Try.ntmps40
    go_wp2_with (go_at_call 74; refine (KW.out _).mono ?_; rintro e w1 ⟨rfl, rfl⟩)
    refine bodyPost_ret (v := .agg #[.int .i64 0, .int .i64 0, .int .i64 0, .string ⟨#[]⟩, .slice none 0 0]) (by simp [results, Try.results40, go_sem]) rfl ⟨rfl, ?_⟩
    repeat (first | refine Below.setCell ?_ (by first | (simp; done) | (simp; omega)) _ | refine Below.alloc ?_ (by first | (simp; done) | (simp; omega)) _ | exact Below.refl _ _)
  · clear h
    have KW := Lib.hid (fun W => i_wd w W)
    rw [he] at KW
    clear he
    have hx : decide (w ≤ 16) = false := by simp; omega
    go_enter Try.func40, Try.ntmps40
    go_wp2_with (go_at_call 74; refine (KW.out _).mono ?_; rintro e w1 ⟨rfl, rfl⟩)
    refine bodyPost_ret (v := .agg #[.int .i64 0, .int .i64 0, .int .i64 0, .string ⟨#[]⟩, .slice none 0 0]) (by simp [results, Try.results40, go_sem]) rfl ⟨rfl, ?_⟩
    repeat (first | refine Below.setCell ?_ (by first | (simp; done) | (simp; omega)) _ | refine Below.alloc ?_ (by first | (simp; done) | (simp; omega)) _ | exact Below.refl _ _)
  · have hn : nmB nm = false := by rw [he] at h; simpa using h
    have KN := Lib.hid (fun W => i_isName nm hs W)
    rw [hn] at KN
    have KW := Lib.hid (fun W => i_wd w W)
    rw [he] at KW
    clear he h hn
    go_enter Try.func40, Try.ntmps40
    go_wp2_with (first | (go_at_call 74; refine (KW.out _).mono ?_; rintro e w1 ⟨rfl, rfl⟩) | (go_at_call 57; refine (KN.out _).mono ?_; rintro e w1 ⟨rfl, hb1⟩; obtain ⟨hc, hf⟩ := bcell hb1; have hz : W.heap.size < w1.heap.size := (by have := hb1.size; simp at this; omega); have HB := Lib.hid (((Below.refl W.heap.size W).alloc (Nat.le_refl _) (.cells #[.int .i64 0, .int .i64 0, .int .i64 0, .string ⟨#[]⟩, .slice none 0 0] 29)).trans (hb1.mono (by simp))); clear hb1))
    refine bodyPost_ret (v := .agg #[.int .i64 0, .int .i64 0, .int .i64 0, .string ⟨#[]⟩, .slice none 0 0]) (by simp [results, Try.results40, go_sem, hc]) rfl ⟨rfl, ?_⟩
    repeat (first | refine Below.setCell ?_ (by first | (simp; done) | (simp; omega)) _ | refine Below.alloc ?_ (by first | (simp; done) | (simp; omega)) _ | exact HB.out)
theorem i_var_true (w : Int) (nm : ByteArray) (hs : nm.size ≤ 1048576) (h : (wdB w && nmB nm) = true) (W : World) : Calls Try.prog 40 #[.int .i64 w, .string nm] W fun e W' => e = .returned (.agg #[.int .i64 22, .int .i64 w, .int .i64 0, .string nm, .slice none 0 0]) ∧ Below W.heap.size W W' := by
  rcases wd_cases w with ⟨h1, he⟩ | ⟨h1, h2, he⟩ | ⟨h1, h2, he⟩
  · rw [he] at h; simp at h
  · rw [he] at h; simp at h
  · have hn : nmB nm = true := by rw [he] at h; simpa using h
    have KN := Lib.hid (fun W => i_isName nm hs W)
    rw [hn] at KN
    have KW := Lib.hid (fun W => i_wd w W)
    rw [he] at KW
    clear he h hn
    go_enter Try.func40, Try.ntmps40
    go_wp2_with (first | (go_at_call 74; refine (KW.out _).mono ?_; rintro e w1 ⟨rfl, rfl⟩) | (go_at_call 57; refine (KN.out _).mono ?_; rintro e w1 ⟨rfl, hb1⟩; obtain ⟨hc, hf⟩ := bcell hb1; have hz : W.heap.size < w1.heap.size := (by have := hb1.size; simp at this; omega); have HB := Lib.hid (((Below.refl W.heap.size W).alloc (Nat.le_refl _) (.cells #[.int .i64 0, .int .i64 0, .int .i64 0, .string ⟨#[]⟩, .slice none 0 0] 29)).trans (hb1.mono (by simp))); clear hb1))
    refine bodyPost_ret (v := .agg #[.int .i64 22, .int .i64 w, .int .i64 0, .string nm, .slice none 0 0]) (by simp [results, Try.results40, go_sem, hc]) rfl ⟨rfl, ?_⟩
    repeat (first | refine Below.setCell ?_ (by first | (simp; done) | (simp; omega)) _ | refine Below.alloc ?_ (by first | (simp; done) | (simp; omega)) _ | exact HB.out)
set_option maxRecDepth 100000 in
set_option maxHeartbeats 2000000 in
theorem law_VarTerm_of (a0 : Int) (a1 : ByteArray) (op wd n : Int) (nm : ByteArray) (w : World) (hs : a1.size ≤ 1048576)
    (KS : Hid (∀ W, Calls Try.prog 39 #[.int .i64 a0, .string a1] W fun e W' => e = .returned (.agg #[.int .i64 op, .int .i64 wd, .int .i64 n, .string nm, .slice none 0 0]) ∧ Below W.heap.size W W')) (KI : Hid (∀ W, Calls Try.prog 40 #[.int .i64 a0, .string a1] W fun e W' => e = .returned (.agg #[.int .i64 op, .int .i64 wd, .int .i64 n, .string nm, .slice none 0 0]) ∧ Below W.heap.size W W')) :
    Calls Try.prog 11 #[.int .i64 a0, .string a1] w fun e w' => e = .returned (.bool true) ∧ Below w.heap.size w w' := by
  go_enter Try.func11, Try.ntmps11
  go_wp2_with fail
  refine (KS.out _).mono ?_
  rintro e w1 ⟨rfl, hb1⟩
  have B1 := Lib.hid hb1
  have W0 := Lib.hid (cell5_alloc w1 29 (.int .i64 op) (.int .i64 wd) (.int .i64 n) (.string nm) (.slice none 0 0))
  have C1 := Lib.hid (B1.out.alloc B1.out.size (.cells #[.int .i64 op, .int .i64 wd, .int .i64 n, .string nm, .slice none 0 0] 29))
  have hz1 := hb1.size
  clear hb1
  go_wp2_with fail
  refine (KI.out _).mono ?_
  rintro e w2 ⟨rfl, hb2⟩
  have W2 := Lib.hid (W0.out.below hb2)
  have hz2 : w1.heap.size < w2.heap.size := by have := hb2.size; simp at this; omega
  have C2 := Lib.hid (C1.out.trans (hb2.mono C1.out.size))
  clear hb2
  have hal := (Below.refl w2.heap.size w2).alloc (Nat.le_refl _) (.cells #[.int .i64 op, .int .i64 wd, .int .i64 n, .string nm, .slice none 0 0] 29)
  have G3 := Lib.hid (cell5_alloc w2 29 (.int .i64 op) (.int .i64 wd) (.int .i64 n) (.string nm) (.slice none 0 0))
  have W3 := Lib.hid (W2.out.below hal)
  have C3 := Lib.hid (C2.out.trans (hal.mono C2.out.size))
  clear hal
  obtain ⟨x0, x1, x2, x3, x4⟩ := W2.out
  go_wp2_with fail
  clear x0 x1 x2 x3 x4
  refine (eq0 op wd n nm _).mono ?_
  rintro e w4 ⟨rfl, hb4⟩
  have G4 := Lib.hid (G3.out.below hb4)
  have W4 := Lib.hid (W3.out.below hb4)
  have C4 := Lib.hid (C3.out.trans (hb4.mono C3.out.size))
  clear hb4
  obtain ⟨g0, g1, g2, g3, g4⟩ := G4.out
  go_wp2_with fail
  clear g0 g1 g2 g3 g4
  refine (mk0 op wd n nm 1 _).mono ?_
  rintro e w5 ⟨rfl, hb5⟩
  have G5 := Lib.hid (G4.out.below hb5)
  have W5 := Lib.hid (W4.out.below hb5)
  have C5 := Lib.hid (C4.out.trans (hb5.mono C4.out.size))
  clear hb5
  obtain ⟨g0, g1, g2, g3, g4⟩ := G5.out
  go_wp2_with fail
  clear g0 g1 g2 g3 g4
  refine (hd0 op wd n nm 1 _).mono ?_
  rintro e w6 ⟨rfl, hb6⟩
  have G6 := Lib.hid (G5.out.below hb6)
  have W6 := Lib.hid (W5.out.below hb6)
  have C6 := Lib.hid (C5.out.trans (hb6.mono C5.out.size))
  clear hb6
  go_wp2_with fail
  refine (KI.out _).mono ?_
  rintro e w7 ⟨rfl, hb7⟩
  have G7 := Lib.hid (G6.out.below hb7)
  have W7 := Lib.hid (W6.out.below hb7)
  have C7 := Lib.hid (C6.out.trans (hb7.mono C6.out.size))
  clear hb7
  have hz7 : w1.heap.size < w7.heap.size := by have := (World.block_lt_of_cell? w7 _ W7.out.1); exact this
  have hal := (Below.refl w7.heap.size w7).alloc (Nat.le_refl _) (.cells #[.int .i64 op, .int .i64 wd, .int .i64 n, .string nm, .slice none 0 0] 29)
  have G8 := Lib.hid (G7.out.below hal)
  have C8 := Lib.hid (C7.out.trans (hal.mono C7.out.size))
  clear hal
  obtain ⟨x0, x1, x2, x3, x4⟩ := W7.out
  go_wp2_with fail
  clear x0 x1 x2 x3 x4
  refine (eq0 op wd n nm _).mono ?_
  rintro e w9 ⟨rfl, hb9⟩
  have G9 := Lib.hid (G8.out.below hb9)
  have C9 := Lib.hid (C8.out.trans (hb9.mono C8.out.size))
  clear hb9
  obtain ⟨g0, g1, g2, g3, g4⟩ := G9.out
  go_wp2_with fail
  clear g0 g1 g2 g3 g4
  refine (hd0 op wd n nm 1 _).mono ?_
  rintro e w10 ⟨rfl, hb10⟩
  have C10 := Lib.hid (C9.out.trans (hb10.mono C9.out.size))
  clear hb10
  go_wp2
  go_ret
  exact ⟨rfl, C10.out⟩
theorem law_var (a0 : Int) (a1 : ByteArray) (w : World) : Calls Try.prog 11 #[.int .i64 a0, .string a1] w fun e w' => e = .returned (.bool true) ∧ Below w.heap.size w w' := by
  by_cases hs : a1.size ≤ 1048576
  · cases h : (wdB a0 && nmB a1) with
    | true => exact law_VarTerm_of a0 a1 22 a0 0 a1 w hs (Lib.hid (s_var_true a0 a1 hs h)) (Lib.hid (i_var_true a0 a1 hs h))
    | false => exact law_VarTerm_of a0 a1 0 0 0 ⟨#[]⟩ w hs (Lib.hid (s_var_false a0 a1 hs h)) (Lib.hid (i_var_false a0 a1 hs h))
  · have hs' : 1048576 < a1.size := by omega
    go_enter Try.func11, Try.ntmps11
    go_wp2
    go_ret
    exact ⟨rfl, Below.refl _ _⟩
end Go.Proofs.Ytbpkpkcaliihiaa
