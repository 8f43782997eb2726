/- The law FnExactConstTerm, walked by the contracts of all that it calls. -/
import Derived.Test.YtbpkpkcaliihiaaNilT
import Derived.Test.YtbpkpkcaliihiaaWk
namespace Go.Proofs.Ytbpkpkcaliihiaa
open Go.ChangeShapes Go.WideShapes Go.ChangeAt Go.RowKit
theorem s_l02Const (w n : Int) (W : World) : Calls Try.prog 72 #[.int .i64 w, .int .i64 n] W fun e W' => e = .returned (.agg #[.int .i64 0, .int .i64 w, .int .i64 n, .string ⟨#[]⟩, .slice none 0 0]) ∧ Below W.heap.size W W' := by
  go_enter Try.func72, Try.ntmps72
  go_wp2
  refine bodyPost_ret (v := .agg #[.int .i64 0, .int .i64 w, .int .i64 n, .string ⟨#[]⟩, .slice none 0 0]) (by simp [results, Try.results72, go_sem]) rfl ⟨rfl, ?_⟩
  repeat (first | refine Below.setCell ?_ (by first | (simp; done) | (simp; omega)) _ | refine Below.alloc ?_ (by first | (simp; done) | (simp; omega)) _ | exact Below.refl _ _)
theorem s_const_true (w n : Int) (h : wkB w n = true) (W : World) : Calls Try.prog 37 #[.int .i64 w, .int .i64 n] W fun e W' => e = .returned (.agg #[.int .i64 0, .int .i64 w, .int .i64 n, .string ⟨#[]⟩, .slice none 0 0]) ∧ Below W.heap.size W W' := by
  have K := Lib.hid (fun W => s_wk w n W)
  rw [h] at K
  clear h
  go_enter Try.func37, Try.ntmps37
  go_wp2_with (first | (go_at_call 55; refine (K.out _).mono ?_; rintro e w1 ⟨rfl, rfl⟩) | (go_at_call 72; refine (s_l02Const w n _).mono ?_; rintro e w1 ⟨rfl, hb1⟩; obtain ⟨hc, hf⟩ := bcell hb1; have hz : W.heap.size < w1.heap.size := (by have := hb1.size; simp at this; omega); have HB := Lib.hid (((Below.refl W.heap.size W).alloc (Nat.le_refl _) (.cells #[.int .i64 0, .int .i64 0, .int .i64 0, .string ⟨#[]⟩, .slice none 0 0] 29)).trans (hb1.mono (by simp))); clear hb1))
  refine bodyPost_ret (v := .agg #[.int .i64 0, .int .i64 w, .int .i64 n, .string ⟨#[]⟩, .slice none 0 0]) (by simp [results, Try.results37, go_sem, hc]) rfl ⟨rfl, ?_⟩
  repeat (first | refine Below.setCell ?_ (by first | (simp; done) | (simp; omega)) _ | refine Below.alloc ?_ (by first | (simp; done) | (simp; omega)) _ | exact HB.out)
theorem s_const_false (w n : Int) (h : wkB w n = false) (W : World) : Calls Try.prog 37 #[.int .i64 w, .int .i64 n] W fun e W' => e = .returned (.agg #[.int .i64 0, .int .i64 0, .int .i64 0, .string ⟨#[]⟩, .slice none 0 0]) ∧ Below W.heap.size W W' := by
  have K := Lib.hid (fun W => s_wk w n W)
  rw [h] at K
  clear h
  go_enter Try.func37, Try.ntmps37
  go_wp2_with (first | (go_at_call 55; refine (K.out _).mono ?_; rintro e w1 ⟨rfl, rfl⟩))
  refine bodyPost_ret (v := .agg #[.int .i64 0, .int .i64 0, .int .i64 0, .string ⟨#[]⟩, .slice none 0 0]) (by simp [results, Try.results37, go_sem]) rfl ⟨rfl, ?_⟩
  repeat (first | refine Below.setCell ?_ (by first | (simp; done) | (simp; omega)) _ | refine Below.alloc ?_ (by first | (simp; done) | (simp; omega)) _ | exact Below.refl _ _)
theorem i_const_true (w n : Int) (h : wkB w n = true) (W : World) : Calls Try.prog 38 #[.int .i64 w, .int .i64 n] W fun e W' => e = .returned (.agg #[.int .i64 0, .int .i64 w, .int .i64 n, .string ⟨#[]⟩, .slice none 0 0]) ∧ Below W.heap.size W W' := by
  have K := Lib.hid (fun W => i_wk w n W)
  rw [h] at K
  clear h
  go_enter Try.func38, Try.ntmps38
  go_wp2_with (first | (go_at_call 58; refine (K.out _).mono ?_; rintro e w1 ⟨rfl, rfl⟩))
  refine bodyPost_ret (v := .agg #[.int .i64 0, .int .i64 w, .int .i64 n, .string ⟨#[]⟩, .slice none 0 0]) (by simp [results, Try.results38, go_sem]) rfl ⟨rfl, ?_⟩
  repeat (first | refine Below.setCell ?_ (by first | (simp; done) | (simp; omega)) _ | refine Below.alloc ?_ (by first | (simp; done) | (simp; omega)) _ | exact Below.refl _ _)
theorem i_const_false (w n : Int) (h : wkB w n = false) (W : World) : Calls Try.prog 38 #[.int .i64 w, .int .i64 n] W fun e W' => e = .returned (.agg #[.int .i64 0, .int .i64 0, .int .i64 0, .string ⟨#[]⟩, .slice none 0 0]) ∧ Below W.heap.size W W' := by
  have K := Lib.hid (fun W => i_wk w n W)
  rw [h] at K
  clear h
  go_enter Try.func38, Try.ntmps38
  go_wp2_with (first | (go_at_call 58; refine (K.out _).mono ?_; rintro e w1 ⟨rfl, rfl⟩))
  refine bodyPost_ret (v := .agg #[.int .i64 0, .int .i64 0, .int .i64 0, .string ⟨#[]⟩, .slice none 0 0]) (by simp [results, Try.results38, go_sem]) rfl ⟨rfl, ?_⟩
  repeat (first | refine Below.setCell ?_ (by first | (simp; done) | (simp; omega)) _ | refine Below.alloc ?_ (by first | (simp; done) | (simp; omega)) _ | exact Below.refl _ _)
set_option maxRecDepth 100000 in
set_option maxHeartbeats 2000000 in
theorem law_ConstTerm_of (a0 a1 : Int) (op wd n : Int) (nm : ByteArray) (w : World) 
    (KS : Hid (∀ W, Calls Try.prog 37 #[.int .i64 a0, .int .i64 a1] W fun e W' => e = .returned (.agg #[.int .i64 op, .int .i64 wd, .int .i64 n, .string nm, .slice none 0 0]) ∧ Below W.heap.size W W')) (KI : Hid (∀ W, Calls Try.prog 38 #[.int .i64 a0, .int .i64 a1] W fun e W' => e = .returned (.agg #[.int .i64 op, .int .i64 wd, .int .i64 n, .string nm, .slice none 0 0]) ∧ Below W.heap.size W W')) :
    Calls Try.prog 10 #[.int .i64 a0, .int .i64 a1] w fun e w' => e = .returned (.bool true) ∧ Below w.heap.size w w' := by
  go_enter Try.func10, Try.ntmps10
  go_wp2_with fail
  refine (KS.out _).mono ?_
  rintro e w1 ⟨rfl, hb1⟩
  have B1 := Lib.hid hb1
  have W0 := Lib.hid (cell5_alloc w1 29 (.int .i64 op) (.int .i64 wd) (.int .i64 n) (.string nm) (.slice none 0 0))
  have C1 := Lib.hid (B1.out.alloc B1.out.size (.cells #[.int .i64 op, .int .i64 wd, .int .i64 n, .string nm, .slice none 0 0] 29))
  have hz1 := hb1.size
  clear hb1
  go_wp2_with fail
  refine (KI.out _).mono ?_
  rintro e w2 ⟨rfl, hb2⟩
  have W2 := Lib.hid (W0.out.below hb2)
  have hz2 : w1.heap.size < w2.heap.size := by have := hb2.size; simp at this; omega
  have C2 := Lib.hid (C1.out.trans (hb2.mono C1.out.size))
  clear hb2
  have hal := (Below.refl w2.heap.size w2).alloc (Nat.le_refl _) (.cells #[.int .i64 op, .int .i64 wd, .int .i64 n, .string nm, .slice none 0 0] 29)
  have G3 := Lib.hid (cell5_alloc w2 29 (.int .i64 op) (.int .i64 wd) (.int .i64 n) (.string nm) (.slice none 0 0))
  have W3 := Lib.hid (W2.out.below hal)
  have C3 := Lib.hid (C2.out.trans (hal.mono C2.out.size))
  clear hal
  obtain ⟨x0, x1, x2, x3, x4⟩ := W2.out
  go_wp2_with fail
  clear x0 x1 x2 x3 x4
  refine (eq0 op wd n nm _).mono ?_
  rintro e w4 ⟨rfl, hb4⟩
  have G4 := Lib.hid (G3.out.below hb4)
  have W4 := Lib.hid (W3.out.below hb4)
  have C4 := Lib.hid (C3.out.trans (hb4.mono C3.out.size))
  clear hb4
  obtain ⟨g0, g1, g2, g3, g4⟩ := G4.out
  go_wp2_with fail
  clear g0 g1 g2 g3 g4
  refine (mk0 op wd n nm 1 _).mono ?_
  rintro e w5 ⟨rfl, hb5⟩
  have G5 := Lib.hid (G4.out.below hb5)
  have W5 := Lib.hid (W4.out.below hb5)
  have C5 := Lib.hid (C4.out.trans (hb5.mono C4.out.size))
  clear hb5
  obtain ⟨g0, g1, g2, g3, g4⟩ := G5.out
  go_wp2_with fail
  clear g0 g1 g2 g3 g4
  refine (hd0 op wd n nm 1 _).mono ?_
  rintro e w6 ⟨rfl, hb6⟩
  have G6 := Lib.hid (G5.out.below hb6)
  have W6 := Lib.hid (W5.out.below hb6)
  have C6 := Lib.hid (C5.out.trans (hb6.mono C5.out.size))
  clear hb6
  go_wp2_with fail
  refine (KI.out _).mono ?_
  rintro e w7 ⟨rfl, hb7⟩
  have G7 := Lib.hid (G6.out.below hb7)
  have W7 := Lib.hid (W6.out.below hb7)
  have C7 := Lib.hid (C6.out.trans (hb7.mono C6.out.size))
  clear hb7
  have hz7 : w1.heap.size < w7.heap.size := by have := (World.block_lt_of_cell? w7 _ W7.out.1); exact this
  have hal := (Below.refl w7.heap.size w7).alloc (Nat.le_refl _) (.cells #[.int .i64 op, .int .i64 wd, .int .i64 n, .string nm, .slice none 0 0] 29)
  have G8 := Lib.hid (G7.out.below hal)
  have C8 := Lib.hid (C7.out.trans (hal.mono C7.out.size))
  clear hal
  obtain ⟨x0, x1, x2, x3, x4⟩ := W7.out
  go_wp2_with fail
  clear x0 x1 x2 x3 x4
  refine (eq0 op wd n nm _).mono ?_
  rintro e w9 ⟨rfl, hb9⟩
  have G9 := Lib.hid (G8.out.below hb9)
  have C9 := Lib.hid (C8.out.trans (hb9.mono C8.out.size))
  clear hb9
  obtain ⟨g0, g1, g2, g3, g4⟩ := G9.out
  go_wp2_with fail
  clear g0 g1 g2 g3 g4
  refine (hd0 op wd n nm 1 _).mono ?_
  rintro e w10 ⟨rfl, hb10⟩
  have C10 := Lib.hid (C9.out.trans (hb10.mono C9.out.size))
  clear hb10
  go_wp2
  go_ret
  exact ⟨rfl, C10.out⟩
theorem law_const (a0 a1 : Int) (w : World) : Calls Try.prog 10 #[.int .i64 a0, .int .i64 a1] w fun e w' => e = .returned (.bool true) ∧ Below w.heap.size w w' := by
  cases h : wkB a0 a1 with
  | true => exact law_ConstTerm_of a0 a1 0 a0 a1 ⟨#[]⟩ w (Lib.hid (s_const_true a0 a1 h)) (Lib.hid (i_const_true a0 a1 h))
  | false => exact law_ConstTerm_of a0 a1 0 0 0 ⟨#[]⟩ w (Lib.hid (s_const_false a0 a1 h)) (Lib.hid (i_const_false a0 a1 h))
end Go.Proofs.Ytbpkpkcaliihiaa
