/- What NewSession returns, both sides; marks of a session without tests. No condition. -/
import Derived.Test.YtbbalmeglgecgaaSeO
import Derived.Test.YtbbalmeglgecgaaMkProg
import Derived.Test.YtbbalmeglgecgaaHdIns
import Derived.Test.YtbbalmeglgecgaaMkIntSS
import Derived.Deep.RegionWith
namespace Go.Proofs.Ytbbalmeglgecgaa
open Go.ChangeShapes Go.WideShapes Go.ChangeAt Go.RowKit
def nwL : List InsR := [⟨14, 0, 0, 0⟩]
def NwEnd (w : World) (e : Ending) (w' : World) : Prop := Below w.heap.size w w' ∧ ∃ g, e = .returned (.agg #[.int .i64 4, .int .i64 1, .int .i64 1, .slice (some ⟨g, 0, none⟩) nwL.length nwL.length, .int .i64 20, .slice none 0 0]) ∧ w'.ownsRow w.heap.size 68 4 (.slice (some ⟨g, 0, none⟩) nwL.length nwL.length) nwL.length (InsR.all nwL)
theorem nw_end (w : World) : NwEnd w (.returned (.agg #[.int .i64 4, .int .i64 1, .int .i64 1, .slice (some ⟨w.heap.size + 1, 0, none⟩) 1 1, .int .i64 20, .slice none 0 0])) ((w.alloc (.cells #[.int .i64 4, .int .i64 1, .int .i64 1, .slice (some ⟨w.heap.size + 1, 0, none⟩) 1 1, .int .i64 20, .slice none 0 0] 27)).alloc (.cells #[.int .i64 14, .int .i64 0, .int .i64 0, .int .i64 0] 68)) := by
  refine ⟨((Below.refl _ _).alloc (Nat.le_refl _) _).alloc (by simp) _, w.heap.size + 1, rfl, rfl, .inr ⟨w.heap.size + 1, 1, #[.int .i64 14, .int .i64 0, .int .i64 0, .int .i64 0], rfl, by omega, ?_, Nat.le_refl _, by decide, ?_, ?_⟩⟩
  · have := heap_alloc_new (w.alloc (.cells #[.int .i64 4, .int .i64 1, .int .i64 1, .slice (some ⟨w.heap.size + 1, 0, none⟩) 1 1, .int .i64 20, .slice none 0 0] 27)) (.cells #[.int .i64 14, .int .i64 0, .int .i64 0, .int .i64 0] 68)
    rw [show (w.alloc (.cells #[.int .i64 4, .int .i64 1, .int .i64 1, .slice (some ⟨w.heap.size + 1, 0, none⟩) 1 1, .int .i64 20, .slice none 0 0] 27)).heap.size = w.heap.size + 1 by simp] at this
    exact this
  · rfl
  · rfl
set_option maxRecDepth 100000 in
set_option maxHeartbeats 1000000 in
theorem s_newsess (w : World) : Calls Try.prog 8 #[] w (NwEnd w) := by
  have HE := Lib.hid (nw_end w)
  go_enter Try.func8, Try.ntmps8
  go_wp2
  have e0 := cell6_alloc w 27 (.int .i64 4) (.int .i64 1) (.int .i64 1) (.slice (some ⟨w.heap.size + 1, 0, none⟩) 1 1) (.int .i64 20) (.slice none 0 0)
  have e1 := e0.below ((Below.refl _ _).alloc (Nat.le_refl _) (.cells #[.int .i64 14, .int .i64 0, .int .i64 0, .int .i64 0] 68))
  obtain ⟨c0, c1, c2, c3, c4, c5⟩ := e1
  exact bodyPost_ret (v := .agg #[.int .i64 4, .int .i64 1, .int .i64 1, .slice (some ⟨w.heap.size + 1, 0, none⟩) 1 1, .int .i64 20, .slice none 0 0]) (by simp [results, Try.results8, go_sem, c0, c1, c2, c3, c4, c5]) rfl HE.out
set_option maxRecDepth 100000 in
set_option maxHeartbeats 1000000 in
theorem i_newsess (w : World) : Calls Try.prog 9 #[] w (NwEnd w) := by
  have HE := Lib.hid (nw_end w)
  go_enter Try.func9, Try.ntmps9
  go_wp2
  have e0 := cell6_alloc w 27 (.int .i64 4) (.int .i64 1) (.int .i64 1) (.slice (some ⟨w.heap.size + 1, 0, none⟩) 1 1) (.int .i64 20) (.slice none 0 0)
  have e1 := e0.below ((Below.refl _ _).alloc (Nat.le_refl _) (.cells #[.int .i64 14, .int .i64 0, .int .i64 0, .int .i64 0] 68))
  obtain ⟨c0, c1, c2, c3, c4, c5⟩ := e1
  exact bodyPost_ret (v := .agg #[.int .i64 4, .int .i64 1, .int .i64 1, .slice (some ⟨w.heap.size + 1, 0, none⟩) 1 1, .int .i64 20, .slice none 0 0]) (by simp [results, Try.results9, go_sem, c0, c1, c2, c3, c4, c5]) rfl HE.out
theorem is_nil (w : World) : (Cs.rows IntSS.c ([] : List (List Int))).Is w 0 1 0 (.slice none 0 0) := ⟨[], ⟨rfl, none, 0, rfl, Nat.le_refl _, by decide, fun _ => rfl, fun a h => by cases h⟩, rfl⟩
theorem eq_SessNw (q1 q2 : Value) (w : World) (h1 : Cs.Shows w 0 4 q1 nwL.length (InsR.all nwL)) (h2 : Cs.Shows w 0 4 q2 nwL.length (InsR.all nwL)) :
    Calls Try.prog 10 #[.agg #[.int .i64 4, .int .i64 1, .int .i64 1, q1, .int .i64 20, .slice none 0 0], .agg #[.int .i64 4, .int .i64 1, .int .i64 1, q2, .int .i64 20, .slice none 0 0]] w fun e w' => e = .returned (.bool true) ∧ Below w.heap.size w w' :=
  eq_Session 4 1 1 20 nwL [] q1 (.slice none 0 0) q2 (.slice none 0 0) w h1 (is_nil w) h2 (is_nil w) (by decide) (by decide)
set_option maxRecDepth 100000 in
set_option maxHeartbeats 1000000 in
theorem mark_Session (vw vm vi fu : Int) (L : List InsR) (q : Option Addr) (cap k base : Nat) (w : World) (ho : w.ownsRow base 68 4 (.slice q L.length cap) L.length (InsR.all L)) (h1 : 1 ≤ k) (hk : k + 4 * L.length ≤ 1000000000000) :
    Calls Try.prog 11 #[.agg #[.int .i64 vw, .int .i64 vm, .int .i64 vi, .slice q L.length cap, .int .i64 fu, .slice none 0 0], .int .i64 k] w fun e w' => e = .returned (.int .i64 ((k + 4 * L.length : Nat) : Int)) ∧ w'.ownsRow base 68 4 (.slice q L.length cap) L.length (InsR.all (InsR.mkrs L k)) ∧ Apart (Value.slice q L.length cap).ownBlock.toList w w' := by
  have KM := Lib.hid (fun W (h : W.ownsRow base 68 4 (.slice q L.length cap) L.length (InsR.all L)) => mark_Program vw vm vi L q cap k base W h h1 hk)
  have KN := Lib.hid (fun W => mark_IntSS_none none 0 (k + 4 * L.length) W)
  obtain ⟨w0, hw0⟩ : ∃ w0, w0 = w.alloc (.cells #[.int .i64 vw, .int .i64 vm, .int .i64 vi, .slice q L.length cap, .int .i64 fu, .slice none 0 0] 27) := ⟨_, rfl⟩
  have HO := Lib.hid (show w0.ownsRow base 68 4 (.slice q L.length cap) L.length (InsR.all L) by rw [hw0]; exact ho.alloc _)
  have HA := Lib.hid (show Apart (Value.slice q L.length cap).ownBlock.toList w w0 by rw [hw0]; exact Apart.of_below ((Below.refl w.heap.size w).alloc (Nat.le_refl _) _))
  have X0 := Lib.hid (show w0.heap[w.heap.size]? = some (.cells #[.int .i64 vw, .int .i64 vm, .int .i64 vi, .slice q L.length cap, .int .i64 fu, .slice none 0 0] 27 (0, 0)) by rw [hw0]; exact heap_alloc_new _ _)
  have HL := Lib.hid (fun g (hg : g ∈ (Value.slice q L.length cap).ownBlock.toList) => (own_lt ho hg).2)
  generalize InsR.mkrs L k = M at *
  generalize hz : ((k + 4 * L.length : Nat) : Int) = z at *
  clear hk ho hz
  go_enter Try.func11, Try.ntmps11
  go_wp2_with fail
  rw [← hw0]
  clear hw0
  refine (KM.out _ HO.out).mono ?_
  rintro e w1 ⟨rfl, ho1, ha1⟩
  have HN := Lib.hid (And.intro ho1 (HA.out.trans ha1))
  have X1 := Lib.hid ((ha1.block _ (Array.getElem?_eq_some_iff.1 X0.out).1 (fun hm => by have := HL.out _ hm; omega)).trans X0.out)
  clear ho1 ha1
  obtain ⟨x0, x1, x2, x3, x4, x5⟩ := cell6_row X1.out
  go_wp2_with fail
  clear x0 x1 x2 x3 x4 x5
  refine (KN.out _).mono ?_
  rintro e w2 ⟨rfl, rfl⟩
  go_wp2
  go_ret
  exact ⟨rfl, HN.out.1, HN.out.2⟩
set_option maxRecDepth 100000 in
set_option maxHeartbeats 1000000 in
theorem held_Session (vw vm vi fu : Int) (L : List InsR) (q : Option Addr) (cap k : Nat) (w : World) (hv : Cs.Shows w 0 4 (.slice q L.length cap) L.length (InsR.all (InsR.mkrs L k))) (h1 : 1 ≤ k) (hk : k + 4 * L.length ≤ 1000000000000) :
    Calls Try.prog 12 #[.agg #[.int .i64 vw, .int .i64 vm, .int .i64 vi, .slice q L.length cap, .int .i64 fu, .slice none 0 0], .int .i64 k] w fun e w' => e = .returned (.int .i64 ((k + 4 * L.length : Nat) : Int)) ∧ Below w.heap.size w w' := by
  have KM := Lib.hid (fun W (hb : Below w.heap.size w W) => held_Program vw vm vi L q cap k W (hv.below hb) h1 hk)
  have KN := Lib.hid (fun W => held_IntSS_none none 0 (k + 4 * L.length) W)
  obtain ⟨w0, hw0⟩ : ∃ w0, w0 = w.alloc (.cells #[.int .i64 vw, .int .i64 vm, .int .i64 vi, .slice q L.length cap, .int .i64 fu, .slice none 0 0] 27) := ⟨_, rfl⟩
  have HB0 := Lib.hid (show Below w.heap.size w w0 by rw [hw0]; exact (Below.refl _ _).alloc (Nat.le_refl _) _)
  have X0 := Lib.hid (show Cell6 w0 w.heap.size (.int .i64 vw) (.int .i64 vm) (.int .i64 vi) (.slice q L.length cap) (.int .i64 fu) (.slice none 0 0) by rw [hw0]; exact cell6_alloc _ _ _ _ _ _ _ _)
  have hz0 : ¬ (((k + 4 * L.length : Nat) : Int) < 0) := by omega
  generalize hz : ((k + 4 * L.length : Nat) : Int) = z at *
  clear hk hv hz
  go_enter Try.func12, Try.ntmps12
  go_wp2_with fail
  rw [← hw0]
  clear hw0
  refine (KM.out _ HB0.out).mono ?_
  rintro e w1 ⟨rfl, hb⟩
  have HB1 := Lib.hid (HB0.out.trans (hb.mono HB0.out.size))
  obtain ⟨x0, x1, x2, x3, x4, x5⟩ := X0.out.below hb
  clear hb
  go_wp2_with fail
  clear x0 x1 x2 x3 x4 x5
  refine (KN.out _).mono ?_
  rintro e w2 ⟨rfl, rfl⟩
  go_wp2
  go_ret
  exact ⟨rfl, HB1.out⟩
end Go.Proofs.Ytbbalmeglgecgaa
