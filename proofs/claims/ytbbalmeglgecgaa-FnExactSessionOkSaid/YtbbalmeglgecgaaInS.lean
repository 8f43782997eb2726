/- What the specification's InputsOk returns. No condition. -/
import Derived.Test.YtbbalmeglgecgaaInW
namespace Go.Proofs.Ytbbalmeglgecgaa
open Go.ChangeShapes Go.WideShapes Go.ChangeAt Go.RowKit
set_option maxRecDepth 100000 in
set_option maxHeartbeats 2000000 in
theorem s_inputs (vw vm vi : Int) (L : List InsR) (l : List Int) (s ls : Value) (w : World) (hs : Cs.Shows w 0 4 s L.length (InsR.all L)) (hls : Cs.Shows w 0 1 ls l.length (IntL.all l)) (hok : ∀ r ∈ L, r.Ok) (hL : L.length ≤ maxLen) (hl : l.length ≤ maxLen) :
    Calls Try.prog 73 #[.agg #[.int .i64 vw, .int .i64 vm, .int .i64 vi, s], ls] w fun e w' => e = .returned (.bool (inB vw vm vi L l)) ∧ Below w.heap.size w w' := by
  have hml : maxLen = 9223372036854775807 := rfl
  have KP := Lib.hid (fun W (hb : Below w.heap.size w W) => s_prog vw vm vi L s W (hs.below hb) hok hL)
  have KL := Lib.hid (fun W (hb : Below w.heap.size w W) => s_words l vi vw L.length ls W (hls.below hb) hl)
  obtain ⟨_, q, cap, rfl, _⟩ := hs
  obtain ⟨_, lq, lcap, rfl, _⟩ := hls
  unfold inB
  generalize prB vw vm vi L = b1 at *
  have HB0 := Lib.hid ((Below.refl w.heap.size w).alloc (Nat.le_refl _) (.cells #[.int .i64 vw, .int .i64 vm, .int .i64 vi, .slice q L.length cap] 24))
  have X0 := Lib.hid (cell4_alloc w 24 (.int .i64 vw) (.int .i64 vm) (.int .i64 vi) (.slice q L.length cap))
  obtain ⟨w0, hw0⟩ : ∃ w0, w0 = w.alloc (.cells #[.int .i64 vw, .int .i64 vm, .int .i64 vi, .slice q L.length cap] 24) := ⟨_, rfl⟩
  rw [← hw0] at HB0 X0
  go_enter Try.func73, Try.ntmps73
  go_wp2_with fail
  rw [← hw0]
  clear hw0
  refine (KP.out _ HB0.out).mono ?_
  rintro e w1 ⟨rfl, hb⟩
  have HB1 := Lib.hid (HB0.out.trans (hb.mono HB0.out.size))
  have X1 := Lib.hid (X0.out.below hb)
  clear hb
  obtain ⟨x0, x1, x2, x3⟩ := X1.out
  cases b1
  case false =>
    go_wp2
    go_ret
    exact ⟨rfl, HB1.out⟩
  case true =>
    obtain ⟨b2, h2⟩ : ∃ b, (decide ((l.length : Int) = vi) && oprB 2 vw L.length l) = b := ⟨_, rfl⟩
    rw [h2] at KL
    go_wp2_with fail
    refine (KL.out _ HB1.out).mono ?_
    rintro e w2 ⟨rfl, rfl⟩
    go_wp2
    go_ret
    exact ⟨by first | rfl | (simp; done) | (rw [← h2] <;> rfl) | (simp [← h2] <;> rfl), HB1.out⟩
end Go.Proofs.Ytbbalmeglgecgaa
