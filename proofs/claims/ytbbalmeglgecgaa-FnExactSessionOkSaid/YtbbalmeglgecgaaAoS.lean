/- What the specification's l09Tests returns. No condition. -/
import Derived.Test.YtbbalmeglgecgaaAoM
import Derived.Test.YtbbalmeglgecgaaInS
namespace Go.Proofs.Ytbbalmeglgecgaa
open Go.ChangeShapes Go.WideShapes Go.ChangeAt Go.RowKit
set_option maxRecDepth 100000 in
set_option maxHeartbeats 4000000 in
theorem s_tests (vw vm vi : Int) (L : List InsR) (T : List (List Int)) (sL tv : Value) (w : World) (hs : Cs.Shows w 0 4 sL L.length (InsR.all L)) (ht : (Cs.rows IntSS.c T).Is w 0 1 T.length tv) (hok : ∀ r ∈ L, r.Ok) (hL : L.length ≤ maxLen) (hT : IntSS.Ok T) (hl : T.length ≤ maxLen) :
    Calls Try.prog 50 #[.agg #[.int .i64 vw, .int .i64 vm, .int .i64 vi, sL], tv] w fun e w' => e = .returned (.bool (aoB vw vm vi L T)) ∧ Below w.heap.size w w' := by
  have hml : maxLen = 9223372036854775807 := rfl
  have KI := Lib.hid (fun j (hj : j < T.length) li W (hb : Below w.heap.size w W) (h : Cs.Shows W 0 1 li T[j].length (IntL.all T[j])) => s_inputs vw vm vi L T[j] sL li W (hs.below hb) h hok hL (hT _ (List.getElem_mem hj)).2)
  obtain ⟨_, q, cap, rfl, _⟩ := hs
  obtain ⟨w0, hw0⟩ : ∃ w0, w0 = w.alloc (.cells #[.int .i64 vw, .int .i64 vm, .int .i64 vi, .slice q L.length cap] 24) := ⟨_, rfl⟩
  have HB0 := Lib.hid (show Below w.heap.size w w0 by rw [hw0]; exact (Below.refl _ _).alloc (Nat.le_refl _) _)
  have XR0 := Lib.hid (show w0.heap[w.heap.size]? = some (.cells #[.int .i64 vw, .int .i64 vm, .int .i64 vi, .slice q L.length cap] 24 (0, 0)) by rw [hw0]; exact heap_alloc_new _ _)
  have HNO := Lib.hid (fun j (hj : j < T.length) => ao_no (vw := vw) (vm := vm) (vi := vi) (L := L) j hj)
  have HYES := Lib.hid (fun h => ao_yes (vw := vw) (vm := vm) (vi := vi) (L := L) (T := T) h)
  have HIS := Lib.hid ht
  obtain ⟨B, hB⟩ : ∃ B, aoB vw vm vi L T = B := ⟨_, rfl⟩
  rw [hB] at HYES ⊢
  simp only [hB] at HNO
  clear hB hok hT
  rcases IntSS.cases ht with ⟨hM, tq, tc, rfl⟩ | ⟨hpos, tb, tof, tc, rfl, hc1, hc2, hbl, HI⟩
  · subst hM
    have hv : true = B := (HYES.out (fun j hj => absurd hj (Nat.not_lt_zero _))).symm
    clear ht
    go_enter Try.func50, Try.ntmps50
    go_wp2
    rw [← hw0]
    clear hw0
    go_loopw [9] (fun kv wr => kv = .int .i64 0 ∧ wr = w0) (fun _ _ => 0)
    case atStart => exact ⟨rfl, rfl⟩
    case round =>
      obtain ⟨rfl, rfl⟩ := hrel
      go_wp2
      go_ret
      subst hv
      exact ⟨rfl, HB0.out⟩
  · have HII := Lib.hid HI
    clear ht HI
    go_enter Try.func50, Try.ntmps50
    go_wp2
    rw [← hw0]
    clear hw0
    go_loopw [9] (fun kv wr => ∃ k : Nat, k ≤ T.length ∧ kv = .int .i64 k ∧ (∀ (j : Nat) (hj : j < T.length), j < k → inB vw vm vi L T[j] = true) ∧ Below w.heap.size w wr ∧ wr.heap[w.heap.size]? = some (.cells #[.int .i64 vw, .int .i64 vm, .int .i64 vi, .slice q L.length cap] 24 (0, 0))) (fun kv _ => T.length - (intOf kv).toNat)
    case atStart => exact ⟨0, Nat.zero_le _, rfl, fun j hj h => absurd h (Nat.not_lt_zero _), HB0.out, XR0.out⟩
    case round =>
      obtain ⟨k, hk, rfl, hall, hB, hX⟩ := hrel
      have HA := Lib.hid hall
      have HBr := Lib.hid hB
      have XRr := Lib.hid hX
      have hsr := hB.size
      have hwx : w.heap.size < wr.heap.size := (Array.getElem?_eq_some_iff.1 hX).1
      clear hall hB hX
      by_cases hkn : k < T.length
      · obtain ⟨iq, m, ic, hm, cT, hsh⟩ := HII.out wr HBr.out k hkn
        have KX := Lib.hid (KI.out k hkn _ wr HBr.out hsh)
        have HN := Lib.hid (HNO.out k hkn)
        have HS2 := Lib.hid (show inB vw vm vi L T[k] = true → ∀ (j : Nat) (hj : j < T.length), j < k + 1 → inB vw vm vi L T[j] = true from fun h j hj hlt => by
          by_cases e : j = k
          · subst e; exact h
          · exact HA.out j hj (by omega))
        clear hsh
        generalize T[k] = I at *
        obtain ⟨b1, hb1⟩ : ∃ b, inB vw vm vi L I = b := ⟨_, rfl⟩
        rw [hb1] at KX HN HS2
        clear hb1
        have hki : (k : Int) < (T.length : Int) := by omega
        have hkd : decide ((k : Int) < (T.length : Int)) = true := decide_eq_true hki
        have hbw : tb < wr.heap.size := by omega
        obtain ⟨x0, x1, x2, x3⟩ := cell4_row XRr.out
        go_wp2_with fail
        clear x0 x1 x2 x3 cT
        refine KX.out.mono ?_
        rintro e w2 ⟨rfl, hb⟩
        have HB2 := Lib.hid (HBr.out.trans (hb.mono hsr))
        have XR2 := Lib.hid ((hb.block w.heap.size hwx).trans XRr.out)
        clear hb
        cases b1
        case false =>
          have hv := HN.out rfl
          subst hv
          go_wp2
          go_ret
          exact ⟨rfl, HB2.out⟩
        case true =>
          go_wp2
          go_roundw
          case rel => exact ⟨k + 1, by omega, by go_num, HS2.out trivial, HB2.out, XR2.out⟩
          case measure => simp [intOf]; omega
      · have hke : k = T.length := by omega
        subst hke
        have hv : true = B := (HYES.out (fun j hj => HA.out j hj hj)).symm
        have hki : ¬ ((T.length : Int) < (T.length : Int)) := by omega
        have hkd : decide ((T.length : Int) < (T.length : Int)) = false := decide_eq_false hki
        subst hv
        go_wp2
        go_ret
        exact ⟨rfl, HBr.out⟩
end Go.Proofs.Ytbbalmeglgecgaa
