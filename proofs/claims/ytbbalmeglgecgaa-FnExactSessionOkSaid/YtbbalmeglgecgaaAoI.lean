/- What the program's allInputsOk returns. No condition. -/
import Derived.Test.YtbbalmeglgecgaaAoM
import Derived.Test.YtbbalmeglgecgaaInI
namespace Go.Proofs.Ytbbalmeglgecgaa
open Go.ChangeShapes Go.WideShapes Go.ChangeAt Go.RowKit
set_option maxRecDepth 100000 in
set_option maxHeartbeats 4000000 in
theorem a_test (vw vm vi : Int) (L : List InsR) (I : List Int) (q : Option Addr) (cap pb : Nat) (li : Value) (w : World) (hs : Cs.Shows w 0 4 (.slice q L.length cap) L.length (InsR.all L)) (hls : Cs.Shows w 0 1 li I.length (IntL.all I)) (hok : ∀ r ∈ L, r.Ok) (hL : L.length ≤ maxLen) (hl : I.length ≤ maxLen) (hp : w.heap[pb]? = some (.cells #[.int .i64 vw, .int .i64 vm, .int .i64 vi, .slice q L.length cap] 24 (0, 0))) :
    Calls Try.prog 91 #[li, .pointer (some ⟨pb, 0, none⟩)] w fun e w' => e = .returned (.bool (! inB vw vm vi L I)) ∧ Below w.heap.size w w' := by
  have KI := Lib.hid (i_inputs vw vm vi L I (.slice q L.length cap) li w hs hls hok hL hl)
  have hpl : pb < w.heap.size := (Array.getElem?_eq_some_iff.1 hp).1
  obtain ⟨x0, x1, x2, x3⟩ := cell4_row hp
  obtain ⟨b, hb⟩ : ∃ b, inB vw vm vi L I = b := ⟨_, rfl⟩
  rw [hb] at KI ⊢
  obtain ⟨_, iq, ic, rfl, _⟩ := hls
  clear hs hok hp hb
  go_enter Try.func91, Try.ntmps91
  go_wp2_with fail
  clear x0 x1 x2 x3
  refine KI.out.mono ?_
  rintro e w1 ⟨rfl, hb⟩
  have HB := Lib.hid hb
  clear hb
  cases b
  all_goals
    go_wp2
    go_ret
    exact ⟨rfl, HB.out⟩
def AoIx (a : Bool) (r : Int) : Prop := (a = true ∧ 0 ≤ r) ∨ (a = false ∧ r = -1)
set_option maxRecDepth 100000 in
set_option maxHeartbeats 4000000 in
theorem a_index (p : List Int → Bool) (T : List (List Int)) (tv : Value) (pb : Nat) (w : World) (ht : (Cs.rows IntSS.c T).Is w 0 1 T.length tv)
    (hp : ∀ j (hj : j < T.length) li W, Below w.heap.size w W → Cs.Shows W 0 1 li T[j].length (IntL.all T[j]) → Calls Try.prog 91 #[li, .pointer (some ⟨pb, 0, none⟩)] W fun e w' => e = .returned (.bool (! p T[j])) ∧ Below W.heap.size W w') :
    Calls Try.prog 106 #[tv, .func (.func 91) #[] #[.pointer (some ⟨pb, 0, none⟩)]] w fun e w' => ∃ r : Int, e = .returned (.int .i64 r) ∧ AoIx (! T.all p) r ∧ Below w.heap.size w w' := by
  have hml : maxLen = 9223372036854775807 := rfl
  have HNO := Lib.hid (fun j (hj : j < T.length) (h : p T[j] = false) => show T.all p = false by
    rw [Bool.eq_false_iff]
    intro h2
    rw [List.all_eq_true.1 h2 _ (List.getElem_mem hj)] at h
    cases h)
  have HYES := Lib.hid (fun (h : ∀ j (hj : j < T.length), p T[j] = true) => show T.all p = true from List.all_eq_true.2 fun I hI => by
    obtain ⟨j, hj, rfl⟩ := List.getElem_of_mem hI
    exact h j hj)
  obtain ⟨B, hB⟩ : ∃ B, T.all p = B := ⟨_, rfl⟩
  rw [hB] at HYES ⊢
  simp only [hB] at HNO
  clear hB
  have KP := Lib.hid hp
  clear hp
  rcases IntSS.cases ht with ⟨hM, tq, tc, rfl⟩ | ⟨hpos, tb, tof, tc, rfl, hc1, hc2, hbl, HI⟩
  · subst hM
    have hv : true = B := (HYES.out (fun j hj => absurd hj (Nat.not_lt_zero _))).symm
    subst hv
    clear ht
    go_enter Try.func106, Try.ntmps106
    go_wp2
    go_loopw [8] (fun kv wr => kv = .int .i64 0 ∧ wr = w) (fun _ _ => 0)
    case atStart => exact ⟨rfl, rfl⟩
    case round =>
      obtain ⟨rfl, rfl⟩ := hrel
      go_wp2
      go_ret
      exact ⟨_, rfl, .inr ⟨rfl, rfl⟩, Below.refl _ _⟩
  · have HII := Lib.hid HI
    clear ht HI
    go_enter Try.func106, Try.ntmps106
    go_wp2
    go_loopw [8] (fun kv wr => ∃ k : Nat, k ≤ T.length ∧ kv = .int .i64 k ∧ (∀ (j : Nat) (hj : j < T.length), j < k → p T[j] = true) ∧ Below w.heap.size w wr) (fun kv _ => T.length - (intOf kv).toNat)
    case atStart => exact ⟨0, Nat.zero_le _, rfl, fun j hj h => absurd h (Nat.not_lt_zero _), Below.refl _ _⟩
    case round =>
      obtain ⟨k, hk, rfl, hall, hB⟩ := hrel
      have HA := Lib.hid hall
      have HBr := Lib.hid hB
      have hsr := hB.size
      clear hall hB
      by_cases hkn : k < T.length
      · obtain ⟨iq, m, ic, hm, cT, hsh⟩ := HII.out wr HBr.out k hkn
        have KX := Lib.hid (KP.out k hkn _ wr HBr.out hsh)
        have HN := Lib.hid (HNO.out k hkn)
        have HS2 := Lib.hid (show p T[k] = true → ∀ (j : Nat) (hj : j < T.length), j < k + 1 → p T[j] = true from fun h j hj hlt => by
          by_cases e : j = k
          · subst e; exact h
          · exact HA.out j hj (by omega))
        clear hsh
        generalize T[k] = I at *
        obtain ⟨b1, hb1⟩ : ∃ b, p I = b := ⟨_, rfl⟩
        rw [hb1] at KX HN HS2
        clear hb1
        have hki : (k : Int) < (T.length : Int) := by omega
        have hkd : decide ((k : Int) < (T.length : Int)) = true := decide_eq_true hki
        have hbw : tb < wr.heap.size := by omega
        go_wp2_with fail
        clear cT
        refine KX.out.mono ?_
        rintro e w2 ⟨rfl, hb⟩
        have HB2 := Lib.hid (HBr.out.trans (hb.mono hsr))
        clear hb
        cases b1
        case false =>
          have hv := HN.out rfl
          subst hv
          go_wp2
          go_ret
          exact ⟨_, rfl, .inl ⟨rfl, by omega⟩, HB2.out⟩
        case true =>
          go_wp2
          go_roundw
          case rel => exact ⟨k + 1, by omega, by go_num, HS2.out trivial, HB2.out⟩
          case measure => simp [intOf]; omega
      · have hke : k = T.length := by omega
        subst hke
        have hv : true = B := (HYES.out (fun j hj => HA.out j hj hj)).symm
        have hki : ¬ ((T.length : Int) < (T.length : Int)) := by omega
        have hkd : decide ((T.length : Int) < (T.length : Int)) = false := decide_eq_false hki
        subst hv
        go_wp2
        go_ret
        exact ⟨_, rfl, .inr ⟨rfl, rfl⟩, HBr.out⟩
set_option maxRecDepth 100000 in
set_option maxHeartbeats 4000000 in
theorem a_contains (p : List Int → Bool) (T : List (List Int)) (tv : Value) (pb : Nat) (w : World) (ht : (Cs.rows IntSS.c T).Is w 0 1 T.length tv)
    (hp : ∀ j (hj : j < T.length) li W, Below w.heap.size w W → Cs.Shows W 0 1 li T[j].length (IntL.all T[j]) → Calls Try.prog 91 #[li, .pointer (some ⟨pb, 0, none⟩)] W fun e w' => e = .returned (.bool (! p T[j])) ∧ Below W.heap.size W w') :
    Calls Try.prog 90 #[tv, .func (.func 91) #[] #[.pointer (some ⟨pb, 0, none⟩)]] w fun e w' => e = .returned (.bool (! T.all p)) ∧ Below w.heap.size w w' := by
  have KI := Lib.hid (a_index p T tv pb w ht hp)
  obtain ⟨_, ⟨_, q, cap, rfl, _⟩, _⟩ := ht
  clear hp
  go_enter Try.func90, Try.ntmps90
  go_wp2_with fail
  refine KI.out.mono ?_
  rintro e w1 ⟨r, rfl, hr, hb1⟩
  have HB1 := Lib.hid hb1
  clear hb1
  rcases hr with ⟨h1, h2⟩ | ⟨h1, rfl⟩
  all_goals
    have HF := Lib.hid h1
    clear h1
    go_wp2
    go_ret
    exact ⟨by rw [HF.out] <;> rfl, HB1.out⟩
set_option maxRecDepth 100000 in
set_option maxHeartbeats 4000000 in
theorem i_tests (vw vm vi : Int) (L : List InsR) (T : List (List Int)) (sL tv : Value) (w : World) (hs : Cs.Shows w 0 4 sL L.length (InsR.all L)) (ht : (Cs.rows IntSS.c T).Is w 0 1 T.length tv) (hok : ∀ r ∈ L, r.Ok) (hL : L.length ≤ maxLen) (hT : IntSS.Ok T) :
    Calls Try.prog 54 #[.agg #[.int .i64 vw, .int .i64 vm, .int .i64 vi, sL], tv] w fun e w' => e = .returned (.bool (aoB vw vm vi L T)) ∧ Below w.heap.size w w' := by
  obtain ⟨q, cap, hq⟩ : ∃ q cap, sL = .slice q L.length cap := by
    obtain ⟨_, q, cap, h, _⟩ := hs
    exact ⟨q, cap, h⟩
  subst hq
  have KC := Lib.hid (fun W (hb : Below w.heap.size w W) pb (hpb : W.heap[pb]? = some (.cells #[.int .i64 vw, .int .i64 vm, .int .i64 vi, .slice q L.length cap] 24 (0, 0))) => a_contains (fun I => inB vw vm vi L I) T tv pb W (ht.below hb) (fun j hj li W2 hb2 hsh => a_test vw vm vi L T[j] q cap pb li W2 ((hs.below hb).below hb2) hsh hok hL (hT _ (List.getElem_mem hj)).2 ((hb2.block pb (Array.getElem?_eq_some_iff.1 hpb).1).trans hpb)))
  obtain ⟨tq, tc, rfl⟩ : ∃ tq tc, tv = .slice tq T.length tc := by
    obtain ⟨_, ⟨_, q, cap, h, _⟩, _⟩ := ht
    exact ⟨q, cap, h⟩
  obtain ⟨w0, hw0⟩ : ∃ w0, w0 = w.alloc (.cells #[.int .i64 vw, .int .i64 vm, .int .i64 vi, .slice q L.length cap] 24) := ⟨_, rfl⟩
  have HB0 := Lib.hid (show Below w.heap.size w w0 by rw [hw0]; exact (Below.refl _ _).alloc (Nat.le_refl _) _)
  have XR0 := Lib.hid (show w0.heap[w.heap.size]? = some (.cells #[.int .i64 vw, .int .i64 vm, .int .i64 vi, .slice q L.length cap] 24 (0, 0)) by rw [hw0]; exact heap_alloc_new _ _)
  have KX := Lib.hid (KC.out w0 HB0.out w.heap.size XR0.out)
  obtain ⟨B, hB⟩ : ∃ B, aoB vw vm vi L T = B := ⟨_, rfl⟩
  have hB2 : (T.all fun I => inB vw vm vi L I) = B := hB
  rw [hB2] at KX
  rw [hB]
  clear KC hs ht hok hT hB hB2
  go_enter Try.func54, Try.ntmps54
  go_wp2_with fail
  rw [← hw0]
  clear hw0
  refine KX.out.mono ?_
  rintro e w1 ⟨rfl, hb⟩
  have HB1 := Lib.hid (HB0.out.trans (hb.mono HB0.out.size))
  clear hb
  cases B
  all_goals
    go_wp2
    go_ret
    exact ⟨rfl, HB1.out⟩
end Go.Proofs.Ytbbalmeglgecgaa
