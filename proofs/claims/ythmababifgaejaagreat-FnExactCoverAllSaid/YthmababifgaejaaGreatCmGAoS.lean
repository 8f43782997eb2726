/- What the specification's l09Tests returns. No condition. What the specification's CoverAll returns. No condition. -/
import Derived.Test.YthmababifgaejaaGreatCmGIntSSb
import Derived.Test.YthmababifgaejaaGreatCmGInS
import Derived.Test.YthmababifgaejaaGreatCmGCaM
import Derived.Test.YthmababifgaejaaGreatCmGBit
import Derived.Test.YthmababifgaejaaGreatCmGOwAt
import Derived.Deep.Cut
namespace Go.Proofs.YthmababifgaejaaGreat
open Go.ChangeShapes Go.WideShapes Go.ChangeAt Go.RowKit
set_option maxRecDepth 100000 in
set_option maxHeartbeats 4000000 in
theorem s_tests (vw vm vi : Int) (L : List InsR) (T : List (List Int)) (sL tv : Value) (w : World) (hs : Cs.Shows w 0 4 sL L.length (InsR.all L)) (ht : (Cs.rows IntSS.c T).Is w 0 1 T.length tv) (hok : ∀ r ∈ L, r.Ok) (hL : L.length ≤ maxLen) (hT : IntSS.Ok T) (hl : T.length ≤ maxLen) :
    Calls Tryz.prog 19 #[.agg #[.int .i64 vw, .int .i64 vm, .int .i64 vi, sL], tv] w fun e w' => e = .returned (.bool (aoB vw vm vi L T)) ∧ Below w.heap.size w w' := by
  have hml : maxLen = 9223372036854775807 := rfl
  have KI := Lib.hid (fun j (hj : j < T.length) li W (hb : Below w.heap.size w W) (h : Cs.Shows W 0 1 li T[j].length (IntL.all T[j])) => s_inputs vw vm vi L T[j] sL li W (hs.below hb) h hok hL (hT _ (List.getElem_mem hj)).2)
  obtain ⟨_, q, cap, rfl, _⟩ := hs
  obtain ⟨w0, hw0⟩ : ∃ w0, w0 = w.alloc (.cells #[.int .i64 vw, .int .i64 vm, .int .i64 vi, .slice q L.length cap] 32) := ⟨_, rfl⟩
  have HB0 := Lib.hid (show Below w.heap.size w w0 by rw [hw0]; exact (Below.refl _ _).alloc (Nat.le_refl _) _)
  have XR0 := Lib.hid (show w0.heap[w.heap.size]? = some (.cells #[.int .i64 vw, .int .i64 vm, .int .i64 vi, .slice q L.length cap] 32 (0, 0)) by rw [hw0]; exact heap_alloc_new _ _)
  have HNO := Lib.hid (fun j (hj : j < T.length) => ao_no (vw := vw) (vm := vm) (vi := vi) (L := L) j hj)
  have HYES := Lib.hid (fun h => ao_yes (vw := vw) (vm := vm) (vi := vi) (L := L) (T := T) h)
  have HIS := Lib.hid ht
  obtain ⟨B, hB⟩ : ∃ B, aoB vw vm vi L T = B := ⟨_, rfl⟩
  rw [hB] at HYES ⊢
  simp only [hB] at HNO
  clear hB hok hT
  rcases IntSS.cases ht with ⟨hM, tq, tc, rfl⟩ | ⟨hpos, tb, tof, tc, rfl, hc1, hc2, hbl, HI⟩
  · subst hM
    have hv : true = B := (HYES.out (fun j hj => absurd hj (Nat.not_lt_zero _))).symm
    clear ht
    go_enter Tryz.func19, Tryz.ntmps19
    go_wp2
    rw [← hw0]
    clear hw0
    go_loopw [9] (fun kv wr => kv = .int .i64 0 ∧ wr = w0) (fun _ _ => 0)
    case atStart => exact ⟨rfl, rfl⟩
    case round =>
      obtain ⟨rfl, rfl⟩ := hrel
      go_wp2
      go_ret
      subst hv
      exact ⟨rfl, HB0.out⟩
  · have HII := Lib.hid HI
    clear ht HI
    go_enter Tryz.func19, Tryz.ntmps19
    go_wp2
    rw [← hw0]
    clear hw0
    go_loopw [9] (fun kv wr => ∃ k : Nat, k ≤ T.length ∧ kv = .int .i64 k ∧ (∀ (j : Nat) (hj : j < T.length), j < k → inB vw vm vi L T[j] = true) ∧ Below w.heap.size w wr ∧ wr.heap[w.heap.size]? = some (.cells #[.int .i64 vw, .int .i64 vm, .int .i64 vi, .slice q L.length cap] 32 (0, 0))) (fun kv _ => T.length - (intOf kv).toNat)
    case atStart => exact ⟨0, Nat.zero_le _, rfl, fun j hj h => absurd h (Nat.not_lt_zero _), HB0.out, XR0.out⟩
    case round =>
      obtain ⟨k, hk, rfl, hall, hB, hX⟩ := hrel
      have HA := Lib.hid hall
      have HBr := Lib.hid hB
      have XRr := Lib.hid hX
      have hsr := hB.size
      have hwx : w.heap.size < wr.heap.size := (Array.getElem?_eq_some_iff.1 hX).1
      clear hall hB hX
      by_cases hkn : k < T.length
      · obtain ⟨iq, m, ic, hm, cT, hsh⟩ := HII.out wr HBr.out k hkn
        have KX := Lib.hid (KI.out k hkn _ wr HBr.out hsh)
        have HN := Lib.hid (HNO.out k hkn)
        have HS2 := Lib.hid (show inB vw vm vi L T[k] = true → ∀ (j : Nat) (hj : j < T.length), j < k + 1 → inB vw vm vi L T[j] = true from fun h j hj hlt => by
          by_cases e : j = k
          · subst e; exact h
          · exact HA.out j hj (by omega))
        clear hsh
        generalize T[k] = I at *
        obtain ⟨b1, hb1⟩ : ∃ b, inB vw vm vi L I = b := ⟨_, rfl⟩
        rw [hb1] at KX HN HS2
        clear hb1
        have hki : (k : Int) < (T.length : Int) := by omega
        have hkd : decide ((k : Int) < (T.length : Int)) = true := decide_eq_true hki
        have hbw : tb < wr.heap.size := by omega
        obtain ⟨x0, x1, x2, x3⟩ := cell4_row XRr.out
        go_wp2_with fail
        clear x0 x1 x2 x3 cT
        refine KX.out.mono ?_
        rintro e w2 ⟨rfl, hb⟩
        have HB2 := Lib.hid (HBr.out.trans (hb.mono hsr))
        have XR2 := Lib.hid ((hb.block w.heap.size hwx).trans XRr.out)
        clear hb
        cases b1
        case false =>
          have hv := HN.out rfl
          subst hv
          go_wp2
          go_ret
          exact ⟨rfl, HB2.out⟩
        case true =>
          go_wp2
          go_roundw
          case rel => exact ⟨k + 1, by omega, by go_num, HS2.out trivial, HB2.out, XR2.out⟩
          case measure => simp [intOf]; omega
      · have hke : k = T.length := by omega
        subst hke
        have hv : true = B := (HYES.out (fun j hj => HA.out j hj hj)).symm
        have hki : ¬ ((T.length : Int) < (T.length : Int)) := by omega
        have hkd : decide ((T.length : Int) < (T.length : Int)) = false := decide_eq_false hki
        subst hv
        go_wp2
        go_ret
        exact ⟨rfl, HBr.out⟩
end Go.Proofs.YthmababifgaejaaGreat
namespace Go.Proofs.YthmababifgaejaaGreat
open Go.ChangeShapes Go.WideShapes Go.ChangeAt Go.RowKit
set_option maxRecDepth 100000 in
set_option maxHeartbeats 8000000 in
theorem s_coverall (vw vm vi : Int) (L : List InsR) (T : List (List Int)) (f : Int) (sL tv : Value) (w : World) (hs : Cs.Shows w 0 4 sL L.length (InsR.all L)) (ht : (Cs.rows IntSS.c T).Is w 0 1 T.length tv) (hok : ∀ r ∈ L, r.Ok) (hL : L.length ≤ maxLen) (hT : IntSS.Ok T) (hl : T.length ≤ 1048577) :
    Calls Tryz.prog 6 #[.agg #[.int .i64 vw, .int .i64 vm, .int .i64 vi, sL], tv, .int .i64 f] w (NxOwn (caV vw vm vi L f T) w) := by
  have hml : maxLen = 9223372036854775807 := rfl
  have KT := Lib.hid (fun W (hb : Below w.heap.size w W) => s_tests vw vm vi L T sL tv W (hs.below hb) (ht.below hb) hok hL hT (by omega))
  obtain ⟨B5, hB5⟩ : ∃ B, (decide (0 ≤ f) && decide (f ≤ 400)) = B := ⟨_, rfl⟩
  have KF := Lib.hid (fun W => s_rng f 0 400 B5 hB5 W)
  have KC := Lib.hid (fun fn (hfn : fn ≤ 400) l0 lq lc j (hj : j < T.length) li W (hb : Below w.heap.size w W) (h : Cs.Shows W 0 1 li T[j].length (IntL.all T[j])) (hin : inB vw vm vi L T[j] = true) ho (hl0 : l0.length ≤ 50000) => s_cover vw vm vi L T[j] fn hfn l0 lq lc w.heap.size sL li W (hs.below hb) h hok hL (hT _ (List.getElem_mem hj)).2 hin ho hb.size hl0)
  have HTS := Lib.hid ht
  obtain ⟨_, q, cap, rfl, _⟩ := hs
  obtain ⟨tq, tc, rfl⟩ : ∃ tq tc, tv = .slice tq T.length tc := by
    obtain ⟨_, ⟨_, q, cap, h, _⟩, _⟩ := ht
    exact ⟨q, cap, h⟩
  have HII : Hid (∀ j (hj : j < T.length), ∃ b o, tq = some ⟨b, o, none⟩ ∧ b < w.heap.size ∧ ∀ wr, Below w.heap.size w wr → ∃ q m cp, T[j].length = m ∧ wr.cell? ⟨b, o + j, none⟩ = some (.slice q m cp) ∧ Cs.Shows wr 0 1 (.slice q m cp) T[j].length (IntL.all T[j])) := Lib.hid (fun j hj => by
    rcases IntSS.cases HTS.out with ⟨h0, _⟩ | ⟨_, b, o, c, hq, _, _, hbl, HI⟩
    · rw [h0] at hj; exact absurd hj (Nat.not_lt_zero _)
    · injection hq with e1 e2 e3
      exact ⟨b, o, e1, hbl, fun wr hb => HI wr hb j hj⟩)
  clear ht HTS hok hT
  obtain ⟨b3, hb3⟩ : ∃ B, aoB vw vm vi L T = B := ⟨_, rfl⟩
  rw [hb3] at KT
  have HAO := Lib.hid hb3
  have HNO := Lib.hid (show b3 = false → caV vw vm vi L f T = [] from fun h => by unfold caV; rw [hb3, h]; rfl)
  have HN5 := Lib.hid (show B5 = false → caV vw vm vi L f T = [] from fun h => by unfold caV; rw [hB5, h, Bool.and_false]; rfl)
  have HB5 := Lib.hid hB5
  clear hB5
  clear hb3
  obtain ⟨i9, hi9, hz9, hzs9, hzb9⟩ := info_parts zero_Int
  obtain ⟨w0, hw0⟩ : ∃ w0, w0 = w.alloc (.cells #[.int .i64 vw, .int .i64 vm, .int .i64 vi, .slice q L.length cap] 32) := ⟨_, rfl⟩
  have HB0 := Lib.hid (show Below w.heap.size w w0 by rw [hw0]; exact (Below.refl _ _).alloc (Nat.le_refl _) _)
  have XR0 := Lib.hid (show w0.heap[w.heap.size]? = some (.cells #[.int .i64 vw, .int .i64 vm, .int .i64 vi, .slice q L.length cap] 32 (0, 0)) by rw [hw0]; exact heap_alloc_new _ _)
  obtain ⟨x0, x1, x2, x3⟩ := cell4_row XR0.out
  rw [hw0] at x0 x1 x2 x3
  go_enter Tryz.func6, Tryz.ntmps6
  go_wp2_with fail
  rw [← hw0]
  clear hw0 x0 x1 x2 x3
  refine (KT.out _ HB0.out).mono ?_
  rintro e w1 ⟨rfl, hb⟩
  have HB1 := Lib.hid (HB0.out.trans (hb.mono HB0.out.size))
  have XR1 := Lib.hid ((hb.block w.heap.size (Array.getElem?_eq_some_iff.1 XR0.out).1).trans XR0.out)
  clear hb
  cases b3
  case false =>
    have hv := HNO.out rfl
    go_wp2
    go_ret
    exact nx_none hv HB1.out
  case true =>
    go_wp2_with fail
    refine (KF.out _).mono ?_
    rintro e w9 ⟨rfl, rfl⟩
    cases B5
    case false =>
      have hv := HN5.out rfl
      go_wp2
      go_ret
      exact nx_none hv HB1.out
    case true =>
      have hf5 := HB5.out
      rw [Bool.and_eq_true, decide_eq_true_eq, decide_eq_true_eq] at hf5
      obtain ⟨fn, rfl⟩ : ∃ n : Nat, f = n := ⟨f.toNat, by omega⟩
      have hfn : fn ≤ 400 := by omega
      have HV := Lib.hid (show caV vw vm vi L fn T = caS vw vm vi L fn T T.length by unfold caV; rw [HAO.out, HB5.out, if_pos (show (true && true) = true from rfl), ca_eq HAO.out hfn])
      clear hf5
      obtain ⟨wz, hwz⟩ : ∃ W9, W9 = w1.alloc (.cells #[] 3) := ⟨_, rfl⟩
      have hs1 : w.heap.size < w1.heap.size := (Array.getElem?_eq_some_iff.1 XR1.out).1
      have RL := Lib.hid (show wz.ownsRow w.heap.size 3 1 (.slice (some ⟨w1.heap.size, 0, none⟩) 0 0) 0 [] by rw [hwz]; exact World.ownsRow_made w1 #[] 0 (by omega) (by omega) rfl)
      have HBz := Lib.hid (show Below w.heap.size w wz by rw [hwz]; exact HB1.out.alloc (by omega) _)
      have XRz := Lib.hid (show wz.heap[w.heap.size]? = some (.cells #[.int .i64 vw, .int .i64 vm, .int .i64 vi, .slice q L.length cap] 32 (0, 0)) by rw [hwz, heap_alloc_old _ _ (by omega)]; exact XR1.out)
      go_wp2
      rw [← hwz]
      clear hwz
      go_loopw [7, 22] (fun lv kv wr => ∃ k : Nat, k ≤ T.length ∧ kv = .int .i64 k ∧ wr.ownsRow w.heap.size 3 1 lv (caS vw vm vi L fn T k).length (IntL.all (caS vw vm vi L fn T k)) ∧ Below w.heap.size w wr ∧ wr.heap[w.heap.size]? = some (.cells #[.int .i64 vw, .int .i64 vm, .int .i64 vi, .slice q L.length cap] 32 (0, 0))) (fun _ kv _ => T.length - (intOf kv).toNat)
      case atStart => exact ⟨0, Nat.zero_le _, rfl, RL.out, HBz.out, XRz.out⟩
      case round =>
        obtain ⟨k, hk, rfl, ho, hB, hX⟩ := hrel
        obtain ⟨oq, oc, rfl⟩ := own_slc ho
        have OV := Lib.hid ho
        have HBr := Lib.hid hB
        have XRr := Lib.hid hX
        have hsr := hB.size
        clear ho hB hX
        by_cases hkn : k < T.length
        case pos =>
          obtain ⟨tb, tof, rfl, htb, hcells⟩ := HII.out k hkn
          obtain ⟨iq, m, ic, hm, cT, hsh⟩ := hcells wr HBr.out
          have hki : (k : Int) < (T.length : Int) := by omega
          have hkd : decide ((k : Int) < (T.length : Int)) = true := decide_eq_true hki
          have htw : tb < wr.heap.size := by omega
          have hgd : T.getD k [] = T[k] := by rw [List.getD_eq_getElem?_getD, List.getElem?_eq_getElem hkn]; rfl
          have HZ := Lib.hid (show caS vw vm vi L fn T (k + 1) = insL (caS vw vm vi L fn T k) (cvN vw vm vi L T[k] fn) by rw [← hgd]; rfl)
          have hsm := caS_small HAO.out fn k hk
          have KX := Lib.hid (KC.out fn hfn _ oq oc k hkn _ wr HBr.out hsh (ao_at HAO.out k hkn) OV.out (by omega))
          clear hcells hsh hgd
          generalize T[k] = I at *
          obtain ⟨x0, x1, x2, x3⟩ := cell4_row XRr.out
          go_wp2_with fail
          clear cT x0 x1 x2 x3
          refine KX.out.mono ?_
          rintro e w3 ⟨hb, q3, c3, rfl, ho3, -⟩
          have HB3 := Lib.hid (HBr.out.trans (hb.mono hsr))
          have XR3 := Lib.hid ((hb.block w.heap.size (Array.getElem?_eq_some_iff.1 XRr.out).1).trans XRr.out)
          have O3 := Lib.hid ho3
          clear hb ho3
          go_wp2
          go_roundw
          case rel => exact ⟨k + 1, by omega, by go_num, by rw [HZ.out]; exact O3.out, HB3.out, XR3.out⟩
          case measure => simp [intOf]; omega
        case neg =>
          have hke : k = T.length := by omega
          subst hke
          have hki : ¬ ((T.length : Int) < (T.length : Int)) := by omega
          have hkd : decide ((T.length : Int) < (T.length : Int)) = false := decide_eq_false hki
          go_wp2
          go_ret
          rw [HV.out]
          exact ⟨HBr.out, oq, oc, rfl, OV.out⟩
end Go.Proofs.YthmababifgaejaaGreat
