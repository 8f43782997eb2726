/- What the specification's CircuitOk returns. No condition. -/
import Derived.Test.YtimjkgciakbolabGtM
import Derived.Test.YtimjkgciakbolabLits
import Derived.Test.YtimjkgciakbolabCircuit
import Derived.Deep.RegionWith
namespace Go.Proofs.Ytimjkgciakbolab
open Go.ChangeShapes Go.WideShapes Go.ChangeAt Go.RowKit
theorem below_two {B : Nat} {w : World} {b : Nat} {t : TypeId} {x y : Value} (h : w.heap[b]? = some (.cells #[x, y] t (0, 0))) (hb : b < B) : ∀ w' : World, Below B w w' → w'.cell? ⟨b, 0, none⟩ = some x ∧ w'.cell? ⟨b, 1, none⟩ = some y := fun w' hw => by
  have h2 := (hw.block b hb).trans h
  exact ⟨cell_of_row w' b 0 _ _ _ h2, cell_of_row w' b 1 _ _ _ h2⟩
/-- the gate is none of the first ones -/
theorem has_take {g : GateR} {L : List GateR} {j t : Nat} (ht : t < j) (hj : j ≤ L.length) (h : hasG g (L.take t) = false) (hne : ∀ (hl : t < L.length), g ≠ L[t]) : hasG g (L.take (t + 1)) = false := by
  rw [List.take_succ_eq_append_getElem (by omega), hasG_snoc, h, eqG_no.2 (hne (by omega))]
  rfl
theorem has_at {g : GateR} {L : List GateR} {j t : Nat} (ht : t < j) (hj : j ≤ L.length) (he : ∀ (hl : t < L.length), g = L[t]) : hasG g (L.take j) = true := by
  unfold hasG
  rw [List.any_eq_true]
  refine ⟨L[t]'(by omega), ?_, eqG_iff.2 (he (by omega))⟩
  rw [List.mem_take_iff_getElem]
  exact ⟨t, by omega, rfl⟩
theorem iabs_ge (x : Int) (l : Int) : (decide (-l ≤ x) && decide (x ≤ l)) = decide (iabs x ≤ l) := by
  rcases iabs_cases x with ⟨h1, h2⟩ | ⟨h1, h2⟩
  · rw [h2, Bool.eq_iff_iff]; simp; omega
  · rw [h2, Bool.eq_iff_iff]; simp; omega
set_option maxRecDepth 100000 in
set_option maxHeartbeats 1000000 in
theorem s_cc (I : Int) (L : List GateR) (s : Value) (w : World) (hs : Cs.Shows w 0 2 s L.length (GateR.all L)) (hI : -9223372036854775808 ≤ I ∧ I ≤ 9223372036854775807) (hok : ∀ r ∈ L, r.Ok) (hl : L.length ≤ maxLen) :
    Calls Try.prog 10 #[.agg #[.int .i64 I, s]] w fun e w' => e = .returned (.bool (ccB I L)) ∧ Below w.heap.size w w' := by
  have hml : maxLen = 9223372036854775807 := rfl
  have HS := Lib.hid hs
  obtain ⟨_, q, cap, rfl, hcap, _⟩ := hs
  have HX := Lib.hid (below_two (B := w.heap.size + 1) (heap_alloc_new w (.cells #[.int .i64 I, .slice q L.length cap] 29)) (by omega))
  have HB0 := Lib.hid ((Below.refl w.heap.size w).alloc (Nat.le_refl _) (.cells #[.int .i64 I, .slice q L.length cap] 29))
  have KI := Lib.hid (fun c (h : (decide (0 ≤ I) && decide (I ≤ 30)) = c) W => s_inb I 0 30 c h W)
  obtain ⟨w1, hw1⟩ : ∃ w1, w1 = w.alloc (.cells #[.int .i64 I, .slice q L.length cap] 29) := ⟨_, rfl⟩
  have hs1 : w1.heap.size = w.heap.size + 1 := by rw [hw1]; simp
  rw [← hw1] at HX HB0
  obtain ⟨x0, x1⟩ := HX.out w1 (Below.refl _ _)
  go_enter Try.func10, Try.ntmps10
  go_wp2_with fail
  rw [← hw1]
  clear hw1
  by_cases hi : 0 ≤ I ∧ I ≤ 30
  · obtain ⟨hi0, hi1⟩ := hi
    have KT := Lib.hid (KI.out true (by simp [hi0, hi1]))
    clear KI
    by_cases hl2 : 360 < L.length
    · have HV := Lib.hid (cc_out (I := I) (L := L) (.inr (.inr hl2)))
      go_wp2_with (go_at_call 31; refine (KT.out _).mono ?_; rintro e w2 ⟨rfl, rfl⟩)
      go_ret
      exact ⟨by rw [HV.out] <;> rfl, HB0.out⟩
    · have HV := Lib.hid (cc_in (L := L) hi0 hi1 (by omega))
      have HAT := Lib.hid (fun j (h : j < L.length) => gts_at I L j h)
      have HEND := Lib.hid (fun D => gts_end I L D L.length (Nat.le_refl _))
      have HG := Lib.hid (fun j (h : j < L.length) => hok L[j] (List.getElem_mem h))
      have HR : Hid (∀ j, (h : j < L.length) → ∃ b o, q = some ⟨b, o, none⟩ ∧ b < w.heap.size ∧ ∀ W, Below w.heap.size w W → W.cell? ⟨b, o + j * 2, none⟩ = some (.int .i64 L[j].f0) ∧ W.cell? ⟨b, o + j * 2 + 1, none⟩ = some (.int .i64 L[j].f1)) := Lib.hid (fun j h => by
        rcases Cs.shows_cases HS.out with ⟨h0, _⟩ | ⟨_, b, o, c, hq, _, _, hbl, hr⟩
        · omega
        · injection hq with e1 e2 e3
          refine ⟨b, o, e1, hbl, fun W hW => ?_⟩
          have hh := flat_nth GateR.cells 2 (fun _ => rfl) L j h (rangeAt_below hW hr)
          exact ⟨hh 0 _ rfl, hh 1 _ rfl⟩)
      clear hok HS
      go_wp2_with (go_at_call 31; refine (KT.out _).mono ?_; rintro e w2 ⟨rfl, rfl⟩)
      clear KT x0 x1
      go_loopw [21] (fun i wr => ∃ j : Nat, j ≤ L.length ∧ i = .int .i64 j ∧ gtsB I (L.take j) (L.drop j) = ccB I L ∧ Below (w.heap.size + 1) w1 wr) (fun i _ => L.length - (intOf i).toNat)
      case atStart => exact ⟨0, Nat.zero_le _, rfl, by rw [HV.out]; rfl, Below.refl _ _⟩
      case round =>
        clear HV
        obtain ⟨j, hj, rfl, hv, hb⟩ := hrel
        have HV := Lib.hid hv
        have HB := Lib.hid hb
        have hsz := hb.size
        clear hv
        by_cases hjn : j < L.length
        · obtain ⟨b, o, rfl, hbl, hcells⟩ := HR.out j hjn
          obtain ⟨c0, c1⟩ := hcells wr (HB0.out.trans (hb.mono (by omega)))
          clear hcells hb
          obtain ⟨x0, x1⟩ := HX.out wr HB.out
          have hg := HG.out j hjn
          have hat := HAT.out j hjn
          have HGJ := Lib.hid (show L[j]? = some L[j] from List.getElem?_eq_getElem hjn)
          generalize L[j] = g at *
          obtain ⟨a, d⟩ := g
          obtain ⟨ha, hd⟩ := hg
          simp only at ha hd c0 c1
          have HAJ := Lib.hid hat
          clear hat
          have hki : decide ((j : Int) < (L.length : Int)) = true := by simp; omega
          have hlt : w.heap.size < wr.heap.size := by omega
          have hbw : b < wr.heap.size := by omega
          have hlj : (L.take j).length = j := by rw [List.length_take]; omega
          have HB2 := Lib.hid (HB.out.alloc (by omega) (.cells #[.int .i64 a, .int .i64 d] 48))
          have HY := Lib.hid (below_two (B := wr.heap.size + 1) (heap_alloc_new wr (.cells #[.int .i64 a, .int .i64 d] 48)) (by omega))
          obtain ⟨W, hW⟩ : ∃ W, W = wr.alloc (.cells #[.int .i64 a, .int .i64 d] 48) := ⟨_, rfl⟩
          have hsW : W.heap.size = wr.heap.size + 1 := by rw [hW]; simp
          rw [← hW] at HB2 HY
          have HNO := Lib.hid (fun (h : ¬ iabs a ≤ I + 1 + (j : Int) ∨ ¬ iabs d ≤ I + 1 + (j : Int) ∨ ¬ 2 ≤ iabs a ∨ ¬ iabs a < iabs d ∨ hasG ⟨a, d⟩ (L.take j) = true) => gs_no (M := I + 1 + j) (D := L.take j) (a := a) (d := d) (by rw [hlj]) hi0 hi1 (by omega) ha.1 hd.1 h)
          have HYES := Lib.hid (fun g1 g2 g3 g4 g5 => gs_yes (M := I + 1 + j) (D := L.take j) (a := a) (d := d) (by rw [hlj]) hi0 hi1 (by omega) ha.1 hd.1 g1 g2 g3 g4 g5)
          have HF0 := Lib.hid (fun (h : gtB I (L.take j) ⟨a, d⟩ = false) => (show ccB I L = false by rw [← HV.out, HAJ.out, h]; rfl))
          have KN := Lib.hid (fun x c h W => s_inb x (-(I + 1 + j)) (I + 1 + j) c h W)
          have KX := Lib.hid (fun y (h : -9223372036854775807 ≤ y ∧ y ≤ 9223372036854775807) W => s_abs y h W)
          go_wp2_with fail
          rw [← hW]
          clear hW c0 c1 x0 x1
          generalize wr.heap.size = S0 at *
          obtain ⟨x0, x1⟩ := HX.out W HB2.out
          obtain ⟨y0, y1⟩ := HY.out W (Below.refl _ _)
          by_cases gA : iabs a ≤ I + 1 + j
          · have HBA := Lib.hid (show (decide (-(I + 1 + (j : Int)) ≤ a) && decide (a ≤ I + 1 + (j : Int))) = true by rw [iabs_ge]; simpa using gA)
            have ra := iabs_cases a
            by_cases gD : iabs d ≤ I + 1 + j
            · have HBD := Lib.hid (show (decide (-(I + 1 + (j : Int)) ≤ d) && decide (d ≤ I + 1 + (j : Int))) = true by rw [iabs_ge]; simpa using gD)
              have rd := iabs_cases d
              by_cases g2 : 2 ≤ iabs a
              · have e2 : decide (iabs a < 2) = false := by simp; omega
                by_cases g3 : iabs a < iabs d
                · have e3 : decide (iabs d ≤ iabs a) = false := by simp; omega
                  go_quiet ((first | (go_at_call 31; exact quiet_eq (KN.out _ _ (by first | exact HBA.out | exact HBD.out) _)) | (go_at_call 32; exact quiet_eq (KX.out _ (by omega) _))))
                  have HB3 := Lib.hid (below_drewN HB2.out nq)
                  have HY3 := Lib.hid (fun w' h => HY.out w' ((below_drewN (Below.refl _ W) nq).trans h))
                  have hs3 : (W.drewN nq).heap.size = W.heap.size := rfl
                  clear x0 x1 y0 y1 HY HB2
                  generalize W.drewN nq = W3 at *
                  obtain ⟨x0, x1⟩ := HX.out W3 HB3.out
                  go_wp2
                  clear x0 x1
                  go_loopw [67] (fun i wr => ∃ t : Nat, t ≤ j ∧ i = .int .i64 t ∧ hasG ⟨a, d⟩ (L.take t) = false ∧ Below W3.heap.size W3 wr) (fun i _ => j - (intOf i).toNat)
                  case atStart => exact ⟨0, Nat.zero_le _, rfl, rfl, Below.refl _ _⟩
                  case round =>
                    obtain ⟨t, ht, rfl, hno, hbq⟩ := hrel
                    have HQ := Lib.hid hbq
                    have hzq := hbq.size
                    by_cases htj : t < j
                    · obtain ⟨b', o', e', _, hcells⟩ := HR.out t (by omega)
                      cases e'
                      obtain ⟨c0, c1⟩ := hcells wr (HB0.out.trans ((HB3.out.trans (hbq.mono (by omega))).mono (by omega)))
                      obtain ⟨y0, y1⟩ := HY3.out wr (hbq.mono (by omega))
                      have HT := Lib.hid (show L[t]? = some L[t] from List.getElem?_eq_getElem (by omega))
                      have HTA := Lib.hid (fun (h : (⟨a, d⟩ : GateR) = L[t]) => has_at (L := L) htj hj (fun _ => h))
                      have HTN := Lib.hid (fun (h : (⟨a, d⟩ : GateR) ≠ L[t]) => has_take (L := L) htj hj hno (fun _ => h))
                      generalize L[t] = g at *
                      obtain ⟨a2, d2⟩ := g
                      simp only at c0 c1
                      have hkt : decide ((t : Int) < (j : Int)) = true := by simp; omega
                      have hlt2 : S0 < wr.heap.size := by omega
                      have hlt3 : b < wr.heap.size := by omega
                      clear hcells hbq hno
                      by_cases he : a = a2
                      · subst he
                        by_cases he2 : d = d2
                        · subst he2
                          have HF := Lib.hid (HF0.out (HNO.out (.inr (.inr (.inr (.inr (HTA.out rfl)))))))
                          clear HTA HTN HT
                          go_wp2
                          go_ret
                          exact ⟨by rw [HF.out] <;> rfl, HB0.out.trans ((HB3.out.trans ((HQ.out.alloc (by omega) _).mono (by omega))).mono (by omega))⟩
                        · have HN2 := Lib.hid (HTN.out (by simp; omega))
                          have hea : (d == d2) = false := by simpa using he2
                          clear HTA HTN HT
                          go_wp2
                          first
                            | (refine ⟨⟨t + 1, by omega, by go_num, HN2.out, HQ.out.alloc hzq _⟩, ?_⟩; simp [intOf]; omega)
                            | (go_roundw
                               case rel => exact ⟨t + 1, by omega, by go_num, HN2.out, HQ.out.alloc hzq _⟩
                               case measure => simp [intOf]; omega)
                      · have HN2 := Lib.hid (HTN.out (by simp; omega))
                        have hea : (a == a2) = false := by simpa using he
                        clear HTA HTN HT
                        go_wp2
                        first
                          | (refine ⟨⟨t + 1, by omega, by go_num, HN2.out, HQ.out.alloc hzq _⟩, ?_⟩; simp [intOf]; omega)
                          | (go_roundw
                             case rel => exact ⟨t + 1, by omega, by go_num, HN2.out, HQ.out.alloc hzq _⟩
                             case measure => simp [intOf]; omega)
                    · obtain rfl : t = j := by omega
                      have HY2 := Lib.hid (HYES.out gA gD g2 g3 hno)
                      have hkt : decide ((t : Int) < (t : Int)) = false := by simp
                      go_wp2
                      go_roundw
                      case rel => exact ⟨t + 1, by omega, by go_num, by rw [← HV.out, HAJ.out, HY2.out]; rfl, HB3.out.trans (hbq.mono (by omega))⟩
                      case measure => simp [intOf]; omega
                · have HF := Lib.hid (HF0.out (HNO.out (.inr (.inr (.inr (.inl (by omega)))))))
                  have e3 : decide (iabs d ≤ iabs a) = true := by simp; omega
                  clear HNO HYES HF0 HAJ HV
                  go_quiet ((first | (go_at_call 31; exact quiet_eq (KN.out _ _ (by first | exact HBA.out | exact HBD.out) _)) | (go_at_call 32; exact quiet_eq (KX.out _ (by omega) _))))
                  go_wp2
                  go_ret
                  exact ⟨by rw [HF.out] <;> rfl, HB0.out.trans ((below_drewN HB2.out _).mono (by omega))⟩
              · have HF := Lib.hid (HF0.out (HNO.out (.inr (.inr (.inl (by omega))))))
                have e2 : decide (iabs a < 2) = true := by simp; omega
                clear HNO HYES HF0 HAJ HV
                go_quiet ((first | (go_at_call 31; exact quiet_eq (KN.out _ _ (by first | exact HBA.out | exact HBD.out) _)) | (go_at_call 32; exact quiet_eq (KX.out _ (by omega) _))))
                go_wp2
                go_ret
                exact ⟨by rw [HF.out] <;> rfl, HB0.out.trans ((below_drewN HB2.out _).mono (by omega))⟩
            · have HF := Lib.hid (HF0.out (HNO.out (.inr (.inl (by omega)))))
              have HBD := Lib.hid (show (decide (-(I + 1 + (j : Int)) ≤ d) && decide (d ≤ I + 1 + (j : Int))) = false by rw [iabs_ge]; simpa using gD)
              clear HNO HYES HF0 HAJ HV KX
              go_quiet ((go_at_call 31; exact quiet_eq (KN.out _ _ (by first | exact HBA.out | exact HBD.out) _)))
              go_wp2
              go_ret
              exact ⟨by rw [HF.out] <;> rfl, HB0.out.trans ((below_drewN HB2.out _).mono (by omega))⟩
          · have HF := Lib.hid (HF0.out (HNO.out (.inl (by omega))))
            have HBA := Lib.hid (show (decide (-(I + 1 + (j : Int)) ≤ a) && decide (a ≤ I + 1 + (j : Int))) = false by rw [iabs_ge]; simpa using gA)
            clear HNO HYES HF0 HAJ HV KX
            go_quiet ((go_at_call 31; exact quiet_eq (KN.out _ _ HBA.out _)))
            go_wp2
            go_ret
            exact ⟨by rw [HF.out] <;> rfl, HB0.out.trans ((below_drewN HB2.out _).mono (by omega))⟩
        · obtain rfl : j = L.length := by omega
          have hv := HV.out
          rw [HEND.out] at hv
          have hki : decide ((L.length : Int) < (L.length : Int)) = false := by simp
          go_wp2
          go_ret
          exact ⟨by rw [← hv] <;> rfl, HB0.out.trans (HB.out.mono (by omega))⟩
  · have HV := Lib.hid (cc_out (I := I) (L := L) (by omega))
    have KF := Lib.hid (KI.out false (by simp; omega))
    go_wp2_with (go_at_call 31; refine (KF.out _).mono ?_; rintro e w2 ⟨rfl, rfl⟩)
    go_ret
    exact ⟨by rw [HV.out] <;> rfl, HB0.out⟩
end Go.Proofs.Ytimjkgciakbolab
