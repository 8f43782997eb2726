/- What the specification's FormatFormula returns. No condition. -/
import Derived.Test.YtkgdmamafemniaaDoorFfM
namespace Go.Proofs.YtkgdmamafemniaaDoor
open Go.ChangeShapes Go.WideShapes Go.ChangeAt Go.RowKit
theorem inr_ok {zs : List Int} (hok : ∀ x ∈ zs, IntL.Ok x) : ∀ z ∈ zs, InR z := hok
theorem s_fmtsS (zs : List Int) (v : Value) (w : World) (hv : Cs.Shows w 0 1 v zs.length (IntL.all zs)) (hok : ∀ x ∈ zs, IntL.Ok x) (hl : zs.length ≤ 1048576) :
    Calls Tryd.prog 25 #[v] w fun e w' => e = .returned (.string (fsT zs)) ∧ Below w.heap.size w w' := by
  rcases Cs.shows_cases hv with ⟨h0, q, cap, rfl⟩ | ⟨hpos, b, o, cap, rfl, _, _, hbl, hr⟩
  · have hL : zs = [] := List.length_eq_zero_iff.1 h0
    subst hL
    exact s_fmts_none q cap w
  · exact s_fmts b o cap zs.length zs rfl (inr_ok hok) hl w hbl (fun j u hu => hr j u (by rw [IntL.all_map]; exact hu))
set_option maxRecDepth 100000 in
set_option maxHeartbeats 2000000 in
theorem s_ff (n : Int) (L : List (List Int)) (v : Value) (w : World) (hv : (Cs.rows IntSS.c L).Is w 0 1 L.length v) (hok : (-9223372036854775808 ≤ n ∧ n ≤ 9223372036854775807) ∧ IntSS.Ok L ∧ L.length ≤ maxLen) (hc : IntSS.costs L ≤ 1048576) :
    Calls Tryd.prog 11 #[.agg #[.int .i64 n, v]] w fun e w' => e = .returned (.string (ffT n L)) ∧ Below w.heap.size w w' := by
  have hll := IntSS.len_le L
  have KF := Lib.hid (fun W (hb : Below w.heap.size w W) => s_fmok n L v W (hv.below hb) hok hc)
  have HV := Lib.hid hv
  have HOK := Lib.hid hok.2.1
  have hn := hok.1
  obtain ⟨_, ⟨_, q, cap, rfl, _⟩, _⟩ := hv
  by_cases hf : fmB n L = true
  · have HT := Lib.hid (show ffT n L = ffV n L by unfold ffT; rw [if_pos hf])
    have HS := Lib.hid (parts_short hf hok.2.1)
    have HQ := Lib.hid (pre_size n L)
    have HN := Lib.hid (pre_succ n L)
    have HA := Lib.hid (pre_all n L)
    have HZ := Lib.hid (pre_zero n L)
    have KI := Lib.hid (fun W => s_fmt n hn.1 hn.2 W)
    have HCL := Lib.hid (fun j (hj : j < L.length) => show L[j].length ≤ 1048576 by have := IntSS.cost_lt L j hj; omega)
    rw [hf] at KF
    clear hf hok
    rcases IntSS.cases HV.out with ⟨hL, q', cap', he⟩ | ⟨hpos, b, o, cap', he, hcl, hcm, hbl, HI⟩
    · subst hL
      cases he
      clear HV
      go_enter Tryd.func11, Tryd.ntmps11
      go_wp2_with fail
      refine (KF.out _ ((Below.refl _ _).alloc (Nat.le_refl _) _)).mono ?_
      rintro e w1 ⟨rfl, hb1⟩
      have B1 := Lib.hid (((Below.refl w.heap.size w).alloc (Nat.le_refl _) (.cells #[.int .i64 n, .slice q 0 cap] 38)).trans (hb1.mono (by simp)))
      have X1 := Lib.hid ((cell2_alloc w 38 (.int .i64 n) (.slice q 0 cap)).below hb1)
      clear hb1
      obtain ⟨x0, x1⟩ := X1.out
      go_wp2_with fail
      clear x0 x1
      refine (KI.out _).mono ?_
      rintro e w2 ⟨rfl, hb2⟩
      have B2 := Lib.hid (B1.out.trans (hb2.mono B1.out.size))
      obtain ⟨x0, x1⟩ := X1.out.below hb2
      clear hb2
      go_wp2
      refine wp_loop_rounds 1 ?_
      rw [rounds_succ]
      go_wp2
      go_ret
      exact ⟨by rw [HT.out, ← HA.out]; exact congrArg (fun x => Ending.returned (.string x)) HZ.out.symm, B2.out⟩
    · cases he
      have HI := Lib.hid HI
      have HBL := Lib.hid hbl
      clear HV
      go_enter Tryd.func11, Tryd.ntmps11
      go_wp2_with fail
      refine (KF.out _ ((Below.refl _ _).alloc (Nat.le_refl _) _)).mono ?_
      rintro e w1 ⟨rfl, hb1⟩
      have B1 := Lib.hid (((Below.refl w.heap.size w).alloc (Nat.le_refl _) (.cells #[.int .i64 n, .slice (some ⟨b, o, none⟩) L.length cap] 38)).trans (hb1.mono (by simp)))
      have X1 := Lib.hid ((cell2_alloc w 38 (.int .i64 n) (.slice (some ⟨b, o, none⟩) L.length cap)).below hb1)
      clear hb1
      obtain ⟨x0, x1⟩ := X1.out
      go_wp2_with fail
      clear x0 x1
      refine (KI.out _).mono ?_
      rintro e w2 ⟨rfl, hb2⟩
      have B2 := Lib.hid (B1.out.trans (hb2.mono B1.out.size))
      obtain ⟨x0, x1⟩ := X1.out.below hb2
      clear hb2
      go_wp2
      clear x0 x1 X1
      go_loopw [3, 15] (fun s i wr => ∃ (j : Nat), j ≤ L.length ∧ i = .int .i64 j ∧ s = .string (ffPre n L j) ∧ Below w.heap.size w wr) (fun _ i _ => L.length - (intOf i).toNat)
      case atStart => exact ⟨0, Nat.zero_le _, rfl, congrArg Value.string HZ.out.symm, B2.out⟩
      case round =>
        clear B1 B2
        obtain ⟨j, hj, rfl, rfl, hb⟩ := hrel
        have HB := Lib.hid hb
        by_cases hjn : j < L.length
        · obtain ⟨qj, mj, cj, hmj, c0, hsh⟩ := HI.out _ hb j hjn
          have hlj := HCL.out j hjn
          have HNX := Lib.hid (HN.out j hjn)
          have hsz := Nat.le_trans (HQ.out j) HS.out
          have hsz2 : (fsT L[j]).size ≤ 23068672 := fsT_size _ (HOK.out L[j] (List.getElem_mem hjn)).1 hlj
          have KS := Lib.hid (fun W (hW : Below wr.heap.size wr W) => s_fmtsS L[j] (.slice qj mj cj) W (hsh.below hW) (HOK.out L[j] (List.getElem_mem hjn)).1 hlj)
          have hki : (j : Int) < (L.length : Int) := by omega
          generalize fsT L[j] = tj at *
          generalize hpj : ffPre n L j = pj at *
          clear hsh hmj hlj hb
          go_wp2_with fail
          refine (KS.out _ (Below.refl _ _)).mono ?_
          rintro e w3 ⟨rfl, hb3⟩
          have B3 := Lib.hid (HB.out.trans (hb3.mono HB.out.size))
          clear hb3 c0
          go_wp2
          go_roundw
          case rel => exact ⟨j + 1, by omega, by go_num, congrArg Value.string HNX.out, B3.out⟩
          case measure => simp [intOf]; omega
        · have hnj : ¬ ((j : Int) < (L.length : Int)) := by omega
          have ej : j = L.length := by omega
          have HE := Lib.hid (show ffPre n L j = ffV n L by rw [ej]; exact HA.out)
          clear hb ej
          go_wp2
          go_ret
          exact ⟨by rw [HT.out, ← HE.out]; rfl, HB.out⟩
  · have hf' : fmB n L = false := by simpa using hf
    have HT := Lib.hid (show ffT n L = ⟨#[]⟩ by unfold ffT; rw [if_neg hf])
    rw [hf'] at KF
    clear hf hf' HV HOK hok
    go_enter Tryd.func11, Tryd.ntmps11
    go_wp2_with fail
    refine (KF.out _ ((Below.refl _ _).alloc (Nat.le_refl _) _)).mono ?_
    rintro e w1 ⟨rfl, hb1⟩
    have B1 := Lib.hid (((Below.refl w.heap.size w).alloc (Nat.le_refl _) (.cells #[.int .i64 n, .slice q L.length cap] 38)).trans (hb1.mono (by simp)))
    clear hb1
    go_wp2
    go_ret
    exact ⟨by rw [HT.out] <;> rfl, B1.out⟩
end Go.Proofs.YtkgdmamafemniaaDoor
