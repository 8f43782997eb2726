/- What the program's (Path).holds returns. No condition. -/
import Derived.Test.YthmababifgaejaaGreatDoorEmGEv
import Derived.Test.YthmababifgaejaaGreatDoorEmEvR
import Derived.Test.YthmababifgaejaaGreatDoorEmPath
namespace Go.Proofs.YthmababifgaejaaGreatDoor
open Go.ChangeShapes Go.WideShapes Go.ChangeAt Go.RowKit
open ValueR (all costs)
set_option maxRecDepth 100000 in
set_option maxHeartbeats 4000000 in
theorem i_pholds (V : List ValueR) (hV : VlOk V) (x : PaR) (hF : tmB x.C 1 = true) (r m sk o c u v : Value) (w : World) (hx : PaI w 0 x r m sk o c u) (hv : Cs.Shows w 0 3 v V.length (all V)) (hcc : x.cost ≤ 1048576) :
    Calls Tryz.prog 47 #[.agg #[.int .i64 x.pc, r, m, sk, .int .i64 x.inn, o, .int .i64 x.cd, .int .i64 x.st, c, u], v] w fun e w' => e = .returned (.bool (cdB V x.C)) ∧ Below w.heap.size w w' := by
  have hml : maxLen = 9223372036854775807 := rfl
  have hcx : x.cost = x.R.cost + x.M.cost + x.S.length + x.O.cost + x.C.cost + x.U.length := rfl
  have HV := Lib.hid hv
  obtain ⟨_, qv, cv, rfl, _⟩ := hv
  obtain ⟨hr, hm, hsk, ho, hc, hu⟩ := hx
  have his := hc
  clear hc
  obtain ⟨_, ⟨_, qr, cr, rfl, _⟩, _⟩ := hr
  obtain ⟨_, ⟨_, qm, cm, rfl, _⟩, _⟩ := hm
  obtain ⟨_, qsk, csk, rfl, _⟩ := hsk
  obtain ⟨_, ⟨_, qo, co, rfl, _⟩, _⟩ := ho
  obtain ⟨_, qu, cu, rfl, _⟩ := hu
  obtain ⟨F, hFx⟩ : ∃ F, x.C = F := ⟨_, rfl⟩
  have hFc : F.cost ≤ 1048576 := by rw [← hFx]; omega
  rw [hFx] at his hF ⊢
  obtain ⟨pc, hpc⟩ : ∃ n, x.pc = n := ⟨_, rfl⟩
  obtain ⟨inn, hinn⟩ : ∃ n, x.inn = n := ⟨_, rfl⟩
  obtain ⟨cd, hcd⟩ : ∃ n, x.cd = n := ⟨_, rfl⟩
  obtain ⟨st, hst⟩ : ∃ n, x.st = n := ⟨_, rfl⟩
  obtain ⟨lR, hlR⟩ : ∃ n, x.R.len = n := ⟨_, rfl⟩
  obtain ⟨lM, hlM⟩ : ∃ n, x.M.len = n := ⟨_, rfl⟩
  obtain ⟨lS, hlS⟩ : ∃ n, x.S.length = n := ⟨_, rfl⟩
  obtain ⟨lO, hlO⟩ : ∃ n, x.O.len = n := ⟨_, rfl⟩
  obtain ⟨lU, hlU⟩ : ∃ n, x.U.length = n := ⟨_, rfl⟩
  rw [hpc, hinn, hcd, hst, hlR, hlM, hlS, hlO, hlU]
  clear hpc hinn hcd hst hlR hlM hlS hlO hlU hcx hFx hcc
  have hFn := F.nodes_le
  have hFl := F.len_le
  rcases Fo.is_cases his with ⟨h0, qc, cc, rfl⟩ | ⟨hpos, b, o, cc, ys, rfl, hc1, hc2, _, hbl, hvs, hr⟩
  · have hFe : F = .nil := by cases F with | nil => rfl | cons => simp [Fo.len] at h0
    subst hFe
    clear his h0 hFc hFn hFl hF
    go_enter Tryz.func47, Tryz.ntmps47
    go_wp2
    refine wp_loop_rounds 1 ?_
    rw [rounds_succ]
    go_wp2
    go_ret
    exact ⟨rfl, (Below.refl _ _).alloc (Nat.le_refl _) _⟩
  · have HI := Lib.hid (fun j (hj : j < F.len) => Fo.nth F hvs hr j hj)
    have HTM := Lib.hid (fun j op wd' n nm k (h : F.At j op wd' n nm k) => tm_at hF j h)
    have HTA := Lib.hid F.take_all
    have HCZ := Lib.hid (cd_zero V F)
    have HCT := Lib.hid (fun j op wd n nm k (h : F.At j op wd n nm k) => cd_take V F j h)
    have HCB := Lib.hid (fun j op wd n nm k (h : F.At j op wd n nm k) hne => cd_bad V F j h hne)
    have HND := Lib.hid (fun j op wd n nm k (h : F.At j op wd n nm k) => (Fo.at_nodes F j h).2)
    have HWD := Lib.hid (fun op n nm k y (h : tkB op 1 n nm k = true) (hy : evOne V op 1 n nm k = some y) => cd_word hV h hy)
    clear his hvs hr hF
    have HB0 := Lib.hid ((Below.refl w.heap.size w).alloc (Nat.le_refl _) (.cells #[.int .i64 pc, .slice qr lR cr, .slice qm lM cm, .slice qsk lS csk, .int .i64 inn, .slice qo lO co, .int .i64 cd, .int .i64 st, .slice (some ⟨b, o, none⟩) F.len cc, .slice qu lU cu] 41))
    go_enter Tryz.func47, Tryz.ntmps47
    go_wp2
    go_loopw [12] (fun i wr => ∃ (j : Nat), j ≤ F.len ∧ i = .int .i64 j ∧ cdB V (F.take j) = true ∧ Below w.heap.size w wr) (fun i _ => F.len - (intOf i).toNat)
    case atStart => exact ⟨0, Nat.zero_le _, rfl, HCZ.out, HB0.out⟩
    case round =>
      obtain ⟨j, hj, rfl, hcd, hb⟩ := hrel
      have HCD := Lib.hid hcd
      have HB := Lib.hid hb
      clear hcd hb
      by_cases hjn : j < F.len
      · obtain ⟨op', wd2, n', nm', k, u, hat, his, hrr⟩ := HI.out j hjn
        obtain ⟨hwd, hT⟩ := HTM.out _ _ _ _ _ _ hat
        subst hwd
        have HW1 := Lib.hid (fun y hy => HWD.out _ _ _ _ y hT hy)
        obtain ⟨hf1, hf2⟩ := tk_ok hT
        have hnd := HND.out _ _ _ _ _ _ hat
        have HE1 := Lib.hid (HCT.out _ _ _ _ _ _ hat)
        have HE2 := Lib.hid (HCB.out _ _ _ _ _ _ hat)
        have hrr := rangeAt_below HB.out hrr
        have HISK := Lib.hid his
        obtain ⟨_, ⟨_, q', cap', rfl, _⟩, _⟩ := his
        have c0 : wr.cell? ⟨b, o + j * 5, none⟩ = some (.int .i64 op') := hrr 0 _ rfl
        have c1 : wr.cell? ⟨b, o + j * 5 + 1, none⟩ = some (.int .i64 1) := hrr 1 _ rfl
        have c2 : wr.cell? ⟨b, o + j * 5 + 2, none⟩ = some (.int .i64 n') := hrr 2 _ rfl
        have c3 : wr.cell? ⟨b, o + j * 5 + 3, none⟩ = some (.string nm') := hrr 3 _ rfl
        have c4 : wr.cell? ⟨b, o + j * 5 + 4, none⟩ = some (.slice q' k.len cap') := hrr 4 _ rfl
        have SO := Lib.hid (fun W (hW : Below w.heap.size w W) => i_eval_any V hV k op' 1 n' nm' _ _ W (HISK.out.below hW) (HV.out.below hW) hf1 hf2 (by omega))
        have hsz := HB.out.size
        have hki : (j : Int) < (F.len : Int) := by omega
        have HBA := Lib.hid (HB.out.alloc hsz (.cells #[.int .i64 op', .int .i64 1, .int .i64 n', .string nm', .slice q' k.len cap'] 64))
        clear hrr hat hf1 hf2
        cases hev : evOne V op' 1 n' nm' k with
        | none =>
          rw [hev] at SO
          have HN := Lib.hid (HE2.out (by rw [hev]; simp))
          have hr0 : evV none = .tuple #[.int .i64 0, .bool false] := rfl
          rw [hr0] at SO
          clear hev hr0 hT
          go_wp2_with fail
          refine (SO.out _ HBA.out).mono ?_
          rintro e w1 ⟨rfl, hb1⟩
          have HB1 := Lib.hid (HBA.out.trans (hb1.mono (by simp; omega)))
          clear hb1
          go_wp2
          go_ret
          exact ⟨by rw [HN.out] <;> rfl, HB1.out⟩
        | some y =>
          have hy01 := HW1.out y hev
          rw [hev] at SO
          have hr0 : evV (some y) = .tuple #[.int .i64 y, .bool true] := rfl
          rw [hr0] at SO
          rcases hy01 with rfl | rfl
          · have HN := Lib.hid (HE2.out (by rw [hev]; simp))
            clear hev hr0 hT
            go_wp2_with fail
            refine (SO.out _ HBA.out).mono ?_
            rintro e w1 ⟨rfl, hb1⟩
            have HB1 := Lib.hid (HBA.out.trans (hb1.mono (by simp; omega)))
            clear hb1
            go_wp2
            go_ret
            exact ⟨by rw [HN.out] <;> rfl, HB1.out⟩
          · have HN := Lib.hid (show cdB V (F.take (j + 1)) = true by rw [HE1.out, HCD.out, hev]; simp)
            clear hev hr0 hT
            go_wp2_with fail
            refine (SO.out _ HBA.out).mono ?_
            rintro e w1 ⟨rfl, hb1⟩
            have HB1 := Lib.hid (HBA.out.trans (hb1.mono (by simp; omega)))
            clear hb1 c0 c1 c2 c3 c4
            go_wp2
            go_roundw
            case rel => exact ⟨j + 1, by omega, by go_num, HN.out, HB1.out⟩
            case measure => simp [intOf]; omega
      · have hnj : ¬ ((j : Int) < (F.len : Int)) := by omega
        have ej : j = F.len := by omega
        have HXA := Lib.hid (show cdB V F = true by have h := HCD.out; rw [ej, HTA.out] at h; exact h)
        clear ej
        go_wp2
        go_ret
        exact ⟨by rw [HXA.out] <;> rfl, HB.out⟩
end Go.Proofs.YthmababifgaejaaGreatDoor
