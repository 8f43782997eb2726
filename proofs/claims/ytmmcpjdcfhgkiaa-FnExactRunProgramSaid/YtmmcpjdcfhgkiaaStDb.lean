/- What the functions of the program's machine do. No condition. -/
import Derived.Test.YtmmcpjdcfhgkiaaStD
import Derived.Test.YtmmcpjdcfhgkiaaReg
import Derived.Test.YtmmcpjdcfhgkiaaMid
import Derived.Test.YtmmcpjdcfhgkiaaUn1
import Derived.StillTailTactics
import Derived.Deep.RegionWith
import Derived.Deep.CutRange
namespace Go.Proofs.Ytmmcpjdcfhgkiaa
open Go.ChangeShapes Go.WideShapes Go.ChangeAt Go.RowKit
set_option maxRecDepth 100000 in
set_option maxHeartbeats 8000000 in
theorem d_load : DoesIt 95 7 := by
  intro vw vm vi n qL nL cL iq ic I x r m s o nx a b' c b base w hw2 hw8 hv3 hG hI hli hbb hM0 hO0 hi
  obtain ⟨pc, R, M, S, inn, O, cd, st⟩ := x
  have hR : R.length = 4 := hG.hR
  have hS3 : S.length ≤ 3 := hG.hS
  have hO6 : O.length ≤ 6 := hG.hO
  have HI := Lib.hid hI
  have HG := Lib.hid hG
  have hinn : 0 ≤ inn ∧ inn ≤ vi := hG.inn
  have HMV := Lib.hid (show (M.length : Int) = vm from hG.hM)
  obtain ⟨gr, rc, rfl⟩ : ∃ g c, r = .slice (some ⟨g, 0, none⟩) 4 c := by have := own_some hO0.1 (show 0 < R.length by omega); rw [show (StR.mk pc R M S inn O cd st).R.length = 4 from hR] at this; exact this
  have hM1 : 1 ≤ vm ∨ vm ≤ 0 := by omega
  obtain ⟨mq, mc, rfl⟩ := own_slice hO0.2.1
  obtain ⟨sq, sc, rfl⟩ := own_slice hO0.2.2.1
  obtain ⟨oq, oc, rfl⟩ := own_slice hO0.2.2.2.1
  clear hM1
  obtain ⟨hop, hA, hB, hC⟩ := ins_parts hi
  simp only at hop hA hB hC
  have hgr : gr < w.heap.size := (hO0.lt (g := gr) (by simp [StB, Value.ownBlock])).2
  have hbs : b < w.heap.size := row_lt hM0
  have hne : gr ≠ b := fun e => hM0.off hO0 (by rw [← e]; simp [StB, Value.ownBlock])
  obtain ⟨w0, hw0⟩ : ∃ w0, w0 = w.alloc (.cells #[.int .i64 7, .int .i64 a, .int .i64 b', .int .i64 c] 77) := ⟨_, rfl⟩
  have HB := Lib.hid (show Below w.heap.size w w0 by rw [hw0]; exact (Below.refl _ _).alloc (Nat.le_refl _) _)
  have hs0 : w.heap.size < w0.heap.size := by rw [hw0]; simp
  have IR := Lib.hid (show w0.heap[w.heap.size]? = some (.cells #[.int .i64 7, .int .i64 a, .int .i64 b', .int .i64 c] 77 (0, 0)) by rw [hw0]; exact heap_alloc_new _ _)
  have MR := Lib.hid (hM0.keep HB.out)
  have OR := Lib.hid (hO0.keep HB.out)
  have A0 := Lib.hid (Apart.of_below (bs := b :: StB (.slice (some ⟨gr, 0, none⟩) 4 rc) (.slice mq M.length mc) (.slice sq S.length sc) (.slice oq O.length oc)) HB.out)
  have HM0 := Lib.hid hM0
  have HO0 := Lib.hid hO0
  have hgr0 : gr < w0.heap.size := by omega
  have hbs0 : b < w0.heap.size := by omega
  clear hG hI hi hM0 hO0
  clear hli
  obtain ⟨ka, hpka⟩ : ∃ j : Nat, a = j := ⟨a.toNat, by have := reg_of hA; omega⟩
  have hka : ka < 4 := by have := reg_of hA; omega
  have hkai : (ka : Int) < 4 := by omega
  have hwka := HG.out.reg (reg_of hA)
  subst hpka
  have hkaR : ka < R.length := by omega
  obtain ⟨cka, zka⟩ := own_cell2 OR.out.1 ka (show ka < R.length by omega)
  have HAka := Lib.hid (atI_nat R ka (by omega))
  obtain ⟨kb, hpkb⟩ : ∃ j : Nat, b' = j := ⟨b'.toNat, by have := reg_of hB; omega⟩
  have hkb : kb < 4 := by have := reg_of hB; omega
  have hkbi : (kb : Int) < 4 := by omega
  have hwkb := HG.out.reg (reg_of hB)
  subst hpkb
  have hkbR : kb < R.length := by omega
  obtain ⟨ckb, zkb⟩ := own_cell2 OR.out.1 kb (show kb < R.length by omega)
  have HAkb := Lib.hid (atI_nat R kb (by omega))
  have hxkb := hwkb
  rw [HAkb.out] at hxkb
  have hwy : whyV vm vi ⟨pc, R, M, S, inn, O, cd, st⟩ ⟨7, (ka : Int), (kb : Int), c⟩ = if vm ≤ atI R (kb : Int) then 5 else 0 := rfl
  rw [HAkb.out] at hwy
  have KP := Lib.hid (fun v W h1 h2 h3 h4 => i_mput b gr rc ka v (R[ka]'hkaR) W h1 h2 hka h3 h4)
  have hmv := HMV.out
  by_cases hz : vm ≤ R[kb]
  · rw [if_pos hz] at hwy
    rw [hwy, if_neg (by decide), if_neg (by decide)]
    have hq : decide ((M.length : Int) ≤ R[kb]) = true := decide_eq_true (by omega)
    clear hz hwy hmv
    go_enter Try.func95, Try.ntmps95
    go_upto_region 1 with fail
    rw [← hw0]
    clear hw0
    obtain ⟨m0, m1, m2, m3, m4, m5, m6, m7, m8, m9, m10, m11, m12, m13⟩ := mcells MR.out
    obtain ⟨i0, i1, i2, i3⟩ := cell4_row IR.out
    go_region
    go_wp2
    go_ret
    exact m_same HM0.out HO0.out HB.out.drew _
  · rw [if_neg hz] at hwy
    rw [hwy, if_pos rfl, if_pos rfl]
    have hM1 : 0 < M.length := by have := hxkb.2.2.1; omega
    obtain ⟨gm, mc', hmq⟩ := own_some HO0.out.2.1 (show 0 < M.length by omega)
    cases hmq
    obtain ⟨km, hkm⟩ : ∃ j : Nat, R[kb] = j := ⟨R[kb].toNat, by have := hxkb.2.2.1; omega⟩
    have hkml : km < M.length := by omega
    have hkmi : (km : Int) < (M.length : Int) := by omega
    rw [hkm] at ckb
    obtain ⟨cm, fm⟩ := own_cell2 OR.out.2.1 km (show km < M.length from hkml)
    have HAm := Lib.hid (atI_nat M km hkml)
    have HKM := Lib.hid hkm
    have hgm : gm < w.heap.size := (HO0.out.lt (g := gm) (by simp [StB, Value.ownBlock])).2
    have hgm0 : gm < w0.heap.size := by omega
    have hgmr : gm ≠ gr := fun e => ((nodup4 HO0.out.2.2.2.2).1 gr (by simp [Value.ownBlock])).1 (by rw [← e]; simp [Value.ownBlock])
    have hgmB : gm ∈ StB (.slice (some ⟨gr, 0, none⟩) 4 rc) (.slice (some ⟨gm, 0, none⟩) M.length mc) (.slice sq S.length sc) (.slice oq O.length oc) := by unfold StB; simp [Value.ownBlock]
    have hnem : gm ≠ b := fun e => HM0.out.off HO0.out (by rw [← e]; simp [StB, Value.ownBlock])
    clear hkm
    have hq : decide ((M.length : Int) ≤ (km : Int)) = false := decide_eq_false (by omega)
    have hq2 : (km : Int) < (M.length : Int) := hkmi
    clear hz hwy hmv
    go_enter Try.func95, Try.ntmps95
    go_upto_region 1 with fail
    rw [← hw0]
    clear hw0
    obtain ⟨m0, m1, m2, m3, m4, m5, m6, m7, m8, m9, m10, m11, m12, m13⟩ := mcells MR.out
    obtain ⟨i0, i1, i2, i3⟩ := cell4_row IR.out
    go_region
    go_upto_region 4 with fail
    have CH : Hid (w0.drew.drew.cell? ⟨w.heap.size, 1, none⟩ = some (.int .i64 (ka : Int)) ∧ w0.drew.drew.cell? ⟨b, 7, none⟩ = some (.slice (some ⟨gm, 0, none⟩) M.length mc) ∧ w0.drew.drew.cell? ⟨gm, km, none⟩ = some (.int .i64 M[km])) := Lib.hid ⟨by assumption, by assumption, by assumption⟩
    refine region_s [] (fun V => V.cell? ⟨w.heap.size, 1, none⟩ = some (.int .i64 (ka : Int)) ∧ V.cell? ⟨b, 7, none⟩ = some (.slice (some ⟨gm, 0, none⟩) M.length mc) ∧ V.cell? ⟨gm, km, none⟩ = some (.int .i64 M[km])) (by kernel_rfl) ?_
    refine take_s (i := 0) (v := .pointer (some ⟨b, 0, none⟩)) rfl (by kernel_rfl) (fun _ _ _ h => h) CH.out rfl (fun V hV => ?_) ?_
    · go_simp
    refine take_s (i := 1) (v := .pointer (some ⟨w.heap.size, 1, none⟩)) rfl (by kernel_rfl) (fun _ _ _ h => h) CH.out rfl (fun V hV => ?_) ?_
    · go_simp
    refine take_s (i := 2) (v := .int .i64 (ka : Int)) rfl (by kernel_rfl) (fun _ _ _ h => h) CH.out rfl (fun V hV => ?_) ?_
    · obtain ⟨t0, t1, t2⟩ := hV; go_simp
    refine take_s (i := 3) (v := .pointer (some ⟨b, 0, none⟩)) rfl (by kernel_rfl) (fun _ _ _ h => h) CH.out rfl (fun V hV => ?_) ?_
    · go_simp
    refine take_s (i := 4) (v := .pointer (some ⟨b, 0, none⟩)) rfl (by kernel_rfl) (fun _ _ _ h => h) CH.out rfl (fun V hV => ?_) ?_
    · go_simp
    refine take_s (i := 5) (v := .pointer (some ⟨b, 5, none⟩)) rfl (by kernel_rfl) (fun _ _ _ h => h) CH.out rfl (fun V hV => ?_) ?_
    · go_simp
    refine take_s (i := 6) (v := .pointer (some ⟨b, 7, none⟩)) rfl (by kernel_rfl) (fun _ _ _ h => h) CH.out rfl (fun V hV => ?_) ?_
    · go_simp
    refine take_s (i := 7) (v := .slice (some ⟨gm, 0, none⟩) M.length mc) rfl (by kernel_rfl) (fun _ _ _ h => h) CH.out rfl (fun V hV => ?_) ?_
    · obtain ⟨t0, t1, t2⟩ := hV; go_simp
    refine take_s (i := 8) (v := .int .i64 (km : Int)) rfl (by kernel_rfl) (fun _ _ _ h => h) CH.out rfl (fun V hV => ?_) ?_
    · go_simp
    refine take_s (i := 9) (v := .pointer (some ⟨gm, km, none⟩)) rfl (by kernel_rfl) (fun _ _ _ h => h) CH.out rfl (fun V hV => ?_) ?_
    · go_simp
    refine take_s (i := 10) (v := .int .i64 M[km]) rfl (by kernel_rfl) (fun _ _ _ h => h) CH.out rfl (fun V hV => ?_) ?_
    · obtain ⟨t0, t1, t2⟩ := hV; go_simp
    refine one_s (i := 11) (by kernel_rfl) (op_list rfl ?_)
    go_wp2_with fail
    refine (KP.out (M[km]) (w0.drew.drew) (by simpa using hbs0) m6 cka zka).mono ?_
    rintro e w9 ⟨rfl, hw9⟩
    have HW := Lib.hid hw9
    have CP := Lib.hid (show w9.cell? ⟨w.heap.size, 1, none⟩ = some (.int .i64 (ka : Int)) ∧ w9.cell? ⟨b, 7, none⟩ = some (.slice (some ⟨gm, 0, none⟩) M.length mc) ∧ w9.cell? ⟨gm, km, none⟩ = some (.int .i64 M[km]) from by obtain ⟨t0, t1, t2⟩ := CH.out; rw [hw9]; exact ⟨(World.cell?_of_block (heap_setCell_other (w0.drew.drew) ⟨gr, ka, none⟩ (w.heap.size) _ (fun h => by have h : w.heap.size = gr := h; omega))).trans t0, (World.cell?_of_block (heap_setCell_other (w0.drew.drew) ⟨gr, ka, none⟩ (b) _ (fun h => by have h : b = gr := h; omega))).trans t1, (World.cell?_of_block (heap_setCell_other (w0.drew.drew) ⟨gr, ka, none⟩ (gm) _ (fun h => by have h : gm = gr := h; omega))).trans t2⟩)
    clear hw9
    go_wp2
    refine ⟨fun _ => CP.out, ?_⟩
    refine one_s (i := 12) (by kernel_rfl) (op_list rfl ?_)
    go_wp2
    refine ⟨fun _ => CP.out, done_s (by kernel_rfl) ?_ _⟩
    go_wp2
    go_ret
    rw [show doX vw I ⟨pc, R, M, S, inn, O, cd, st⟩ nx ⟨7, (ka : Int), (kb : Int), c⟩ = ⟨pc, R.set ka (atI M (atI R (kb : Int))), M, S, inn, O, cd, st⟩ from rfl, HAkb.out, HKM.out, HAm.out]
    have hb9 := (Below.refl w0.heap.size w0).drew.drew
    exact m_poke (W := w0.drew.drew) (MR.out.keep hb9) (OR.out.keep hb9) (A0.out.trans (Apart.of_below hb9)) ka M[km] HW.out _
set_option maxRecDepth 100000 in
set_option maxHeartbeats 8000000 in
theorem d_store : DoesIt 96 8 := by
  intro vw vm vi n qL nL cL iq ic I x r m s o nx a b' c b base w hw2 hw8 hv3 hG hI hli hbb hM0 hO0 hi
  obtain ⟨pc, R, M, S, inn, O, cd, st⟩ := x
  have hR : R.length = 4 := hG.hR
  have hS3 : S.length ≤ 3 := hG.hS
  have hO6 : O.length ≤ 6 := hG.hO
  have HI := Lib.hid hI
  have HG := Lib.hid hG
  have hinn : 0 ≤ inn ∧ inn ≤ vi := hG.inn
  have HMV := Lib.hid (show (M.length : Int) = vm from hG.hM)
  obtain ⟨gr, rc, rfl⟩ : ∃ g c, r = .slice (some ⟨g, 0, none⟩) 4 c := by have := own_some hO0.1 (show 0 < R.length by omega); rw [show (StR.mk pc R M S inn O cd st).R.length = 4 from hR] at this; exact this
  have hM1 : 1 ≤ vm ∨ vm ≤ 0 := by omega
  obtain ⟨mq, mc, rfl⟩ := own_slice hO0.2.1
  obtain ⟨sq, sc, rfl⟩ := own_slice hO0.2.2.1
  obtain ⟨oq, oc, rfl⟩ := own_slice hO0.2.2.2.1
  clear hM1
  obtain ⟨hop, hA, hB, hC⟩ := ins_parts hi
  simp only at hop hA hB hC
  have hgr : gr < w.heap.size := (hO0.lt (g := gr) (by simp [StB, Value.ownBlock])).2
  have hbs : b < w.heap.size := row_lt hM0
  have hne : gr ≠ b := fun e => hM0.off hO0 (by rw [← e]; simp [StB, Value.ownBlock])
  obtain ⟨w0, hw0⟩ : ∃ w0, w0 = w.alloc (.cells #[.int .i64 8, .int .i64 a, .int .i64 b', .int .i64 c] 77) := ⟨_, rfl⟩
  have HB := Lib.hid (show Below w.heap.size w w0 by rw [hw0]; exact (Below.refl _ _).alloc (Nat.le_refl _) _)
  have hs0 : w.heap.size < w0.heap.size := by rw [hw0]; simp
  have IR := Lib.hid (show w0.heap[w.heap.size]? = some (.cells #[.int .i64 8, .int .i64 a, .int .i64 b', .int .i64 c] 77 (0, 0)) by rw [hw0]; exact heap_alloc_new _ _)
  have MR := Lib.hid (hM0.keep HB.out)
  have OR := Lib.hid (hO0.keep HB.out)
  have A0 := Lib.hid (Apart.of_below (bs := b :: StB (.slice (some ⟨gr, 0, none⟩) 4 rc) (.slice mq M.length mc) (.slice sq S.length sc) (.slice oq O.length oc)) HB.out)
  have HM0 := Lib.hid hM0
  have HO0 := Lib.hid hO0
  have hgr0 : gr < w0.heap.size := by omega
  have hbs0 : b < w0.heap.size := by omega
  clear hG hI hi hM0 hO0
  clear hli
  obtain ⟨ka, hpka⟩ : ∃ j : Nat, a = j := ⟨a.toNat, by have := reg_of hA; omega⟩
  have hka : ka < 4 := by have := reg_of hA; omega
  have hkai : (ka : Int) < 4 := by omega
  have hwka := HG.out.reg (reg_of hA)
  subst hpka
  have hkaR : ka < R.length := by omega
  obtain ⟨cka, zka⟩ := own_cell2 OR.out.1 ka (show ka < R.length by omega)
  have HAka := Lib.hid (atI_nat R ka (by omega))
  obtain ⟨kb, hpkb⟩ : ∃ j : Nat, b' = j := ⟨b'.toNat, by have := reg_of hB; omega⟩
  have hkb : kb < 4 := by have := reg_of hB; omega
  have hkbi : (kb : Int) < 4 := by omega
  have hwkb := HG.out.reg (reg_of hB)
  subst hpkb
  have hkbR : kb < R.length := by omega
  obtain ⟨ckb, zkb⟩ := own_cell2 OR.out.1 kb (show kb < R.length by omega)
  have HAkb := Lib.hid (atI_nat R kb (by omega))
  have hxka := hwka
  rw [HAka.out] at hxka
  have hwy : whyV vm vi ⟨pc, R, M, S, inn, O, cd, st⟩ ⟨8, (ka : Int), (kb : Int), c⟩ = if vm ≤ atI R (ka : Int) then 5 else 0 := rfl
  rw [HAka.out] at hwy
  have hmv := HMV.out
  by_cases hz : vm ≤ R[ka]
  · rw [if_pos hz] at hwy
    rw [hwy, if_neg (by decide), if_neg (by decide)]
    have hq : decide ((M.length : Int) ≤ R[ka]) = true := decide_eq_true (by omega)
    clear hz hwy hmv
    go_enter Try.func96, Try.ntmps96
    go_upto_region 1 with fail
    rw [← hw0]
    clear hw0
    obtain ⟨m0, m1, m2, m3, m4, m5, m6, m7, m8, m9, m10, m11, m12, m13⟩ := mcells MR.out
    obtain ⟨i0, i1, i2, i3⟩ := cell4_row IR.out
    go_region
    go_wp2
    go_ret
    exact m_same HM0.out HO0.out HB.out.drew _
  · rw [if_neg hz] at hwy
    rw [hwy, if_pos rfl, if_pos rfl]
    have hM1 : 0 < M.length := by have := hxka.2.2.1; omega
    obtain ⟨gm, mc', hmq⟩ := own_some HO0.out.2.1 (show 0 < M.length by omega)
    cases hmq
    obtain ⟨km, hkm⟩ : ∃ j : Nat, R[ka] = j := ⟨R[ka].toNat, by have := hxka.2.2.1; omega⟩
    have hkml : km < M.length := by omega
    have hkmi : (km : Int) < (M.length : Int) := by omega
    rw [hkm] at cka
    obtain ⟨cm, fm⟩ := own_cell2 OR.out.2.1 km (show km < M.length from hkml)
    have HAm := Lib.hid (atI_nat M km hkml)
    have HKM := Lib.hid hkm
    have hgm : gm < w.heap.size := (HO0.out.lt (g := gm) (by simp [StB, Value.ownBlock])).2
    have hgm0 : gm < w0.heap.size := by omega
    have hgmr : gm ≠ gr := fun e => ((nodup4 HO0.out.2.2.2.2).1 gr (by simp [Value.ownBlock])).1 (by rw [← e]; simp [Value.ownBlock])
    have hgmB : gm ∈ StB (.slice (some ⟨gr, 0, none⟩) 4 rc) (.slice (some ⟨gm, 0, none⟩) M.length mc) (.slice sq S.length sc) (.slice oq O.length oc) := by unfold StB; simp [Value.ownBlock]
    have hnem : gm ≠ b := fun e => HM0.out.off HO0.out (by rw [← e]; simp [StB, Value.ownBlock])
    clear hkm
    have hq : decide ((M.length : Int) ≤ (km : Int)) = false := decide_eq_false (by omega)
    have hq2 : (km : Int) < (M.length : Int) := hkmi
    clear hz hwy hmv
    go_enter Try.func96, Try.ntmps96
    go_upto_region 1 with fail
    rw [← hw0]
    clear hw0
    obtain ⟨m0, m1, m2, m3, m4, m5, m6, m7, m8, m9, m10, m11, m12, m13⟩ := mcells MR.out
    obtain ⟨i0, i1, i2, i3⟩ := cell4_row IR.out
    go_region
    go_upto_region 4 with fail
    have CH : Hid (w0.drew.drew.cell? ⟨b, 7, none⟩ = some (.slice (some ⟨gm, 0, none⟩) M.length mc) ∧ w0.drew.drew.cell? ⟨b, 6, none⟩ = some (.slice (some ⟨gr, 0, none⟩) 4 rc) ∧ w0.drew.drew.cell? ⟨w.heap.size, 2, none⟩ = some (.int .i64 (kb : Int)) ∧ w0.drew.drew.cell? ⟨gr, kb, none⟩ = some (.int .i64 R[kb])) := Lib.hid ⟨by assumption, by assumption, by assumption, by assumption⟩
    refine region_s [16] (fun V => V.cell? ⟨b, 7, none⟩ = some (.slice (some ⟨gm, 0, none⟩) M.length mc) ∧ V.cell? ⟨b, 6, none⟩ = some (.slice (some ⟨gr, 0, none⟩) 4 rc) ∧ V.cell? ⟨w.heap.size, 2, none⟩ = some (.int .i64 (kb : Int)) ∧ V.cell? ⟨gr, kb, none⟩ = some (.int .i64 R[kb])) (by kernel_rfl) ?_
    refine take_s (i := 0) (v := .pointer (some ⟨b, 0, none⟩)) rfl (by kernel_rfl) (fun _ _ _ h => h) CH.out rfl (fun V hV => ?_) ?_
    · go_simp
    refine take_s (i := 1) (v := .pointer (some ⟨b, 0, none⟩)) rfl (by kernel_rfl) (fun _ _ _ h => h) CH.out rfl (fun V hV => ?_) ?_
    · go_simp
    refine take_s (i := 2) (v := .pointer (some ⟨b, 5, none⟩)) rfl (by kernel_rfl) (fun _ _ _ h => h) CH.out rfl (fun V hV => ?_) ?_
    · go_simp
    refine take_s (i := 3) (v := .pointer (some ⟨b, 7, none⟩)) rfl (by kernel_rfl) (fun _ _ _ h => h) CH.out rfl (fun V hV => ?_) ?_
    · go_simp
    refine take_s (i := 4) (v := .slice (some ⟨gm, 0, none⟩) M.length mc) rfl (by kernel_rfl) (fun _ _ _ h => h) CH.out rfl (fun V hV => ?_) ?_
    · obtain ⟨t0, t1, t2, t3⟩ := hV; go_simp
    refine take_s (i := 5) (v := .int .i64 (km : Int)) rfl (by kernel_rfl) (fun _ _ _ h => h) CH.out rfl (fun V hV => ?_) ?_
    · go_simp
    refine take_s (i := 6) (v := .pointer (some ⟨b, 0, none⟩)) rfl (by kernel_rfl) (fun _ _ _ h => h) CH.out rfl (fun V hV => ?_) ?_
    · go_simp
    refine take_s (i := 7) (v := .pointer (some ⟨b, 0, none⟩)) rfl (by kernel_rfl) (fun _ _ _ h => h) CH.out rfl (fun V hV => ?_) ?_
    · go_simp
    refine take_s (i := 8) (v := .pointer (some ⟨b, 5, none⟩)) rfl (by kernel_rfl) (fun _ _ _ h => h) CH.out rfl (fun V hV => ?_) ?_
    · go_simp
    refine take_s (i := 9) (v := .pointer (some ⟨b, 6, none⟩)) rfl (by kernel_rfl) (fun _ _ _ h => h) CH.out rfl (fun V hV => ?_) ?_
    · go_simp
    refine take_s (i := 10) (v := .slice (some ⟨gr, 0, none⟩) 4 rc) rfl (by kernel_rfl) (fun _ _ _ h => h) CH.out rfl (fun V hV => ?_) ?_
    · obtain ⟨t0, t1, t2, t3⟩ := hV; go_simp
    refine take_s (i := 11) (v := .pointer (some ⟨w.heap.size, 2, none⟩)) rfl (by kernel_rfl) (fun _ _ _ h => h) CH.out rfl (fun V hV => ?_) ?_
    · go_simp
    refine take_s (i := 12) (v := .int .i64 (kb : Int)) rfl (by kernel_rfl) (fun _ _ _ h => h) CH.out rfl (fun V hV => ?_) ?_
    · obtain ⟨t0, t1, t2, t3⟩ := hV; go_simp
    refine take_s (i := 13) (v := .pointer (some ⟨gr, kb, none⟩)) rfl (by kernel_rfl) (fun _ _ _ h => h) CH.out rfl (fun V hV => ?_) ?_
    · go_simp
    refine take_s (i := 14) (v := .int .i64 R[kb]) rfl (by kernel_rfl) (fun _ _ _ h => h) CH.out rfl (fun V hV => ?_) ?_
    · obtain ⟨t0, t1, t2, t3⟩ := hV; go_simp
    refine take_s (i := 15) (v := .pointer (some ⟨gm, km, none⟩)) rfl (by kernel_rfl) (fun _ _ _ h => h) CH.out rfl (fun V hV => ?_) ?_
    · go_simp
    refine one_s (i := 16) (by kernel_rfl) (op_list rfl ?_)
    go_wp2
    refine ⟨late_s (by kernel_rfl), done_s (by kernel_rfl) ?_ _⟩
    go_wp2
    go_ret
    rw [show doX vw I ⟨pc, R, M, S, inn, O, cd, st⟩ nx ⟨8, (ka : Int), (kb : Int), c⟩ = ⟨pc, R, M.set (atI R (ka : Int)).toNat (atI R (kb : Int)), S, inn, O, cd, st⟩ from rfl, HAkb.out, HAka.out, HKM.out]
    have OM : StO (w0.setCell ⟨gm, km, none⟩ (.int .i64 R[kb])) base ⟨pc, R, M.set km R[kb], S, inn, O, cd, st⟩ _ _ _ _ := OR.out.poke_m km R[kb] rfl rfl rfl rfl
    have MM : MRow (w0.setCell ⟨gm, km, none⟩ (.int .i64 R[kb])) b vw vm vi _ _ ⟨pc, R, M.set km R[kb], S, inn, O, cd, st⟩ _ _ _ _ nx := MR.out.other hnem km _
    exact ⟨rfl, _, _, _, _, MM, StO.same OM (fun _ _ => rfl), (A0.out.setCell (List.mem_cons_of_mem _ hgmB) _).trans (Apart.of_below (Below.refl _ _).drew.drew), fun _ hg => .inl hg⟩
set_option maxRecDepth 100000 in
set_option maxHeartbeats 8000000 in
theorem d_ret : DoesIt 100 12 := by
  intro vw vm vi n qL nL cL iq ic I x r m s o nx a b' c b base w hw2 hw8 hv3 hG hI hli hbb hM0 hO0 hi
  obtain ⟨pc, R, M, S, inn, O, cd, st⟩ := x
  have hR : R.length = 4 := hG.hR
  have hS3 : S.length ≤ 3 := hG.hS
  have hO6 : O.length ≤ 6 := hG.hO
  have HI := Lib.hid hI
  have HG := Lib.hid hG
  have hinn : 0 ≤ inn ∧ inn ≤ vi := hG.inn
  have HMV := Lib.hid (show (M.length : Int) = vm from hG.hM)
  obtain ⟨gr, rc, rfl⟩ : ∃ g c, r = .slice (some ⟨g, 0, none⟩) 4 c := by have := own_some hO0.1 (show 0 < R.length by omega); rw [show (StR.mk pc R M S inn O cd st).R.length = 4 from hR] at this; exact this
  have hM1 : 1 ≤ vm ∨ vm ≤ 0 := by omega
  obtain ⟨mq, mc, rfl⟩ := own_slice hO0.2.1
  obtain ⟨sq, sc, rfl⟩ := own_slice hO0.2.2.1
  obtain ⟨oq, oc, rfl⟩ := own_slice hO0.2.2.2.1
  clear hM1
  obtain ⟨hop, hA, hB, hC⟩ := ins_parts hi
  simp only at hop hA hB hC
  have hgr : gr < w.heap.size := (hO0.lt (g := gr) (by simp [StB, Value.ownBlock])).2
  have hbs : b < w.heap.size := row_lt hM0
  have hne : gr ≠ b := fun e => hM0.off hO0 (by rw [← e]; simp [StB, Value.ownBlock])
  obtain ⟨w0, hw0⟩ : ∃ w0, w0 = w.alloc (.cells #[.int .i64 12, .int .i64 a, .int .i64 b', .int .i64 c] 77) := ⟨_, rfl⟩
  have HB := Lib.hid (show Below w.heap.size w w0 by rw [hw0]; exact (Below.refl _ _).alloc (Nat.le_refl _) _)
  have hs0 : w.heap.size < w0.heap.size := by rw [hw0]; simp
  have IR := Lib.hid (show w0.heap[w.heap.size]? = some (.cells #[.int .i64 12, .int .i64 a, .int .i64 b', .int .i64 c] 77 (0, 0)) by rw [hw0]; exact heap_alloc_new _ _)
  have MR := Lib.hid (hM0.keep HB.out)
  have OR := Lib.hid (hO0.keep HB.out)
  have A0 := Lib.hid (Apart.of_below (bs := b :: StB (.slice (some ⟨gr, 0, none⟩) 4 rc) (.slice mq M.length mc) (.slice sq S.length sc) (.slice oq O.length oc)) HB.out)
  have HM0 := Lib.hid hM0
  have HO0 := Lib.hid hO0
  have hgr0 : gr < w0.heap.size := by omega
  have hbs0 : b < w0.heap.size := by omega
  clear hG hI hi hM0 hO0
  clear hli
  have hwy : whyV vm vi ⟨pc, R, M, S, inn, O, cd, st⟩ ⟨12, a, b', c⟩ = if S.length = 0 then 7 else 0 := rfl
  by_cases hz : S.length = 0
  · rw [if_pos hz] at hwy
    rw [hwy, if_neg (by decide), if_neg (by decide)]
    have HZ := Lib.hid hz
    obtain ⟨nS, hnS⟩ : ∃ j, S.length = j := ⟨_, rfl⟩
    rw [hnS] at hz
    have hq : decide (((S.length : Nat) : Int) - 1 < 0) = true := decide_eq_true (by omega)
    clear hz hwy hnS
    go_enter Try.func100, Try.ntmps100
    go_upto_region 1 with fail
    rw [← hw0]
    clear hw0
    obtain ⟨m0, m1, m2, m3, m4, m5, m6, m7, m8, m9, m10, m11, m12, m13⟩ := mcells MR.out
    go_wp2
    go_ret
    exact m_same HM0.out HO0.out HB.out _
  · rw [if_neg hz] at hwy
    rw [hwy, if_pos rfl, if_pos rfl]
    obtain ⟨gs, sc', hsq⟩ := own_some HO0.out.2.2.1 (show 0 < S.length by omega)
    cases hsq
    obtain ⟨ks, hks⟩ : ∃ j : Nat, S.length = j + 1 := ⟨S.length - 1, by omega⟩
    have hksl : ks < S.length := by omega
    obtain ⟨cs, fs⟩ := own_cell2 OR.out.2.2.1 ks (show ks < S.length from hksl)
    have hgs : gs < w.heap.size := (HO0.out.lt (g := gs) (by simp [StB, Value.ownBlock])).2
    have hgs0 : gs < w0.heap.size := by omega
    have hnes : gs ≠ b := fun e => HM0.out.off HO0.out (by rw [← e]; simp [StB, Value.ownBlock])
    have HAs := Lib.hid (show atI S ((S.length : Int) - 1) = S[ks] by rw [show (S.length : Int) - 1 = (ks : Int) by omega]; exact atI_nat S ks hksl)
    have hcap : S.length ≤ sc := by rcases HO0.out.2.2.1.2 with ⟨h, _⟩ | ⟨_, _, _, h, _, _, h2, _⟩; cases h; cases h; exact h2
    have HTK := Lib.hid (show S.take (S.length - 1) = S.take ks by rw [hks]; rfl)
    have HKS := Lib.hid hks
    obtain ⟨vS, hvS⟩ : ∃ v, v = S[ks] := ⟨_, rfl⟩
    have HVS := Lib.hid hvS
    rw [← hvS] at cs HAs
    clear hvS
    obtain ⟨nS, hnS⟩ : ∃ j, j = S.length := ⟨_, rfl⟩
    have MRn := MR.out
    unfold MRow at MRn
    rw [← hnS] at hcap hks hksl
    have HNS := Lib.hid hnS
    clear hz hwy
    have MR' : Hid (w0.heap[b]? = some (.cells #[.int .i64 vw, .int .i64 vm, .int .i64 vi, .slice qL nL cL, .slice iq I.length ic, .int .i64 pc, .slice (some ⟨gr, 0, none⟩) 4 rc, .slice mq M.length mc, .slice (some ⟨gs, 0, none⟩) nS sc, .int .i64 inn, .slice oq O.length oc, .int .i64 cd, .int .i64 st, .int .i64 nx] 65 (0, 0))) := Lib.hid (by rw [hnS]; exact MRn)
    clear MRn hnS
    subst hks
    have hk1 : ((ks + 1 : Nat) : Int) - 1 = (ks : Int) := by omega
    have hki : (ks : Int) < ((ks + 1 : Nat) : Int) := by omega
    have hkn : decide ((ks : Int) < 0) = false := decide_eq_false (by omega)
    go_enter Try.func100, Try.ntmps100
    go_upto_region 1 with fail
    rw [← hw0]
    clear hw0
    obtain ⟨m0, m1, m2, m3, m4, m5, m6, m7, m8, m9, m10, m11, m12, m13⟩ := mcells MR'.out
    obtain ⟨f5, f8, f9, f10, f11, f12, f13⟩ := mfroz MR'.out
    go_wp2
    go_ret
    rw [show doX vw I ⟨pc, R, M, S, inn, O, cd, st⟩ nx ⟨12, a, b', c⟩ = ⟨pc, R, M, S.take (S.length - 1), inn, O, cd, st⟩ from rfl, show doN ⟨pc, R, M, S, inn, O, cd, st⟩ nx ⟨12, a, b', c⟩ = atI S ((S.length : Int) - 1) from rfl, HAs.out, HTK.out]
    have MM : MRow ((w0.setCell ⟨b, 13, none⟩ (.int .i64 vS)).setCell ⟨b, 8, none⟩ (.slice (some ⟨gs, 0, none⟩) ks sc)) b vw vm vi _ _ ⟨pc, R, M, S.take ks, inn, O, cd, st⟩ _ _ (.slice (some ⟨gs, 0, none⟩) ks sc) _ vS := (MR.out.next vS).srow _
    have OO : StO ((w0.setCell ⟨b, 13, none⟩ (.int .i64 vS)).setCell ⟨b, 8, none⟩ (.slice (some ⟨gs, 0, none⟩) ks sc)) base ⟨pc, R, M, S.take ks, inn, O, cd, st⟩ _ _ (.slice (some ⟨gs, 0, none⟩) ks sc) _ := ((OR.out.aside (MR.out.off OR.out) 13 _).aside (MR.out.off OR.out) 8 _).cut_s (by have := HKS.out; omega) rfl rfl rfl rfl
    exact ⟨rfl, _, _, _, _, MM, OO, (A0.out.setCell (List.mem_cons_self ..) _).setCell (List.mem_cons_self ..) _, fun _ hg => .inl hg⟩
end Go.Proofs.Ytmmcpjdcfhgkiaa
