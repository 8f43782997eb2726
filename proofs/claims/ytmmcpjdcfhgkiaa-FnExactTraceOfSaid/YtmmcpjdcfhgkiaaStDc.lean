/- What the functions of the program's machine do. No condition. -/
import Derived.Test.YtmmcpjdcfhgkiaaStDa
import Derived.Test.YtmmcpjdcfhgkiaaReg
import Derived.Test.YtmmcpjdcfhgkiaaMid
import Derived.Test.YtmmcpjdcfhgkiaaUn1
import Derived.StillTailTactics
import Derived.Deep.RegionWith
import Derived.Deep.CutRange
namespace Go.Proofs.Ytmmcpjdcfhgkiaa
open Go.ChangeShapes Go.WideShapes Go.ChangeAt Go.RowKit
set_option maxRecDepth 100000 in
set_option maxHeartbeats 8000000 in
theorem d_output : DoesIt 94 6 := by
  intro vw vm vi n qL nL cL iq ic I x r m s o nx a b' c b base w hw2 hw8 hv3 hG hI hli hbb hM0 hO0 hi
  obtain ⟨pc, R, M, S, inn, O, cd, st⟩ := x
  have hR : R.length = 4 := hG.hR
  have hS3 : S.length ≤ 3 := hG.hS
  have hO6 : O.length ≤ 6 := hG.hO
  have HI := Lib.hid hI
  have HG := Lib.hid hG
  have hinn : 0 ≤ inn ∧ inn ≤ vi := hG.inn
  have HMV := Lib.hid (show (M.length : Int) = vm from hG.hM)
  obtain ⟨gr, rc, rfl⟩ : ∃ g c, r = .slice (some ⟨g, 0, none⟩) 4 c := by have := own_some hO0.1 (show 0 < R.length by omega); rw [show (StR.mk pc R M S inn O cd st).R.length = 4 from hR] at this; exact this
  have hM1 : 1 ≤ vm ∨ vm ≤ 0 := by omega
  obtain ⟨mq, mc, rfl⟩ := own_slice hO0.2.1
  obtain ⟨sq, sc, rfl⟩ := own_slice hO0.2.2.1
  obtain ⟨oq, oc, rfl⟩ := own_slice hO0.2.2.2.1
  clear hM1
  obtain ⟨hop, hA, hB, hC⟩ := ins_parts hi
  simp only at hop hA hB hC
  have hgr : gr < w.heap.size := (hO0.lt (g := gr) (by simp [StB, Value.ownBlock])).2
  have hbs : b < w.heap.size := row_lt hM0
  have hne : gr ≠ b := fun e => hM0.off hO0 (by rw [← e]; simp [StB, Value.ownBlock])
  obtain ⟨w0, hw0⟩ : ∃ w0, w0 = w.alloc (.cells #[.int .i64 6, .int .i64 a, .int .i64 b', .int .i64 c] 77) := ⟨_, rfl⟩
  have HB := Lib.hid (show Below w.heap.size w w0 by rw [hw0]; exact (Below.refl _ _).alloc (Nat.le_refl _) _)
  have hs0 : w.heap.size < w0.heap.size := by rw [hw0]; simp
  have IR := Lib.hid (show w0.heap[w.heap.size]? = some (.cells #[.int .i64 6, .int .i64 a, .int .i64 b', .int .i64 c] 77 (0, 0)) by rw [hw0]; exact heap_alloc_new _ _)
  have MR := Lib.hid (hM0.keep HB.out)
  have OR := Lib.hid (hO0.keep HB.out)
  have A0 := Lib.hid (Apart.of_below (bs := b :: StB (.slice (some ⟨gr, 0, none⟩) 4 rc) (.slice mq M.length mc) (.slice sq S.length sc) (.slice oq O.length oc)) HB.out)
  have HM0 := Lib.hid hM0
  have HO0 := Lib.hid hO0
  have hgr0 : gr < w0.heap.size := by omega
  have hbs0 : b < w0.heap.size := by omega
  clear hG hI hi hM0 hO0
  clear hli
  obtain ⟨i9, hi9, hz9, hzs9, hzb9⟩ := info_parts zero_Int
  obtain ⟨ka, hpka⟩ : ∃ j : Nat, a = j := ⟨a.toNat, by have := reg_of hA; omega⟩
  have hka : ka < 4 := by have := reg_of hA; omega
  have hkai : (ka : Int) < 4 := by omega
  have hwka := HG.out.reg (reg_of hA)
  subst hpka
  have hkaR : ka < R.length := by omega
  obtain ⟨cka, zka⟩ := own_cell2 OR.out.1 ka (show ka < R.length by omega)
  have HAka := Lib.hid (atI_nat R ka (by omega))
  have hwy : whyV vm vi ⟨pc, R, M, S, inn, O, cd, st⟩ ⟨6, (ka : Int), b', c⟩ = if O.length = 6 then 4 else 0 := rfl
  by_cases hz : O.length = 6
  · rw [if_pos hz] at hwy
    rw [hwy, if_neg (by decide), if_neg (by decide)]
    have hq : ((O.length : Int) == 6) = true := by simp; omega
    clear hz hwy
    go_enter Try.func94, Try.ntmps94
    go_upto_region 1 with fail
    rw [← hw0]
    clear hw0
    obtain ⟨m0, m1, m2, m3, m4, m5, m6, m7, m8, m9, m10, m11, m12, m13⟩ := mcells MR.out
    go_wp2
    go_ret
    exact m_same HM0.out HO0.out HB.out _
  · rw [if_neg hz] at hwy
    rw [hwy, if_pos rfl, if_pos rfl]
    have hq : ((O.length : Int) == 6) = false := by simp; omega
    clear hz hwy
    go_enter Try.func94, Try.ntmps94
    go_upto_region 1 with fail
    rw [← hw0]
    clear hw0
    obtain ⟨m0, m1, m2, m3, m4, m5, m6, m7, m8, m9, m10, m11, m12, m13⟩ := mcells MR.out
    obtain ⟨i0, i1, i2, i3⟩ := cell4_row IR.out
    go_upto_region 3 with fail
    have CH : Hid (w0.drew.cell? ⟨b, 10, none⟩ = some (.slice oq O.length oc) ∧ w0.drew.cell? ⟨b, 6, none⟩ = some (.slice (some ⟨gr, 0, none⟩) 4 rc) ∧ w0.drew.cell? ⟨w.heap.size, 1, none⟩ = some (.int .i64 (ka : Int)) ∧ w0.drew.cell? ⟨gr, ka, none⟩ = some (.int .i64 R[ka])) := Lib.hid ⟨by assumption, by assumption, by assumption, by assumption⟩
    refine region_s [20] (fun V => V.cell? ⟨b, 10, none⟩ = some (.slice oq O.length oc) ∧ V.cell? ⟨b, 6, none⟩ = some (.slice (some ⟨gr, 0, none⟩) 4 rc) ∧ V.cell? ⟨w.heap.size, 1, none⟩ = some (.int .i64 (ka : Int)) ∧ V.cell? ⟨gr, ka, none⟩ = some (.int .i64 R[ka])) (by kernel_rfl) ?_
    refine take_s (i := 0) (v := .pointer (some ⟨b, 0, none⟩)) rfl (by kernel_rfl) (fun _ _ _ h => h) CH.out rfl (fun V hV => ?_) ?_
    · go_simp
    refine take_s (i := 1) (v := .pointer (some ⟨b, 0, none⟩)) rfl (by kernel_rfl) (fun _ _ _ h => h) CH.out rfl (fun V hV => ?_) ?_
    · go_simp
    refine take_s (i := 2) (v := .pointer (some ⟨b, 0, none⟩)) rfl (by kernel_rfl) (fun _ _ _ h => h) CH.out rfl (fun V hV => ?_) ?_
    · go_simp
    refine take_s (i := 3) (v := .pointer (some ⟨b, 5, none⟩)) rfl (by kernel_rfl) (fun _ _ _ h => h) CH.out rfl (fun V hV => ?_) ?_
    · go_simp
    refine take_s (i := 4) (v := .pointer (some ⟨b, 10, none⟩)) rfl (by kernel_rfl) (fun _ _ _ h => h) CH.out rfl (fun V hV => ?_) ?_
    · go_simp
    refine take_s (i := 5) (v := .slice oq O.length oc) rfl (by kernel_rfl) (fun _ _ _ h => h) CH.out rfl (fun V hV => ?_) ?_
    · obtain ⟨t0, t1, t2, t3⟩ := hV; go_simp
    refine take_s (i := 6) (v := .pointer (some ⟨b, 0, none⟩)) rfl (by kernel_rfl) (fun _ _ _ h => h) CH.out rfl (fun V hV => ?_) ?_
    · go_simp
    refine take_s (i := 7) (v := .pointer (some ⟨b, 0, none⟩)) rfl (by kernel_rfl) (fun _ _ _ h => h) CH.out rfl (fun V hV => ?_) ?_
    · go_simp
    refine take_s (i := 8) (v := .pointer (some ⟨b, 5, none⟩)) rfl (by kernel_rfl) (fun _ _ _ h => h) CH.out rfl (fun V hV => ?_) ?_
    · go_simp
    refine take_s (i := 9) (v := .pointer (some ⟨b, 6, none⟩)) rfl (by kernel_rfl) (fun _ _ _ h => h) CH.out rfl (fun V hV => ?_) ?_
    · go_simp
    refine take_s (i := 10) (v := .slice (some ⟨gr, 0, none⟩) 4 rc) rfl (by kernel_rfl) (fun _ _ _ h => h) CH.out rfl (fun V hV => ?_) ?_
    · obtain ⟨t0, t1, t2, t3⟩ := hV; go_simp
    refine take_s (i := 11) (v := .pointer (some ⟨w.heap.size, 1, none⟩)) rfl (by kernel_rfl) (fun _ _ _ h => h) CH.out rfl (fun V hV => ?_) ?_
    · go_simp
    refine take_s (i := 12) (v := .int .i64 (ka : Int)) rfl (by kernel_rfl) (fun _ _ _ h => h) CH.out rfl (fun V hV => ?_) ?_
    · obtain ⟨t0, t1, t2, t3⟩ := hV; go_simp
    refine take_s (i := 13) (v := .pointer (some ⟨gr, ka, none⟩)) rfl (by kernel_rfl) (fun _ _ _ h => h) CH.out rfl (fun V hV => ?_) ?_
    · go_simp
    refine take_s (i := 14) (v := .int .i64 R[ka]) rfl (by kernel_rfl) (fun _ _ _ h => h) CH.out rfl (fun V hV => ?_) ?_
    · obtain ⟨t0, t1, t2, t3⟩ := hV; go_simp
    refine one_s (i := 15) (by kernel_rfl) (op_list rfl ?_)
    go_wp2
    obtain ⟨wa, hwa⟩ : ∃ W9, W9 = (w0.alloc (.cells #[.int .i64 R[ka]] 3)).drew := ⟨_, rfl⟩
    have BW := Lib.hid (show Below w0.heap.size w0 wa by rw [hwa]; exact ((Below.refl _ _).alloc (Nat.le_refl _) _).drew)
    have hca := Lib.hid (show ∀ j u, [Value.int .i64 (R[ka])][j]? = some u → wa.cell? ((⟨w0.heap.size, 0, none⟩ : Addr).add j) = some u by rw [hwa]; exact fun j u hj => cell_one_new w0 _ 3 j u hj)
    have hsa : wa.heap.size = w0.heap.size + 1 := by rw [hwa]; show (w0.alloc _).heap.size = _; simp
    have MRa := Lib.hid (MR.out.keep BW.out)
    have ORa := Lib.hid (OR.out.keep BW.out)
    have IRa := Lib.hid ((BW.out.block w.heap.size hs0).trans IR.out)
    rw [← hwa]
    clear hwa
    have CA : Hid (wa.cell? ⟨b, 10, none⟩ = some (.slice oq O.length oc) ∧ wa.cell? ⟨b, 6, none⟩ = some (.slice (some ⟨gr, 0, none⟩) 4 rc) ∧ wa.cell? ⟨w.heap.size, 1, none⟩ = some (.int .i64 (ka : Int)) ∧ wa.cell? ⟨gr, ka, none⟩ = some (.int .i64 R[ka])) := Lib.hid (by obtain ⟨t0, t1, t2, t3⟩ := CH.out; exact ⟨(BW.out.cell (p := ⟨b, 10, none⟩) (hbs0)).trans t0, (BW.out.cell (p := ⟨b, 6, none⟩) (hbs0)).trans t1, (BW.out.cell (p := ⟨w.heap.size, 1, none⟩) (hs0)).trans t2, (BW.out.cell (p := ⟨gr, ka, none⟩) (hgr0)).trans t3⟩)
    refine ⟨fun _ => CA.out, ?_⟩
    refine one_s (i := 16) (by kernel_rfl) (op_list rfl ?_)
    refine wpList_append_own_at _ rfl _ _ 37 rfl base 3 i9 (.int .i64 0) 1 8 Try.underlying37 hi9 hz9 hzs9 hzb9 rfl (by decide) (.slice oq O.length oc) O.length _ rfl (ORa.out.2.2.2.1) _ 1 1 [.int .i64 (R[ka])] rfl rfl ?c1 ?c2 ?c3 ?c4 ?c5 ?_
    case c1 => exact hca.out
    case c2 => intro u hu; simp at hu; subst hu; rfl
    case c3 => unfold maxLen; omega
    case c4 => omega
    case c5 => omega
    intro v' wb hown hgrow _ hat
    obtain ⟨q', c', rfl⟩ := own_slice hown
    have Ob : Hid (StO wb base ⟨pc, R, M, S, inn, O ++ [R[ka]], cd, st⟩ _ _ _ (.slice q' (O.length + 1) c')) := Lib.hid (ORa.out.grow_o hgrow (by show wb.ownsRow base 3 1 (.slice q' (O.length + 1) c') (O ++ [R[ka]]).length (IntL.all (O ++ [R[ka]])); rw [List.length_append, IntL.all_map, List.map_append, ← IntL.all_map]; exact hown) hat rfl rfl rfl)
    have hbO : ∀ j, some j = (.slice oq O.length oc : Value).ownBlock → j ∈ StB (.slice (some ⟨gr, 0, none⟩) 4 rc) (.slice mq M.length mc) (.slice sq S.length sc) (.slice oq O.length oc) := fun j h => by unfold StB; rw [← h]; simp
    have Ab := Lib.hid (show Apart (b :: StB (.slice (some ⟨gr, 0, none⟩) 4 rc) (.slice mq M.length mc) (.slice sq S.length sc) (.slice oq O.length oc)) w wb from (A0.out.trans (Apart.of_below BW.out)).trans ⟨hgrow.os, hgrow.tape, hgrow.output, hgrow.size, fun j hj hn => hgrow.block j hj (fun h => hn (List.mem_cons_of_mem _ (hbO j h)))⟩)
    have hsub := Lib.hid (show ∀ g ∈ (.slice q' (O.length + 1) c' : Value).ownBlock.toList, g ∈ StB (.slice (some ⟨gr, 0, none⟩) 4 rc) (.slice mq M.length mc) (.slice sq S.length sc) (.slice oq O.length oc) ∨ w.heap.size ≤ g from fun g hg => by
      rcases hat with h | h
      · rw [h] at hg; exact .inl (hbO g (Option.mem_def.1 (Option.mem_toList.1 hg)).symm)
      · rw [h] at hg; simp at hg; exact .inr (by omega))
    have MRb := Lib.hid (show wb.heap[b]? = wa.heap[b]? from hgrow.block b (by omega) (fun h => MRa.out.off ORa.out (hbO b h)))
    have MB := Lib.hid (show MRow wb b vw vm vi (.slice qL nL cL) (.slice iq I.length ic) ⟨pc, R, M, S, inn, O, cd, st⟩ (.slice (some ⟨gr, 0, none⟩) 4 rc) (.slice mq M.length mc) (.slice sq S.length sc) (.slice oq O.length oc) nx from MRb.out.trans MRa.out)
    have IRb := Lib.hid ((hgrow.block w.heap.size (by omega) (fun h => ORa.out.off (T := 77) (by decide) IRa.out (hbO _ h))).trans IRa.out)
    have hbb2 : b < wb.heap.size := row_lt MB.out
    obtain ⟨qc, -⟩ := own_cell2 (l := R) Ob.out.1 ka hkaR
    have CB : Hid (wb.cell? ⟨b, 10, none⟩ = some (.slice oq O.length oc) ∧ wb.cell? ⟨b, 6, none⟩ = some (.slice (some ⟨gr, 0, none⟩) 4 rc) ∧ wb.cell? ⟨w.heap.size, 1, none⟩ = some (.int .i64 (ka : Int)) ∧ wb.cell? ⟨gr, ka, none⟩ = some (.int .i64 R[ka])) := Lib.hid ⟨cell_of_row _ _ 10 _ _ _ MB.out, cell_of_row _ _ 6 _ _ _ MB.out, cell_of_row _ _ 1 _ _ _ IRb.out, qc⟩
    clear hgrow hown hat MRb
    refine ⟨fun _ => CB.out, ?_⟩
    refine one_s (i := 17) (by kernel_rfl) (op_list rfl ?_)
    go_wp2
    refine ⟨fun _ => CB.out, ?_⟩
    refine one_s (i := 18) (by kernel_rfl) (op_list rfl ?_)
    go_wp2
    refine ⟨fun _ => CB.out, ?_⟩
    refine one_s (i := 19) (by kernel_rfl) (op_list rfl ?_)
    go_wp2
    refine ⟨fun _ => CB.out, ?_⟩
    clear m0 m1 m2 m3 m4 m5 m6 m7 m8 m9 m10 m11 m12 m13 i0 i1 i2 i3
    obtain ⟨m0, m1, m2, m3, m4, m5, m6, m7, m8, m9, m10, m11, m12, m13⟩ := mcells MB.out
    obtain ⟨f5, f8, f9, f10, f11, f12, f13⟩ := mfroz MB.out
    refine one_s (i := 20) (by kernel_rfl) (op_list rfl ?_)
    go_wp2
    refine ⟨late_s (by kernel_rfl), done_s (by kernel_rfl) ?_ _⟩
    go_wp2
    go_ret
    rw [show doX vw I ⟨pc, R, M, S, inn, O, cd, st⟩ nx ⟨6, (ka : Int), b', c⟩ = ⟨pc, R, M, S, inn, O ++ [atI R (ka : Int)], cd, st⟩ from rfl, HAka.out]
    have MM : MRow (wb.setCell ⟨b, 10, none⟩ (.slice q' (O.length + 1) c')) b vw vm vi _ _ ⟨pc, R, M, S, inn, O ++ [R[ka]], cd, st⟩ _ _ _ (.slice q' (O.length + 1) c') nx := MB.out.orow _
    exact ⟨rfl, _, _, _, _, MM, Ob.out.aside (MB.out.off Ob.out) 10 _, Ab.out.setCell (List.mem_cons_self ..) _, fun g hg => by
      unfold StB at hg
      rcases List.mem_append.1 hg with h | h
      · exact .inl (by unfold StB; exact List.mem_append_left _ h)
      · exact hsub.out g h⟩
set_option maxRecDepth 100000 in
set_option maxHeartbeats 8000000 in
theorem d_call : DoesIt 99 11 := by
  intro vw vm vi n qL nL cL iq ic I x r m s o nx a b' c b base w hw2 hw8 hv3 hG hI hli hbb hM0 hO0 hi
  obtain ⟨pc, R, M, S, inn, O, cd, st⟩ := x
  have hR : R.length = 4 := hG.hR
  have hS3 : S.length ≤ 3 := hG.hS
  have hO6 : O.length ≤ 6 := hG.hO
  have HI := Lib.hid hI
  have HG := Lib.hid hG
  have hinn : 0 ≤ inn ∧ inn ≤ vi := hG.inn
  have HMV := Lib.hid (show (M.length : Int) = vm from hG.hM)
  obtain ⟨gr, rc, rfl⟩ : ∃ g c, r = .slice (some ⟨g, 0, none⟩) 4 c := by have := own_some hO0.1 (show 0 < R.length by omega); rw [show (StR.mk pc R M S inn O cd st).R.length = 4 from hR] at this; exact this
  have hM1 : 1 ≤ vm ∨ vm ≤ 0 := by omega
  obtain ⟨mq, mc, rfl⟩ := own_slice hO0.2.1
  obtain ⟨sq, sc, rfl⟩ := own_slice hO0.2.2.1
  obtain ⟨oq, oc, rfl⟩ := own_slice hO0.2.2.2.1
  clear hM1
  obtain ⟨hop, hA, hB, hC⟩ := ins_parts hi
  simp only at hop hA hB hC
  have hgr : gr < w.heap.size := (hO0.lt (g := gr) (by simp [StB, Value.ownBlock])).2
  have hbs : b < w.heap.size := row_lt hM0
  have hne : gr ≠ b := fun e => hM0.off hO0 (by rw [← e]; simp [StB, Value.ownBlock])
  obtain ⟨w0, hw0⟩ : ∃ w0, w0 = w.alloc (.cells #[.int .i64 11, .int .i64 a, .int .i64 b', .int .i64 c] 77) := ⟨_, rfl⟩
  have HB := Lib.hid (show Below w.heap.size w w0 by rw [hw0]; exact (Below.refl _ _).alloc (Nat.le_refl _) _)
  have hs0 : w.heap.size < w0.heap.size := by rw [hw0]; simp
  have IR := Lib.hid (show w0.heap[w.heap.size]? = some (.cells #[.int .i64 11, .int .i64 a, .int .i64 b', .int .i64 c] 77 (0, 0)) by rw [hw0]; exact heap_alloc_new _ _)
  have MR := Lib.hid (hM0.keep HB.out)
  have OR := Lib.hid (hO0.keep HB.out)
  have A0 := Lib.hid (Apart.of_below (bs := b :: StB (.slice (some ⟨gr, 0, none⟩) 4 rc) (.slice mq M.length mc) (.slice sq S.length sc) (.slice oq O.length oc)) HB.out)
  have HM0 := Lib.hid hM0
  have HO0 := Lib.hid hO0
  have hgr0 : gr < w0.heap.size := by omega
  have hbs0 : b < w0.heap.size := by omega
  clear hG hI hi hM0 hO0
  clear hli
  obtain ⟨i9, hi9, hz9, hzs9, hzb9⟩ := info_parts zero_Int
  have hwy : whyV vm vi ⟨pc, R, M, S, inn, O, cd, st⟩ ⟨11, a, b', c⟩ = if S.length = 3 then 7 else 0 := rfl
  by_cases hz : S.length = 3
  · rw [if_pos hz] at hwy
    rw [hwy, if_neg (by decide), if_neg (by decide)]
    have hq : ((S.length : Int) == 3) = true := by simp; omega
    clear hz hwy
    go_enter Try.func99, Try.ntmps99
    go_upto_region 1 with fail
    rw [← hw0]
    clear hw0
    obtain ⟨m0, m1, m2, m3, m4, m5, m6, m7, m8, m9, m10, m11, m12, m13⟩ := mcells MR.out
    go_wp2
    go_ret
    exact m_same HM0.out HO0.out HB.out _
  · rw [if_neg hz] at hwy
    rw [hwy, if_pos rfl, if_pos rfl]
    have hq : ((S.length : Int) == 3) = false := by simp; omega
    clear hz hwy
    go_enter Try.func99, Try.ntmps99
    go_upto_region 1 with fail
    rw [← hw0]
    clear hw0
    obtain ⟨m0, m1, m2, m3, m4, m5, m6, m7, m8, m9, m10, m11, m12, m13⟩ := mcells MR.out
    obtain ⟨i0, i1, i2, i3⟩ := cell4_row IR.out
    go_upto_region 3 with fail
    have CH : Hid (w0.drew.cell? ⟨b, 8, none⟩ = some (.slice sq S.length sc) ∧ w0.drew.cell? ⟨b, 13, none⟩ = some (.int .i64 nx)) := Lib.hid ⟨by assumption, by assumption⟩
    refine region_s [15] (fun V => V.cell? ⟨b, 8, none⟩ = some (.slice sq S.length sc) ∧ V.cell? ⟨b, 13, none⟩ = some (.int .i64 nx)) (by kernel_rfl) ?_
    refine take_s (i := 0) (v := .pointer (some ⟨b, 0, none⟩)) rfl (by kernel_rfl) (fun _ _ _ h => h) CH.out rfl (fun V hV => ?_) ?_
    · go_simp
    refine take_s (i := 1) (v := .pointer (some ⟨b, 0, none⟩)) rfl (by kernel_rfl) (fun _ _ _ h => h) CH.out rfl (fun V hV => ?_) ?_
    · go_simp
    refine take_s (i := 2) (v := .pointer (some ⟨b, 0, none⟩)) rfl (by kernel_rfl) (fun _ _ _ h => h) CH.out rfl (fun V hV => ?_) ?_
    · go_simp
    refine take_s (i := 3) (v := .pointer (some ⟨b, 5, none⟩)) rfl (by kernel_rfl) (fun _ _ _ h => h) CH.out rfl (fun V hV => ?_) ?_
    · go_simp
    refine take_s (i := 4) (v := .pointer (some ⟨b, 8, none⟩)) rfl (by kernel_rfl) (fun _ _ _ h => h) CH.out rfl (fun V hV => ?_) ?_
    · go_simp
    refine take_s (i := 5) (v := .slice sq S.length sc) rfl (by kernel_rfl) (fun _ _ _ h => h) CH.out rfl (fun V hV => ?_) ?_
    · obtain ⟨t0, t1⟩ := hV; go_simp
    refine take_s (i := 6) (v := .pointer (some ⟨b, 0, none⟩)) rfl (by kernel_rfl) (fun _ _ _ h => h) CH.out rfl (fun V hV => ?_) ?_
    · go_simp
    refine take_s (i := 7) (v := .pointer (some ⟨b, 0, none⟩)) rfl (by kernel_rfl) (fun _ _ _ h => h) CH.out rfl (fun V hV => ?_) ?_
    · go_simp
    refine take_s (i := 8) (v := .pointer (some ⟨b, 13, none⟩)) rfl (by kernel_rfl) (fun _ _ _ h => h) CH.out rfl (fun V hV => ?_) ?_
    · go_simp
    refine take_s (i := 9) (v := .int .i64 nx) rfl (by kernel_rfl) (fun _ _ _ h => h) CH.out rfl (fun V hV => ?_) ?_
    · obtain ⟨t0, t1⟩ := hV; go_simp
    refine one_s (i := 10) (by kernel_rfl) (op_list rfl ?_)
    go_wp2
    obtain ⟨wa, hwa⟩ : ∃ W9, W9 = (w0.alloc (.cells #[.int .i64 nx] 3)).drew := ⟨_, rfl⟩
    have BW := Lib.hid (show Below w0.heap.size w0 wa by rw [hwa]; exact ((Below.refl _ _).alloc (Nat.le_refl _) _).drew)
    have hca := Lib.hid (show ∀ j u, [Value.int .i64 (nx)][j]? = some u → wa.cell? ((⟨w0.heap.size, 0, none⟩ : Addr).add j) = some u by rw [hwa]; exact fun j u hj => cell_one_new w0 _ 3 j u hj)
    have hsa : wa.heap.size = w0.heap.size + 1 := by rw [hwa]; show (w0.alloc _).heap.size = _; simp
    have MRa := Lib.hid (MR.out.keep BW.out)
    have ORa := Lib.hid (OR.out.keep BW.out)
    have IRa := Lib.hid ((BW.out.block w.heap.size hs0).trans IR.out)
    rw [← hwa]
    clear hwa
    have CA : Hid (wa.cell? ⟨b, 8, none⟩ = some (.slice sq S.length sc) ∧ wa.cell? ⟨b, 13, none⟩ = some (.int .i64 nx)) := Lib.hid (by obtain ⟨t0, t1⟩ := CH.out; exact ⟨(BW.out.cell (p := ⟨b, 8, none⟩) (hbs0)).trans t0, (BW.out.cell (p := ⟨b, 13, none⟩) (hbs0)).trans t1⟩)
    refine ⟨fun _ => CA.out, ?_⟩
    refine one_s (i := 11) (by kernel_rfl) (op_list rfl ?_)
    refine wpList_append_own_at _ rfl _ _ 37 rfl base 3 i9 (.int .i64 0) 1 8 Try.underlying37 hi9 hz9 hzs9 hzb9 rfl (by decide) (.slice sq S.length sc) S.length _ rfl (ORa.out.2.2.1) _ 1 1 [.int .i64 (nx)] rfl rfl ?c1 ?c2 ?c3 ?c4 ?c5 ?_
    case c1 => exact hca.out
    case c2 => intro u hu; simp at hu; subst hu; rfl
    case c3 => unfold maxLen; omega
    case c4 => omega
    case c5 => omega
    intro v' wb hown hgrow _ hat
    obtain ⟨q', c', rfl⟩ := own_slice hown
    have Ob : Hid (StO wb base ⟨pc, R, M, S ++ [nx], inn, O, cd, st⟩ _ _ (.slice q' (S.length + 1) c') _) := Lib.hid (ORa.out.grow_s hgrow (by show wb.ownsRow base 3 1 (.slice q' (S.length + 1) c') (S ++ [nx]).length (IntL.all (S ++ [nx])); rw [List.length_append, IntL.all_map, List.map_append, ← IntL.all_map]; exact hown) hat rfl rfl rfl)
    have hbO : ∀ j, some j = (.slice sq S.length sc : Value).ownBlock → j ∈ StB (.slice (some ⟨gr, 0, none⟩) 4 rc) (.slice mq M.length mc) (.slice sq S.length sc) (.slice oq O.length oc) := fun j h => by unfold StB; rw [← h]; simp
    have Ab := Lib.hid (show Apart (b :: StB (.slice (some ⟨gr, 0, none⟩) 4 rc) (.slice mq M.length mc) (.slice sq S.length sc) (.slice oq O.length oc)) w wb from (A0.out.trans (Apart.of_below BW.out)).trans ⟨hgrow.os, hgrow.tape, hgrow.output, hgrow.size, fun j hj hn => hgrow.block j hj (fun h => hn (List.mem_cons_of_mem _ (hbO j h)))⟩)
    have hsub := Lib.hid (show ∀ g ∈ (.slice q' (S.length + 1) c' : Value).ownBlock.toList, g ∈ StB (.slice (some ⟨gr, 0, none⟩) 4 rc) (.slice mq M.length mc) (.slice sq S.length sc) (.slice oq O.length oc) ∨ w.heap.size ≤ g from fun g hg => by
      rcases hat with h | h
      · rw [h] at hg; exact .inl (hbO g (Option.mem_def.1 (Option.mem_toList.1 hg)).symm)
      · rw [h] at hg; simp at hg; exact .inr (by omega))
    have MRb := Lib.hid (show wb.heap[b]? = wa.heap[b]? from hgrow.block b (by omega) (fun h => MRa.out.off ORa.out (hbO b h)))
    have MB := Lib.hid (show MRow wb b vw vm vi (.slice qL nL cL) (.slice iq I.length ic) ⟨pc, R, M, S, inn, O, cd, st⟩ (.slice (some ⟨gr, 0, none⟩) 4 rc) (.slice mq M.length mc) (.slice sq S.length sc) (.slice oq O.length oc) nx from MRb.out.trans MRa.out)
    have IRb := Lib.hid ((hgrow.block w.heap.size (by omega) (fun h => ORa.out.off (T := 77) (by decide) IRa.out (hbO _ h))).trans IRa.out)
    have hbb2 : b < wb.heap.size := row_lt MB.out
    have CB : Hid (wb.cell? ⟨b, 8, none⟩ = some (.slice sq S.length sc) ∧ wb.cell? ⟨b, 13, none⟩ = some (.int .i64 nx)) := Lib.hid ⟨cell_of_row _ _ 8 _ _ _ MB.out, cell_of_row _ _ 13 _ _ _ MB.out⟩
    clear hgrow hown hat MRb
    refine ⟨fun _ => CB.out, ?_⟩
    refine one_s (i := 12) (by kernel_rfl) (op_list rfl ?_)
    go_wp2
    refine ⟨fun _ => CB.out, ?_⟩
    refine one_s (i := 13) (by kernel_rfl) (op_list rfl ?_)
    go_wp2
    refine ⟨fun _ => CB.out, ?_⟩
    refine one_s (i := 14) (by kernel_rfl) (op_list rfl ?_)
    go_wp2
    refine ⟨fun _ => CB.out, ?_⟩
    clear m0 m1 m2 m3 m4 m5 m6 m7 m8 m9 m10 m11 m12 m13
    obtain ⟨m0, m1, m2, m3, m4, m5, m6, m7, m8, m9, m10, m11, m12, m13⟩ := mcells MB.out
    obtain ⟨f5, f8, f9, f10, f11, f12, f13⟩ := mfroz MB.out
    refine one_s (i := 15) (by kernel_rfl) (op_list rfl ?_)
    go_wp2
    refine ⟨late_s (by kernel_rfl), done_s (by kernel_rfl) ?_ _⟩
    clear i0 i1 i2 i3
    obtain ⟨wc, hwc⟩ : ∃ W9, W9 = wb.setCell ⟨b, 8, none⟩ (.slice q' (S.length + 1) c') := ⟨_, rfl⟩
    have MM := Lib.hid (show MRow wc b vw vm vi (.slice qL nL cL) (.slice iq I.length ic) ⟨pc, R, M, S ++ [nx], inn, O, cd, st⟩ (.slice (some ⟨gr, 0, none⟩) 4 rc) (.slice mq M.length mc) (.slice q' (S.length + 1) c') (.slice oq O.length oc) nx by rw [hwc]; exact MB.out.srow _)
    have OO := Lib.hid (show StO wc base ⟨pc, R, M, S ++ [nx], inn, O, cd, st⟩ _ _ _ _ by rw [hwc]; exact Ob.out.aside (MB.out.off Ob.out) 8 _)
    have Ac := Lib.hid (show Apart (b :: StB (.slice (some ⟨gr, 0, none⟩) 4 rc) (.slice mq M.length mc) (.slice sq S.length sc) (.slice oq O.length oc)) w wc by rw [hwc]; exact Ab.out.setCell (List.mem_cons_self ..) _)
    have IRc := Lib.hid (show wc.heap[w.heap.size]? = some (.cells #[.int .i64 11, .int .i64 a, .int .i64 b', .int .i64 c] 77 (0, 0)) by rw [hwc, heap_setCell_other _ _ _ _ (fun h => by have h : w.heap.size = b := h; omega)]; exact IRb.out)
    obtain ⟨i0, i1, i2, i3⟩ := cell4_row IRc.out
    have hszc : w.heap.size ≤ wc.heap.size := Ac.out.size
    rw [← hwc]
    clear hwc m0 m1 m2 m3 m4 m5 m6 m7 m8 m9 m10 m11 m12 m13 f5 f8 f9 f10 f11 f12 f13
    go_wp2_with fail
    refine (i_jump10 a b' c b base vw vm vi _ _ _ _ _ _ _ nx _ MM.out OO.out).mono ?_
    rintro e w9 ⟨rfl, r', m', s', o', hM9, hO9, hA9, hs9⟩
    have HE := Lib.hid (show _ ∧ _ ∧ _ ∧ _ from ⟨hM9, hO9, hA9, hs9⟩)
    clear hM9 hO9 hA9 hs9 i0 i1 i2 i3
    go_wp2
    go_ret
    obtain ⟨hM9, hO9, hA9, hs9⟩ := HE.out
    have hsb : ∀ g ∈ StB (.slice (some ⟨gr, 0, none⟩) 4 rc) (.slice mq M.length mc) (.slice q' (S.length + 1) c') (.slice oq O.length oc), g ∈ StB (.slice (some ⟨gr, 0, none⟩) 4 rc) (.slice mq M.length mc) (.slice sq S.length sc) (.slice oq O.length oc) ∨ w.heap.size ≤ g := fun g hg => by
      unfold StB at hg
      rcases List.mem_append.1 hg with h | h
      · rcases List.mem_append.1 h with h | h
        · exact .inl (by unfold StB; exact List.mem_append_left _ (List.mem_append_left _ h))
        · exact hsub.out g h
      · exact .inl (by unfold StB; exact List.mem_append_right _ h)
    have hA10 : Apart (b :: StB (.slice (some ⟨gr, 0, none⟩) 4 rc) (.slice mq M.length mc) (.slice sq S.length sc) (.slice oq O.length oc)) w w9 := ⟨hA9.os.trans Ac.out.os, hA9.tape.trans Ac.out.tape, hA9.output.trans Ac.out.output, Nat.le_trans Ac.out.size hA9.size, fun j hj hn => (hA9.block j (Nat.lt_of_lt_of_le hj Ac.out.size) (fun hm => by
      rcases List.mem_cons.1 hm with h | h
      · exact hn (by rw [h]; exact List.mem_cons_self ..)
      · rcases hsb j h with h | h
        · exact hn (List.mem_cons_of_mem _ h)
        · omega)).trans (Ac.out.block j hj hn)⟩
    exact ⟨rfl, r', m', s', o', hM9, hO9, hA10, fun g hg => (hs9 g hg).elim (fun h => hsb g h) (fun h => .inr (Nat.le_trans hszc h))⟩
end Go.Proofs.Ytmmcpjdcfhgkiaa
