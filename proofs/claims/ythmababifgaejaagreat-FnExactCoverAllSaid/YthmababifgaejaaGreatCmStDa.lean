/- What the functions of the program's machine do. No condition. What the functions of the program's machine do. No condition. What the functions of the program's machine do. No condition. -/
import Derived.Test.YthmababifgaejaaGreatCmStD
import Derived.Test.YthmababifgaejaaGreatCmGReg
import Derived.Test.YthmababifgaejaaGreatCmGUn1
import Derived.StillTailTactics
import Derived.Deep.RegionWith
import Derived.Deep.CutRange
namespace Go.Proofs.YthmababifgaejaaGreat
open Go.ChangeShapes Go.WideShapes Go.ChangeAt Go.RowKit
set_option maxRecDepth 100000 in
theorem i_divides (c : Int) (w : World) : Calls Tryz.prog 103 #[.int .i64 c] w fun e w' => e = .returned (.bool (decide (c = 6 ∨ c = 7))) ∧ w = w' := by
  by_cases h6 : c = 6
  · subst h6
    go_enter Tryz.func103, Tryz.ntmps103
    go_wp2
    go_ret
    exact ⟨rfl, rfl⟩
  · by_cases h7 : c = 7
    · subst h7
      go_enter Tryz.func103, Tryz.ntmps103
      go_wp2
      go_ret
      exact ⟨rfl, rfl⟩
    · have n6 : (c == 6) = false := by simpa using h6
      have n7 : (c == 7) = false := by simpa using h7
      have hd : decide (c = 6 ∨ c = 7) = false := by simp [h6, h7]
      rw [hd]
      clear h6 h7 hd
      go_enter Tryz.func103, Tryz.ntmps103
      go_wp2
      go_ret
      exact ⟨rfl, rfl⟩
set_option maxRecDepth 100000 in
set_option maxHeartbeats 2000000 in
/-- where the machine goes on, for whatever instruction -/
theorem i_jump10 {op : Int} (a b' c : Int) (b base : Nat) (vw vm vi : Int) (sL sI : Value) (x : StR) (r m s o : Value) (nx : Int) (w : World) (hM0 : MRow w b vw vm vi sL sI x r m s o nx) (hO0 : StO w base x r m s o) :
    Calls Tryz.prog 90 #[.pointer (some ⟨b, 0, none⟩), .agg #[.int .i64 op, .int .i64 a, .int .i64 b', .int .i64 c]] w (MEnd b base vw vm vi sL sI r m s o w (.int .i64 0) x b') := by
  have hbs : b < w.heap.size := row_ltD hM0
  obtain ⟨w0, hw0⟩ : ∃ w0, w0 = w.alloc (.cells #[.int .i64 op, .int .i64 a, .int .i64 b', .int .i64 c] 55) := ⟨_, rfl⟩
  have HB := Lib.hid (show Below w.heap.size w w0 by rw [hw0]; exact (Below.refl _ _).alloc (Nat.le_refl _) _)
  have IR := Lib.hid (show w0.heap[w.heap.size]? = some (.cells #[.int .i64 op, .int .i64 a, .int .i64 b', .int .i64 c] 55 (0, 0)) by rw [hw0]; exact heap_alloc_new _ _)
  have MR := Lib.hid (hM0.keep HB.out)
  have OR := Lib.hid (hO0.keep HB.out)
  have A0 := Lib.hid (Apart.of_below (bs := b :: StB r m s o) HB.out)
  have m13 := cell_of_row w0 b 13 _ _ _ MR.out
  have f13 := frozen_of_row w0 b 13 _ _ MR.out
  go_enter Tryz.func90, Tryz.ntmps90
  go_upto_region 1 with fail
  rw [← hw0]
  clear hw0
  obtain ⟨i0, i1, i2, i3⟩ := cell4_row IR.out
  go_wp2
  go_ret
  exact ⟨rfl, _, _, _, _, MR.out.next b', OR.out.aside (MR.out.off OR.out) 13 _, A0.out.setCell (List.mem_cons_self ..) _, fun _ hg => .inl hg⟩
set_option maxRecDepth 100000 in
set_option maxHeartbeats 8000000 in
theorem d_set : DoesIt 82 1 := by
  intro vw vm vi n qL nL cL iq ic I x r m s o nx a b' c b base w hw2 hw8 hv3 hG hI hli hbb hM0 hO0 hi
  obtain ⟨pc, R, M, S, inn, O, cd, st⟩ := x
  have hR : R.length = 4 := hG.hR
  have hS3 : S.length ≤ 3 := hG.hS
  have hO6 : O.length ≤ 6 := hG.hO
  have HI := Lib.hid hI
  have HG := Lib.hid hG
  have hinn : 0 ≤ inn ∧ inn ≤ vi := hG.inn
  have HMV := Lib.hid (show (M.length : Int) = vm from hG.hM)
  obtain ⟨gr, rc, rfl⟩ : ∃ g c, r = .slice (some ⟨g, 0, none⟩) 4 c := by have := own_some hO0.1 (show 0 < R.length by omega); rw [show (StR.mk pc R M S inn O cd st).R.length = 4 from hR] at this; exact this
  have hM1 : 1 ≤ vm ∨ vm ≤ 0 := by omega
  obtain ⟨mq, mc, rfl⟩ := own_slice hO0.2.1
  obtain ⟨sq, sc, rfl⟩ := own_slice hO0.2.2.1
  obtain ⟨oq, oc, rfl⟩ := own_slice hO0.2.2.2.1
  clear hM1
  obtain ⟨hop, hA, hB, hC⟩ := ins_parts hi
  simp only at hop hA hB hC
  have hgr : gr < w.heap.size := (hO0.lt (g := gr) (by simp [StB, Value.ownBlock])).2
  have hbs : b < w.heap.size := row_ltD hM0
  have hne : gr ≠ b := fun e => hM0.off hO0 (by rw [← e]; simp [StB, Value.ownBlock])
  obtain ⟨w0, hw0⟩ : ∃ w0, w0 = w.alloc (.cells #[.int .i64 1, .int .i64 a, .int .i64 b', .int .i64 c] 55) := ⟨_, rfl⟩
  have HB := Lib.hid (show Below w.heap.size w w0 by rw [hw0]; exact (Below.refl _ _).alloc (Nat.le_refl _) _)
  have hs0 : w.heap.size < w0.heap.size := by rw [hw0]; simp
  have IR := Lib.hid (show w0.heap[w.heap.size]? = some (.cells #[.int .i64 1, .int .i64 a, .int .i64 b', .int .i64 c] 55 (0, 0)) by rw [hw0]; exact heap_alloc_new _ _)
  have MR := Lib.hid (hM0.keep HB.out)
  have OR := Lib.hid (hO0.keep HB.out)
  have A0 := Lib.hid (Apart.of_below (bs := b :: StB (.slice (some ⟨gr, 0, none⟩) 4 rc) (.slice mq M.length mc) (.slice sq S.length sc) (.slice oq O.length oc)) HB.out)
  have HM0 := Lib.hid hM0
  have HO0 := Lib.hid hO0
  have hgr0 : gr < w0.heap.size := by omega
  have hbs0 : b < w0.heap.size := by omega
  clear hG hI hi hM0 hO0
  clear hli
  obtain ⟨ka, hpka⟩ : ∃ j : Nat, a = j := ⟨a.toNat, by have := reg_of hA; omega⟩
  have hka : ka < 4 := by have := reg_of hA; omega
  have hkai : (ka : Int) < 4 := by omega
  have hwka := HG.out.reg (reg_of hA)
  subst hpka
  have hkaR : ka < R.length := by omega
  obtain ⟨cka, zka⟩ := own_cell2 OR.out.1 ka (show ka < R.length by omega)
  have HAka := Lib.hid (atI_nat R ka (by omega))
  have hwy : whyV vm vi ⟨pc, R, M, S, inn, O, cd, st⟩ ⟨1, (ka : Int), b', c⟩ = 0 := rfl
  rw [hwy, if_pos rfl, if_pos rfl]
  clear hwy
  have KP := Lib.hid (fun v W h1 h2 h3 h4 => i_mput b gr rc ka v (R[ka]'hkaR) W h1 h2 hka h3 h4)
  go_enter Tryz.func82, Tryz.ntmps82
  go_upto_region 1 with fail
  rw [← hw0]
  clear hw0
  obtain ⟨m0, m1, m2, m3, m4, m5, m6, m7, m8, m9, m10, m11, m12, m13⟩ := mcells MR.out
  obtain ⟨i0, i1, i2, i3⟩ := cell4_row IR.out
  go_wp2_with fail
  refine (KP.out (b') (w0) hbs0 m6 cka zka).mono ?_
  rintro e w9 ⟨rfl, hw9⟩
  have HW := Lib.hid hw9
  clear hw9
  go_wp2
  go_ret
  show MEnd b base vw vm vi (.slice qL nL cL) (.slice iq I.length ic) (.slice (some ⟨gr, 0, none⟩) 4 rc) (.slice mq M.length mc) (.slice sq S.length sc) (.slice oq O.length oc) w (.int .i64 (0)) ⟨pc, R.set ka b', M, S, inn, O, cd, st⟩ (nx) _ _
  exact m_poke (W := w0) MR.out OR.out A0.out ka (b') HW.out _
set_option maxRecDepth 100000 in
set_option maxHeartbeats 8000000 in
theorem d_move : DoesIt 83 2 := by
  intro vw vm vi n qL nL cL iq ic I x r m s o nx a b' c b base w hw2 hw8 hv3 hG hI hli hbb hM0 hO0 hi
  obtain ⟨pc, R, M, S, inn, O, cd, st⟩ := x
  have hR : R.length = 4 := hG.hR
  have hS3 : S.length ≤ 3 := hG.hS
  have hO6 : O.length ≤ 6 := hG.hO
  have HI := Lib.hid hI
  have HG := Lib.hid hG
  have hinn : 0 ≤ inn ∧ inn ≤ vi := hG.inn
  have HMV := Lib.hid (show (M.length : Int) = vm from hG.hM)
  obtain ⟨gr, rc, rfl⟩ : ∃ g c, r = .slice (some ⟨g, 0, none⟩) 4 c := by have := own_some hO0.1 (show 0 < R.length by omega); rw [show (StR.mk pc R M S inn O cd st).R.length = 4 from hR] at this; exact this
  have hM1 : 1 ≤ vm ∨ vm ≤ 0 := by omega
  obtain ⟨mq, mc, rfl⟩ := own_slice hO0.2.1
  obtain ⟨sq, sc, rfl⟩ := own_slice hO0.2.2.1
  obtain ⟨oq, oc, rfl⟩ := own_slice hO0.2.2.2.1
  clear hM1
  obtain ⟨hop, hA, hB, hC⟩ := ins_parts hi
  simp only at hop hA hB hC
  have hgr : gr < w.heap.size := (hO0.lt (g := gr) (by simp [StB, Value.ownBlock])).2
  have hbs : b < w.heap.size := row_ltD hM0
  have hne : gr ≠ b := fun e => hM0.off hO0 (by rw [← e]; simp [StB, Value.ownBlock])
  obtain ⟨w0, hw0⟩ : ∃ w0, w0 = w.alloc (.cells #[.int .i64 2, .int .i64 a, .int .i64 b', .int .i64 c] 55) := ⟨_, rfl⟩
  have HB := Lib.hid (show Below w.heap.size w w0 by rw [hw0]; exact (Below.refl _ _).alloc (Nat.le_refl _) _)
  have hs0 : w.heap.size < w0.heap.size := by rw [hw0]; simp
  have IR := Lib.hid (show w0.heap[w.heap.size]? = some (.cells #[.int .i64 2, .int .i64 a, .int .i64 b', .int .i64 c] 55 (0, 0)) by rw [hw0]; exact heap_alloc_new _ _)
  have MR := Lib.hid (hM0.keep HB.out)
  have OR := Lib.hid (hO0.keep HB.out)
  have A0 := Lib.hid (Apart.of_below (bs := b :: StB (.slice (some ⟨gr, 0, none⟩) 4 rc) (.slice mq M.length mc) (.slice sq S.length sc) (.slice oq O.length oc)) HB.out)
  have HM0 := Lib.hid hM0
  have HO0 := Lib.hid hO0
  have hgr0 : gr < w0.heap.size := by omega
  have hbs0 : b < w0.heap.size := by omega
  clear hG hI hi hM0 hO0
  clear hli
  obtain ⟨ka, hpka⟩ : ∃ j : Nat, a = j := ⟨a.toNat, by have := reg_of hA; omega⟩
  have hka : ka < 4 := by have := reg_of hA; omega
  have hkai : (ka : Int) < 4 := by omega
  have hwka := HG.out.reg (reg_of hA)
  subst hpka
  have hkaR : ka < R.length := by omega
  obtain ⟨cka, zka⟩ := own_cell2 OR.out.1 ka (show ka < R.length by omega)
  have HAka := Lib.hid (atI_nat R ka (by omega))
  obtain ⟨kb, hpkb⟩ : ∃ j : Nat, b' = j := ⟨b'.toNat, by have := reg_of hB; omega⟩
  have hkb : kb < 4 := by have := reg_of hB; omega
  have hkbi : (kb : Int) < 4 := by omega
  have hwkb := HG.out.reg (reg_of hB)
  subst hpkb
  have hkbR : kb < R.length := by omega
  obtain ⟨ckb, zkb⟩ := own_cell2 OR.out.1 kb (show kb < R.length by omega)
  have HAkb := Lib.hid (atI_nat R kb (by omega))
  have hwy : whyV vm vi ⟨pc, R, M, S, inn, O, cd, st⟩ ⟨2, (ka : Int), (kb : Int), c⟩ = 0 := rfl
  rw [hwy, if_pos rfl, if_pos rfl]
  clear hwy
  have KP := Lib.hid (fun v W h1 h2 h3 h4 => i_mput b gr rc ka v (R[ka]'hkaR) W h1 h2 hka h3 h4)
  go_enter Tryz.func83, Tryz.ntmps83
  go_upto_region 1 with fail
  rw [← hw0]
  clear hw0
  obtain ⟨m0, m1, m2, m3, m4, m5, m6, m7, m8, m9, m10, m11, m12, m13⟩ := mcells MR.out
  obtain ⟨i0, i1, i2, i3⟩ := cell4_row IR.out
  go_still_tail 12, (by kernel_rfl)
  go_wp2_with fail
  refine (KP.out (R[kb]) (w0.drew) hbs0 m6 cka zka).mono ?_
  rintro e w9 ⟨rfl, hw9⟩
  have HW := Lib.hid hw9
  clear hw9
  go_wp2
  go_ret
  rw [show doX vw I ⟨pc, R, M, S, inn, O, cd, st⟩ nx ⟨2, (ka : Int), (kb : Int), c⟩ = ⟨pc, R.set ka (atI R (kb : Int)), M, S, inn, O, cd, st⟩ from rfl, HAkb.out]
  show MEnd b base vw vm vi (.slice qL nL cL) (.slice iq I.length ic) (.slice (some ⟨gr, 0, none⟩) 4 rc) (.slice mq M.length mc) (.slice sq S.length sc) (.slice oq O.length oc) w (.int .i64 (0)) ⟨pc, R.set ka R[kb], M, S, inn, O, cd, st⟩ (nx) _ _
  exact m_poke (W := w0.drew) (MRow.keep MR.out (Below.refl w0.heap.size w0).drew) (StO.keep OR.out (Below.refl w0.heap.size w0).drew) (A0.out.trans (Apart.of_below (Below.refl w0.heap.size w0).drew)) ka (R[kb]) HW.out _
set_option maxRecDepth 100000 in
set_option maxHeartbeats 8000000 in
theorem d_not : DoesIt 85 4 := by
  intro vw vm vi n qL nL cL iq ic I x r m s o nx a b' c b base w hw2 hw8 hv3 hG hI hli hbb hM0 hO0 hi
  obtain ⟨pc, R, M, S, inn, O, cd, st⟩ := x
  have hR : R.length = 4 := hG.hR
  have hS3 : S.length ≤ 3 := hG.hS
  have hO6 : O.length ≤ 6 := hG.hO
  have HI := Lib.hid hI
  have HG := Lib.hid hG
  have hinn : 0 ≤ inn ∧ inn ≤ vi := hG.inn
  have HMV := Lib.hid (show (M.length : Int) = vm from hG.hM)
  obtain ⟨gr, rc, rfl⟩ : ∃ g c, r = .slice (some ⟨g, 0, none⟩) 4 c := by have := own_some hO0.1 (show 0 < R.length by omega); rw [show (StR.mk pc R M S inn O cd st).R.length = 4 from hR] at this; exact this
  have hM1 : 1 ≤ vm ∨ vm ≤ 0 := by omega
  obtain ⟨mq, mc, rfl⟩ := own_slice hO0.2.1
  obtain ⟨sq, sc, rfl⟩ := own_slice hO0.2.2.1
  obtain ⟨oq, oc, rfl⟩ := own_slice hO0.2.2.2.1
  clear hM1
  obtain ⟨hop, hA, hB, hC⟩ := ins_parts hi
  simp only at hop hA hB hC
  have hgr : gr < w.heap.size := (hO0.lt (g := gr) (by simp [StB, Value.ownBlock])).2
  have hbs : b < w.heap.size := row_ltD hM0
  have hne : gr ≠ b := fun e => hM0.off hO0 (by rw [← e]; simp [StB, Value.ownBlock])
  obtain ⟨w0, hw0⟩ : ∃ w0, w0 = w.alloc (.cells #[.int .i64 4, .int .i64 a, .int .i64 b', .int .i64 c] 55) := ⟨_, rfl⟩
  have HB := Lib.hid (show Below w.heap.size w w0 by rw [hw0]; exact (Below.refl _ _).alloc (Nat.le_refl _) _)
  have hs0 : w.heap.size < w0.heap.size := by rw [hw0]; simp
  have IR := Lib.hid (show w0.heap[w.heap.size]? = some (.cells #[.int .i64 4, .int .i64 a, .int .i64 b', .int .i64 c] 55 (0, 0)) by rw [hw0]; exact heap_alloc_new _ _)
  have MR := Lib.hid (hM0.keep HB.out)
  have OR := Lib.hid (hO0.keep HB.out)
  have A0 := Lib.hid (Apart.of_below (bs := b :: StB (.slice (some ⟨gr, 0, none⟩) 4 rc) (.slice mq M.length mc) (.slice sq S.length sc) (.slice oq O.length oc)) HB.out)
  have HM0 := Lib.hid hM0
  have HO0 := Lib.hid hO0
  have hgr0 : gr < w0.heap.size := by omega
  have hbs0 : b < w0.heap.size := by omega
  clear hG hI hi hM0 hO0
  clear hli
  obtain ⟨ka, hpka⟩ : ∃ j : Nat, a = j := ⟨a.toNat, by have := reg_of hA; omega⟩
  have hka : ka < 4 := by have := reg_of hA; omega
  have hkai : (ka : Int) < 4 := by omega
  have hwka := HG.out.reg (reg_of hA)
  subst hpka
  have hkaR : ka < R.length := by omega
  obtain ⟨cka, zka⟩ := own_cell2 OR.out.1 ka (show ka < R.length by omega)
  have HAka := Lib.hid (atI_nat R ka (by omega))
  have hxka := hwka
  rw [HAka.out] at hxka
  have hwy : whyV vm vi ⟨pc, R, M, S, inn, O, cd, st⟩ ⟨4, (ka : Int), b', c⟩ = 0 := rfl
  rw [hwy, if_pos rfl, if_pos rfl]
  clear hwy
  have KP := Lib.hid (fun v W h1 h2 h3 h4 => i_mput b gr rc ka v (R[ka]'hkaR) W h1 h2 hka h3 h4)
  have KB := Lib.hid (fun V => i_un 1 vw R[ka] (.inl rfl) hxka.1 hxka.2.1 hxka.2.2.1 hxka.2.2.2 V)
  go_enter Tryz.func85, Tryz.ntmps85
  go_upto_region 1 with fail
  rw [← hw0]
  clear hw0
  obtain ⟨m0, m1, m2, m3, m4, m5, m6, m7, m8, m9, m10, m11, m12, m13⟩ := mcells MR.out
  obtain ⟨i0, i1, i2, i3⟩ := cell4_row IR.out
  skip
  have CH : Hid (w0.drew.cell? ⟨b, 0, none⟩ = some (.int .i64 vw) ∧ w0.drew.cell? ⟨b, 6, none⟩ = some (.slice (some ⟨gr, 0, none⟩) 4 rc) ∧ w0.drew.cell? ⟨w.heap.size, 1, none⟩ = some (.int .i64 (ka : Int))) := Lib.hid ⟨by assumption, by assumption, by assumption⟩
  refine region_s [] (fun V => V.cell? ⟨b, 0, none⟩ = some (.int .i64 vw) ∧ V.cell? ⟨b, 6, none⟩ = some (.slice (some ⟨gr, 0, none⟩) 4 rc) ∧ V.cell? ⟨w.heap.size, 1, none⟩ = some (.int .i64 (ka : Int))) (by kernel_rfl) ?_
  refine take_s (i := 0) (v := .pointer (some ⟨b, 0, none⟩)) rfl (by kernel_rfl) (fun _ _ _ h => h) CH.out rfl (fun V hV => ?_) ?_
  · go_simp
  refine take_s (i := 1) (v := .pointer (some ⟨w.heap.size, 1, none⟩)) rfl (by kernel_rfl) (fun _ _ _ h => h) CH.out rfl (fun V hV => ?_) ?_
  · go_simp
  refine take_s (i := 2) (v := .int .i64 (ka : Int)) rfl (by kernel_rfl) (fun _ _ _ h => h) CH.out rfl (fun V hV => ?_) ?_
  · obtain ⟨t0, t1, t2⟩ := hV; go_simp
  refine take_s (i := 3) (v := .pointer (some ⟨b, 0, none⟩)) rfl (by kernel_rfl) (fun _ _ _ h => h) CH.out rfl (fun V hV => ?_) ?_
  · go_simp
  refine take_s (i := 4) (v := .pointer (some ⟨b, 0, none⟩)) rfl (by kernel_rfl) (fun _ _ _ h => h) CH.out rfl (fun V hV => ?_) ?_
  · go_simp
  refine take_s (i := 5) (v := .pointer (some ⟨b, 0, none⟩)) rfl (by kernel_rfl) (fun _ _ _ h => h) CH.out rfl (fun V hV => ?_) ?_
  · go_simp
  refine take_s (i := 6) (v := .pointer (some ⟨b, 0, none⟩)) rfl (by kernel_rfl) (fun _ _ _ h => h) CH.out rfl (fun V hV => ?_) ?_
  · go_simp
  refine take_s (i := 7) (v := .int .i64 vw) rfl (by kernel_rfl) (fun _ _ _ h => h) CH.out rfl (fun V hV => ?_) ?_
  · obtain ⟨t0, t1, t2⟩ := hV; go_simp
  refine take_s (i := 8) (v := .pointer (some ⟨b, 0, none⟩)) rfl (by kernel_rfl) (fun _ _ _ h => h) CH.out rfl (fun V hV => ?_) ?_
  · go_simp
  refine take_s (i := 9) (v := .pointer (some ⟨b, 0, none⟩)) rfl (by kernel_rfl) (fun _ _ _ h => h) CH.out rfl (fun V hV => ?_) ?_
  · go_simp
  refine take_s (i := 10) (v := .pointer (some ⟨b, 5, none⟩)) rfl (by kernel_rfl) (fun _ _ _ h => h) CH.out rfl (fun V hV => ?_) ?_
  · go_simp
  refine take_s (i := 11) (v := .pointer (some ⟨b, 6, none⟩)) rfl (by kernel_rfl) (fun _ _ _ h => h) CH.out rfl (fun V hV => ?_) ?_
  · go_simp
  refine take_s (i := 12) (v := .slice (some ⟨gr, 0, none⟩) 4 rc) rfl (by kernel_rfl) (fun _ _ _ h => h) CH.out rfl (fun V hV => ?_) ?_
  · obtain ⟨t0, t1, t2⟩ := hV; go_simp
  refine take_s (i := 13) (v := .pointer (some ⟨w.heap.size, 1, none⟩)) rfl (by kernel_rfl) (fun _ _ _ h => h) CH.out rfl (fun V hV => ?_) ?_
  · go_simp
  refine take_s (i := 14) (v := .int .i64 (ka : Int)) rfl (by kernel_rfl) (fun _ _ _ h => h) CH.out rfl (fun V hV => ?_) ?_
  · obtain ⟨t0, t1, t2⟩ := hV; go_simp
  refine take_s (i := 15) (v := .pointer (some ⟨gr, ka, none⟩)) rfl (by kernel_rfl) (fun _ _ _ h => h) CH.out rfl (fun V hV => ?_) ?_
  · go_simp
  refine one_s (i := 16) (by kernel_rfl) (op_list rfl ?_)
  go_wp2
  refine ⟨fun _ => CH.out, ?_⟩
  refine one_s (i := 17) (by kernel_rfl) (op_list rfl ?_)
  go_wp2_with fail
  refine (KB.out _).mono ?_
  rintro e w8 ⟨rfl, rfl⟩
  go_wp2
  refine ⟨fun _ => CH.out, ?_⟩
  refine one_s (i := 18) (by kernel_rfl) (op_list rfl ?_)
  go_wp2_with fail
  refine (KP.out (unM 1 vw R[ka]) (w0.drew) (by simpa using hbs0) m6 cka zka).mono ?_
  rintro e w9 ⟨rfl, hw9⟩
  have HW := Lib.hid hw9
  have CP := Lib.hid (show w9.cell? ⟨b, 0, none⟩ = some (.int .i64 vw) ∧ w9.cell? ⟨b, 6, none⟩ = some (.slice (some ⟨gr, 0, none⟩) 4 rc) ∧ w9.cell? ⟨w.heap.size, 1, none⟩ = some (.int .i64 (ka : Int)) from by obtain ⟨t0, t1, t2⟩ := CH.out; rw [hw9]; exact ⟨(World.cell?_of_block (heap_setCell_other (w0.drew) ⟨gr, ka, none⟩ (b) _ (fun h => by have h : b = gr := h; omega))).trans t0, (World.cell?_of_block (heap_setCell_other (w0.drew) ⟨gr, ka, none⟩ (b) _ (fun h => by have h : b = gr := h; omega))).trans t1, (World.cell?_of_block (heap_setCell_other (w0.drew) ⟨gr, ka, none⟩ (w.heap.size) _ (fun h => by have h : w.heap.size = gr := h; omega))).trans t2⟩)
  clear hw9
  go_wp2
  refine ⟨fun _ => CP.out, ?_⟩
  refine one_s (i := 19) (by kernel_rfl) (op_list rfl ?_)
  go_wp2
  refine ⟨fun _ => CP.out, done_s (by kernel_rfl) ?_ _⟩
  go_wp2
  go_ret
  rw [show doX vw I ⟨pc, R, M, S, inn, O, cd, st⟩ nx ⟨4, (ka : Int), b', c⟩ = ⟨pc, R.set ka (unM 1 vw (atI R (ka : Int))), M, S, inn, O, cd, st⟩ from rfl, HAka.out]
  show MEnd b base vw vm vi (.slice qL nL cL) (.slice iq I.length ic) (.slice (some ⟨gr, 0, none⟩) 4 rc) (.slice mq M.length mc) (.slice sq S.length sc) (.slice oq O.length oc) w (.int .i64 (0)) ⟨pc, R.set ka (unM 1 vw R[ka]), M, S, inn, O, cd, st⟩ (nx) _ _
  exact m_poke (W := w0.drew) (MRow.keep MR.out (Below.refl w0.heap.size w0).drew) (StO.keep OR.out (Below.refl w0.heap.size w0).drew) (A0.out.trans (Apart.of_below (Below.refl w0.heap.size w0).drew)) ka (unM 1 vw R[ka]) HW.out _
set_option maxRecDepth 100000 in
set_option maxHeartbeats 8000000 in
theorem d_operate : DoesIt 84 3 := by
  intro vw vm vi n qL nL cL iq ic I x r m s o nx a b' c b base w hw2 hw8 hv3 hG hI hli hbb hM0 hO0 hi
  obtain ⟨pc, R, M, S, inn, O, cd, st⟩ := x
  have hR : R.length = 4 := hG.hR
  have hS3 : S.length ≤ 3 := hG.hS
  have hO6 : O.length ≤ 6 := hG.hO
  have HI := Lib.hid hI
  have HG := Lib.hid hG
  have hinn : 0 ≤ inn ∧ inn ≤ vi := hG.inn
  have HMV := Lib.hid (show (M.length : Int) = vm from hG.hM)
  obtain ⟨gr, rc, rfl⟩ : ∃ g c, r = .slice (some ⟨g, 0, none⟩) 4 c := by have := own_some hO0.1 (show 0 < R.length by omega); rw [show (StR.mk pc R M S inn O cd st).R.length = 4 from hR] at this; exact this
  have hM1 : 1 ≤ vm ∨ vm ≤ 0 := by omega
  obtain ⟨mq, mc, rfl⟩ := own_slice hO0.2.1
  obtain ⟨sq, sc, rfl⟩ := own_slice hO0.2.2.1
  obtain ⟨oq, oc, rfl⟩ := own_slice hO0.2.2.2.1
  clear hM1
  obtain ⟨hop, hA, hB, hC⟩ := ins_parts hi
  simp only at hop hA hB hC
  have hgr : gr < w.heap.size := (hO0.lt (g := gr) (by simp [StB, Value.ownBlock])).2
  have hbs : b < w.heap.size := row_ltD hM0
  have hne : gr ≠ b := fun e => hM0.off hO0 (by rw [← e]; simp [StB, Value.ownBlock])
  obtain ⟨w0, hw0⟩ : ∃ w0, w0 = w.alloc (.cells #[.int .i64 3, .int .i64 a, .int .i64 b', .int .i64 c] 55) := ⟨_, rfl⟩
  have HB := Lib.hid (show Below w.heap.size w w0 by rw [hw0]; exact (Below.refl _ _).alloc (Nat.le_refl _) _)
  have hs0 : w.heap.size < w0.heap.size := by rw [hw0]; simp
  have IR := Lib.hid (show w0.heap[w.heap.size]? = some (.cells #[.int .i64 3, .int .i64 a, .int .i64 b', .int .i64 c] 55 (0, 0)) by rw [hw0]; exact heap_alloc_new _ _)
  have MR := Lib.hid (hM0.keep HB.out)
  have OR := Lib.hid (hO0.keep HB.out)
  have A0 := Lib.hid (Apart.of_below (bs := b :: StB (.slice (some ⟨gr, 0, none⟩) 4 rc) (.slice mq M.length mc) (.slice sq S.length sc) (.slice oq O.length oc)) HB.out)
  have HM0 := Lib.hid hM0
  have HO0 := Lib.hid hO0
  have hgr0 : gr < w0.heap.size := by omega
  have hbs0 : b < w0.heap.size := by omega
  clear hG hI hi hM0 hO0
  clear hli
  obtain ⟨ka, hpka⟩ : ∃ j : Nat, a = j := ⟨a.toNat, by have := reg_of hA; omega⟩
  have hka : ka < 4 := by have := reg_of hA; omega
  have hkai : (ka : Int) < 4 := by omega
  have hwka := HG.out.reg (reg_of hA)
  subst hpka
  have hkaR : ka < R.length := by omega
  obtain ⟨cka, zka⟩ := own_cell2 OR.out.1 ka (show ka < R.length by omega)
  have HAka := Lib.hid (atI_nat R ka (by omega))
  obtain ⟨kb, hpkb⟩ : ∃ j : Nat, b' = j := ⟨b'.toNat, by have := reg_of hB; omega⟩
  have hkb : kb < 4 := by have := reg_of hB; omega
  have hkbi : (kb : Int) < 4 := by omega
  have hwkb := HG.out.reg (reg_of hB)
  subst hpkb
  have hkbR : kb < R.length := by omega
  obtain ⟨ckb, zkb⟩ := own_cell2 OR.out.1 kb (show kb < R.length by omega)
  have HAkb := Lib.hid (atI_nat R kb (by omega))
  have hxka := hwka
  rw [HAka.out] at hxka
  have hxkb := hwkb
  rw [HAkb.out] at hxkb
  have hc3 := oper_of hC
  have hwy : whyV vm vi ⟨pc, R, M, S, inn, O, cd, st⟩ ⟨3, (ka : Int), (kb : Int), c⟩ = if (c = 6 ∨ c = 7) ∧ atI R (kb : Int) = 0 then 6 else 0 := rfl
  rw [HAkb.out] at hwy
  have KP := Lib.hid (fun v W h1 h2 h3 h4 => i_mput b gr rc ka v (R[ka]'hkaR) W h1 h2 hka h3 h4)
  have KB := Lib.hid (fun V => i_bin c vw R[ka] R[kb] hc3 hxka.1 hxka.2.1 hxka.2.2.1 hxka.2.2.2 hxkb.2.2.1 hxkb.2.2.2 V)
  have KD := Lib.hid (fun V => i_divides c V)
  go_enter Tryz.func84, Tryz.ntmps84
  go_upto_region 1 with fail
  rw [← hw0]
  clear hw0
  obtain ⟨m0, m1, m2, m3, m4, m5, m6, m7, m8, m9, m10, m11, m12, m13⟩ := mcells MR.out
  obtain ⟨i0, i1, i2, i3⟩ := cell4_row IR.out
  go_region
  go_upto_region 2 with fail
  by_cases hz : R[kb] = 0
  · have hq : (R[kb] == 0) = true := by simpa using hz
    by_cases hd : c = 6 ∨ c = 7
    · rw [if_pos ⟨hd, hz⟩] at hwy
      rw [hwy]
      have hdt : decide (c = 6 ∨ c = 7) = true := decide_eq_true hd
      rw [hdt] at KD
      clear hz hd hdt
      go_wp2_with fail
      refine (KD.out _).mono ?_
      rintro e w8 ⟨rfl, rfl⟩
      go_wp2
      go_ret
      exact m_same HM0.out HO0.out HB.out.drew _
    · rw [if_neg (fun h => hd h.1)] at hwy
      have hdt : decide (c = 6 ∨ c = 7) = false := decide_eq_false hd
      rw [hdt] at KD
      clear hz hd hdt
      go_wp2_with fail
      refine (KD.out _).mono ?_
      rintro e w8 ⟨rfl, rfl⟩
      go_upto_region 4 with fail
      have CH : Hid (w0.drew.drew.cell? ⟨b, 0, none⟩ = some (.int .i64 vw) ∧ w0.drew.drew.cell? ⟨w.heap.size, 1, none⟩ = some (.int .i64 (ka : Int)) ∧ w0.drew.drew.cell? ⟨w.heap.size, 3, none⟩ = some (.int .i64 c)) := Lib.hid ⟨by assumption, by assumption, by assumption⟩
      refine region_s [] (fun V => V.cell? ⟨b, 0, none⟩ = some (.int .i64 vw) ∧ V.cell? ⟨w.heap.size, 1, none⟩ = some (.int .i64 (ka : Int)) ∧ V.cell? ⟨w.heap.size, 3, none⟩ = some (.int .i64 c)) (by kernel_rfl) ?_
      refine take_s (i := 0) (v := .pointer (some ⟨b, 0, none⟩)) rfl (by kernel_rfl) (fun _ _ _ h => h) CH.out rfl (fun V hV => ?_) ?_
      · go_simp
      refine take_s (i := 1) (v := .pointer (some ⟨w.heap.size, 1, none⟩)) rfl (by kernel_rfl) (fun _ _ _ h => h) CH.out rfl (fun V hV => ?_) ?_
      · go_simp
      refine take_s (i := 2) (v := .int .i64 (ka : Int)) rfl (by kernel_rfl) (fun _ _ _ h => h) CH.out rfl (fun V hV => ?_) ?_
      · obtain ⟨t0, t1, t2⟩ := hV; go_simp
      refine take_s (i := 3) (v := .pointer (some ⟨w.heap.size, 3, none⟩)) rfl (by kernel_rfl) (fun _ _ _ h => h) CH.out rfl (fun V hV => ?_) ?_
      · go_simp
      refine take_s (i := 4) (v := .int .i64 c) rfl (by kernel_rfl) (fun _ _ _ h => h) CH.out rfl (fun V hV => ?_) ?_
      · obtain ⟨t0, t1, t2⟩ := hV; go_simp
      refine take_s (i := 5) (v := .pointer (some ⟨b, 0, none⟩)) rfl (by kernel_rfl) (fun _ _ _ h => h) CH.out rfl (fun V hV => ?_) ?_
      · go_simp
      refine take_s (i := 6) (v := .pointer (some ⟨b, 0, none⟩)) rfl (by kernel_rfl) (fun _ _ _ h => h) CH.out rfl (fun V hV => ?_) ?_
      · go_simp
      refine take_s (i := 7) (v := .pointer (some ⟨b, 0, none⟩)) rfl (by kernel_rfl) (fun _ _ _ h => h) CH.out rfl (fun V hV => ?_) ?_
      · go_simp
      refine take_s (i := 8) (v := .pointer (some ⟨b, 0, none⟩)) rfl (by kernel_rfl) (fun _ _ _ h => h) CH.out rfl (fun V hV => ?_) ?_
      · go_simp
      refine take_s (i := 9) (v := .int .i64 vw) rfl (by kernel_rfl) (fun _ _ _ h => h) CH.out rfl (fun V hV => ?_) ?_
      · obtain ⟨t0, t1, t2⟩ := hV; go_simp
      refine take_s (i := 10) (v := .int .i64 R[ka]) rfl (by kernel_rfl) (fun _ _ _ h => h) CH.out rfl (fun V hV => ?_) ?_
      · go_simp
      refine take_s (i := 11) (v := .int .i64 R[kb]) rfl (by kernel_rfl) (fun _ _ _ h => h) CH.out rfl (fun V hV => ?_) ?_
      · go_simp
      refine one_s (i := 12) (by kernel_rfl) (op_list rfl ?_)
      go_wp2_with fail
      refine (KB.out _).mono ?_
      rintro e w8 ⟨rfl, rfl⟩
      go_wp2
      refine ⟨fun _ => CH.out, ?_⟩
      refine one_s (i := 13) (by kernel_rfl) (op_list rfl ?_)
      go_wp2_with fail
      refine (KP.out (binM c vw R[ka] R[kb]) (w0.drew.drew) (by simpa using hbs0) m6 cka zka).mono ?_
      rintro e w9 ⟨rfl, hw9⟩
      have HW := Lib.hid hw9
      have CP := Lib.hid (show w9.cell? ⟨b, 0, none⟩ = some (.int .i64 vw) ∧ w9.cell? ⟨w.heap.size, 1, none⟩ = some (.int .i64 (ka : Int)) ∧ w9.cell? ⟨w.heap.size, 3, none⟩ = some (.int .i64 c) from by obtain ⟨t0, t1, t2⟩ := CH.out; rw [hw9]; exact ⟨(World.cell?_of_block (heap_setCell_other (w0.drew.drew) ⟨gr, ka, none⟩ (b) _ (fun h => by have h : b = gr := h; omega))).trans t0, (World.cell?_of_block (heap_setCell_other (w0.drew.drew) ⟨gr, ka, none⟩ (w.heap.size) _ (fun h => by have h : w.heap.size = gr := h; omega))).trans t1, (World.cell?_of_block (heap_setCell_other (w0.drew.drew) ⟨gr, ka, none⟩ (w.heap.size) _ (fun h => by have h : w.heap.size = gr := h; omega))).trans t2⟩)
      clear hw9
      go_wp2
      refine ⟨fun _ => CP.out, ?_⟩
      refine one_s (i := 14) (by kernel_rfl) (op_list rfl ?_)
      go_wp2
      refine ⟨fun _ => CP.out, done_s (by kernel_rfl) ?_ _⟩
      go_wp2
      go_ret
      rw [show doX vw I ⟨pc, R, M, S, inn, O, cd, st⟩ nx ⟨3, (ka : Int), (kb : Int), c⟩ = ⟨pc, R.set ka (binM c vw (atI R (ka : Int)) (atI R (kb : Int))), M, S, inn, O, cd, st⟩ from rfl, HAka.out, HAkb.out]
      show MEnd b base vw vm vi (.slice qL nL cL) (.slice iq I.length ic) (.slice (some ⟨gr, 0, none⟩) 4 rc) (.slice mq M.length mc) (.slice sq S.length sc) (.slice oq O.length oc) w (.int .i64 (0)) ⟨pc, R.set ka (binM c vw R[ka] R[kb]), M, S, inn, O, cd, st⟩ (nx) _ _
      have hb9 := (Below.refl w0.heap.size w0).drew.drew
      exact m_poke (W := w0.drew.drew) (MR.out.keep hb9) (OR.out.keep hb9) (A0.out.trans (Apart.of_below hb9)) ka (binM c vw R[ka] R[kb]) HW.out _
  · have hq : (R[kb] == 0) = false := by simpa using hz
    rw [if_neg (fun h => hz h.2)] at hwy
    clear hz
    go_upto_region 4 with fail
    have CH : Hid (w0.drew.drew.cell? ⟨b, 0, none⟩ = some (.int .i64 vw) ∧ w0.drew.drew.cell? ⟨w.heap.size, 1, none⟩ = some (.int .i64 (ka : Int)) ∧ w0.drew.drew.cell? ⟨w.heap.size, 3, none⟩ = some (.int .i64 c)) := Lib.hid ⟨by assumption, by assumption, by assumption⟩
    refine region_s [] (fun V => V.cell? ⟨b, 0, none⟩ = some (.int .i64 vw) ∧ V.cell? ⟨w.heap.size, 1, none⟩ = some (.int .i64 (ka : Int)) ∧ V.cell? ⟨w.heap.size, 3, none⟩ = some (.int .i64 c)) (by kernel_rfl) ?_
    refine take_s (i := 0) (v := .pointer (some ⟨b, 0, none⟩)) rfl (by kernel_rfl) (fun _ _ _ h => h) CH.out rfl (fun V hV => ?_) ?_
    · go_simp
    refine take_s (i := 1) (v := .pointer (some ⟨w.heap.size, 1, none⟩)) rfl (by kernel_rfl) (fun _ _ _ h => h) CH.out rfl (fun V hV => ?_) ?_
    · go_simp
    refine take_s (i := 2) (v := .int .i64 (ka : Int)) rfl (by kernel_rfl) (fun _ _ _ h => h) CH.out rfl (fun V hV => ?_) ?_
    · obtain ⟨t0, t1, t2⟩ := hV; go_simp
    refine take_s (i := 3) (v := .pointer (some ⟨w.heap.size, 3, none⟩)) rfl (by kernel_rfl) (fun _ _ _ h => h) CH.out rfl (fun V hV => ?_) ?_
    · go_simp
    refine take_s (i := 4) (v := .int .i64 c) rfl (by kernel_rfl) (fun _ _ _ h => h) CH.out rfl (fun V hV => ?_) ?_
    · obtain ⟨t0, t1, t2⟩ := hV; go_simp
    refine take_s (i := 5) (v := .pointer (some ⟨b, 0, none⟩)) rfl (by kernel_rfl) (fun _ _ _ h => h) CH.out rfl (fun V hV => ?_) ?_
    · go_simp
    refine take_s (i := 6) (v := .pointer (some ⟨b, 0, none⟩)) rfl (by kernel_rfl) (fun _ _ _ h => h) CH.out rfl (fun V hV => ?_) ?_
    · go_simp
    refine take_s (i := 7) (v := .pointer (some ⟨b, 0, none⟩)) rfl (by kernel_rfl) (fun _ _ _ h => h) CH.out rfl (fun V hV => ?_) ?_
    · go_simp
    refine take_s (i := 8) (v := .pointer (some ⟨b, 0, none⟩)) rfl (by kernel_rfl) (fun _ _ _ h => h) CH.out rfl (fun V hV => ?_) ?_
    · go_simp
    refine take_s (i := 9) (v := .int .i64 vw) rfl (by kernel_rfl) (fun _ _ _ h => h) CH.out rfl (fun V hV => ?_) ?_
    · obtain ⟨t0, t1, t2⟩ := hV; go_simp
    refine take_s (i := 10) (v := .int .i64 R[ka]) rfl (by kernel_rfl) (fun _ _ _ h => h) CH.out rfl (fun V hV => ?_) ?_
    · go_simp
    refine take_s (i := 11) (v := .int .i64 R[kb]) rfl (by kernel_rfl) (fun _ _ _ h => h) CH.out rfl (fun V hV => ?_) ?_
    · go_simp
    refine one_s (i := 12) (by kernel_rfl) (op_list rfl ?_)
    go_wp2_with fail
    refine (KB.out _).mono ?_
    rintro e w8 ⟨rfl, rfl⟩
    go_wp2
    refine ⟨fun _ => CH.out, ?_⟩
    refine one_s (i := 13) (by kernel_rfl) (op_list rfl ?_)
    go_wp2_with fail
    refine (KP.out (binM c vw R[ka] R[kb]) (w0.drew.drew) (by simpa using hbs0) m6 cka zka).mono ?_
    rintro e w9 ⟨rfl, hw9⟩
    have HW := Lib.hid hw9
    have CP := Lib.hid (show w9.cell? ⟨b, 0, none⟩ = some (.int .i64 vw) ∧ w9.cell? ⟨w.heap.size, 1, none⟩ = some (.int .i64 (ka : Int)) ∧ w9.cell? ⟨w.heap.size, 3, none⟩ = some (.int .i64 c) from by obtain ⟨t0, t1, t2⟩ := CH.out; rw [hw9]; exact ⟨(World.cell?_of_block (heap_setCell_other (w0.drew.drew) ⟨gr, ka, none⟩ (b) _ (fun h => by have h : b = gr := h; omega))).trans t0, (World.cell?_of_block (heap_setCell_other (w0.drew.drew) ⟨gr, ka, none⟩ (w.heap.size) _ (fun h => by have h : w.heap.size = gr := h; omega))).trans t1, (World.cell?_of_block (heap_setCell_other (w0.drew.drew) ⟨gr, ka, none⟩ (w.heap.size) _ (fun h => by have h : w.heap.size = gr := h; omega))).trans t2⟩)
    clear hw9
    go_wp2
    refine ⟨fun _ => CP.out, ?_⟩
    refine one_s (i := 14) (by kernel_rfl) (op_list rfl ?_)
    go_wp2
    refine ⟨fun _ => CP.out, done_s (by kernel_rfl) ?_ _⟩
    go_wp2
    go_ret
    rw [show doX vw I ⟨pc, R, M, S, inn, O, cd, st⟩ nx ⟨3, (ka : Int), (kb : Int), c⟩ = ⟨pc, R.set ka (binM c vw (atI R (ka : Int)) (atI R (kb : Int))), M, S, inn, O, cd, st⟩ from rfl, HAka.out, HAkb.out]
    show MEnd b base vw vm vi (.slice qL nL cL) (.slice iq I.length ic) (.slice (some ⟨gr, 0, none⟩) 4 rc) (.slice mq M.length mc) (.slice sq S.length sc) (.slice oq O.length oc) w (.int .i64 (0)) ⟨pc, R.set ka (binM c vw R[ka] R[kb]), M, S, inn, O, cd, st⟩ (nx) _ _
    have hb9 := (Below.refl w0.heap.size w0).drew.drew
    exact m_poke (W := w0.drew.drew) (MR.out.keep hb9) (OR.out.keep hb9) (A0.out.trans (Apart.of_below hb9)) ka (binM c vw R[ka] R[kb]) HW.out _
set_option maxRecDepth 100000 in
set_option maxHeartbeats 8000000 in
theorem d_input : DoesIt 86 5 := by
  intro vw vm vi n qL nL cL iq ic I x r m s o nx a b' c b base w hw2 hw8 hv3 hG hI hli hbb hM0 hO0 hi
  obtain ⟨pc, R, M, S, inn, O, cd, st⟩ := x
  have hR : R.length = 4 := hG.hR
  have hS3 : S.length ≤ 3 := hG.hS
  have hO6 : O.length ≤ 6 := hG.hO
  have HI := Lib.hid hI
  have HG := Lib.hid hG
  have hinn : 0 ≤ inn ∧ inn ≤ vi := hG.inn
  have HMV := Lib.hid (show (M.length : Int) = vm from hG.hM)
  obtain ⟨gr, rc, rfl⟩ : ∃ g c, r = .slice (some ⟨g, 0, none⟩) 4 c := by have := own_some hO0.1 (show 0 < R.length by omega); rw [show (StR.mk pc R M S inn O cd st).R.length = 4 from hR] at this; exact this
  have hM1 : 1 ≤ vm ∨ vm ≤ 0 := by omega
  obtain ⟨mq, mc, rfl⟩ := own_slice hO0.2.1
  obtain ⟨sq, sc, rfl⟩ := own_slice hO0.2.2.1
  obtain ⟨oq, oc, rfl⟩ := own_slice hO0.2.2.2.1
  clear hM1
  obtain ⟨hop, hA, hB, hC⟩ := ins_parts hi
  simp only at hop hA hB hC
  have hgr : gr < w.heap.size := (hO0.lt (g := gr) (by simp [StB, Value.ownBlock])).2
  have hbs : b < w.heap.size := row_ltD hM0
  have hne : gr ≠ b := fun e => hM0.off hO0 (by rw [← e]; simp [StB, Value.ownBlock])
  obtain ⟨w0, hw0⟩ : ∃ w0, w0 = w.alloc (.cells #[.int .i64 5, .int .i64 a, .int .i64 b', .int .i64 c] 55) := ⟨_, rfl⟩
  have HB := Lib.hid (show Below w.heap.size w w0 by rw [hw0]; exact (Below.refl _ _).alloc (Nat.le_refl _) _)
  have hs0 : w.heap.size < w0.heap.size := by rw [hw0]; simp
  have IR := Lib.hid (show w0.heap[w.heap.size]? = some (.cells #[.int .i64 5, .int .i64 a, .int .i64 b', .int .i64 c] 55 (0, 0)) by rw [hw0]; exact heap_alloc_new _ _)
  have MR := Lib.hid (hM0.keep HB.out)
  have OR := Lib.hid (hO0.keep HB.out)
  have A0 := Lib.hid (Apart.of_below (bs := b :: StB (.slice (some ⟨gr, 0, none⟩) 4 rc) (.slice mq M.length mc) (.slice sq S.length sc) (.slice oq O.length oc)) HB.out)
  have HM0 := Lib.hid hM0
  have HO0 := Lib.hid hO0
  have hgr0 : gr < w0.heap.size := by omega
  have hbs0 : b < w0.heap.size := by omega
  clear hG hI hi hM0 hO0
  obtain ⟨ka, hpka⟩ : ∃ j : Nat, a = j := ⟨a.toNat, by have := reg_of hA; omega⟩
  have hka : ka < 4 := by have := reg_of hA; omega
  have hkai : (ka : Int) < 4 := by omega
  have hwka := HG.out.reg (reg_of hA)
  subst hpka
  have hkaR : ka < R.length := by omega
  obtain ⟨cka, zka⟩ := own_cell2 OR.out.1 ka (show ka < R.length by omega)
  have HAka := Lib.hid (atI_nat R ka (by omega))
  have hwy : whyV vm vi ⟨pc, R, M, S, inn, O, cd, st⟩ ⟨5, (ka : Int), b', c⟩ = if inn = vi then 3 else 0 := rfl
  have KP := Lib.hid (fun v W h1 h2 h3 h4 => i_mput b gr rc ka v (R[ka]'hkaR) W h1 h2 hka h3 h4)
  by_cases hz : inn = vi
  · rw [if_pos hz] at hwy
    rw [hwy, if_neg (by decide), if_neg (by decide)]
    have hq : (inn == (I.length : Int)) = true := by have := HI.out.1; simp; omega
    clear hz hwy
    go_enter Tryz.func86, Tryz.ntmps86
    go_upto_region 1 with fail
    rw [← hw0]
    clear hw0
    obtain ⟨m0, m1, m2, m3, m4, m5, m6, m7, m8, m9, m10, m11, m12, m13⟩ := mcells MR.out
    obtain ⟨i0, i1, i2, i3⟩ := cell4_row IR.out
    go_wp2
    go_ret
    exact m_same HM0.out HO0.out HB.out _
  · rw [if_neg hz] at hwy
    rw [hwy, if_pos rfl, if_pos rfl]
    have hq : (inn == (I.length : Int)) = false := by have := HI.out.1; simp; omega
    obtain ⟨ki, hki⟩ : ∃ j : Nat, inn = j := ⟨inn.toNat, by omega⟩
    have hkl : ki < I.length := by have := HI.out.1; omega
    have hkli : (ki : Int) < (I.length : Int) := by omega
    subst hki
    have HAi := Lib.hid (atI_nat I ki hkl)
    obtain ⟨bi, oi, rfl, hbi, hbil, hci⟩ := hli ki hkl
    have hbib : bi ≠ b := by omega
    clear hz hwy hli
    go_enter Tryz.func86, Tryz.ntmps86
    go_upto_region 1 with fail
    rw [← hw0]
    clear hw0
    obtain ⟨m0, m1, m2, m3, m4, m5, m6, m7, m8, m9, m10, m11, m12, m13⟩ := mcells MR.out
    obtain ⟨f5, f8, f9, f10, f11, f12, f13⟩ := mfroz MR.out
    obtain ⟨i0, i1, i2, i3⟩ := cell4_row IR.out
    have hki4 : (ki : Int) + 1 ≤ 9223372036854775807 := by omega
    go_upto_region 5 with fail
    clear m0 m1 m2 m3 m4 m5 m6 m7 m8 m9 m10 m11 m12 m13 f5 f8 f9 f10 f11 f12 f13 i0 i1 i2 i3 cka zka
    obtain ⟨w1, hw1⟩ : ∃ W9, W9 = w0.setCell ⟨b, 9, none⟩ (.int .i64 ((ki : Int) + 1)) := ⟨_, rfl⟩
    have MR1 : Hid (MRow w1 b vw vm vi (.slice qL nL cL) (.slice (some ⟨bi, oi, none⟩) I.length ic) ⟨pc, R, M, S, (ki : Int) + 1, O, cd, st⟩ (.slice (some ⟨gr, 0, none⟩) 4 rc) (.slice mq M.length mc) (.slice sq S.length sc) (.slice oq O.length oc) nx) := Lib.hid (by rw [hw1]; exact MR.out.inn _)
    have OR1 : Hid (StO w1 base ⟨pc, R, M, S, (ki : Int) + 1, O, cd, st⟩ (.slice (some ⟨gr, 0, none⟩) 4 rc) (.slice mq M.length mc) (.slice sq S.length sc) (.slice oq O.length oc)) := Lib.hid (by rw [hw1]; exact (OR.out.aside (MR.out.off OR.out) 9 _).like rfl rfl rfl rfl)
    have A1 := Lib.hid (show Apart (b :: StB (.slice (some ⟨gr, 0, none⟩) 4 rc) (.slice mq M.length mc) (.slice sq S.length sc) (.slice oq O.length oc)) w w1 by rw [hw1]; exact A0.out.setCell (List.mem_cons_self ..) _)
    have IR1 := Lib.hid (show w1.heap[w.heap.size]? = some (.cells #[.int .i64 5, .int .i64 (ka : Int), .int .i64 b', .int .i64 c] 55 (0, 0)) by rw [hw1, heap_setCell_other _ _ _ _ (fun h => by have h : w.heap.size = b := h; omega)]; exact IR.out)
    have hci1 : w1.cell? ⟨bi, oi + ki, none⟩ = some (.int .i64 I[ki]) := by
      rw [hw1, World.cell?_of_block (w := w0) (heap_setCell_other w0 ⟨b, 9, none⟩ bi _ hbib)]
      exact (HB.out.cell (p := ⟨bi, oi + ki, none⟩) hbil).trans hci
    have hbs1 : b < w1.heap.size := by rw [hw1]; simpa using hbs0
    have hbi1 : bi < w1.heap.size := World.block_lt_of_cell? _ _ hci1
    rw [← hw1]
    clear hw1 hci
    obtain ⟨cka, zka⟩ := own_cell2 OR1.out.1 ka hkaR
    obtain ⟨m0, m1, m2, m3, m4, m5, m6, m7, m8, m9, m10, m11, m12, m13⟩ := mcells MR1.out
    obtain ⟨i0, i1, i2, i3⟩ := cell4_row IR1.out
    have hgr1 : gr < w1.heap.size := World.block_lt_of_cell? _ _ cka
    go_still_tail 10, (by kernel_rfl)
    go_wp2_with fail
    refine (KP.out I[ki] w1.drew hbs1 m6 cka zka).mono ?_
    rintro e w9 ⟨rfl, hw9⟩
    have HW := Lib.hid hw9
    clear hw9
    go_wp2
    go_ret
    rw [show doX vw I ⟨pc, R, M, S, (ki : Int), O, cd, st⟩ nx ⟨5, (ka : Int), b', c⟩ = ⟨pc, R.set ka (atI I (ki : Int)), M, S, (ki : Int) + 1, O, cd, st⟩ from rfl, HAi.out]
    have hb9 := (Below.refl w1.heap.size w1).drew
    exact m_poke (W := w1.drew) (MR1.out.keep hb9) (OR1.out.keep hb9) (A1.out.trans (Apart.of_below hb9)) ka I[ki] HW.out _
set_option maxRecDepth 100000 in
set_option maxHeartbeats 8000000 in
theorem d_jump : DoesIt 90 9 := by
  intro vw vm vi n qL nL cL iq ic I x r m s o nx a b' c b base w hw2 hw8 hv3 hG hI hli hbb hM0 hO0 hi
  obtain ⟨pc, R, M, S, inn, O, cd, st⟩ := x
  have hR : R.length = 4 := hG.hR
  have hS3 : S.length ≤ 3 := hG.hS
  have hO6 : O.length ≤ 6 := hG.hO
  have HI := Lib.hid hI
  have HG := Lib.hid hG
  have hinn : 0 ≤ inn ∧ inn ≤ vi := hG.inn
  have HMV := Lib.hid (show (M.length : Int) = vm from hG.hM)
  obtain ⟨gr, rc, rfl⟩ : ∃ g c, r = .slice (some ⟨g, 0, none⟩) 4 c := by have := own_some hO0.1 (show 0 < R.length by omega); rw [show (StR.mk pc R M S inn O cd st).R.length = 4 from hR] at this; exact this
  have hM1 : 1 ≤ vm ∨ vm ≤ 0 := by omega
  obtain ⟨mq, mc, rfl⟩ := own_slice hO0.2.1
  obtain ⟨sq, sc, rfl⟩ := own_slice hO0.2.2.1
  obtain ⟨oq, oc, rfl⟩ := own_slice hO0.2.2.2.1
  clear hM1
  obtain ⟨hop, hA, hB, hC⟩ := ins_parts hi
  simp only at hop hA hB hC
  have hgr : gr < w.heap.size := (hO0.lt (g := gr) (by simp [StB, Value.ownBlock])).2
  have hbs : b < w.heap.size := row_ltD hM0
  have hne : gr ≠ b := fun e => hM0.off hO0 (by rw [← e]; simp [StB, Value.ownBlock])
  obtain ⟨w0, hw0⟩ : ∃ w0, w0 = w.alloc (.cells #[.int .i64 9, .int .i64 a, .int .i64 b', .int .i64 c] 55) := ⟨_, rfl⟩
  have HB := Lib.hid (show Below w.heap.size w w0 by rw [hw0]; exact (Below.refl _ _).alloc (Nat.le_refl _) _)
  have hs0 : w.heap.size < w0.heap.size := by rw [hw0]; simp
  have IR := Lib.hid (show w0.heap[w.heap.size]? = some (.cells #[.int .i64 9, .int .i64 a, .int .i64 b', .int .i64 c] 55 (0, 0)) by rw [hw0]; exact heap_alloc_new _ _)
  have MR := Lib.hid (hM0.keep HB.out)
  have OR := Lib.hid (hO0.keep HB.out)
  have A0 := Lib.hid (Apart.of_below (bs := b :: StB (.slice (some ⟨gr, 0, none⟩) 4 rc) (.slice mq M.length mc) (.slice sq S.length sc) (.slice oq O.length oc)) HB.out)
  have HM0 := Lib.hid hM0
  have HO0 := Lib.hid hO0
  have hgr0 : gr < w0.heap.size := by omega
  have hbs0 : b < w0.heap.size := by omega
  clear hG hI hi hM0 hO0
  clear hli
  have hwy : whyV vm vi ⟨pc, R, M, S, inn, O, cd, st⟩ ⟨9, a, b', c⟩ = 0 := rfl
  rw [hwy, if_pos rfl, if_pos rfl]
  clear hwy
  go_enter Tryz.func90, Tryz.ntmps90
  go_upto_region 1 with fail
  rw [← hw0]
  clear hw0
  obtain ⟨m0, m1, m2, m3, m4, m5, m6, m7, m8, m9, m10, m11, m12, m13⟩ := mcells MR.out
  obtain ⟨f5, f8, f9, f10, f11, f12, f13⟩ := mfroz MR.out
  obtain ⟨i0, i1, i2, i3⟩ := cell4_row IR.out
  go_wp2
  go_ret
  exact ⟨rfl, _, _, _, _, MR.out.next b', OR.out.aside (MR.out.off OR.out) 13 _, A0.out.setCell (List.mem_cons_self ..) _, fun _ hg => .inl hg⟩
set_option maxRecDepth 100000 in
set_option maxHeartbeats 8000000 in
theorem d_check : DoesIt 94 13 := by
  intro vw vm vi n qL nL cL iq ic I x r m s o nx a b' c b base w hw2 hw8 hv3 hG hI hli hbb hM0 hO0 hi
  obtain ⟨pc, R, M, S, inn, O, cd, st⟩ := x
  have hR : R.length = 4 := hG.hR
  have hS3 : S.length ≤ 3 := hG.hS
  have hO6 : O.length ≤ 6 := hG.hO
  have HI := Lib.hid hI
  have HG := Lib.hid hG
  have hinn : 0 ≤ inn ∧ inn ≤ vi := hG.inn
  have HMV := Lib.hid (show (M.length : Int) = vm from hG.hM)
  obtain ⟨gr, rc, rfl⟩ : ∃ g c, r = .slice (some ⟨g, 0, none⟩) 4 c := by have := own_some hO0.1 (show 0 < R.length by omega); rw [show (StR.mk pc R M S inn O cd st).R.length = 4 from hR] at this; exact this
  have hM1 : 1 ≤ vm ∨ vm ≤ 0 := by omega
  obtain ⟨mq, mc, rfl⟩ := own_slice hO0.2.1
  obtain ⟨sq, sc, rfl⟩ := own_slice hO0.2.2.1
  obtain ⟨oq, oc, rfl⟩ := own_slice hO0.2.2.2.1
  clear hM1
  obtain ⟨hop, hA, hB, hC⟩ := ins_parts hi
  simp only at hop hA hB hC
  have hgr : gr < w.heap.size := (hO0.lt (g := gr) (by simp [StB, Value.ownBlock])).2
  have hbs : b < w.heap.size := row_ltD hM0
  have hne : gr ≠ b := fun e => hM0.off hO0 (by rw [← e]; simp [StB, Value.ownBlock])
  obtain ⟨w0, hw0⟩ : ∃ w0, w0 = w.alloc (.cells #[.int .i64 13, .int .i64 a, .int .i64 b', .int .i64 c] 55) := ⟨_, rfl⟩
  have HB := Lib.hid (show Below w.heap.size w w0 by rw [hw0]; exact (Below.refl _ _).alloc (Nat.le_refl _) _)
  have hs0 : w.heap.size < w0.heap.size := by rw [hw0]; simp
  have IR := Lib.hid (show w0.heap[w.heap.size]? = some (.cells #[.int .i64 13, .int .i64 a, .int .i64 b', .int .i64 c] 55 (0, 0)) by rw [hw0]; exact heap_alloc_new _ _)
  have MR := Lib.hid (hM0.keep HB.out)
  have OR := Lib.hid (hO0.keep HB.out)
  have A0 := Lib.hid (Apart.of_below (bs := b :: StB (.slice (some ⟨gr, 0, none⟩) 4 rc) (.slice mq M.length mc) (.slice sq S.length sc) (.slice oq O.length oc)) HB.out)
  have HM0 := Lib.hid hM0
  have HO0 := Lib.hid hO0
  have hgr0 : gr < w0.heap.size := by omega
  have hbs0 : b < w0.heap.size := by omega
  clear hG hI hi hM0 hO0
  clear hli
  obtain ⟨ka, hpka⟩ : ∃ j : Nat, a = j := ⟨a.toNat, by have := reg_of hA; omega⟩
  have hka : ka < 4 := by have := reg_of hA; omega
  have hkai : (ka : Int) < 4 := by omega
  have hwka := HG.out.reg (reg_of hA)
  subst hpka
  have hkaR : ka < R.length := by omega
  obtain ⟨cka, zka⟩ := own_cell2 OR.out.1 ka (show ka < R.length by omega)
  have HAka := Lib.hid (atI_nat R ka (by omega))
  have hwy : whyV vm vi ⟨pc, R, M, S, inn, O, cd, st⟩ ⟨13, (ka : Int), b', c⟩ = if atI R (ka : Int) = 0 then 8 else 0 := rfl
  rw [HAka.out] at hwy
  by_cases hz : R[ka] = 0
  · rw [if_pos hz] at hwy
    rw [hwy, if_neg (by decide), if_neg (by decide)]
    have hq : (R[ka] == 0) = true := by simpa using hz
    clear hz hwy
    go_enter Tryz.func94, Tryz.ntmps94
    go_upto_region 1 with fail
    rw [← hw0]
    clear hw0
    obtain ⟨m0, m1, m2, m3, m4, m5, m6, m7, m8, m9, m10, m11, m12, m13⟩ := mcells MR.out
    obtain ⟨i0, i1, i2, i3⟩ := cell4_row IR.out
    go_region
    go_wp2
    go_ret
    exact m_same HM0.out HO0.out HB.out.drew _
  · rw [if_neg hz] at hwy
    rw [hwy, if_pos rfl, if_pos rfl]
    have hq : (R[ka] == 0) = false := by simpa using hz
    clear hz hwy
    go_enter Tryz.func94, Tryz.ntmps94
    go_upto_region 1 with fail
    rw [← hw0]
    clear hw0
    obtain ⟨m0, m1, m2, m3, m4, m5, m6, m7, m8, m9, m10, m11, m12, m13⟩ := mcells MR.out
    obtain ⟨i0, i1, i2, i3⟩ := cell4_row IR.out
    go_region
    go_wp2
    go_ret
    exact m_same HM0.out HO0.out HB.out.drew _
set_option maxRecDepth 100000 in
set_option maxHeartbeats 8000000 in
theorem d_halt : DoesIt 95 14 := by
  intro vw vm vi n qL nL cL iq ic I x r m s o nx a b' c b base w hw2 hw8 hv3 hG hI hli hbb hM0 hO0 hi
  obtain ⟨pc, R, M, S, inn, O, cd, st⟩ := x
  have hR : R.length = 4 := hG.hR
  have hS3 : S.length ≤ 3 := hG.hS
  have hO6 : O.length ≤ 6 := hG.hO
  have HI := Lib.hid hI
  have HG := Lib.hid hG
  have hinn : 0 ≤ inn ∧ inn ≤ vi := hG.inn
  have HMV := Lib.hid (show (M.length : Int) = vm from hG.hM)
  obtain ⟨gr, rc, rfl⟩ : ∃ g c, r = .slice (some ⟨g, 0, none⟩) 4 c := by have := own_some hO0.1 (show 0 < R.length by omega); rw [show (StR.mk pc R M S inn O cd st).R.length = 4 from hR] at this; exact this
  have hM1 : 1 ≤ vm ∨ vm ≤ 0 := by omega
  obtain ⟨mq, mc, rfl⟩ := own_slice hO0.2.1
  obtain ⟨sq, sc, rfl⟩ := own_slice hO0.2.2.1
  obtain ⟨oq, oc, rfl⟩ := own_slice hO0.2.2.2.1
  clear hM1
  obtain ⟨hop, hA, hB, hC⟩ := ins_parts hi
  simp only at hop hA hB hC
  have hgr : gr < w.heap.size := (hO0.lt (g := gr) (by simp [StB, Value.ownBlock])).2
  have hbs : b < w.heap.size := row_ltD hM0
  have hne : gr ≠ b := fun e => hM0.off hO0 (by rw [← e]; simp [StB, Value.ownBlock])
  obtain ⟨w0, hw0⟩ : ∃ w0, w0 = w.alloc (.cells #[.int .i64 14, .int .i64 a, .int .i64 b', .int .i64 c] 55) := ⟨_, rfl⟩
  have HB := Lib.hid (show Below w.heap.size w w0 by rw [hw0]; exact (Below.refl _ _).alloc (Nat.le_refl _) _)
  have hs0 : w.heap.size < w0.heap.size := by rw [hw0]; simp
  have IR := Lib.hid (show w0.heap[w.heap.size]? = some (.cells #[.int .i64 14, .int .i64 a, .int .i64 b', .int .i64 c] 55 (0, 0)) by rw [hw0]; exact heap_alloc_new _ _)
  have MR := Lib.hid (hM0.keep HB.out)
  have OR := Lib.hid (hO0.keep HB.out)
  have A0 := Lib.hid (Apart.of_below (bs := b :: StB (.slice (some ⟨gr, 0, none⟩) 4 rc) (.slice mq M.length mc) (.slice sq S.length sc) (.slice oq O.length oc)) HB.out)
  have HM0 := Lib.hid hM0
  have HO0 := Lib.hid hO0
  have hgr0 : gr < w0.heap.size := by omega
  have hbs0 : b < w0.heap.size := by omega
  clear hG hI hi hM0 hO0
  clear hli
  have hwy : whyV vm vi ⟨pc, R, M, S, inn, O, cd, st⟩ ⟨14, a, b', c⟩ = 1 := rfl
  rw [hwy, if_neg (by decide), if_neg (by decide)]
  clear hwy
  go_enter Tryz.func95, Tryz.ntmps95
  go_upto_region 1 with fail
  rw [← hw0]
  clear hw0
  go_wp2
  go_ret
  exact m_same HM0.out HO0.out HB.out _
set_option maxRecDepth 100000 in
set_option maxHeartbeats 8000000 in
theorem d_zero : DoesIt 91 10 := by
  intro vw vm vi n qL nL cL iq ic I x r m s o nx a b' c b base w hw2 hw8 hv3 hG hI hli hbb hM0 hO0 hi
  obtain ⟨pc, R, M, S, inn, O, cd, st⟩ := x
  have hR : R.length = 4 := hG.hR
  have hS3 : S.length ≤ 3 := hG.hS
  have hO6 : O.length ≤ 6 := hG.hO
  have HI := Lib.hid hI
  have HG := Lib.hid hG
  have hinn : 0 ≤ inn ∧ inn ≤ vi := hG.inn
  have HMV := Lib.hid (show (M.length : Int) = vm from hG.hM)
  obtain ⟨gr, rc, rfl⟩ : ∃ g c, r = .slice (some ⟨g, 0, none⟩) 4 c := by have := own_some hO0.1 (show 0 < R.length by omega); rw [show (StR.mk pc R M S inn O cd st).R.length = 4 from hR] at this; exact this
  have hM1 : 1 ≤ vm ∨ vm ≤ 0 := by omega
  obtain ⟨mq, mc, rfl⟩ := own_slice hO0.2.1
  obtain ⟨sq, sc, rfl⟩ := own_slice hO0.2.2.1
  obtain ⟨oq, oc, rfl⟩ := own_slice hO0.2.2.2.1
  clear hM1
  obtain ⟨hop, hA, hB, hC⟩ := ins_parts hi
  simp only at hop hA hB hC
  have hgr : gr < w.heap.size := (hO0.lt (g := gr) (by simp [StB, Value.ownBlock])).2
  have hbs : b < w.heap.size := row_ltD hM0
  have hne : gr ≠ b := fun e => hM0.off hO0 (by rw [← e]; simp [StB, Value.ownBlock])
  obtain ⟨w0, hw0⟩ : ∃ w0, w0 = w.alloc (.cells #[.int .i64 10, .int .i64 a, .int .i64 b', .int .i64 c] 55) := ⟨_, rfl⟩
  have HB := Lib.hid (show Below w.heap.size w w0 by rw [hw0]; exact (Below.refl _ _).alloc (Nat.le_refl _) _)
  have hs0 : w.heap.size < w0.heap.size := by rw [hw0]; simp
  have IR := Lib.hid (show w0.heap[w.heap.size]? = some (.cells #[.int .i64 10, .int .i64 a, .int .i64 b', .int .i64 c] 55 (0, 0)) by rw [hw0]; exact heap_alloc_new _ _)
  have MR := Lib.hid (hM0.keep HB.out)
  have OR := Lib.hid (hO0.keep HB.out)
  have A0 := Lib.hid (Apart.of_below (bs := b :: StB (.slice (some ⟨gr, 0, none⟩) 4 rc) (.slice mq M.length mc) (.slice sq S.length sc) (.slice oq O.length oc)) HB.out)
  have HM0 := Lib.hid hM0
  have HO0 := Lib.hid hO0
  have hgr0 : gr < w0.heap.size := by omega
  have hbs0 : b < w0.heap.size := by omega
  clear hG hI hi hM0 hO0
  clear hli
  have hi10 : insB ⟨9, a, b', c⟩ vw n = true ∨ True := .inr trivial
  clear hi10
  obtain ⟨ka, hpka⟩ : ∃ j : Nat, a = j := ⟨a.toNat, by have := reg_of hA; omega⟩
  have hka : ka < 4 := by have := reg_of hA; omega
  have hkai : (ka : Int) < 4 := by omega
  have hwka := HG.out.reg (reg_of hA)
  subst hpka
  have hkaR : ka < R.length := by omega
  obtain ⟨cka, zka⟩ := own_cell2 OR.out.1 ka (show ka < R.length by omega)
  have HAka := Lib.hid (atI_nat R ka (by omega))
  have hwy : whyV vm vi ⟨pc, R, M, S, inn, O, cd, st⟩ ⟨10, (ka : Int), b', c⟩ = 0 := rfl
  rw [hwy, if_pos rfl, if_pos rfl]
  clear hwy
  by_cases hz : R[ka] = 0
  · have hq : (R[ka] != 0) = false := by simpa using hz
    have hx : doN ⟨pc, R, M, S, inn, O, cd, st⟩ nx ⟨10, (ka : Int), b', c⟩ = b' := by show (if atI R (ka : Int) = 0 then b' else nx) = b'; rw [HAka.out, if_pos hz]
    rw [hx]
    clear hz hx
    go_enter Tryz.func91, Tryz.ntmps91
    go_upto_region 1 with fail
    rw [← hw0]
    clear hw0
    obtain ⟨m0, m1, m2, m3, m4, m5, m6, m7, m8, m9, m10, m11, m12, m13⟩ := mcells MR.out
    obtain ⟨i0, i1, i2, i3⟩ := cell4_row IR.out
    go_region
    go_wp2_with fail
    refine (i_jump10 (ka : Int) b' c b base vw vm vi _ _ _ _ _ _ _ nx _ (MR.out.keep (Below.refl w0.heap.size w0).drew) (OR.out.keep (Below.refl w0.heap.size w0).drew)).mono ?_
    rintro e w9 ⟨rfl, r', m', s', o', hM9, hO9, hA9, hs9⟩
    go_wp2
    go_ret
    exact ⟨rfl, r', m', s', o', hM9, hO9, (A0.out.trans (Apart.of_below (Below.refl w0.heap.size w0).drew)).trans hA9, fun g hg => (hs9 g hg).imp id (fun h => Nat.le_trans (Nat.le_of_lt hs0) (by simpa using h))⟩
  · have hq : (R[ka] != 0) = true := by simpa using hz
    have hx : doN ⟨pc, R, M, S, inn, O, cd, st⟩ nx ⟨10, (ka : Int), b', c⟩ = nx := by show (if atI R (ka : Int) = 0 then b' else nx) = nx; rw [HAka.out, if_neg hz]
    rw [hx]
    clear hz hx
    go_enter Tryz.func91, Tryz.ntmps91
    go_upto_region 1 with fail
    rw [← hw0]
    clear hw0
    obtain ⟨m0, m1, m2, m3, m4, m5, m6, m7, m8, m9, m10, m11, m12, m13⟩ := mcells MR.out
    obtain ⟨i0, i1, i2, i3⟩ := cell4_row IR.out
    go_region
    go_wp2
    go_ret
    exact m_same HM0.out HO0.out HB.out.drew _
end Go.Proofs.YthmababifgaejaaGreat
namespace Go.Proofs.YthmababifgaejaaGreat
open Go.ChangeShapes Go.WideShapes Go.ChangeAt Go.RowKit
set_option maxRecDepth 100000 in
set_option maxHeartbeats 8000000 in
theorem d_load : DoesIt 88 7 := by
  intro vw vm vi n qL nL cL iq ic I x r m s o nx a b' c b base w hw2 hw8 hv3 hG hI hli hbb hM0 hO0 hi
  obtain ⟨pc, R, M, S, inn, O, cd, st⟩ := x
  have hR : R.length = 4 := hG.hR
  have hS3 : S.length ≤ 3 := hG.hS
  have hO6 : O.length ≤ 6 := hG.hO
  have HI := Lib.hid hI
  have HG := Lib.hid hG
  have hinn : 0 ≤ inn ∧ inn ≤ vi := hG.inn
  have HMV := Lib.hid (show (M.length : Int) = vm from hG.hM)
  obtain ⟨gr, rc, rfl⟩ : ∃ g c, r = .slice (some ⟨g, 0, none⟩) 4 c := by have := own_some hO0.1 (show 0 < R.length by omega); rw [show (StR.mk pc R M S inn O cd st).R.length = 4 from hR] at this; exact this
  have hM1 : 1 ≤ vm ∨ vm ≤ 0 := by omega
  obtain ⟨mq, mc, rfl⟩ := own_slice hO0.2.1
  obtain ⟨sq, sc, rfl⟩ := own_slice hO0.2.2.1
  obtain ⟨oq, oc, rfl⟩ := own_slice hO0.2.2.2.1
  clear hM1
  obtain ⟨hop, hA, hB, hC⟩ := ins_parts hi
  simp only at hop hA hB hC
  have hgr : gr < w.heap.size := (hO0.lt (g := gr) (by simp [StB, Value.ownBlock])).2
  have hbs : b < w.heap.size := row_ltD hM0
  have hne : gr ≠ b := fun e => hM0.off hO0 (by rw [← e]; simp [StB, Value.ownBlock])
  obtain ⟨w0, hw0⟩ : ∃ w0, w0 = w.alloc (.cells #[.int .i64 7, .int .i64 a, .int .i64 b', .int .i64 c] 55) := ⟨_, rfl⟩
  have HB := Lib.hid (show Below w.heap.size w w0 by rw [hw0]; exact (Below.refl _ _).alloc (Nat.le_refl _) _)
  have hs0 : w.heap.size < w0.heap.size := by rw [hw0]; simp
  have IR := Lib.hid (show w0.heap[w.heap.size]? = some (.cells #[.int .i64 7, .int .i64 a, .int .i64 b', .int .i64 c] 55 (0, 0)) by rw [hw0]; exact heap_alloc_new _ _)
  have MR := Lib.hid (hM0.keep HB.out)
  have OR := Lib.hid (hO0.keep HB.out)
  have A0 := Lib.hid (Apart.of_below (bs := b :: StB (.slice (some ⟨gr, 0, none⟩) 4 rc) (.slice mq M.length mc) (.slice sq S.length sc) (.slice oq O.length oc)) HB.out)
  have HM0 := Lib.hid hM0
  have HO0 := Lib.hid hO0
  have hgr0 : gr < w0.heap.size := by omega
  have hbs0 : b < w0.heap.size := by omega
  clear hG hI hi hM0 hO0
  clear hli
  obtain ⟨ka, hpka⟩ : ∃ j : Nat, a = j := ⟨a.toNat, by have := reg_of hA; omega⟩
  have hka : ka < 4 := by have := reg_of hA; omega
  have hkai : (ka : Int) < 4 := by omega
  have hwka := HG.out.reg (reg_of hA)
  subst hpka
  have hkaR : ka < R.length := by omega
  obtain ⟨cka, zka⟩ := own_cell2 OR.out.1 ka (show ka < R.length by omega)
  have HAka := Lib.hid (atI_nat R ka (by omega))
  obtain ⟨kb, hpkb⟩ : ∃ j : Nat, b' = j := ⟨b'.toNat, by have := reg_of hB; omega⟩
  have hkb : kb < 4 := by have := reg_of hB; omega
  have hkbi : (kb : Int) < 4 := by omega
  have hwkb := HG.out.reg (reg_of hB)
  subst hpkb
  have hkbR : kb < R.length := by omega
  obtain ⟨ckb, zkb⟩ := own_cell2 OR.out.1 kb (show kb < R.length by omega)
  have HAkb := Lib.hid (atI_nat R kb (by omega))
  have hxkb := hwkb
  rw [HAkb.out] at hxkb
  have hwy : whyV vm vi ⟨pc, R, M, S, inn, O, cd, st⟩ ⟨7, (ka : Int), (kb : Int), c⟩ = if vm ≤ atI R (kb : Int) then 5 else 0 := rfl
  rw [HAkb.out] at hwy
  have KP := Lib.hid (fun v W h1 h2 h3 h4 => i_mput b gr rc ka v (R[ka]'hkaR) W h1 h2 hka h3 h4)
  have hmv := HMV.out
  by_cases hz : vm ≤ R[kb]
  · rw [if_pos hz] at hwy
    rw [hwy, if_neg (by decide), if_neg (by decide)]
    have hq : decide ((M.length : Int) ≤ R[kb]) = true := decide_eq_true (by omega)
    clear hz hwy hmv
    go_enter Tryz.func88, Tryz.ntmps88
    go_upto_region 1 with fail
    rw [← hw0]
    clear hw0
    obtain ⟨m0, m1, m2, m3, m4, m5, m6, m7, m8, m9, m10, m11, m12, m13⟩ := mcells MR.out
    obtain ⟨i0, i1, i2, i3⟩ := cell4_row IR.out
    go_region
    go_wp2
    go_ret
    exact m_same HM0.out HO0.out HB.out.drew _
  · rw [if_neg hz] at hwy
    rw [hwy, if_pos rfl, if_pos rfl]
    have hM1 : 0 < M.length := by have := hxkb.2.2.1; omega
    obtain ⟨gm, mc', hmq⟩ := own_some HO0.out.2.1 (show 0 < M.length by omega)
    cases hmq
    obtain ⟨km, hkm⟩ : ∃ j : Nat, R[kb] = j := ⟨R[kb].toNat, by have := hxkb.2.2.1; omega⟩
    have hkml : km < M.length := by omega
    have hkmi : (km : Int) < (M.length : Int) := by omega
    rw [hkm] at ckb
    obtain ⟨cm, fm⟩ := own_cell2 OR.out.2.1 km (show km < M.length from hkml)
    have HAm := Lib.hid (atI_nat M km hkml)
    have HKM := Lib.hid hkm
    have hgm : gm < w.heap.size := (HO0.out.lt (g := gm) (by simp [StB, Value.ownBlock])).2
    have hgm0 : gm < w0.heap.size := by omega
    have hgmr : gm ≠ gr := fun e => ((nodup4 HO0.out.2.2.2.2).1 gr (by simp [Value.ownBlock])).1 (by rw [← e]; simp [Value.ownBlock])
    have hgmB : gm ∈ StB (.slice (some ⟨gr, 0, none⟩) 4 rc) (.slice (some ⟨gm, 0, none⟩) M.length mc) (.slice sq S.length sc) (.slice oq O.length oc) := by unfold StB; simp [Value.ownBlock]
    have hnem : gm ≠ b := fun e => HM0.out.off HO0.out (by rw [← e]; simp [StB, Value.ownBlock])
    clear hkm
    have hq : decide ((M.length : Int) ≤ (km : Int)) = false := decide_eq_false (by omega)
    have hq2 : (km : Int) < (M.length : Int) := hkmi
    clear hz hwy hmv
    go_enter Tryz.func88, Tryz.ntmps88
    go_upto_region 1 with fail
    rw [← hw0]
    clear hw0
    obtain ⟨m0, m1, m2, m3, m4, m5, m6, m7, m8, m9, m10, m11, m12, m13⟩ := mcells MR.out
    obtain ⟨i0, i1, i2, i3⟩ := cell4_row IR.out
    go_region
    go_upto_region 4 with fail
    have CH : Hid (w0.drew.drew.cell? ⟨w.heap.size, 1, none⟩ = some (.int .i64 (ka : Int)) ∧ w0.drew.drew.cell? ⟨b, 7, none⟩ = some (.slice (some ⟨gm, 0, none⟩) M.length mc) ∧ w0.drew.drew.cell? ⟨gm, km, none⟩ = some (.int .i64 M[km])) := Lib.hid ⟨by assumption, by assumption, by assumption⟩
    refine region_s [] (fun V => V.cell? ⟨w.heap.size, 1, none⟩ = some (.int .i64 (ka : Int)) ∧ V.cell? ⟨b, 7, none⟩ = some (.slice (some ⟨gm, 0, none⟩) M.length mc) ∧ V.cell? ⟨gm, km, none⟩ = some (.int .i64 M[km])) (by kernel_rfl) ?_
    refine take_s (i := 0) (v := .pointer (some ⟨b, 0, none⟩)) rfl (by kernel_rfl) (fun _ _ _ h => h) CH.out rfl (fun V hV => ?_) ?_
    · go_simp
    refine take_s (i := 1) (v := .pointer (some ⟨w.heap.size, 1, none⟩)) rfl (by kernel_rfl) (fun _ _ _ h => h) CH.out rfl (fun V hV => ?_) ?_
    · go_simp
    refine take_s (i := 2) (v := .int .i64 (ka : Int)) rfl (by kernel_rfl) (fun _ _ _ h => h) CH.out rfl (fun V hV => ?_) ?_
    · obtain ⟨t0, t1, t2⟩ := hV; go_simp
    refine take_s (i := 3) (v := .pointer (some ⟨b, 0, none⟩)) rfl (by kernel_rfl) (fun _ _ _ h => h) CH.out rfl (fun V hV => ?_) ?_
    · go_simp
    refine take_s (i := 4) (v := .pointer (some ⟨b, 0, none⟩)) rfl (by kernel_rfl) (fun _ _ _ h => h) CH.out rfl (fun V hV => ?_) ?_
    · go_simp
    refine take_s (i := 5) (v := .pointer (some ⟨b, 5, none⟩)) rfl (by kernel_rfl) (fun _ _ _ h => h) CH.out rfl (fun V hV => ?_) ?_
    · go_simp
    refine take_s (i := 6) (v := .pointer (some ⟨b, 7, none⟩)) rfl (by kernel_rfl) (fun _ _ _ h => h) CH.out rfl (fun V hV => ?_) ?_
    · go_simp
    refine take_s (i := 7) (v := .slice (some ⟨gm, 0, none⟩) M.length mc) rfl (by kernel_rfl) (fun _ _ _ h => h) CH.out rfl (fun V hV => ?_) ?_
    · obtain ⟨t0, t1, t2⟩ := hV; go_simp
    refine take_s (i := 8) (v := .int .i64 (km : Int)) rfl (by kernel_rfl) (fun _ _ _ h => h) CH.out rfl (fun V hV => ?_) ?_
    · go_simp
    refine take_s (i := 9) (v := .pointer (some ⟨gm, km, none⟩)) rfl (by kernel_rfl) (fun _ _ _ h => h) CH.out rfl (fun V hV => ?_) ?_
    · go_simp
    refine take_s (i := 10) (v := .int .i64 M[km]) rfl (by kernel_rfl) (fun _ _ _ h => h) CH.out rfl (fun V hV => ?_) ?_
    · obtain ⟨t0, t1, t2⟩ := hV; go_simp
    refine one_s (i := 11) (by kernel_rfl) (op_list rfl ?_)
    go_wp2_with fail
    refine (KP.out (M[km]) (w0.drew.drew) (by simpa using hbs0) m6 cka zka).mono ?_
    rintro e w9 ⟨rfl, hw9⟩
    have HW := Lib.hid hw9
    have CP := Lib.hid (show w9.cell? ⟨w.heap.size, 1, none⟩ = some (.int .i64 (ka : Int)) ∧ w9.cell? ⟨b, 7, none⟩ = some (.slice (some ⟨gm, 0, none⟩) M.length mc) ∧ w9.cell? ⟨gm, km, none⟩ = some (.int .i64 M[km]) from by obtain ⟨t0, t1, t2⟩ := CH.out; rw [hw9]; exact ⟨(World.cell?_of_block (heap_setCell_other (w0.drew.drew) ⟨gr, ka, none⟩ (w.heap.size) _ (fun h => by have h : w.heap.size = gr := h; omega))).trans t0, (World.cell?_of_block (heap_setCell_other (w0.drew.drew) ⟨gr, ka, none⟩ (b) _ (fun h => by have h : b = gr := h; omega))).trans t1, (World.cell?_of_block (heap_setCell_other (w0.drew.drew) ⟨gr, ka, none⟩ (gm) _ (fun h => by have h : gm = gr := h; omega))).trans t2⟩)
    clear hw9
    go_wp2
    refine ⟨fun _ => CP.out, ?_⟩
    refine one_s (i := 12) (by kernel_rfl) (op_list rfl ?_)
    go_wp2
    refine ⟨fun _ => CP.out, done_s (by kernel_rfl) ?_ _⟩
    go_wp2
    go_ret
    rw [show doX vw I ⟨pc, R, M, S, inn, O, cd, st⟩ nx ⟨7, (ka : Int), (kb : Int), c⟩ = ⟨pc, R.set ka (atI M (atI R (kb : Int))), M, S, inn, O, cd, st⟩ from rfl, HAkb.out, HKM.out, HAm.out]
    have hb9 := (Below.refl w0.heap.size w0).drew.drew
    exact m_poke (W := w0.drew.drew) (MR.out.keep hb9) (OR.out.keep hb9) (A0.out.trans (Apart.of_below hb9)) ka M[km] HW.out _
set_option maxRecDepth 100000 in
set_option maxHeartbeats 8000000 in
theorem d_store : DoesIt 89 8 := by
  intro vw vm vi n qL nL cL iq ic I x r m s o nx a b' c b base w hw2 hw8 hv3 hG hI hli hbb hM0 hO0 hi
  obtain ⟨pc, R, M, S, inn, O, cd, st⟩ := x
  have hR : R.length = 4 := hG.hR
  have hS3 : S.length ≤ 3 := hG.hS
  have hO6 : O.length ≤ 6 := hG.hO
  have HI := Lib.hid hI
  have HG := Lib.hid hG
  have hinn : 0 ≤ inn ∧ inn ≤ vi := hG.inn
  have HMV := Lib.hid (show (M.length : Int) = vm from hG.hM)
  obtain ⟨gr, rc, rfl⟩ : ∃ g c, r = .slice (some ⟨g, 0, none⟩) 4 c := by have := own_some hO0.1 (show 0 < R.length by omega); rw [show (StR.mk pc R M S inn O cd st).R.length = 4 from hR] at this; exact this
  have hM1 : 1 ≤ vm ∨ vm ≤ 0 := by omega
  obtain ⟨mq, mc, rfl⟩ := own_slice hO0.2.1
  obtain ⟨sq, sc, rfl⟩ := own_slice hO0.2.2.1
  obtain ⟨oq, oc, rfl⟩ := own_slice hO0.2.2.2.1
  clear hM1
  obtain ⟨hop, hA, hB, hC⟩ := ins_parts hi
  simp only at hop hA hB hC
  have hgr : gr < w.heap.size := (hO0.lt (g := gr) (by simp [StB, Value.ownBlock])).2
  have hbs : b < w.heap.size := row_ltD hM0
  have hne : gr ≠ b := fun e => hM0.off hO0 (by rw [← e]; simp [StB, Value.ownBlock])
  obtain ⟨w0, hw0⟩ : ∃ w0, w0 = w.alloc (.cells #[.int .i64 8, .int .i64 a, .int .i64 b', .int .i64 c] 55) := ⟨_, rfl⟩
  have HB := Lib.hid (show Below w.heap.size w w0 by rw [hw0]; exact (Below.refl _ _).alloc (Nat.le_refl _) _)
  have hs0 : w.heap.size < w0.heap.size := by rw [hw0]; simp
  have IR := Lib.hid (show w0.heap[w.heap.size]? = some (.cells #[.int .i64 8, .int .i64 a, .int .i64 b', .int .i64 c] 55 (0, 0)) by rw [hw0]; exact heap_alloc_new _ _)
  have MR := Lib.hid (hM0.keep HB.out)
  have OR := Lib.hid (hO0.keep HB.out)
  have A0 := Lib.hid (Apart.of_below (bs := b :: StB (.slice (some ⟨gr, 0, none⟩) 4 rc) (.slice mq M.length mc) (.slice sq S.length sc) (.slice oq O.length oc)) HB.out)
  have HM0 := Lib.hid hM0
  have HO0 := Lib.hid hO0
  have hgr0 : gr < w0.heap.size := by omega
  have hbs0 : b < w0.heap.size := by omega
  clear hG hI hi hM0 hO0
  clear hli
  obtain ⟨ka, hpka⟩ : ∃ j : Nat, a = j := ⟨a.toNat, by have := reg_of hA; omega⟩
  have hka : ka < 4 := by have := reg_of hA; omega
  have hkai : (ka : Int) < 4 := by omega
  have hwka := HG.out.reg (reg_of hA)
  subst hpka
  have hkaR : ka < R.length := by omega
  obtain ⟨cka, zka⟩ := own_cell2 OR.out.1 ka (show ka < R.length by omega)
  have HAka := Lib.hid (atI_nat R ka (by omega))
  obtain ⟨kb, hpkb⟩ : ∃ j : Nat, b' = j := ⟨b'.toNat, by have := reg_of hB; omega⟩
  have hkb : kb < 4 := by have := reg_of hB; omega
  have hkbi : (kb : Int) < 4 := by omega
  have hwkb := HG.out.reg (reg_of hB)
  subst hpkb
  have hkbR : kb < R.length := by omega
  obtain ⟨ckb, zkb⟩ := own_cell2 OR.out.1 kb (show kb < R.length by omega)
  have HAkb := Lib.hid (atI_nat R kb (by omega))
  have hxka := hwka
  rw [HAka.out] at hxka
  have hwy : whyV vm vi ⟨pc, R, M, S, inn, O, cd, st⟩ ⟨8, (ka : Int), (kb : Int), c⟩ = if vm ≤ atI R (ka : Int) then 5 else 0 := rfl
  rw [HAka.out] at hwy
  have hmv := HMV.out
  by_cases hz : vm ≤ R[ka]
  · rw [if_pos hz] at hwy
    rw [hwy, if_neg (by decide), if_neg (by decide)]
    have hq : decide ((M.length : Int) ≤ R[ka]) = true := decide_eq_true (by omega)
    clear hz hwy hmv
    go_enter Tryz.func89, Tryz.ntmps89
    go_upto_region 1 with fail
    rw [← hw0]
    clear hw0
    obtain ⟨m0, m1, m2, m3, m4, m5, m6, m7, m8, m9, m10, m11, m12, m13⟩ := mcells MR.out
    obtain ⟨i0, i1, i2, i3⟩ := cell4_row IR.out
    go_region
    go_wp2
    go_ret
    exact m_same HM0.out HO0.out HB.out.drew _
  · rw [if_neg hz] at hwy
    rw [hwy, if_pos rfl, if_pos rfl]
    have hM1 : 0 < M.length := by have := hxka.2.2.1; omega
    obtain ⟨gm, mc', hmq⟩ := own_some HO0.out.2.1 (show 0 < M.length by omega)
    cases hmq
    obtain ⟨km, hkm⟩ : ∃ j : Nat, R[ka] = j := ⟨R[ka].toNat, by have := hxka.2.2.1; omega⟩
    have hkml : km < M.length := by omega
    have hkmi : (km : Int) < (M.length : Int) := by omega
    rw [hkm] at cka
    obtain ⟨cm, fm⟩ := own_cell2 OR.out.2.1 km (show km < M.length from hkml)
    have HAm := Lib.hid (atI_nat M km hkml)
    have HKM := Lib.hid hkm
    have hgm : gm < w.heap.size := (HO0.out.lt (g := gm) (by simp [StB, Value.ownBlock])).2
    have hgm0 : gm < w0.heap.size := by omega
    have hgmr : gm ≠ gr := fun e => ((nodup4 HO0.out.2.2.2.2).1 gr (by simp [Value.ownBlock])).1 (by rw [← e]; simp [Value.ownBlock])
    have hgmB : gm ∈ StB (.slice (some ⟨gr, 0, none⟩) 4 rc) (.slice (some ⟨gm, 0, none⟩) M.length mc) (.slice sq S.length sc) (.slice oq O.length oc) := by unfold StB; simp [Value.ownBlock]
    have hnem : gm ≠ b := fun e => HM0.out.off HO0.out (by rw [← e]; simp [StB, Value.ownBlock])
    clear hkm
    have hq : decide ((M.length : Int) ≤ (km : Int)) = false := decide_eq_false (by omega)
    have hq2 : (km : Int) < (M.length : Int) := hkmi
    clear hz hwy hmv
    go_enter Tryz.func89, Tryz.ntmps89
    go_upto_region 1 with fail
    rw [← hw0]
    clear hw0
    obtain ⟨m0, m1, m2, m3, m4, m5, m6, m7, m8, m9, m10, m11, m12, m13⟩ := mcells MR.out
    obtain ⟨i0, i1, i2, i3⟩ := cell4_row IR.out
    go_region
    go_upto_region 4 with fail
    have CH : Hid (w0.drew.drew.cell? ⟨b, 7, none⟩ = some (.slice (some ⟨gm, 0, none⟩) M.length mc) ∧ w0.drew.drew.cell? ⟨b, 6, none⟩ = some (.slice (some ⟨gr, 0, none⟩) 4 rc) ∧ w0.drew.drew.cell? ⟨w.heap.size, 2, none⟩ = some (.int .i64 (kb : Int)) ∧ w0.drew.drew.cell? ⟨gr, kb, none⟩ = some (.int .i64 R[kb])) := Lib.hid ⟨by assumption, by assumption, by assumption, by assumption⟩
    refine region_s [16] (fun V => V.cell? ⟨b, 7, none⟩ = some (.slice (some ⟨gm, 0, none⟩) M.length mc) ∧ V.cell? ⟨b, 6, none⟩ = some (.slice (some ⟨gr, 0, none⟩) 4 rc) ∧ V.cell? ⟨w.heap.size, 2, none⟩ = some (.int .i64 (kb : Int)) ∧ V.cell? ⟨gr, kb, none⟩ = some (.int .i64 R[kb])) (by kernel_rfl) ?_
    refine take_s (i := 0) (v := .pointer (some ⟨b, 0, none⟩)) rfl (by kernel_rfl) (fun _ _ _ h => h) CH.out rfl (fun V hV => ?_) ?_
    · go_simp
    refine take_s (i := 1) (v := .pointer (some ⟨b, 0, none⟩)) rfl (by kernel_rfl) (fun _ _ _ h => h) CH.out rfl (fun V hV => ?_) ?_
    · go_simp
    refine take_s (i := 2) (v := .pointer (some ⟨b, 5, none⟩)) rfl (by kernel_rfl) (fun _ _ _ h => h) CH.out rfl (fun V hV => ?_) ?_
    · go_simp
    refine take_s (i := 3) (v := .pointer (some ⟨b, 7, none⟩)) rfl (by kernel_rfl) (fun _ _ _ h => h) CH.out rfl (fun V hV => ?_) ?_
    · go_simp
    refine take_s (i := 4) (v := .slice (some ⟨gm, 0, none⟩) M.length mc) rfl (by kernel_rfl) (fun _ _ _ h => h) CH.out rfl (fun V hV => ?_) ?_
    · obtain ⟨t0, t1, t2, t3⟩ := hV; go_simp
    refine take_s (i := 5) (v := .int .i64 (km : Int)) rfl (by kernel_rfl) (fun _ _ _ h => h) CH.out rfl (fun V hV => ?_) ?_
    · go_simp
    refine take_s (i := 6) (v := .pointer (some ⟨b, 0, none⟩)) rfl (by kernel_rfl) (fun _ _ _ h => h) CH.out rfl (fun V hV => ?_) ?_
    · go_simp
    refine take_s (i := 7) (v := .pointer (some ⟨b, 0, none⟩)) rfl (by kernel_rfl) (fun _ _ _ h => h) CH.out rfl (fun V hV => ?_) ?_
    · go_simp
    refine take_s (i := 8) (v := .pointer (some ⟨b, 5, none⟩)) rfl (by kernel_rfl) (fun _ _ _ h => h) CH.out rfl (fun V hV => ?_) ?_
    · go_simp
    refine take_s (i := 9) (v := .pointer (some ⟨b, 6, none⟩)) rfl (by kernel_rfl) (fun _ _ _ h => h) CH.out rfl (fun V hV => ?_) ?_
    · go_simp
    refine take_s (i := 10) (v := .slice (some ⟨gr, 0, none⟩) 4 rc) rfl (by kernel_rfl) (fun _ _ _ h => h) CH.out rfl (fun V hV => ?_) ?_
    · obtain ⟨t0, t1, t2, t3⟩ := hV; go_simp
    refine take_s (i := 11) (v := .pointer (some ⟨w.heap.size, 2, none⟩)) rfl (by kernel_rfl) (fun _ _ _ h => h) CH.out rfl (fun V hV => ?_) ?_
    · go_simp
    refine take_s (i := 12) (v := .int .i64 (kb : Int)) rfl (by kernel_rfl) (fun _ _ _ h => h) CH.out rfl (fun V hV => ?_) ?_
    · obtain ⟨t0, t1, t2, t3⟩ := hV; go_simp
    refine take_s (i := 13) (v := .pointer (some ⟨gr, kb, none⟩)) rfl (by kernel_rfl) (fun _ _ _ h => h) CH.out rfl (fun V hV => ?_) ?_
    · go_simp
    refine take_s (i := 14) (v := .int .i64 R[kb]) rfl (by kernel_rfl) (fun _ _ _ h => h) CH.out rfl (fun V hV => ?_) ?_
    · obtain ⟨t0, t1, t2, t3⟩ := hV; go_simp
    refine take_s (i := 15) (v := .pointer (some ⟨gm, km, none⟩)) rfl (by kernel_rfl) (fun _ _ _ h => h) CH.out rfl (fun V hV => ?_) ?_
    · go_simp
    refine one_s (i := 16) (by kernel_rfl) (op_list rfl ?_)
    go_wp2
    refine ⟨late_s (by kernel_rfl), done_s (by kernel_rfl) ?_ _⟩
    go_wp2
    go_ret
    rw [show doX vw I ⟨pc, R, M, S, inn, O, cd, st⟩ nx ⟨8, (ka : Int), (kb : Int), c⟩ = ⟨pc, R, M.set (atI R (ka : Int)).toNat (atI R (kb : Int)), S, inn, O, cd, st⟩ from rfl, HAkb.out, HAka.out, HKM.out]
    have OM : StO (w0.setCell ⟨gm, km, none⟩ (.int .i64 R[kb])) base ⟨pc, R, M.set km R[kb], S, inn, O, cd, st⟩ _ _ _ _ := OR.out.poke_m km R[kb] rfl rfl rfl rfl
    have MM : MRow (w0.setCell ⟨gm, km, none⟩ (.int .i64 R[kb])) b vw vm vi _ _ ⟨pc, R, M.set km R[kb], S, inn, O, cd, st⟩ _ _ _ _ nx := MR.out.other hnem km _
    exact ⟨rfl, _, _, _, _, MM, StO.same OM (fun _ _ => rfl), (A0.out.setCell (List.mem_cons_of_mem _ hgmB) _).trans (Apart.of_below (Below.refl _ _).drew.drew), fun _ hg => .inl hg⟩
set_option maxRecDepth 100000 in
set_option maxHeartbeats 8000000 in
theorem d_ret : DoesIt 93 12 := by
  intro vw vm vi n qL nL cL iq ic I x r m s o nx a b' c b base w hw2 hw8 hv3 hG hI hli hbb hM0 hO0 hi
  obtain ⟨pc, R, M, S, inn, O, cd, st⟩ := x
  have hR : R.length = 4 := hG.hR
  have hS3 : S.length ≤ 3 := hG.hS
  have hO6 : O.length ≤ 6 := hG.hO
  have HI := Lib.hid hI
  have HG := Lib.hid hG
  have hinn : 0 ≤ inn ∧ inn ≤ vi := hG.inn
  have HMV := Lib.hid (show (M.length : Int) = vm from hG.hM)
  obtain ⟨gr, rc, rfl⟩ : ∃ g c, r = .slice (some ⟨g, 0, none⟩) 4 c := by have := own_some hO0.1 (show 0 < R.length by omega); rw [show (StR.mk pc R M S inn O cd st).R.length = 4 from hR] at this; exact this
  have hM1 : 1 ≤ vm ∨ vm ≤ 0 := by omega
  obtain ⟨mq, mc, rfl⟩ := own_slice hO0.2.1
  obtain ⟨sq, sc, rfl⟩ := own_slice hO0.2.2.1
  obtain ⟨oq, oc, rfl⟩ := own_slice hO0.2.2.2.1
  clear hM1
  obtain ⟨hop, hA, hB, hC⟩ := ins_parts hi
  simp only at hop hA hB hC
  have hgr : gr < w.heap.size := (hO0.lt (g := gr) (by simp [StB, Value.ownBlock])).2
  have hbs : b < w.heap.size := row_ltD hM0
  have hne : gr ≠ b := fun e => hM0.off hO0 (by rw [← e]; simp [StB, Value.ownBlock])
  obtain ⟨w0, hw0⟩ : ∃ w0, w0 = w.alloc (.cells #[.int .i64 12, .int .i64 a, .int .i64 b', .int .i64 c] 55) := ⟨_, rfl⟩
  have HB := Lib.hid (show Below w.heap.size w w0 by rw [hw0]; exact (Below.refl _ _).alloc (Nat.le_refl _) _)
  have hs0 : w.heap.size < w0.heap.size := by rw [hw0]; simp
  have IR := Lib.hid (show w0.heap[w.heap.size]? = some (.cells #[.int .i64 12, .int .i64 a, .int .i64 b', .int .i64 c] 55 (0, 0)) by rw [hw0]; exact heap_alloc_new _ _)
  have MR := Lib.hid (hM0.keep HB.out)
  have OR := Lib.hid (hO0.keep HB.out)
  have A0 := Lib.hid (Apart.of_below (bs := b :: StB (.slice (some ⟨gr, 0, none⟩) 4 rc) (.slice mq M.length mc) (.slice sq S.length sc) (.slice oq O.length oc)) HB.out)
  have HM0 := Lib.hid hM0
  have HO0 := Lib.hid hO0
  have hgr0 : gr < w0.heap.size := by omega
  have hbs0 : b < w0.heap.size := by omega
  clear hG hI hi hM0 hO0
  clear hli
  have hwy : whyV vm vi ⟨pc, R, M, S, inn, O, cd, st⟩ ⟨12, a, b', c⟩ = if S.length = 0 then 7 else 0 := rfl
  by_cases hz : S.length = 0
  · rw [if_pos hz] at hwy
    rw [hwy, if_neg (by decide), if_neg (by decide)]
    have HZ := Lib.hid hz
    obtain ⟨nS, hnS⟩ : ∃ j, S.length = j := ⟨_, rfl⟩
    rw [hnS] at hz
    have hq : decide (((S.length : Nat) : Int) - 1 < 0) = true := decide_eq_true (by omega)
    clear hz hwy hnS
    go_enter Tryz.func93, Tryz.ntmps93
    go_upto_region 1 with fail
    rw [← hw0]
    clear hw0
    obtain ⟨m0, m1, m2, m3, m4, m5, m6, m7, m8, m9, m10, m11, m12, m13⟩ := mcells MR.out
    go_wp2
    go_ret
    exact m_same HM0.out HO0.out HB.out _
  · rw [if_neg hz] at hwy
    rw [hwy, if_pos rfl, if_pos rfl]
    obtain ⟨gs, sc', hsq⟩ := own_some HO0.out.2.2.1 (show 0 < S.length by omega)
    cases hsq
    obtain ⟨ks, hks⟩ : ∃ j : Nat, S.length = j + 1 := ⟨S.length - 1, by omega⟩
    have hksl : ks < S.length := by omega
    obtain ⟨cs, fs⟩ := own_cell2 OR.out.2.2.1 ks (show ks < S.length from hksl)
    have hgs : gs < w.heap.size := (HO0.out.lt (g := gs) (by simp [StB, Value.ownBlock])).2
    have hgs0 : gs < w0.heap.size := by omega
    have hnes : gs ≠ b := fun e => HM0.out.off HO0.out (by rw [← e]; simp [StB, Value.ownBlock])
    have HAs := Lib.hid (show atI S ((S.length : Int) - 1) = S[ks] by rw [show (S.length : Int) - 1 = (ks : Int) by omega]; exact atI_nat S ks hksl)
    have hcap : S.length ≤ sc := by rcases HO0.out.2.2.1.2 with ⟨h, _⟩ | ⟨_, _, _, h, _, _, h2, _⟩; cases h; cases h; exact h2
    have HTK := Lib.hid (show S.take (S.length - 1) = S.take ks by rw [hks]; rfl)
    have HKS := Lib.hid hks
    obtain ⟨vS, hvS⟩ : ∃ v, v = S[ks] := ⟨_, rfl⟩
    have HVS := Lib.hid hvS
    rw [← hvS] at cs HAs
    clear hvS
    obtain ⟨nS, hnS⟩ : ∃ j, j = S.length := ⟨_, rfl⟩
    have MRn := MR.out
    unfold MRow at MRn
    rw [← hnS] at hcap hks hksl
    have HNS := Lib.hid hnS
    clear hz hwy
    have MR' : Hid (w0.heap[b]? = some (.cells #[.int .i64 vw, .int .i64 vm, .int .i64 vi, .slice qL nL cL, .slice iq I.length ic, .int .i64 pc, .slice (some ⟨gr, 0, none⟩) 4 rc, .slice mq M.length mc, .slice (some ⟨gs, 0, none⟩) nS sc, .int .i64 inn, .slice oq O.length oc, .int .i64 cd, .int .i64 st, .int .i64 nx] 77 (0, 0))) := Lib.hid (by rw [hnS]; exact MRn)
    clear MRn hnS
    subst hks
    have hk1 : ((ks + 1 : Nat) : Int) - 1 = (ks : Int) := by omega
    have hki : (ks : Int) < ((ks + 1 : Nat) : Int) := by omega
    have hkn : decide ((ks : Int) < 0) = false := decide_eq_false (by omega)
    go_enter Tryz.func93, Tryz.ntmps93
    go_upto_region 1 with fail
    rw [← hw0]
    clear hw0
    obtain ⟨m0, m1, m2, m3, m4, m5, m6, m7, m8, m9, m10, m11, m12, m13⟩ := mcells MR'.out
    obtain ⟨f5, f8, f9, f10, f11, f12, f13⟩ := mfroz MR'.out
    go_wp2
    go_ret
    rw [show doX vw I ⟨pc, R, M, S, inn, O, cd, st⟩ nx ⟨12, a, b', c⟩ = ⟨pc, R, M, S.take (S.length - 1), inn, O, cd, st⟩ from rfl, show doN ⟨pc, R, M, S, inn, O, cd, st⟩ nx ⟨12, a, b', c⟩ = atI S ((S.length : Int) - 1) from rfl, HAs.out, HTK.out]
    have MM : MRow ((w0.setCell ⟨b, 13, none⟩ (.int .i64 vS)).setCell ⟨b, 8, none⟩ (.slice (some ⟨gs, 0, none⟩) ks sc)) b vw vm vi _ _ ⟨pc, R, M, S.take ks, inn, O, cd, st⟩ _ _ (.slice (some ⟨gs, 0, none⟩) ks sc) _ vS := (MR.out.next vS).srow _
    have OO : StO ((w0.setCell ⟨b, 13, none⟩ (.int .i64 vS)).setCell ⟨b, 8, none⟩ (.slice (some ⟨gs, 0, none⟩) ks sc)) base ⟨pc, R, M, S.take ks, inn, O, cd, st⟩ _ _ (.slice (some ⟨gs, 0, none⟩) ks sc) _ := ((OR.out.aside (MR.out.off OR.out) 13 _).aside (MR.out.off OR.out) 8 _).cut_s (by have := HKS.out; omega) rfl rfl rfl rfl
    exact ⟨rfl, _, _, _, _, MM, OO, (A0.out.setCell (List.mem_cons_self ..) _).setCell (List.mem_cons_self ..) _, fun _ hg => .inl hg⟩
end Go.Proofs.YthmababifgaejaaGreat
namespace Go.Proofs.YthmababifgaejaaGreat
open Go.ChangeShapes Go.WideShapes Go.ChangeAt Go.RowKit
set_option maxRecDepth 100000 in
set_option maxHeartbeats 8000000 in
theorem d_output : DoesIt 87 6 := by
  intro vw vm vi n qL nL cL iq ic I x r m s o nx a b' c b base w hw2 hw8 hv3 hG hI hli hbb hM0 hO0 hi
  obtain ⟨pc, R, M, S, inn, O, cd, st⟩ := x
  have hR : R.length = 4 := hG.hR
  have hS3 : S.length ≤ 3 := hG.hS
  have hO6 : O.length ≤ 6 := hG.hO
  have HI := Lib.hid hI
  have HG := Lib.hid hG
  have hinn : 0 ≤ inn ∧ inn ≤ vi := hG.inn
  have HMV := Lib.hid (show (M.length : Int) = vm from hG.hM)
  obtain ⟨gr, rc, rfl⟩ : ∃ g c, r = .slice (some ⟨g, 0, none⟩) 4 c := by have := own_some hO0.1 (show 0 < R.length by omega); rw [show (StR.mk pc R M S inn O cd st).R.length = 4 from hR] at this; exact this
  have hM1 : 1 ≤ vm ∨ vm ≤ 0 := by omega
  obtain ⟨mq, mc, rfl⟩ := own_slice hO0.2.1
  obtain ⟨sq, sc, rfl⟩ := own_slice hO0.2.2.1
  obtain ⟨oq, oc, rfl⟩ := own_slice hO0.2.2.2.1
  clear hM1
  obtain ⟨hop, hA, hB, hC⟩ := ins_parts hi
  simp only at hop hA hB hC
  have hgr : gr < w.heap.size := (hO0.lt (g := gr) (by simp [StB, Value.ownBlock])).2
  have hbs : b < w.heap.size := row_ltD hM0
  have hne : gr ≠ b := fun e => hM0.off hO0 (by rw [← e]; simp [StB, Value.ownBlock])
  obtain ⟨w0, hw0⟩ : ∃ w0, w0 = w.alloc (.cells #[.int .i64 6, .int .i64 a, .int .i64 b', .int .i64 c] 55) := ⟨_, rfl⟩
  have HB := Lib.hid (show Below w.heap.size w w0 by rw [hw0]; exact (Below.refl _ _).alloc (Nat.le_refl _) _)
  have hs0 : w.heap.size < w0.heap.size := by rw [hw0]; simp
  have IR := Lib.hid (show w0.heap[w.heap.size]? = some (.cells #[.int .i64 6, .int .i64 a, .int .i64 b', .int .i64 c] 55 (0, 0)) by rw [hw0]; exact heap_alloc_new _ _)
  have MR := Lib.hid (hM0.keep HB.out)
  have OR := Lib.hid (hO0.keep HB.out)
  have A0 := Lib.hid (Apart.of_below (bs := b :: StB (.slice (some ⟨gr, 0, none⟩) 4 rc) (.slice mq M.length mc) (.slice sq S.length sc) (.slice oq O.length oc)) HB.out)
  have HM0 := Lib.hid hM0
  have HO0 := Lib.hid hO0
  have hgr0 : gr < w0.heap.size := by omega
  have hbs0 : b < w0.heap.size := by omega
  clear hG hI hi hM0 hO0
  clear hli
  obtain ⟨i9, hi9, hz9, hzs9, hzb9⟩ := info_parts zero_Int
  obtain ⟨ka, hpka⟩ : ∃ j : Nat, a = j := ⟨a.toNat, by have := reg_of hA; omega⟩
  have hka : ka < 4 := by have := reg_of hA; omega
  have hkai : (ka : Int) < 4 := by omega
  have hwka := HG.out.reg (reg_of hA)
  subst hpka
  have hkaR : ka < R.length := by omega
  obtain ⟨cka, zka⟩ := own_cell2 OR.out.1 ka (show ka < R.length by omega)
  have HAka := Lib.hid (atI_nat R ka (by omega))
  have hwy : whyV vm vi ⟨pc, R, M, S, inn, O, cd, st⟩ ⟨6, (ka : Int), b', c⟩ = if O.length = 6 then 4 else 0 := rfl
  by_cases hz : O.length = 6
  · rw [if_pos hz] at hwy
    rw [hwy, if_neg (by decide), if_neg (by decide)]
    have hq : ((O.length : Int) == 6) = true := by simp; omega
    clear hz hwy
    go_enter Tryz.func87, Tryz.ntmps87
    go_upto_region 1 with fail
    rw [← hw0]
    clear hw0
    obtain ⟨m0, m1, m2, m3, m4, m5, m6, m7, m8, m9, m10, m11, m12, m13⟩ := mcells MR.out
    go_wp2
    go_ret
    exact m_same HM0.out HO0.out HB.out _
  · rw [if_neg hz] at hwy
    rw [hwy, if_pos rfl, if_pos rfl]
    have hq : ((O.length : Int) == 6) = false := by simp; omega
    clear hz hwy
    go_enter Tryz.func87, Tryz.ntmps87
    go_upto_region 1 with fail
    rw [← hw0]
    clear hw0
    obtain ⟨m0, m1, m2, m3, m4, m5, m6, m7, m8, m9, m10, m11, m12, m13⟩ := mcells MR.out
    obtain ⟨i0, i1, i2, i3⟩ := cell4_row IR.out
    go_upto_region 3 with fail
    have CH : Hid (w0.drew.cell? ⟨b, 10, none⟩ = some (.slice oq O.length oc) ∧ w0.drew.cell? ⟨b, 6, none⟩ = some (.slice (some ⟨gr, 0, none⟩) 4 rc) ∧ w0.drew.cell? ⟨w.heap.size, 1, none⟩ = some (.int .i64 (ka : Int)) ∧ w0.drew.cell? ⟨gr, ka, none⟩ = some (.int .i64 R[ka])) := Lib.hid ⟨by assumption, by assumption, by assumption, by assumption⟩
    refine region_s [20] (fun V => V.cell? ⟨b, 10, none⟩ = some (.slice oq O.length oc) ∧ V.cell? ⟨b, 6, none⟩ = some (.slice (some ⟨gr, 0, none⟩) 4 rc) ∧ V.cell? ⟨w.heap.size, 1, none⟩ = some (.int .i64 (ka : Int)) ∧ V.cell? ⟨gr, ka, none⟩ = some (.int .i64 R[ka])) (by kernel_rfl) ?_
    refine take_s (i := 0) (v := .pointer (some ⟨b, 0, none⟩)) rfl (by kernel_rfl) (fun _ _ _ h => h) CH.out rfl (fun V hV => ?_) ?_
    · go_simp
    refine take_s (i := 1) (v := .pointer (some ⟨b, 0, none⟩)) rfl (by kernel_rfl) (fun _ _ _ h => h) CH.out rfl (fun V hV => ?_) ?_
    · go_simp
    refine take_s (i := 2) (v := .pointer (some ⟨b, 0, none⟩)) rfl (by kernel_rfl) (fun _ _ _ h => h) CH.out rfl (fun V hV => ?_) ?_
    · go_simp
    refine take_s (i := 3) (v := .pointer (some ⟨b, 5, none⟩)) rfl (by kernel_rfl) (fun _ _ _ h => h) CH.out rfl (fun V hV => ?_) ?_
    · go_simp
    refine take_s (i := 4) (v := .pointer (some ⟨b, 10, none⟩)) rfl (by kernel_rfl) (fun _ _ _ h => h) CH.out rfl (fun V hV => ?_) ?_
    · go_simp
    refine take_s (i := 5) (v := .slice oq O.length oc) rfl (by kernel_rfl) (fun _ _ _ h => h) CH.out rfl (fun V hV => ?_) ?_
    · obtain ⟨t0, t1, t2, t3⟩ := hV; go_simp
    refine take_s (i := 6) (v := .pointer (some ⟨b, 0, none⟩)) rfl (by kernel_rfl) (fun _ _ _ h => h) CH.out rfl (fun V hV => ?_) ?_
    · go_simp
    refine take_s (i := 7) (v := .pointer (some ⟨b, 0, none⟩)) rfl (by kernel_rfl) (fun _ _ _ h => h) CH.out rfl (fun V hV => ?_) ?_
    · go_simp
    refine take_s (i := 8) (v := .pointer (some ⟨b, 5, none⟩)) rfl (by kernel_rfl) (fun _ _ _ h => h) CH.out rfl (fun V hV => ?_) ?_
    · go_simp
    refine take_s (i := 9) (v := .pointer (some ⟨b, 6, none⟩)) rfl (by kernel_rfl) (fun _ _ _ h => h) CH.out rfl (fun V hV => ?_) ?_
    · go_simp
    refine take_s (i := 10) (v := .slice (some ⟨gr, 0, none⟩) 4 rc) rfl (by kernel_rfl) (fun _ _ _ h => h) CH.out rfl (fun V hV => ?_) ?_
    · obtain ⟨t0, t1, t2, t3⟩ := hV; go_simp
    refine take_s (i := 11) (v := .pointer (some ⟨w.heap.size, 1, none⟩)) rfl (by kernel_rfl) (fun _ _ _ h => h) CH.out rfl (fun V hV => ?_) ?_
    · go_simp
    refine take_s (i := 12) (v := .int .i64 (ka : Int)) rfl (by kernel_rfl) (fun _ _ _ h => h) CH.out rfl (fun V hV => ?_) ?_
    · obtain ⟨t0, t1, t2, t3⟩ := hV; go_simp
    refine take_s (i := 13) (v := .pointer (some ⟨gr, ka, none⟩)) rfl (by kernel_rfl) (fun _ _ _ h => h) CH.out rfl (fun V hV => ?_) ?_
    · go_simp
    refine take_s (i := 14) (v := .int .i64 R[ka]) rfl (by kernel_rfl) (fun _ _ _ h => h) CH.out rfl (fun V hV => ?_) ?_
    · obtain ⟨t0, t1, t2, t3⟩ := hV; go_simp
    refine one_s (i := 15) (by kernel_rfl) (op_list rfl ?_)
    go_wp2
    obtain ⟨wa, hwa⟩ : ∃ W9, W9 = (w0.alloc (.cells #[.int .i64 R[ka]] 3)).drew := ⟨_, rfl⟩
    have BW := Lib.hid (show Below w0.heap.size w0 wa by rw [hwa]; exact ((Below.refl _ _).alloc (Nat.le_refl _) _).drew)
    have hca := Lib.hid (show ∀ j u, [Value.int .i64 (R[ka])][j]? = some u → wa.cell? ((⟨w0.heap.size, 0, none⟩ : Addr).add j) = some u by rw [hwa]; exact fun j u hj => cell_one_new w0 _ 3 j u hj)
    have hsa : wa.heap.size = w0.heap.size + 1 := by rw [hwa]; show (w0.alloc _).heap.size = _; simp
    have MRa := Lib.hid (MR.out.keep BW.out)
    have ORa := Lib.hid (OR.out.keep BW.out)
    have IRa := Lib.hid ((BW.out.block w.heap.size hs0).trans IR.out)
    rw [← hwa]
    clear hwa
    have CA : Hid (wa.cell? ⟨b, 10, none⟩ = some (.slice oq O.length oc) ∧ wa.cell? ⟨b, 6, none⟩ = some (.slice (some ⟨gr, 0, none⟩) 4 rc) ∧ wa.cell? ⟨w.heap.size, 1, none⟩ = some (.int .i64 (ka : Int)) ∧ wa.cell? ⟨gr, ka, none⟩ = some (.int .i64 R[ka])) := Lib.hid (by obtain ⟨t0, t1, t2, t3⟩ := CH.out; exact ⟨(BW.out.cell (p := ⟨b, 10, none⟩) (hbs0)).trans t0, (BW.out.cell (p := ⟨b, 6, none⟩) (hbs0)).trans t1, (BW.out.cell (p := ⟨w.heap.size, 1, none⟩) (hs0)).trans t2, (BW.out.cell (p := ⟨gr, ka, none⟩) (hgr0)).trans t3⟩)
    refine ⟨fun _ => CA.out, ?_⟩
    refine one_s (i := 16) (by kernel_rfl) (op_list rfl ?_)
    refine wpList_append_own_at _ rfl _ _ 28 rfl base 3 i9 (.int .i64 0) 1 8 Tryz.underlying28 hi9 hz9 hzs9 hzb9 rfl (by decide) (.slice oq O.length oc) O.length _ rfl (ORa.out.2.2.2.1) _ 1 1 [.int .i64 (R[ka])] rfl rfl ?c1 ?c2 ?c3 ?c4 ?c5 ?_
    case c1 => exact hca.out
    case c2 => intro u hu; simp at hu; subst hu; rfl
    case c3 => unfold maxLen; omega
    case c4 => omega
    case c5 => omega
    intro v' wb hown hgrow _ hat
    obtain ⟨q', c', rfl⟩ := own_slice hown
    have Ob : Hid (StO wb base ⟨pc, R, M, S, inn, O ++ [R[ka]], cd, st⟩ _ _ _ (.slice q' (O.length + 1) c')) := Lib.hid (ORa.out.grow_o hgrow (by show wb.ownsRow base 3 1 (.slice q' (O.length + 1) c') (O ++ [R[ka]]).length (IntL.all (O ++ [R[ka]])); rw [List.length_append, IntL.all_map, List.map_append, ← IntL.all_map]; exact hown) hat rfl rfl rfl)
    have hbO : ∀ j, some j = (.slice oq O.length oc : Value).ownBlock → j ∈ StB (.slice (some ⟨gr, 0, none⟩) 4 rc) (.slice mq M.length mc) (.slice sq S.length sc) (.slice oq O.length oc) := fun j h => by unfold StB; rw [← h]; simp
    have Ab := Lib.hid (show Apart (b :: StB (.slice (some ⟨gr, 0, none⟩) 4 rc) (.slice mq M.length mc) (.slice sq S.length sc) (.slice oq O.length oc)) w wb from (A0.out.trans (Apart.of_below BW.out)).trans ⟨hgrow.os, hgrow.tape, hgrow.output, hgrow.size, fun j hj hn => hgrow.block j hj (fun h => hn (List.mem_cons_of_mem _ (hbO j h)))⟩)
    have hsub := Lib.hid (show ∀ g ∈ (.slice q' (O.length + 1) c' : Value).ownBlock.toList, g ∈ StB (.slice (some ⟨gr, 0, none⟩) 4 rc) (.slice mq M.length mc) (.slice sq S.length sc) (.slice oq O.length oc) ∨ w.heap.size ≤ g from fun g hg => by
      rcases hat with h | h
      · rw [h] at hg; exact .inl (hbO g (Option.mem_def.1 (Option.mem_toList.1 hg)).symm)
      · rw [h] at hg; simp at hg; exact .inr (by omega))
    have MRb := Lib.hid (show wb.heap[b]? = wa.heap[b]? from hgrow.block b (by omega) (fun h => MRa.out.off ORa.out (hbO b h)))
    have MB := Lib.hid (show MRow wb b vw vm vi (.slice qL nL cL) (.slice iq I.length ic) ⟨pc, R, M, S, inn, O, cd, st⟩ (.slice (some ⟨gr, 0, none⟩) 4 rc) (.slice mq M.length mc) (.slice sq S.length sc) (.slice oq O.length oc) nx from MRb.out.trans MRa.out)
    have IRb := Lib.hid ((hgrow.block w.heap.size (by omega) (fun h => ORa.out.off (T := 55) (by decide) IRa.out (hbO _ h))).trans IRa.out)
    have hbb2 : b < wb.heap.size := row_ltD MB.out
    obtain ⟨qc, -⟩ := own_cell2 (l := R) Ob.out.1 ka hkaR
    have CB : Hid (wb.cell? ⟨b, 10, none⟩ = some (.slice oq O.length oc) ∧ wb.cell? ⟨b, 6, none⟩ = some (.slice (some ⟨gr, 0, none⟩) 4 rc) ∧ wb.cell? ⟨w.heap.size, 1, none⟩ = some (.int .i64 (ka : Int)) ∧ wb.cell? ⟨gr, ka, none⟩ = some (.int .i64 R[ka])) := Lib.hid ⟨cell_of_row _ _ 10 _ _ _ MB.out, cell_of_row _ _ 6 _ _ _ MB.out, cell_of_row _ _ 1 _ _ _ IRb.out, qc⟩
    clear hgrow hown hat MRb
    refine ⟨fun _ => CB.out, ?_⟩
    refine one_s (i := 17) (by kernel_rfl) (op_list rfl ?_)
    go_wp2
    refine ⟨fun _ => CB.out, ?_⟩
    refine one_s (i := 18) (by kernel_rfl) (op_list rfl ?_)
    go_wp2
    refine ⟨fun _ => CB.out, ?_⟩
    refine one_s (i := 19) (by kernel_rfl) (op_list rfl ?_)
    go_wp2
    refine ⟨fun _ => CB.out, ?_⟩
    clear m0 m1 m2 m3 m4 m5 m6 m7 m8 m9 m10 m11 m12 m13 i0 i1 i2 i3
    obtain ⟨m0, m1, m2, m3, m4, m5, m6, m7, m8, m9, m10, m11, m12, m13⟩ := mcells MB.out
    obtain ⟨f5, f8, f9, f10, f11, f12, f13⟩ := mfroz MB.out
    refine one_s (i := 20) (by kernel_rfl) (op_list rfl ?_)
    go_wp2
    refine ⟨late_s (by kernel_rfl), done_s (by kernel_rfl) ?_ _⟩
    go_wp2
    go_ret
    rw [show doX vw I ⟨pc, R, M, S, inn, O, cd, st⟩ nx ⟨6, (ka : Int), b', c⟩ = ⟨pc, R, M, S, inn, O ++ [atI R (ka : Int)], cd, st⟩ from rfl, HAka.out]
    have MM : MRow (wb.setCell ⟨b, 10, none⟩ (.slice q' (O.length + 1) c')) b vw vm vi _ _ ⟨pc, R, M, S, inn, O ++ [R[ka]], cd, st⟩ _ _ _ (.slice q' (O.length + 1) c') nx := MB.out.orow _
    exact ⟨rfl, _, _, _, _, MM, Ob.out.aside (MB.out.off Ob.out) 10 _, Ab.out.setCell (List.mem_cons_self ..) _, fun g hg => by
      unfold StB at hg
      rcases List.mem_append.1 hg with h | h
      · exact .inl (by unfold StB; exact List.mem_append_left _ h)
      · exact hsub.out g h⟩
set_option maxRecDepth 100000 in
set_option maxHeartbeats 8000000 in
theorem d_call : DoesIt 92 11 := by
  intro vw vm vi n qL nL cL iq ic I x r m s o nx a b' c b base w hw2 hw8 hv3 hG hI hli hbb hM0 hO0 hi
  obtain ⟨pc, R, M, S, inn, O, cd, st⟩ := x
  have hR : R.length = 4 := hG.hR
  have hS3 : S.length ≤ 3 := hG.hS
  have hO6 : O.length ≤ 6 := hG.hO
  have HI := Lib.hid hI
  have HG := Lib.hid hG
  have hinn : 0 ≤ inn ∧ inn ≤ vi := hG.inn
  have HMV := Lib.hid (show (M.length : Int) = vm from hG.hM)
  obtain ⟨gr, rc, rfl⟩ : ∃ g c, r = .slice (some ⟨g, 0, none⟩) 4 c := by have := own_some hO0.1 (show 0 < R.length by omega); rw [show (StR.mk pc R M S inn O cd st).R.length = 4 from hR] at this; exact this
  have hM1 : 1 ≤ vm ∨ vm ≤ 0 := by omega
  obtain ⟨mq, mc, rfl⟩ := own_slice hO0.2.1
  obtain ⟨sq, sc, rfl⟩ := own_slice hO0.2.2.1
  obtain ⟨oq, oc, rfl⟩ := own_slice hO0.2.2.2.1
  clear hM1
  obtain ⟨hop, hA, hB, hC⟩ := ins_parts hi
  simp only at hop hA hB hC
  have hgr : gr < w.heap.size := (hO0.lt (g := gr) (by simp [StB, Value.ownBlock])).2
  have hbs : b < w.heap.size := row_ltD hM0
  have hne : gr ≠ b := fun e => hM0.off hO0 (by rw [← e]; simp [StB, Value.ownBlock])
  obtain ⟨w0, hw0⟩ : ∃ w0, w0 = w.alloc (.cells #[.int .i64 11, .int .i64 a, .int .i64 b', .int .i64 c] 55) := ⟨_, rfl⟩
  have HB := Lib.hid (show Below w.heap.size w w0 by rw [hw0]; exact (Below.refl _ _).alloc (Nat.le_refl _) _)
  have hs0 : w.heap.size < w0.heap.size := by rw [hw0]; simp
  have IR := Lib.hid (show w0.heap[w.heap.size]? = some (.cells #[.int .i64 11, .int .i64 a, .int .i64 b', .int .i64 c] 55 (0, 0)) by rw [hw0]; exact heap_alloc_new _ _)
  have MR := Lib.hid (hM0.keep HB.out)
  have OR := Lib.hid (hO0.keep HB.out)
  have A0 := Lib.hid (Apart.of_below (bs := b :: StB (.slice (some ⟨gr, 0, none⟩) 4 rc) (.slice mq M.length mc) (.slice sq S.length sc) (.slice oq O.length oc)) HB.out)
  have HM0 := Lib.hid hM0
  have HO0 := Lib.hid hO0
  have hgr0 : gr < w0.heap.size := by omega
  have hbs0 : b < w0.heap.size := by omega
  clear hG hI hi hM0 hO0
  clear hli
  obtain ⟨i9, hi9, hz9, hzs9, hzb9⟩ := info_parts zero_Int
  have hwy : whyV vm vi ⟨pc, R, M, S, inn, O, cd, st⟩ ⟨11, a, b', c⟩ = if S.length = 3 then 7 else 0 := rfl
  by_cases hz : S.length = 3
  · rw [if_pos hz] at hwy
    rw [hwy, if_neg (by decide), if_neg (by decide)]
    have hq : ((S.length : Int) == 3) = true := by simp; omega
    clear hz hwy
    go_enter Tryz.func92, Tryz.ntmps92
    go_upto_region 1 with fail
    rw [← hw0]
    clear hw0
    obtain ⟨m0, m1, m2, m3, m4, m5, m6, m7, m8, m9, m10, m11, m12, m13⟩ := mcells MR.out
    go_wp2
    go_ret
    exact m_same HM0.out HO0.out HB.out _
  · rw [if_neg hz] at hwy
    rw [hwy, if_pos rfl, if_pos rfl]
    have hq : ((S.length : Int) == 3) = false := by simp; omega
    clear hz hwy
    go_enter Tryz.func92, Tryz.ntmps92
    go_upto_region 1 with fail
    rw [← hw0]
    clear hw0
    obtain ⟨m0, m1, m2, m3, m4, m5, m6, m7, m8, m9, m10, m11, m12, m13⟩ := mcells MR.out
    obtain ⟨i0, i1, i2, i3⟩ := cell4_row IR.out
    go_upto_region 3 with fail
    have CH : Hid (w0.drew.cell? ⟨b, 8, none⟩ = some (.slice sq S.length sc) ∧ w0.drew.cell? ⟨b, 13, none⟩ = some (.int .i64 nx)) := Lib.hid ⟨by assumption, by assumption⟩
    refine region_s [15] (fun V => V.cell? ⟨b, 8, none⟩ = some (.slice sq S.length sc) ∧ V.cell? ⟨b, 13, none⟩ = some (.int .i64 nx)) (by kernel_rfl) ?_
    refine take_s (i := 0) (v := .pointer (some ⟨b, 0, none⟩)) rfl (by kernel_rfl) (fun _ _ _ h => h) CH.out rfl (fun V hV => ?_) ?_
    · go_simp
    refine take_s (i := 1) (v := .pointer (some ⟨b, 0, none⟩)) rfl (by kernel_rfl) (fun _ _ _ h => h) CH.out rfl (fun V hV => ?_) ?_
    · go_simp
    refine take_s (i := 2) (v := .pointer (some ⟨b, 0, none⟩)) rfl (by kernel_rfl) (fun _ _ _ h => h) CH.out rfl (fun V hV => ?_) ?_
    · go_simp
    refine take_s (i := 3) (v := .pointer (some ⟨b, 5, none⟩)) rfl (by kernel_rfl) (fun _ _ _ h => h) CH.out rfl (fun V hV => ?_) ?_
    · go_simp
    refine take_s (i := 4) (v := .pointer (some ⟨b, 8, none⟩)) rfl (by kernel_rfl) (fun _ _ _ h => h) CH.out rfl (fun V hV => ?_) ?_
    · go_simp
    refine take_s (i := 5) (v := .slice sq S.length sc) rfl (by kernel_rfl) (fun _ _ _ h => h) CH.out rfl (fun V hV => ?_) ?_
    · obtain ⟨t0, t1⟩ := hV; go_simp
    refine take_s (i := 6) (v := .pointer (some ⟨b, 0, none⟩)) rfl (by kernel_rfl) (fun _ _ _ h => h) CH.out rfl (fun V hV => ?_) ?_
    · go_simp
    refine take_s (i := 7) (v := .pointer (some ⟨b, 0, none⟩)) rfl (by kernel_rfl) (fun _ _ _ h => h) CH.out rfl (fun V hV => ?_) ?_
    · go_simp
    refine take_s (i := 8) (v := .pointer (some ⟨b, 13, none⟩)) rfl (by kernel_rfl) (fun _ _ _ h => h) CH.out rfl (fun V hV => ?_) ?_
    · go_simp
    refine take_s (i := 9) (v := .int .i64 nx) rfl (by kernel_rfl) (fun _ _ _ h => h) CH.out rfl (fun V hV => ?_) ?_
    · obtain ⟨t0, t1⟩ := hV; go_simp
    refine one_s (i := 10) (by kernel_rfl) (op_list rfl ?_)
    go_wp2
    obtain ⟨wa, hwa⟩ : ∃ W9, W9 = (w0.alloc (.cells #[.int .i64 nx] 3)).drew := ⟨_, rfl⟩
    have BW := Lib.hid (show Below w0.heap.size w0 wa by rw [hwa]; exact ((Below.refl _ _).alloc (Nat.le_refl _) _).drew)
    have hca := Lib.hid (show ∀ j u, [Value.int .i64 (nx)][j]? = some u → wa.cell? ((⟨w0.heap.size, 0, none⟩ : Addr).add j) = some u by rw [hwa]; exact fun j u hj => cell_one_new w0 _ 3 j u hj)
    have hsa : wa.heap.size = w0.heap.size + 1 := by rw [hwa]; show (w0.alloc _).heap.size = _; simp
    have MRa := Lib.hid (MR.out.keep BW.out)
    have ORa := Lib.hid (OR.out.keep BW.out)
    have IRa := Lib.hid ((BW.out.block w.heap.size hs0).trans IR.out)
    rw [← hwa]
    clear hwa
    have CA : Hid (wa.cell? ⟨b, 8, none⟩ = some (.slice sq S.length sc) ∧ wa.cell? ⟨b, 13, none⟩ = some (.int .i64 nx)) := Lib.hid (by obtain ⟨t0, t1⟩ := CH.out; exact ⟨(BW.out.cell (p := ⟨b, 8, none⟩) (hbs0)).trans t0, (BW.out.cell (p := ⟨b, 13, none⟩) (hbs0)).trans t1⟩)
    refine ⟨fun _ => CA.out, ?_⟩
    refine one_s (i := 11) (by kernel_rfl) (op_list rfl ?_)
    refine wpList_append_own_at _ rfl _ _ 28 rfl base 3 i9 (.int .i64 0) 1 8 Tryz.underlying28 hi9 hz9 hzs9 hzb9 rfl (by decide) (.slice sq S.length sc) S.length _ rfl (ORa.out.2.2.1) _ 1 1 [.int .i64 (nx)] rfl rfl ?c1 ?c2 ?c3 ?c4 ?c5 ?_
    case c1 => exact hca.out
    case c2 => intro u hu; simp at hu; subst hu; rfl
    case c3 => unfold maxLen; omega
    case c4 => omega
    case c5 => omega
    intro v' wb hown hgrow _ hat
    obtain ⟨q', c', rfl⟩ := own_slice hown
    have Ob : Hid (StO wb base ⟨pc, R, M, S ++ [nx], inn, O, cd, st⟩ _ _ (.slice q' (S.length + 1) c') _) := Lib.hid (ORa.out.grow_s hgrow (by show wb.ownsRow base 3 1 (.slice q' (S.length + 1) c') (S ++ [nx]).length (IntL.all (S ++ [nx])); rw [List.length_append, IntL.all_map, List.map_append, ← IntL.all_map]; exact hown) hat rfl rfl rfl)
    have hbO : ∀ j, some j = (.slice sq S.length sc : Value).ownBlock → j ∈ StB (.slice (some ⟨gr, 0, none⟩) 4 rc) (.slice mq M.length mc) (.slice sq S.length sc) (.slice oq O.length oc) := fun j h => by unfold StB; rw [← h]; simp
    have Ab := Lib.hid (show Apart (b :: StB (.slice (some ⟨gr, 0, none⟩) 4 rc) (.slice mq M.length mc) (.slice sq S.length sc) (.slice oq O.length oc)) w wb from (A0.out.trans (Apart.of_below BW.out)).trans ⟨hgrow.os, hgrow.tape, hgrow.output, hgrow.size, fun j hj hn => hgrow.block j hj (fun h => hn (List.mem_cons_of_mem _ (hbO j h)))⟩)
    have hsub := Lib.hid (show ∀ g ∈ (.slice q' (S.length + 1) c' : Value).ownBlock.toList, g ∈ StB (.slice (some ⟨gr, 0, none⟩) 4 rc) (.slice mq M.length mc) (.slice sq S.length sc) (.slice oq O.length oc) ∨ w.heap.size ≤ g from fun g hg => by
      rcases hat with h | h
      · rw [h] at hg; exact .inl (hbO g (Option.mem_def.1 (Option.mem_toList.1 hg)).symm)
      · rw [h] at hg; simp at hg; exact .inr (by omega))
    have MRb := Lib.hid (show wb.heap[b]? = wa.heap[b]? from hgrow.block b (by omega) (fun h => MRa.out.off ORa.out (hbO b h)))
    have MB := Lib.hid (show MRow wb b vw vm vi (.slice qL nL cL) (.slice iq I.length ic) ⟨pc, R, M, S, inn, O, cd, st⟩ (.slice (some ⟨gr, 0, none⟩) 4 rc) (.slice mq M.length mc) (.slice sq S.length sc) (.slice oq O.length oc) nx from MRb.out.trans MRa.out)
    have IRb := Lib.hid ((hgrow.block w.heap.size (by omega) (fun h => ORa.out.off (T := 55) (by decide) IRa.out (hbO _ h))).trans IRa.out)
    have hbb2 : b < wb.heap.size := row_ltD MB.out
    have CB : Hid (wb.cell? ⟨b, 8, none⟩ = some (.slice sq S.length sc) ∧ wb.cell? ⟨b, 13, none⟩ = some (.int .i64 nx)) := Lib.hid ⟨cell_of_row _ _ 8 _ _ _ MB.out, cell_of_row _ _ 13 _ _ _ MB.out⟩
    clear hgrow hown hat MRb
    refine ⟨fun _ => CB.out, ?_⟩
    refine one_s (i := 12) (by kernel_rfl) (op_list rfl ?_)
    go_wp2
    refine ⟨fun _ => CB.out, ?_⟩
    refine one_s (i := 13) (by kernel_rfl) (op_list rfl ?_)
    go_wp2
    refine ⟨fun _ => CB.out, ?_⟩
    refine one_s (i := 14) (by kernel_rfl) (op_list rfl ?_)
    go_wp2
    refine ⟨fun _ => CB.out, ?_⟩
    clear m0 m1 m2 m3 m4 m5 m6 m7 m8 m9 m10 m11 m12 m13
    obtain ⟨m0, m1, m2, m3, m4, m5, m6, m7, m8, m9, m10, m11, m12, m13⟩ := mcells MB.out
    obtain ⟨f5, f8, f9, f10, f11, f12, f13⟩ := mfroz MB.out
    refine one_s (i := 15) (by kernel_rfl) (op_list rfl ?_)
    go_wp2
    refine ⟨late_s (by kernel_rfl), done_s (by kernel_rfl) ?_ _⟩
    clear i0 i1 i2 i3
    obtain ⟨wc, hwc⟩ : ∃ W9, W9 = wb.setCell ⟨b, 8, none⟩ (.slice q' (S.length + 1) c') := ⟨_, rfl⟩
    have MM := Lib.hid (show MRow wc b vw vm vi (.slice qL nL cL) (.slice iq I.length ic) ⟨pc, R, M, S ++ [nx], inn, O, cd, st⟩ (.slice (some ⟨gr, 0, none⟩) 4 rc) (.slice mq M.length mc) (.slice q' (S.length + 1) c') (.slice oq O.length oc) nx by rw [hwc]; exact MB.out.srow _)
    have OO := Lib.hid (show StO wc base ⟨pc, R, M, S ++ [nx], inn, O, cd, st⟩ _ _ _ _ by rw [hwc]; exact Ob.out.aside (MB.out.off Ob.out) 8 _)
    have Ac := Lib.hid (show Apart (b :: StB (.slice (some ⟨gr, 0, none⟩) 4 rc) (.slice mq M.length mc) (.slice sq S.length sc) (.slice oq O.length oc)) w wc by rw [hwc]; exact Ab.out.setCell (List.mem_cons_self ..) _)
    have IRc := Lib.hid (show wc.heap[w.heap.size]? = some (.cells #[.int .i64 11, .int .i64 a, .int .i64 b', .int .i64 c] 55 (0, 0)) by rw [hwc, heap_setCell_other _ _ _ _ (fun h => by have h : w.heap.size = b := h; omega)]; exact IRb.out)
    obtain ⟨i0, i1, i2, i3⟩ := cell4_row IRc.out
    have hszc : w.heap.size ≤ wc.heap.size := Ac.out.size
    rw [← hwc]
    clear hwc m0 m1 m2 m3 m4 m5 m6 m7 m8 m9 m10 m11 m12 m13 f5 f8 f9 f10 f11 f12 f13
    go_wp2_with fail
    refine (i_jump10 a b' c b base vw vm vi _ _ _ _ _ _ _ nx _ MM.out OO.out).mono ?_
    rintro e w9 ⟨rfl, r', m', s', o', hM9, hO9, hA9, hs9⟩
    have HE := Lib.hid (show _ ∧ _ ∧ _ ∧ _ from ⟨hM9, hO9, hA9, hs9⟩)
    clear hM9 hO9 hA9 hs9 i0 i1 i2 i3
    go_wp2
    go_ret
    obtain ⟨hM9, hO9, hA9, hs9⟩ := HE.out
    have hsb : ∀ g ∈ StB (.slice (some ⟨gr, 0, none⟩) 4 rc) (.slice mq M.length mc) (.slice q' (S.length + 1) c') (.slice oq O.length oc), g ∈ StB (.slice (some ⟨gr, 0, none⟩) 4 rc) (.slice mq M.length mc) (.slice sq S.length sc) (.slice oq O.length oc) ∨ w.heap.size ≤ g := fun g hg => by
      unfold StB at hg
      rcases List.mem_append.1 hg with h | h
      · rcases List.mem_append.1 h with h | h
        · exact .inl (by unfold StB; exact List.mem_append_left _ (List.mem_append_left _ h))
        · exact hsub.out g h
      · exact .inl (by unfold StB; exact List.mem_append_right _ h)
    have hA10 : Apart (b :: StB (.slice (some ⟨gr, 0, none⟩) 4 rc) (.slice mq M.length mc) (.slice sq S.length sc) (.slice oq O.length oc)) w w9 := ⟨hA9.os.trans Ac.out.os, hA9.tape.trans Ac.out.tape, hA9.output.trans Ac.out.output, Nat.le_trans Ac.out.size hA9.size, fun j hj hn => (hA9.block j (Nat.lt_of_lt_of_le hj Ac.out.size) (fun hm => by
      rcases List.mem_cons.1 hm with h | h
      · exact hn (by rw [h]; exact List.mem_cons_self ..)
      · rcases hsb j h with h | h
        · exact hn (List.mem_cons_of_mem _ h)
        · omega)).trans (Ac.out.block j hj hn)⟩
    exact ⟨rfl, r', m', s', o', hM9, hO9, hA10, fun g hg => (hs9 g hg).elim (fun h => hsb g h) (fun h => .inr (Nat.le_trans hszc h))⟩
end Go.Proofs.YthmababifgaejaaGreat
