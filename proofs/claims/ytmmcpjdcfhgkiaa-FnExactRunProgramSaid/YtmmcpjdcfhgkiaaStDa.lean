/- What the functions of the program's machine do. No condition. -/
import Derived.Test.YtmmcpjdcfhgkiaaStD
import Derived.Test.YtmmcpjdcfhgkiaaReg
import Derived.Test.YtmmcpjdcfhgkiaaMid
import Derived.Test.YtmmcpjdcfhgkiaaUn1
import Derived.StillTailTactics
import Derived.Deep.RegionWith
import Derived.Deep.CutRange
namespace Go.Proofs.Ytmmcpjdcfhgkiaa
open Go.ChangeShapes Go.WideShapes Go.ChangeAt Go.RowKit
set_option maxRecDepth 100000 in
theorem i_divides (c : Int) (w : World) : Calls Try.prog 115 #[.int .i64 c] w fun e w' => e = .returned (.bool (decide (c = 6 ∨ c = 7))) ∧ w = w' := by
  by_cases h6 : c = 6
  · subst h6
    go_enter Try.func115, Try.ntmps115
    go_wp2
    go_ret
    exact ⟨rfl, rfl⟩
  · by_cases h7 : c = 7
    · subst h7
      go_enter Try.func115, Try.ntmps115
      go_wp2
      go_ret
      exact ⟨rfl, rfl⟩
    · have n6 : (c == 6) = false := by simpa using h6
      have n7 : (c == 7) = false := by simpa using h7
      have hd : decide (c = 6 ∨ c = 7) = false := by simp [h6, h7]
      rw [hd]
      clear h6 h7 hd
      go_enter Try.func115, Try.ntmps115
      go_wp2
      go_ret
      exact ⟨rfl, rfl⟩
set_option maxRecDepth 100000 in
set_option maxHeartbeats 2000000 in
/-- where the machine goes on, for whatever instruction -/
theorem i_jump10 {op : Int} (a b' c : Int) (b base : Nat) (vw vm vi : Int) (sL sI : Value) (x : StR) (r m s o : Value) (nx : Int) (w : World) (hM0 : MRow w b vw vm vi sL sI x r m s o nx) (hO0 : StO w base x r m s o) :
    Calls Try.prog 97 #[.pointer (some ⟨b, 0, none⟩), .agg #[.int .i64 op, .int .i64 a, .int .i64 b', .int .i64 c]] w (MEnd b base vw vm vi sL sI r m s o w (.int .i64 0) x b') := by
  have hbs : b < w.heap.size := row_lt hM0
  obtain ⟨w0, hw0⟩ : ∃ w0, w0 = w.alloc (.cells #[.int .i64 op, .int .i64 a, .int .i64 b', .int .i64 c] 77) := ⟨_, rfl⟩
  have HB := Lib.hid (show Below w.heap.size w w0 by rw [hw0]; exact (Below.refl _ _).alloc (Nat.le_refl _) _)
  have IR := Lib.hid (show w0.heap[w.heap.size]? = some (.cells #[.int .i64 op, .int .i64 a, .int .i64 b', .int .i64 c] 77 (0, 0)) by rw [hw0]; exact heap_alloc_new _ _)
  have MR := Lib.hid (hM0.keep HB.out)
  have OR := Lib.hid (hO0.keep HB.out)
  have A0 := Lib.hid (Apart.of_below (bs := b :: StB r m s o) HB.out)
  have m13 := cell_of_row w0 b 13 _ _ _ MR.out
  have f13 := frozen_of_row w0 b 13 _ _ MR.out
  go_enter Try.func97, Try.ntmps97
  go_upto_region 1 with fail
  rw [← hw0]
  clear hw0
  obtain ⟨i0, i1, i2, i3⟩ := cell4_row IR.out
  go_wp2
  go_ret
  exact ⟨rfl, _, _, _, _, MR.out.next b', OR.out.aside (MR.out.off OR.out) 13 _, A0.out.setCell (List.mem_cons_self ..) _, fun _ hg => .inl hg⟩
set_option maxRecDepth 100000 in
set_option maxHeartbeats 8000000 in
theorem d_set : DoesIt 89 1 := by
  intro vw vm vi n qL nL cL iq ic I x r m s o nx a b' c b base w hw2 hw8 hv3 hG hI hli hbb hM0 hO0 hi
  obtain ⟨pc, R, M, S, inn, O, cd, st⟩ := x
  have hR : R.length = 4 := hG.hR
  have hS3 : S.length ≤ 3 := hG.hS
  have hO6 : O.length ≤ 6 := hG.hO
  have HI := Lib.hid hI
  have HG := Lib.hid hG
  have hinn : 0 ≤ inn ∧ inn ≤ vi := hG.inn
  have HMV := Lib.hid (show (M.length : Int) = vm from hG.hM)
  obtain ⟨gr, rc, rfl⟩ : ∃ g c, r = .slice (some ⟨g, 0, none⟩) 4 c := by have := own_some hO0.1 (show 0 < R.length by omega); rw [show (StR.mk pc R M S inn O cd st).R.length = 4 from hR] at this; exact this
  have hM1 : 1 ≤ vm ∨ vm ≤ 0 := by omega
  obtain ⟨mq, mc, rfl⟩ := own_slice hO0.2.1
  obtain ⟨sq, sc, rfl⟩ := own_slice hO0.2.2.1
  obtain ⟨oq, oc, rfl⟩ := own_slice hO0.2.2.2.1
  clear hM1
  obtain ⟨hop, hA, hB, hC⟩ := ins_parts hi
  simp only at hop hA hB hC
  have hgr : gr < w.heap.size := (hO0.lt (g := gr) (by simp [StB, Value.ownBlock])).2
  have hbs : b < w.heap.size := row_lt hM0
  have hne : gr ≠ b := fun e => hM0.off hO0 (by rw [← e]; simp [StB, Value.ownBlock])
  obtain ⟨w0, hw0⟩ : ∃ w0, w0 = w.alloc (.cells #[.int .i64 1, .int .i64 a, .int .i64 b', .int .i64 c] 77) := ⟨_, rfl⟩
  have HB := Lib.hid (show Below w.heap.size w w0 by rw [hw0]; exact (Below.refl _ _).alloc (Nat.le_refl _) _)
  have hs0 : w.heap.size < w0.heap.size := by rw [hw0]; simp
  have IR := Lib.hid (show w0.heap[w.heap.size]? = some (.cells #[.int .i64 1, .int .i64 a, .int .i64 b', .int .i64 c] 77 (0, 0)) by rw [hw0]; exact heap_alloc_new _ _)
  have MR := Lib.hid (hM0.keep HB.out)
  have OR := Lib.hid (hO0.keep HB.out)
  have A0 := Lib.hid (Apart.of_below (bs := b :: StB (.slice (some ⟨gr, 0, none⟩) 4 rc) (.slice mq M.length mc) (.slice sq S.length sc) (.slice oq O.length oc)) HB.out)
  have HM0 := Lib.hid hM0
  have HO0 := Lib.hid hO0
  have hgr0 : gr < w0.heap.size := by omega
  have hbs0 : b < w0.heap.size := by omega
  clear hG hI hi hM0 hO0
  clear hli
  obtain ⟨ka, hpka⟩ : ∃ j : Nat, a = j := ⟨a.toNat, by have := reg_of hA; omega⟩
  have hka : ka < 4 := by have := reg_of hA; omega
  have hkai : (ka : Int) < 4 := by omega
  have hwka := HG.out.reg (reg_of hA)
  subst hpka
  have hkaR : ka < R.length := by omega
  obtain ⟨cka, zka⟩ := own_cell2 OR.out.1 ka (show ka < R.length by omega)
  have HAka := Lib.hid (atI_nat R ka (by omega))
  have hwy : whyV vm vi ⟨pc, R, M, S, inn, O, cd, st⟩ ⟨1, (ka : Int), b', c⟩ = 0 := rfl
  rw [hwy, if_pos rfl, if_pos rfl]
  clear hwy
  have KP := Lib.hid (fun v W h1 h2 h3 h4 => i_mput b gr rc ka v (R[ka]'hkaR) W h1 h2 hka h3 h4)
  go_enter Try.func89, Try.ntmps89
  go_upto_region 1 with fail
  rw [← hw0]
  clear hw0
  obtain ⟨m0, m1, m2, m3, m4, m5, m6, m7, m8, m9, m10, m11, m12, m13⟩ := mcells MR.out
  obtain ⟨i0, i1, i2, i3⟩ := cell4_row IR.out
  go_wp2_with fail
  refine (KP.out (b') (w0) hbs0 m6 cka zka).mono ?_
  rintro e w9 ⟨rfl, hw9⟩
  have HW := Lib.hid hw9
  clear hw9
  go_wp2
  go_ret
  show MEnd b base vw vm vi (.slice qL nL cL) (.slice iq I.length ic) (.slice (some ⟨gr, 0, none⟩) 4 rc) (.slice mq M.length mc) (.slice sq S.length sc) (.slice oq O.length oc) w (.int .i64 (0)) ⟨pc, R.set ka b', M, S, inn, O, cd, st⟩ (nx) _ _
  exact m_poke (W := w0) MR.out OR.out A0.out ka (b') HW.out _
set_option maxRecDepth 100000 in
set_option maxHeartbeats 8000000 in
theorem d_move : DoesIt 90 2 := by
  intro vw vm vi n qL nL cL iq ic I x r m s o nx a b' c b base w hw2 hw8 hv3 hG hI hli hbb hM0 hO0 hi
  obtain ⟨pc, R, M, S, inn, O, cd, st⟩ := x
  have hR : R.length = 4 := hG.hR
  have hS3 : S.length ≤ 3 := hG.hS
  have hO6 : O.length ≤ 6 := hG.hO
  have HI := Lib.hid hI
  have HG := Lib.hid hG
  have hinn : 0 ≤ inn ∧ inn ≤ vi := hG.inn
  have HMV := Lib.hid (show (M.length : Int) = vm from hG.hM)
  obtain ⟨gr, rc, rfl⟩ : ∃ g c, r = .slice (some ⟨g, 0, none⟩) 4 c := by have := own_some hO0.1 (show 0 < R.length by omega); rw [show (StR.mk pc R M S inn O cd st).R.length = 4 from hR] at this; exact this
  have hM1 : 1 ≤ vm ∨ vm ≤ 0 := by omega
  obtain ⟨mq, mc, rfl⟩ := own_slice hO0.2.1
  obtain ⟨sq, sc, rfl⟩ := own_slice hO0.2.2.1
  obtain ⟨oq, oc, rfl⟩ := own_slice hO0.2.2.2.1
  clear hM1
  obtain ⟨hop, hA, hB, hC⟩ := ins_parts hi
  simp only at hop hA hB hC
  have hgr : gr < w.heap.size := (hO0.lt (g := gr) (by simp [StB, Value.ownBlock])).2
  have hbs : b < w.heap.size := row_lt hM0
  have hne : gr ≠ b := fun e => hM0.off hO0 (by rw [← e]; simp [StB, Value.ownBlock])
  obtain ⟨w0, hw0⟩ : ∃ w0, w0 = w.alloc (.cells #[.int .i64 2, .int .i64 a, .int .i64 b', .int .i64 c] 77) := ⟨_, rfl⟩
  have HB := Lib.hid (show Below w.heap.size w w0 by rw [hw0]; exact (Below.refl _ _).alloc (Nat.le_refl _) _)
  have hs0 : w.heap.size < w0.heap.size := by rw [hw0]; simp
  have IR := Lib.hid (show w0.heap[w.heap.size]? = some (.cells #[.int .i64 2, .int .i64 a, .int .i64 b', .int .i64 c] 77 (0, 0)) by rw [hw0]; exact heap_alloc_new _ _)
  have MR := Lib.hid (hM0.keep HB.out)
  have OR := Lib.hid (hO0.keep HB.out)
  have A0 := Lib.hid (Apart.of_below (bs := b :: StB (.slice (some ⟨gr, 0, none⟩) 4 rc) (.slice mq M.length mc) (.slice sq S.length sc) (.slice oq O.length oc)) HB.out)
  have HM0 := Lib.hid hM0
  have HO0 := Lib.hid hO0
  have hgr0 : gr < w0.heap.size := by omega
  have hbs0 : b < w0.heap.size := by omega
  clear hG hI hi hM0 hO0
  clear hli
  obtain ⟨ka, hpka⟩ : ∃ j : Nat, a = j := ⟨a.toNat, by have := reg_of hA; omega⟩
  have hka : ka < 4 := by have := reg_of hA; omega
  have hkai : (ka : Int) < 4 := by omega
  have hwka := HG.out.reg (reg_of hA)
  subst hpka
  have hkaR : ka < R.length := by omega
  obtain ⟨cka, zka⟩ := own_cell2 OR.out.1 ka (show ka < R.length by omega)
  have HAka := Lib.hid (atI_nat R ka (by omega))
  obtain ⟨kb, hpkb⟩ : ∃ j : Nat, b' = j := ⟨b'.toNat, by have := reg_of hB; omega⟩
  have hkb : kb < 4 := by have := reg_of hB; omega
  have hkbi : (kb : Int) < 4 := by omega
  have hwkb := HG.out.reg (reg_of hB)
  subst hpkb
  have hkbR : kb < R.length := by omega
  obtain ⟨ckb, zkb⟩ := own_cell2 OR.out.1 kb (show kb < R.length by omega)
  have HAkb := Lib.hid (atI_nat R kb (by omega))
  have hwy : whyV vm vi ⟨pc, R, M, S, inn, O, cd, st⟩ ⟨2, (ka : Int), (kb : Int), c⟩ = 0 := rfl
  rw [hwy, if_pos rfl, if_pos rfl]
  clear hwy
  have KP := Lib.hid (fun v W h1 h2 h3 h4 => i_mput b gr rc ka v (R[ka]'hkaR) W h1 h2 hka h3 h4)
  go_enter Try.func90, Try.ntmps90
  go_upto_region 1 with fail
  rw [← hw0]
  clear hw0
  obtain ⟨m0, m1, m2, m3, m4, m5, m6, m7, m8, m9, m10, m11, m12, m13⟩ := mcells MR.out
  obtain ⟨i0, i1, i2, i3⟩ := cell4_row IR.out
  go_still_tail 12, (by kernel_rfl)
  go_wp2_with fail
  refine (KP.out (R[kb]) (w0.drew) hbs0 m6 cka zka).mono ?_
  rintro e w9 ⟨rfl, hw9⟩
  have HW := Lib.hid hw9
  clear hw9
  go_wp2
  go_ret
  rw [show doX vw I ⟨pc, R, M, S, inn, O, cd, st⟩ nx ⟨2, (ka : Int), (kb : Int), c⟩ = ⟨pc, R.set ka (atI R (kb : Int)), M, S, inn, O, cd, st⟩ from rfl, HAkb.out]
  show MEnd b base vw vm vi (.slice qL nL cL) (.slice iq I.length ic) (.slice (some ⟨gr, 0, none⟩) 4 rc) (.slice mq M.length mc) (.slice sq S.length sc) (.slice oq O.length oc) w (.int .i64 (0)) ⟨pc, R.set ka R[kb], M, S, inn, O, cd, st⟩ (nx) _ _
  exact m_poke (W := w0.drew) (MRow.keep MR.out (Below.refl w0.heap.size w0).drew) (StO.keep OR.out (Below.refl w0.heap.size w0).drew) (A0.out.trans (Apart.of_below (Below.refl w0.heap.size w0).drew)) ka (R[kb]) HW.out _
set_option maxRecDepth 100000 in
set_option maxHeartbeats 8000000 in
theorem d_not : DoesIt 92 4 := by
  intro vw vm vi n qL nL cL iq ic I x r m s o nx a b' c b base w hw2 hw8 hv3 hG hI hli hbb hM0 hO0 hi
  obtain ⟨pc, R, M, S, inn, O, cd, st⟩ := x
  have hR : R.length = 4 := hG.hR
  have hS3 : S.length ≤ 3 := hG.hS
  have hO6 : O.length ≤ 6 := hG.hO
  have HI := Lib.hid hI
  have HG := Lib.hid hG
  have hinn : 0 ≤ inn ∧ inn ≤ vi := hG.inn
  have HMV := Lib.hid (show (M.length : Int) = vm from hG.hM)
  obtain ⟨gr, rc, rfl⟩ : ∃ g c, r = .slice (some ⟨g, 0, none⟩) 4 c := by have := own_some hO0.1 (show 0 < R.length by omega); rw [show (StR.mk pc R M S inn O cd st).R.length = 4 from hR] at this; exact this
  have hM1 : 1 ≤ vm ∨ vm ≤ 0 := by omega
  obtain ⟨mq, mc, rfl⟩ := own_slice hO0.2.1
  obtain ⟨sq, sc, rfl⟩ := own_slice hO0.2.2.1
  obtain ⟨oq, oc, rfl⟩ := own_slice hO0.2.2.2.1
  clear hM1
  obtain ⟨hop, hA, hB, hC⟩ := ins_parts hi
  simp only at hop hA hB hC
  have hgr : gr < w.heap.size := (hO0.lt (g := gr) (by simp [StB, Value.ownBlock])).2
  have hbs : b < w.heap.size := row_lt hM0
  have hne : gr ≠ b := fun e => hM0.off hO0 (by rw [← e]; simp [StB, Value.ownBlock])
  obtain ⟨w0, hw0⟩ : ∃ w0, w0 = w.alloc (.cells #[.int .i64 4, .int .i64 a, .int .i64 b', .int .i64 c] 77) := ⟨_, rfl⟩
  have HB := Lib.hid (show Below w.heap.size w w0 by rw [hw0]; exact (Below.refl _ _).alloc (Nat.le_refl _) _)
  have hs0 : w.heap.size < w0.heap.size := by rw [hw0]; simp
  have IR := Lib.hid (show w0.heap[w.heap.size]? = some (.cells #[.int .i64 4, .int .i64 a, .int .i64 b', .int .i64 c] 77 (0, 0)) by rw [hw0]; exact heap_alloc_new _ _)
  have MR := Lib.hid (hM0.keep HB.out)
  have OR := Lib.hid (hO0.keep HB.out)
  have A0 := Lib.hid (Apart.of_below (bs := b :: StB (.slice (some ⟨gr, 0, none⟩) 4 rc) (.slice mq M.length mc) (.slice sq S.length sc) (.slice oq O.length oc)) HB.out)
  have HM0 := Lib.hid hM0
  have HO0 := Lib.hid hO0
  have hgr0 : gr < w0.heap.size := by omega
  have hbs0 : b < w0.heap.size := by omega
  clear hG hI hi hM0 hO0
  clear hli
  obtain ⟨ka, hpka⟩ : ∃ j : Nat, a = j := ⟨a.toNat, by have := reg_of hA; omega⟩
  have hka : ka < 4 := by have := reg_of hA; omega
  have hkai : (ka : Int) < 4 := by omega
  have hwka := HG.out.reg (reg_of hA)
  subst hpka
  have hkaR : ka < R.length := by omega
  obtain ⟨cka, zka⟩ := own_cell2 OR.out.1 ka (show ka < R.length by omega)
  have HAka := Lib.hid (atI_nat R ka (by omega))
  have hxka := hwka
  rw [HAka.out] at hxka
  have hwy : whyV vm vi ⟨pc, R, M, S, inn, O, cd, st⟩ ⟨4, (ka : Int), b', c⟩ = 0 := rfl
  rw [hwy, if_pos rfl, if_pos rfl]
  clear hwy
  have KP := Lib.hid (fun v W h1 h2 h3 h4 => i_mput b gr rc ka v (R[ka]'hkaR) W h1 h2 hka h3 h4)
  have KB := Lib.hid (fun V => i_un 1 vw R[ka] (.inl rfl) hxka.1 hxka.2.1 hxka.2.2.1 hxka.2.2.2 V)
  go_enter Try.func92, Try.ntmps92
  go_upto_region 1 with fail
  rw [← hw0]
  clear hw0
  obtain ⟨m0, m1, m2, m3, m4, m5, m6, m7, m8, m9, m10, m11, m12, m13⟩ := mcells MR.out
  obtain ⟨i0, i1, i2, i3⟩ := cell4_row IR.out
  skip
  have CH : Hid (w0.drew.cell? ⟨b, 0, none⟩ = some (.int .i64 vw) ∧ w0.drew.cell? ⟨b, 6, none⟩ = some (.slice (some ⟨gr, 0, none⟩) 4 rc) ∧ w0.drew.cell? ⟨w.heap.size, 1, none⟩ = some (.int .i64 (ka : Int))) := Lib.hid ⟨by assumption, by assumption, by assumption⟩
  refine region_s [] (fun V => V.cell? ⟨b, 0, none⟩ = some (.int .i64 vw) ∧ V.cell? ⟨b, 6, none⟩ = some (.slice (some ⟨gr, 0, none⟩) 4 rc) ∧ V.cell? ⟨w.heap.size, 1, none⟩ = some (.int .i64 (ka : Int))) (by kernel_rfl) ?_
  refine take_s (i := 0) (v := .pointer (some ⟨b, 0, none⟩)) rfl (by kernel_rfl) (fun _ _ _ h => h) CH.out rfl (fun V hV => ?_) ?_
  · go_simp
  refine take_s (i := 1) (v := .pointer (some ⟨w.heap.size, 1, none⟩)) rfl (by kernel_rfl) (fun _ _ _ h => h) CH.out rfl (fun V hV => ?_) ?_
  · go_simp
  refine take_s (i := 2) (v := .int .i64 (ka : Int)) rfl (by kernel_rfl) (fun _ _ _ h => h) CH.out rfl (fun V hV => ?_) ?_
  · obtain ⟨t0, t1, t2⟩ := hV; go_simp
  refine take_s (i := 3) (v := .pointer (some ⟨b, 0, none⟩)) rfl (by kernel_rfl) (fun _ _ _ h => h) CH.out rfl (fun V hV => ?_) ?_
  · go_simp
  refine take_s (i := 4) (v := .pointer (some ⟨b, 0, none⟩)) rfl (by kernel_rfl) (fun _ _ _ h => h) CH.out rfl (fun V hV => ?_) ?_
  · go_simp
  refine take_s (i := 5) (v := .pointer (some ⟨b, 0, none⟩)) rfl (by kernel_rfl) (fun _ _ _ h => h) CH.out rfl (fun V hV => ?_) ?_
  · go_simp
  refine take_s (i := 6) (v := .pointer (some ⟨b, 0, none⟩)) rfl (by kernel_rfl) (fun _ _ _ h => h) CH.out rfl (fun V hV => ?_) ?_
  · go_simp
  refine take_s (i := 7) (v := .int .i64 vw) rfl (by kernel_rfl) (fun _ _ _ h => h) CH.out rfl (fun V hV => ?_) ?_
  · obtain ⟨t0, t1, t2⟩ := hV; go_simp
  refine take_s (i := 8) (v := .pointer (some ⟨b, 0, none⟩)) rfl (by kernel_rfl) (fun _ _ _ h => h) CH.out rfl (fun V hV => ?_) ?_
  · go_simp
  refine take_s (i := 9) (v := .pointer (some ⟨b, 0, none⟩)) rfl (by kernel_rfl) (fun _ _ _ h => h) CH.out rfl (fun V hV => ?_) ?_
  · go_simp
  refine take_s (i := 10) (v := .pointer (some ⟨b, 5, none⟩)) rfl (by kernel_rfl) (fun _ _ _ h => h) CH.out rfl (fun V hV => ?_) ?_
  · go_simp
  refine take_s (i := 11) (v := .pointer (some ⟨b, 6, none⟩)) rfl (by kernel_rfl) (fun _ _ _ h => h) CH.out rfl (fun V hV => ?_) ?_
  · go_simp
  refine take_s (i := 12) (v := .slice (some ⟨gr, 0, none⟩) 4 rc) rfl (by kernel_rfl) (fun _ _ _ h => h) CH.out rfl (fun V hV => ?_) ?_
  · obtain ⟨t0, t1, t2⟩ := hV; go_simp
  refine take_s (i := 13) (v := .pointer (some ⟨w.heap.size, 1, none⟩)) rfl (by kernel_rfl) (fun _ _ _ h => h) CH.out rfl (fun V hV => ?_) ?_
  · go_simp
  refine take_s (i := 14) (v := .int .i64 (ka : Int)) rfl (by kernel_rfl) (fun _ _ _ h => h) CH.out rfl (fun V hV => ?_) ?_
  · obtain ⟨t0, t1, t2⟩ := hV; go_simp
  refine take_s (i := 15) (v := .pointer (some ⟨gr, ka, none⟩)) rfl (by kernel_rfl) (fun _ _ _ h => h) CH.out rfl (fun V hV => ?_) ?_
  · go_simp
  refine one_s (i := 16) (by kernel_rfl) (op_list rfl ?_)
  go_wp2
  refine ⟨fun _ => CH.out, ?_⟩
  refine one_s (i := 17) (by kernel_rfl) (op_list rfl ?_)
  go_wp2_with fail
  refine (KB.out _).mono ?_
  rintro e w8 ⟨rfl, rfl⟩
  go_wp2
  refine ⟨fun _ => CH.out, ?_⟩
  refine one_s (i := 18) (by kernel_rfl) (op_list rfl ?_)
  go_wp2_with fail
  refine (KP.out (unM 1 vw R[ka]) (w0.drew) (by simpa using hbs0) m6 cka zka).mono ?_
  rintro e w9 ⟨rfl, hw9⟩
  have HW := Lib.hid hw9
  have CP := Lib.hid (show w9.cell? ⟨b, 0, none⟩ = some (.int .i64 vw) ∧ w9.cell? ⟨b, 6, none⟩ = some (.slice (some ⟨gr, 0, none⟩) 4 rc) ∧ w9.cell? ⟨w.heap.size, 1, none⟩ = some (.int .i64 (ka : Int)) from by obtain ⟨t0, t1, t2⟩ := CH.out; rw [hw9]; exact ⟨(World.cell?_of_block (heap_setCell_other (w0.drew) ⟨gr, ka, none⟩ (b) _ (fun h => by have h : b = gr := h; omega))).trans t0, (World.cell?_of_block (heap_setCell_other (w0.drew) ⟨gr, ka, none⟩ (b) _ (fun h => by have h : b = gr := h; omega))).trans t1, (World.cell?_of_block (heap_setCell_other (w0.drew) ⟨gr, ka, none⟩ (w.heap.size) _ (fun h => by have h : w.heap.size = gr := h; omega))).trans t2⟩)
  clear hw9
  go_wp2
  refine ⟨fun _ => CP.out, ?_⟩
  refine one_s (i := 19) (by kernel_rfl) (op_list rfl ?_)
  go_wp2
  refine ⟨fun _ => CP.out, done_s (by kernel_rfl) ?_ _⟩
  go_wp2
  go_ret
  rw [show doX vw I ⟨pc, R, M, S, inn, O, cd, st⟩ nx ⟨4, (ka : Int), b', c⟩ = ⟨pc, R.set ka (unM 1 vw (atI R (ka : Int))), M, S, inn, O, cd, st⟩ from rfl, HAka.out]
  show MEnd b base vw vm vi (.slice qL nL cL) (.slice iq I.length ic) (.slice (some ⟨gr, 0, none⟩) 4 rc) (.slice mq M.length mc) (.slice sq S.length sc) (.slice oq O.length oc) w (.int .i64 (0)) ⟨pc, R.set ka (unM 1 vw R[ka]), M, S, inn, O, cd, st⟩ (nx) _ _
  exact m_poke (W := w0.drew) (MRow.keep MR.out (Below.refl w0.heap.size w0).drew) (StO.keep OR.out (Below.refl w0.heap.size w0).drew) (A0.out.trans (Apart.of_below (Below.refl w0.heap.size w0).drew)) ka (unM 1 vw R[ka]) HW.out _
set_option maxRecDepth 100000 in
set_option maxHeartbeats 8000000 in
theorem d_operate : DoesIt 91 3 := by
  intro vw vm vi n qL nL cL iq ic I x r m s o nx a b' c b base w hw2 hw8 hv3 hG hI hli hbb hM0 hO0 hi
  obtain ⟨pc, R, M, S, inn, O, cd, st⟩ := x
  have hR : R.length = 4 := hG.hR
  have hS3 : S.length ≤ 3 := hG.hS
  have hO6 : O.length ≤ 6 := hG.hO
  have HI := Lib.hid hI
  have HG := Lib.hid hG
  have hinn : 0 ≤ inn ∧ inn ≤ vi := hG.inn
  have HMV := Lib.hid (show (M.length : Int) = vm from hG.hM)
  obtain ⟨gr, rc, rfl⟩ : ∃ g c, r = .slice (some ⟨g, 0, none⟩) 4 c := by have := own_some hO0.1 (show 0 < R.length by omega); rw [show (StR.mk pc R M S inn O cd st).R.length = 4 from hR] at this; exact this
  have hM1 : 1 ≤ vm ∨ vm ≤ 0 := by omega
  obtain ⟨mq, mc, rfl⟩ := own_slice hO0.2.1
  obtain ⟨sq, sc, rfl⟩ := own_slice hO0.2.2.1
  obtain ⟨oq, oc, rfl⟩ := own_slice hO0.2.2.2.1
  clear hM1
  obtain ⟨hop, hA, hB, hC⟩ := ins_parts hi
  simp only at hop hA hB hC
  have hgr : gr < w.heap.size := (hO0.lt (g := gr) (by simp [StB, Value.ownBlock])).2
  have hbs : b < w.heap.size := row_lt hM0
  have hne : gr ≠ b := fun e => hM0.off hO0 (by rw [← e]; simp [StB, Value.ownBlock])
  obtain ⟨w0, hw0⟩ : ∃ w0, w0 = w.alloc (.cells #[.int .i64 3, .int .i64 a, .int .i64 b', .int .i64 c] 77) := ⟨_, rfl⟩
  have HB := Lib.hid (show Below w.heap.size w w0 by rw [hw0]; exact (Below.refl _ _).alloc (Nat.le_refl _) _)
  have hs0 : w.heap.size < w0.heap.size := by rw [hw0]; simp
  have IR := Lib.hid (show w0.heap[w.heap.size]? = some (.cells #[.int .i64 3, .int .i64 a, .int .i64 b', .int .i64 c] 77 (0, 0)) by rw [hw0]; exact heap_alloc_new _ _)
  have MR := Lib.hid (hM0.keep HB.out)
  have OR := Lib.hid (hO0.keep HB.out)
  have A0 := Lib.hid (Apart.of_below (bs := b :: StB (.slice (some ⟨gr, 0, none⟩) 4 rc) (.slice mq M.length mc) (.slice sq S.length sc) (.slice oq O.length oc)) HB.out)
  have HM0 := Lib.hid hM0
  have HO0 := Lib.hid hO0
  have hgr0 : gr < w0.heap.size := by omega
  have hbs0 : b < w0.heap.size := by omega
  clear hG hI hi hM0 hO0
  clear hli
  obtain ⟨ka, hpka⟩ : ∃ j : Nat, a = j := ⟨a.toNat, by have := reg_of hA; omega⟩
  have hka : ka < 4 := by have := reg_of hA; omega
  have hkai : (ka : Int) < 4 := by omega
  have hwka := HG.out.reg (reg_of hA)
  subst hpka
  have hkaR : ka < R.length := by omega
  obtain ⟨cka, zka⟩ := own_cell2 OR.out.1 ka (show ka < R.length by omega)
  have HAka := Lib.hid (atI_nat R ka (by omega))
  obtain ⟨kb, hpkb⟩ : ∃ j : Nat, b' = j := ⟨b'.toNat, by have := reg_of hB; omega⟩
  have hkb : kb < 4 := by have := reg_of hB; omega
  have hkbi : (kb : Int) < 4 := by omega
  have hwkb := HG.out.reg (reg_of hB)
  subst hpkb
  have hkbR : kb < R.length := by omega
  obtain ⟨ckb, zkb⟩ := own_cell2 OR.out.1 kb (show kb < R.length by omega)
  have HAkb := Lib.hid (atI_nat R kb (by omega))
  have hxka := hwka
  rw [HAka.out] at hxka
  have hxkb := hwkb
  rw [HAkb.out] at hxkb
  have hc3 := oper_of hC
  have hwy : whyV vm vi ⟨pc, R, M, S, inn, O, cd, st⟩ ⟨3, (ka : Int), (kb : Int), c⟩ = if (c = 6 ∨ c = 7) ∧ atI R (kb : Int) = 0 then 6 else 0 := rfl
  rw [HAkb.out] at hwy
  have KP := Lib.hid (fun v W h1 h2 h3 h4 => i_mput b gr rc ka v (R[ka]'hkaR) W h1 h2 hka h3 h4)
  have KB := Lib.hid (fun V => i_bin c vw R[ka] R[kb] hc3 hxka.1 hxka.2.1 hxka.2.2.1 hxka.2.2.2 hxkb.2.2.1 hxkb.2.2.2 V)
  have KD := Lib.hid (fun V => i_divides c V)
  go_enter Try.func91, Try.ntmps91
  go_upto_region 1 with fail
  rw [← hw0]
  clear hw0
  obtain ⟨m0, m1, m2, m3, m4, m5, m6, m7, m8, m9, m10, m11, m12, m13⟩ := mcells MR.out
  obtain ⟨i0, i1, i2, i3⟩ := cell4_row IR.out
  go_region
  go_upto_region 2 with fail
  by_cases hz : R[kb] = 0
  · have hq : (R[kb] == 0) = true := by simpa using hz
    by_cases hd : c = 6 ∨ c = 7
    · rw [if_pos ⟨hd, hz⟩] at hwy
      rw [hwy]
      have hdt : decide (c = 6 ∨ c = 7) = true := decide_eq_true hd
      rw [hdt] at KD
      clear hz hd hdt
      go_wp2_with fail
      refine (KD.out _).mono ?_
      rintro e w8 ⟨rfl, rfl⟩
      go_wp2
      go_ret
      exact m_same HM0.out HO0.out HB.out.drew _
    · rw [if_neg (fun h => hd h.1)] at hwy
      have hdt : decide (c = 6 ∨ c = 7) = false := decide_eq_false hd
      rw [hdt] at KD
      clear hz hd hdt
      go_wp2_with fail
      refine (KD.out _).mono ?_
      rintro e w8 ⟨rfl, rfl⟩
      go_upto_region 4 with fail
      have CH : Hid (w0.drew.drew.cell? ⟨b, 0, none⟩ = some (.int .i64 vw) ∧ w0.drew.drew.cell? ⟨w.heap.size, 1, none⟩ = some (.int .i64 (ka : Int)) ∧ w0.drew.drew.cell? ⟨w.heap.size, 3, none⟩ = some (.int .i64 c)) := Lib.hid ⟨by assumption, by assumption, by assumption⟩
      refine region_s [] (fun V => V.cell? ⟨b, 0, none⟩ = some (.int .i64 vw) ∧ V.cell? ⟨w.heap.size, 1, none⟩ = some (.int .i64 (ka : Int)) ∧ V.cell? ⟨w.heap.size, 3, none⟩ = some (.int .i64 c)) (by kernel_rfl) ?_
      refine take_s (i := 0) (v := .pointer (some ⟨b, 0, none⟩)) rfl (by kernel_rfl) (fun _ _ _ h => h) CH.out rfl (fun V hV => ?_) ?_
      · go_simp
      refine take_s (i := 1) (v := .pointer (some ⟨w.heap.size, 1, none⟩)) rfl (by kernel_rfl) (fun _ _ _ h => h) CH.out rfl (fun V hV => ?_) ?_
      · go_simp
      refine take_s (i := 2) (v := .int .i64 (ka : Int)) rfl (by kernel_rfl) (fun _ _ _ h => h) CH.out rfl (fun V hV => ?_) ?_
      · obtain ⟨t0, t1, t2⟩ := hV; go_simp
      refine take_s (i := 3) (v := .pointer (some ⟨w.heap.size, 3, none⟩)) rfl (by kernel_rfl) (fun _ _ _ h => h) CH.out rfl (fun V hV => ?_) ?_
      · go_simp
      refine take_s (i := 4) (v := .int .i64 c) rfl (by kernel_rfl) (fun _ _ _ h => h) CH.out rfl (fun V hV => ?_) ?_
      · obtain ⟨t0, t1, t2⟩ := hV; go_simp
      refine take_s (i := 5) (v := .pointer (some ⟨b, 0, none⟩)) rfl (by kernel_rfl) (fun _ _ _ h => h) CH.out rfl (fun V hV => ?_) ?_
      · go_simp
      refine take_s (i := 6) (v := .pointer (some ⟨b, 0, none⟩)) rfl (by kernel_rfl) (fun _ _ _ h => h) CH.out rfl (fun V hV => ?_) ?_
      · go_simp
      refine take_s (i := 7) (v := .pointer (some ⟨b, 0, none⟩)) rfl (by kernel_rfl) (fun _ _ _ h => h) CH.out rfl (fun V hV => ?_) ?_
      · go_simp
      refine take_s (i := 8) (v := .pointer (some ⟨b, 0, none⟩)) rfl (by kernel_rfl) (fun _ _ _ h => h) CH.out rfl (fun V hV => ?_) ?_
      · go_simp
      refine take_s (i := 9) (v := .int .i64 vw) rfl (by kernel_rfl) (fun _ _ _ h => h) CH.out rfl (fun V hV => ?_) ?_
      · obtain ⟨t0, t1, t2⟩ := hV; go_simp
      refine take_s (i := 10) (v := .int .i64 R[ka]) rfl (by kernel_rfl) (fun _ _ _ h => h) CH.out rfl (fun V hV => ?_) ?_
      · go_simp
      refine take_s (i := 11) (v := .int .i64 R[kb]) rfl (by kernel_rfl) (fun _ _ _ h => h) CH.out rfl (fun V hV => ?_) ?_
      · go_simp
      refine one_s (i := 12) (by kernel_rfl) (op_list rfl ?_)
      go_wp2_with fail
      refine (KB.out _).mono ?_
      rintro e w8 ⟨rfl, rfl⟩
      go_wp2
      refine ⟨fun _ => CH.out, ?_⟩
      refine one_s (i := 13) (by kernel_rfl) (op_list rfl ?_)
      go_wp2_with fail
      refine (KP.out (binM c vw R[ka] R[kb]) (w0.drew.drew) (by simpa using hbs0) m6 cka zka).mono ?_
      rintro e w9 ⟨rfl, hw9⟩
      have HW := Lib.hid hw9
      have CP := Lib.hid (show w9.cell? ⟨b, 0, none⟩ = some (.int .i64 vw) ∧ w9.cell? ⟨w.heap.size, 1, none⟩ = some (.int .i64 (ka : Int)) ∧ w9.cell? ⟨w.heap.size, 3, none⟩ = some (.int .i64 c) from by obtain ⟨t0, t1, t2⟩ := CH.out; rw [hw9]; exact ⟨(World.cell?_of_block (heap_setCell_other (w0.drew.drew) ⟨gr, ka, none⟩ (b) _ (fun h => by have h : b = gr := h; omega))).trans t0, (World.cell?_of_block (heap_setCell_other (w0.drew.drew) ⟨gr, ka, none⟩ (w.heap.size) _ (fun h => by have h : w.heap.size = gr := h; omega))).trans t1, (World.cell?_of_block (heap_setCell_other (w0.drew.drew) ⟨gr, ka, none⟩ (w.heap.size) _ (fun h => by have h : w.heap.size = gr := h; omega))).trans t2⟩)
      clear hw9
      go_wp2
      refine ⟨fun _ => CP.out, ?_⟩
      refine one_s (i := 14) (by kernel_rfl) (op_list rfl ?_)
      go_wp2
      refine ⟨fun _ => CP.out, done_s (by kernel_rfl) ?_ _⟩
      go_wp2
      go_ret
      rw [show doX vw I ⟨pc, R, M, S, inn, O, cd, st⟩ nx ⟨3, (ka : Int), (kb : Int), c⟩ = ⟨pc, R.set ka (binM c vw (atI R (ka : Int)) (atI R (kb : Int))), M, S, inn, O, cd, st⟩ from rfl, HAka.out, HAkb.out]
      show MEnd b base vw vm vi (.slice qL nL cL) (.slice iq I.length ic) (.slice (some ⟨gr, 0, none⟩) 4 rc) (.slice mq M.length mc) (.slice sq S.length sc) (.slice oq O.length oc) w (.int .i64 (0)) ⟨pc, R.set ka (binM c vw R[ka] R[kb]), M, S, inn, O, cd, st⟩ (nx) _ _
      have hb9 := (Below.refl w0.heap.size w0).drew.drew
      exact m_poke (W := w0.drew.drew) (MR.out.keep hb9) (OR.out.keep hb9) (A0.out.trans (Apart.of_below hb9)) ka (binM c vw R[ka] R[kb]) HW.out _
  · have hq : (R[kb] == 0) = false := by simpa using hz
    rw [if_neg (fun h => hz h.2)] at hwy
    clear hz
    go_upto_region 4 with fail
    have CH : Hid (w0.drew.drew.cell? ⟨b, 0, none⟩ = some (.int .i64 vw) ∧ w0.drew.drew.cell? ⟨w.heap.size, 1, none⟩ = some (.int .i64 (ka : Int)) ∧ w0.drew.drew.cell? ⟨w.heap.size, 3, none⟩ = some (.int .i64 c)) := Lib.hid ⟨by assumption, by assumption, by assumption⟩
    refine region_s [] (fun V => V.cell? ⟨b, 0, none⟩ = some (.int .i64 vw) ∧ V.cell? ⟨w.heap.size, 1, none⟩ = some (.int .i64 (ka : Int)) ∧ V.cell? ⟨w.heap.size, 3, none⟩ = some (.int .i64 c)) (by kernel_rfl) ?_
    refine take_s (i := 0) (v := .pointer (some ⟨b, 0, none⟩)) rfl (by kernel_rfl) (fun _ _ _ h => h) CH.out rfl (fun V hV => ?_) ?_
    · go_simp
    refine take_s (i := 1) (v := .pointer (some ⟨w.heap.size, 1, none⟩)) rfl (by kernel_rfl) (fun _ _ _ h => h) CH.out rfl (fun V hV => ?_) ?_
    · go_simp
    refine take_s (i := 2) (v := .int .i64 (ka : Int)) rfl (by kernel_rfl) (fun _ _ _ h => h) CH.out rfl (fun V hV => ?_) ?_
    · obtain ⟨t0, t1, t2⟩ := hV; go_simp
    refine take_s (i := 3) (v := .pointer (some ⟨w.heap.size, 3, none⟩)) rfl (by kernel_rfl) (fun _ _ _ h => h) CH.out rfl (fun V hV => ?_) ?_
    · go_simp
    refine take_s (i := 4) (v := .int .i64 c) rfl (by kernel_rfl) (fun _ _ _ h => h) CH.out rfl (fun V hV => ?_) ?_
    · obtain ⟨t0, t1, t2⟩ := hV; go_simp
    refine take_s (i := 5) (v := .pointer (some ⟨b, 0, none⟩)) rfl (by kernel_rfl) (fun _ _ _ h => h) CH.out rfl (fun V hV => ?_) ?_
    · go_simp
    refine take_s (i := 6) (v := .pointer (some ⟨b, 0, none⟩)) rfl (by kernel_rfl) (fun _ _ _ h => h) CH.out rfl (fun V hV => ?_) ?_
    · go_simp
    refine take_s (i := 7) (v := .pointer (some ⟨b, 0, none⟩)) rfl (by kernel_rfl) (fun _ _ _ h => h) CH.out rfl (fun V hV => ?_) ?_
    · go_simp
    refine take_s (i := 8) (v := .pointer (some ⟨b, 0, none⟩)) rfl (by kernel_rfl) (fun _ _ _ h => h) CH.out rfl (fun V hV => ?_) ?_
    · go_simp
    refine take_s (i := 9) (v := .int .i64 vw) rfl (by kernel_rfl) (fun _ _ _ h => h) CH.out rfl (fun V hV => ?_) ?_
    · obtain ⟨t0, t1, t2⟩ := hV; go_simp
    refine take_s (i := 10) (v := .int .i64 R[ka]) rfl (by kernel_rfl) (fun _ _ _ h => h) CH.out rfl (fun V hV => ?_) ?_
    · go_simp
    refine take_s (i := 11) (v := .int .i64 R[kb]) rfl (by kernel_rfl) (fun _ _ _ h => h) CH.out rfl (fun V hV => ?_) ?_
    · go_simp
    refine one_s (i := 12) (by kernel_rfl) (op_list rfl ?_)
    go_wp2_with fail
    refine (KB.out _).mono ?_
    rintro e w8 ⟨rfl, rfl⟩
    go_wp2
    refine ⟨fun _ => CH.out, ?_⟩
    refine one_s (i := 13) (by kernel_rfl) (op_list rfl ?_)
    go_wp2_with fail
    refine (KP.out (binM c vw R[ka] R[kb]) (w0.drew.drew) (by simpa using hbs0) m6 cka zka).mono ?_
    rintro e w9 ⟨rfl, hw9⟩
    have HW := Lib.hid hw9
    have CP := Lib.hid (show w9.cell? ⟨b, 0, none⟩ = some (.int .i64 vw) ∧ w9.cell? ⟨w.heap.size, 1, none⟩ = some (.int .i64 (ka : Int)) ∧ w9.cell? ⟨w.heap.size, 3, none⟩ = some (.int .i64 c) from by obtain ⟨t0, t1, t2⟩ := CH.out; rw [hw9]; exact ⟨(World.cell?_of_block (heap_setCell_other (w0.drew.drew) ⟨gr, ka, none⟩ (b) _ (fun h => by have h : b = gr := h; omega))).trans t0, (World.cell?_of_block (heap_setCell_other (w0.drew.drew) ⟨gr, ka, none⟩ (w.heap.size) _ (fun h => by have h : w.heap.size = gr := h; omega))).trans t1, (World.cell?_of_block (heap_setCell_other (w0.drew.drew) ⟨gr, ka, none⟩ (w.heap.size) _ (fun h => by have h : w.heap.size = gr := h; omega))).trans t2⟩)
    clear hw9
    go_wp2
    refine ⟨fun _ => CP.out, ?_⟩
    refine one_s (i := 14) (by kernel_rfl) (op_list rfl ?_)
    go_wp2
    refine ⟨fun _ => CP.out, done_s (by kernel_rfl) ?_ _⟩
    go_wp2
    go_ret
    rw [show doX vw I ⟨pc, R, M, S, inn, O, cd, st⟩ nx ⟨3, (ka : Int), (kb : Int), c⟩ = ⟨pc, R.set ka (binM c vw (atI R (ka : Int)) (atI R (kb : Int))), M, S, inn, O, cd, st⟩ from rfl, HAka.out, HAkb.out]
    show MEnd b base vw vm vi (.slice qL nL cL) (.slice iq I.length ic) (.slice (some ⟨gr, 0, none⟩) 4 rc) (.slice mq M.length mc) (.slice sq S.length sc) (.slice oq O.length oc) w (.int .i64 (0)) ⟨pc, R.set ka (binM c vw R[ka] R[kb]), M, S, inn, O, cd, st⟩ (nx) _ _
    have hb9 := (Below.refl w0.heap.size w0).drew.drew
    exact m_poke (W := w0.drew.drew) (MR.out.keep hb9) (OR.out.keep hb9) (A0.out.trans (Apart.of_below hb9)) ka (binM c vw R[ka] R[kb]) HW.out _
set_option maxRecDepth 100000 in
set_option maxHeartbeats 8000000 in
theorem d_input : DoesIt 93 5 := by
  intro vw vm vi n qL nL cL iq ic I x r m s o nx a b' c b base w hw2 hw8 hv3 hG hI hli hbb hM0 hO0 hi
  obtain ⟨pc, R, M, S, inn, O, cd, st⟩ := x
  have hR : R.length = 4 := hG.hR
  have hS3 : S.length ≤ 3 := hG.hS
  have hO6 : O.length ≤ 6 := hG.hO
  have HI := Lib.hid hI
  have HG := Lib.hid hG
  have hinn : 0 ≤ inn ∧ inn ≤ vi := hG.inn
  have HMV := Lib.hid (show (M.length : Int) = vm from hG.hM)
  obtain ⟨gr, rc, rfl⟩ : ∃ g c, r = .slice (some ⟨g, 0, none⟩) 4 c := by have := own_some hO0.1 (show 0 < R.length by omega); rw [show (StR.mk pc R M S inn O cd st).R.length = 4 from hR] at this; exact this
  have hM1 : 1 ≤ vm ∨ vm ≤ 0 := by omega
  obtain ⟨mq, mc, rfl⟩ := own_slice hO0.2.1
  obtain ⟨sq, sc, rfl⟩ := own_slice hO0.2.2.1
  obtain ⟨oq, oc, rfl⟩ := own_slice hO0.2.2.2.1
  clear hM1
  obtain ⟨hop, hA, hB, hC⟩ := ins_parts hi
  simp only at hop hA hB hC
  have hgr : gr < w.heap.size := (hO0.lt (g := gr) (by simp [StB, Value.ownBlock])).2
  have hbs : b < w.heap.size := row_lt hM0
  have hne : gr ≠ b := fun e => hM0.off hO0 (by rw [← e]; simp [StB, Value.ownBlock])
  obtain ⟨w0, hw0⟩ : ∃ w0, w0 = w.alloc (.cells #[.int .i64 5, .int .i64 a, .int .i64 b', .int .i64 c] 77) := ⟨_, rfl⟩
  have HB := Lib.hid (show Below w.heap.size w w0 by rw [hw0]; exact (Below.refl _ _).alloc (Nat.le_refl _) _)
  have hs0 : w.heap.size < w0.heap.size := by rw [hw0]; simp
  have IR := Lib.hid (show w0.heap[w.heap.size]? = some (.cells #[.int .i64 5, .int .i64 a, .int .i64 b', .int .i64 c] 77 (0, 0)) by rw [hw0]; exact heap_alloc_new _ _)
  have MR := Lib.hid (hM0.keep HB.out)
  have OR := Lib.hid (hO0.keep HB.out)
  have A0 := Lib.hid (Apart.of_below (bs := b :: StB (.slice (some ⟨gr, 0, none⟩) 4 rc) (.slice mq M.length mc) (.slice sq S.length sc) (.slice oq O.length oc)) HB.out)
  have HM0 := Lib.hid hM0
  have HO0 := Lib.hid hO0
  have hgr0 : gr < w0.heap.size := by omega
  have hbs0 : b < w0.heap.size := by omega
  clear hG hI hi hM0 hO0
  obtain ⟨ka, hpka⟩ : ∃ j : Nat, a = j := ⟨a.toNat, by have := reg_of hA; omega⟩
  have hka : ka < 4 := by have := reg_of hA; omega
  have hkai : (ka : Int) < 4 := by omega
  have hwka := HG.out.reg (reg_of hA)
  subst hpka
  have hkaR : ka < R.length := by omega
  obtain ⟨cka, zka⟩ := own_cell2 OR.out.1 ka (show ka < R.length by omega)
  have HAka := Lib.hid (atI_nat R ka (by omega))
  have hwy : whyV vm vi ⟨pc, R, M, S, inn, O, cd, st⟩ ⟨5, (ka : Int), b', c⟩ = if inn = vi then 3 else 0 := rfl
  have KP := Lib.hid (fun v W h1 h2 h3 h4 => i_mput b gr rc ka v (R[ka]'hkaR) W h1 h2 hka h3 h4)
  by_cases hz : inn = vi
  · rw [if_pos hz] at hwy
    rw [hwy, if_neg (by decide), if_neg (by decide)]
    have hq : (inn == (I.length : Int)) = true := by have := HI.out.1; simp; omega
    clear hz hwy
    go_enter Try.func93, Try.ntmps93
    go_upto_region 1 with fail
    rw [← hw0]
    clear hw0
    obtain ⟨m0, m1, m2, m3, m4, m5, m6, m7, m8, m9, m10, m11, m12, m13⟩ := mcells MR.out
    obtain ⟨i0, i1, i2, i3⟩ := cell4_row IR.out
    go_wp2
    go_ret
    exact m_same HM0.out HO0.out HB.out _
  · rw [if_neg hz] at hwy
    rw [hwy, if_pos rfl, if_pos rfl]
    have hq : (inn == (I.length : Int)) = false := by have := HI.out.1; simp; omega
    obtain ⟨ki, hki⟩ : ∃ j : Nat, inn = j := ⟨inn.toNat, by omega⟩
    have hkl : ki < I.length := by have := HI.out.1; omega
    have hkli : (ki : Int) < (I.length : Int) := by omega
    subst hki
    have HAi := Lib.hid (atI_nat I ki hkl)
    obtain ⟨bi, oi, rfl, hbi, hbil, hci⟩ := hli ki hkl
    have hbib : bi ≠ b := by omega
    clear hz hwy hli
    go_enter Try.func93, Try.ntmps93
    go_upto_region 1 with fail
    rw [← hw0]
    clear hw0
    obtain ⟨m0, m1, m2, m3, m4, m5, m6, m7, m8, m9, m10, m11, m12, m13⟩ := mcells MR.out
    obtain ⟨f5, f8, f9, f10, f11, f12, f13⟩ := mfroz MR.out
    obtain ⟨i0, i1, i2, i3⟩ := cell4_row IR.out
    have hki4 : (ki : Int) + 1 ≤ 9223372036854775807 := by omega
    go_upto_region 5 with fail
    clear m0 m1 m2 m3 m4 m5 m6 m7 m8 m9 m10 m11 m12 m13 f5 f8 f9 f10 f11 f12 f13 i0 i1 i2 i3 cka zka
    obtain ⟨w1, hw1⟩ : ∃ W9, W9 = w0.setCell ⟨b, 9, none⟩ (.int .i64 ((ki : Int) + 1)) := ⟨_, rfl⟩
    have MR1 : Hid (MRow w1 b vw vm vi (.slice qL nL cL) (.slice (some ⟨bi, oi, none⟩) I.length ic) ⟨pc, R, M, S, (ki : Int) + 1, O, cd, st⟩ (.slice (some ⟨gr, 0, none⟩) 4 rc) (.slice mq M.length mc) (.slice sq S.length sc) (.slice oq O.length oc) nx) := Lib.hid (by rw [hw1]; exact MR.out.inn _)
    have OR1 : Hid (StO w1 base ⟨pc, R, M, S, (ki : Int) + 1, O, cd, st⟩ (.slice (some ⟨gr, 0, none⟩) 4 rc) (.slice mq M.length mc) (.slice sq S.length sc) (.slice oq O.length oc)) := Lib.hid (by rw [hw1]; exact (OR.out.aside (MR.out.off OR.out) 9 _).like rfl rfl rfl rfl)
    have A1 := Lib.hid (show Apart (b :: StB (.slice (some ⟨gr, 0, none⟩) 4 rc) (.slice mq M.length mc) (.slice sq S.length sc) (.slice oq O.length oc)) w w1 by rw [hw1]; exact A0.out.setCell (List.mem_cons_self ..) _)
    have IR1 := Lib.hid (show w1.heap[w.heap.size]? = some (.cells #[.int .i64 5, .int .i64 (ka : Int), .int .i64 b', .int .i64 c] 77 (0, 0)) by rw [hw1, heap_setCell_other _ _ _ _ (fun h => by have h : w.heap.size = b := h; omega)]; exact IR.out)
    have hci1 : w1.cell? ⟨bi, oi + ki, none⟩ = some (.int .i64 I[ki]) := by
      rw [hw1, World.cell?_of_block (w := w0) (heap_setCell_other w0 ⟨b, 9, none⟩ bi _ hbib)]
      exact (HB.out.cell (p := ⟨bi, oi + ki, none⟩) hbil).trans hci
    have hbs1 : b < w1.heap.size := by rw [hw1]; simpa using hbs0
    have hbi1 : bi < w1.heap.size := World.block_lt_of_cell? _ _ hci1
    rw [← hw1]
    clear hw1 hci
    obtain ⟨cka, zka⟩ := own_cell2 OR1.out.1 ka hkaR
    obtain ⟨m0, m1, m2, m3, m4, m5, m6, m7, m8, m9, m10, m11, m12, m13⟩ := mcells MR1.out
    obtain ⟨i0, i1, i2, i3⟩ := cell4_row IR1.out
    have hgr1 : gr < w1.heap.size := World.block_lt_of_cell? _ _ cka
    go_still_tail 10, (by kernel_rfl)
    go_wp2_with fail
    refine (KP.out I[ki] w1.drew hbs1 m6 cka zka).mono ?_
    rintro e w9 ⟨rfl, hw9⟩
    have HW := Lib.hid hw9
    clear hw9
    go_wp2
    go_ret
    rw [show doX vw I ⟨pc, R, M, S, (ki : Int), O, cd, st⟩ nx ⟨5, (ka : Int), b', c⟩ = ⟨pc, R.set ka (atI I (ki : Int)), M, S, (ki : Int) + 1, O, cd, st⟩ from rfl, HAi.out]
    have hb9 := (Below.refl w1.heap.size w1).drew
    exact m_poke (W := w1.drew) (MR1.out.keep hb9) (OR1.out.keep hb9) (A1.out.trans (Apart.of_below hb9)) ka I[ki] HW.out _
set_option maxRecDepth 100000 in
set_option maxHeartbeats 8000000 in
theorem d_jump : DoesIt 97 9 := by
  intro vw vm vi n qL nL cL iq ic I x r m s o nx a b' c b base w hw2 hw8 hv3 hG hI hli hbb hM0 hO0 hi
  obtain ⟨pc, R, M, S, inn, O, cd, st⟩ := x
  have hR : R.length = 4 := hG.hR
  have hS3 : S.length ≤ 3 := hG.hS
  have hO6 : O.length ≤ 6 := hG.hO
  have HI := Lib.hid hI
  have HG := Lib.hid hG
  have hinn : 0 ≤ inn ∧ inn ≤ vi := hG.inn
  have HMV := Lib.hid (show (M.length : Int) = vm from hG.hM)
  obtain ⟨gr, rc, rfl⟩ : ∃ g c, r = .slice (some ⟨g, 0, none⟩) 4 c := by have := own_some hO0.1 (show 0 < R.length by omega); rw [show (StR.mk pc R M S inn O cd st).R.length = 4 from hR] at this; exact this
  have hM1 : 1 ≤ vm ∨ vm ≤ 0 := by omega
  obtain ⟨mq, mc, rfl⟩ := own_slice hO0.2.1
  obtain ⟨sq, sc, rfl⟩ := own_slice hO0.2.2.1
  obtain ⟨oq, oc, rfl⟩ := own_slice hO0.2.2.2.1
  clear hM1
  obtain ⟨hop, hA, hB, hC⟩ := ins_parts hi
  simp only at hop hA hB hC
  have hgr : gr < w.heap.size := (hO0.lt (g := gr) (by simp [StB, Value.ownBlock])).2
  have hbs : b < w.heap.size := row_lt hM0
  have hne : gr ≠ b := fun e => hM0.off hO0 (by rw [← e]; simp [StB, Value.ownBlock])
  obtain ⟨w0, hw0⟩ : ∃ w0, w0 = w.alloc (.cells #[.int .i64 9, .int .i64 a, .int .i64 b', .int .i64 c] 77) := ⟨_, rfl⟩
  have HB := Lib.hid (show Below w.heap.size w w0 by rw [hw0]; exact (Below.refl _ _).alloc (Nat.le_refl _) _)
  have hs0 : w.heap.size < w0.heap.size := by rw [hw0]; simp
  have IR := Lib.hid (show w0.heap[w.heap.size]? = some (.cells #[.int .i64 9, .int .i64 a, .int .i64 b', .int .i64 c] 77 (0, 0)) by rw [hw0]; exact heap_alloc_new _ _)
  have MR := Lib.hid (hM0.keep HB.out)
  have OR := Lib.hid (hO0.keep HB.out)
  have A0 := Lib.hid (Apart.of_below (bs := b :: StB (.slice (some ⟨gr, 0, none⟩) 4 rc) (.slice mq M.length mc) (.slice sq S.length sc) (.slice oq O.length oc)) HB.out)
  have HM0 := Lib.hid hM0
  have HO0 := Lib.hid hO0
  have hgr0 : gr < w0.heap.size := by omega
  have hbs0 : b < w0.heap.size := by omega
  clear hG hI hi hM0 hO0
  clear hli
  have hwy : whyV vm vi ⟨pc, R, M, S, inn, O, cd, st⟩ ⟨9, a, b', c⟩ = 0 := rfl
  rw [hwy, if_pos rfl, if_pos rfl]
  clear hwy
  go_enter Try.func97, Try.ntmps97
  go_upto_region 1 with fail
  rw [← hw0]
  clear hw0
  obtain ⟨m0, m1, m2, m3, m4, m5, m6, m7, m8, m9, m10, m11, m12, m13⟩ := mcells MR.out
  obtain ⟨f5, f8, f9, f10, f11, f12, f13⟩ := mfroz MR.out
  obtain ⟨i0, i1, i2, i3⟩ := cell4_row IR.out
  go_wp2
  go_ret
  exact ⟨rfl, _, _, _, _, MR.out.next b', OR.out.aside (MR.out.off OR.out) 13 _, A0.out.setCell (List.mem_cons_self ..) _, fun _ hg => .inl hg⟩
set_option maxRecDepth 100000 in
set_option maxHeartbeats 8000000 in
theorem d_check : DoesIt 101 13 := by
  intro vw vm vi n qL nL cL iq ic I x r m s o nx a b' c b base w hw2 hw8 hv3 hG hI hli hbb hM0 hO0 hi
  obtain ⟨pc, R, M, S, inn, O, cd, st⟩ := x
  have hR : R.length = 4 := hG.hR
  have hS3 : S.length ≤ 3 := hG.hS
  have hO6 : O.length ≤ 6 := hG.hO
  have HI := Lib.hid hI
  have HG := Lib.hid hG
  have hinn : 0 ≤ inn ∧ inn ≤ vi := hG.inn
  have HMV := Lib.hid (show (M.length : Int) = vm from hG.hM)
  obtain ⟨gr, rc, rfl⟩ : ∃ g c, r = .slice (some ⟨g, 0, none⟩) 4 c := by have := own_some hO0.1 (show 0 < R.length by omega); rw [show (StR.mk pc R M S inn O cd st).R.length = 4 from hR] at this; exact this
  have hM1 : 1 ≤ vm ∨ vm ≤ 0 := by omega
  obtain ⟨mq, mc, rfl⟩ := own_slice hO0.2.1
  obtain ⟨sq, sc, rfl⟩ := own_slice hO0.2.2.1
  obtain ⟨oq, oc, rfl⟩ := own_slice hO0.2.2.2.1
  clear hM1
  obtain ⟨hop, hA, hB, hC⟩ := ins_parts hi
  simp only at hop hA hB hC
  have hgr : gr < w.heap.size := (hO0.lt (g := gr) (by simp [StB, Value.ownBlock])).2
  have hbs : b < w.heap.size := row_lt hM0
  have hne : gr ≠ b := fun e => hM0.off hO0 (by rw [← e]; simp [StB, Value.ownBlock])
  obtain ⟨w0, hw0⟩ : ∃ w0, w0 = w.alloc (.cells #[.int .i64 13, .int .i64 a, .int .i64 b', .int .i64 c] 77) := ⟨_, rfl⟩
  have HB := Lib.hid (show Below w.heap.size w w0 by rw [hw0]; exact (Below.refl _ _).alloc (Nat.le_refl _) _)
  have hs0 : w.heap.size < w0.heap.size := by rw [hw0]; simp
  have IR := Lib.hid (show w0.heap[w.heap.size]? = some (.cells #[.int .i64 13, .int .i64 a, .int .i64 b', .int .i64 c] 77 (0, 0)) by rw [hw0]; exact heap_alloc_new _ _)
  have MR := Lib.hid (hM0.keep HB.out)
  have OR := Lib.hid (hO0.keep HB.out)
  have A0 := Lib.hid (Apart.of_below (bs := b :: StB (.slice (some ⟨gr, 0, none⟩) 4 rc) (.slice mq M.length mc) (.slice sq S.length sc) (.slice oq O.length oc)) HB.out)
  have HM0 := Lib.hid hM0
  have HO0 := Lib.hid hO0
  have hgr0 : gr < w0.heap.size := by omega
  have hbs0 : b < w0.heap.size := by omega
  clear hG hI hi hM0 hO0
  clear hli
  obtain ⟨ka, hpka⟩ : ∃ j : Nat, a = j := ⟨a.toNat, by have := reg_of hA; omega⟩
  have hka : ka < 4 := by have := reg_of hA; omega
  have hkai : (ka : Int) < 4 := by omega
  have hwka := HG.out.reg (reg_of hA)
  subst hpka
  have hkaR : ka < R.length := by omega
  obtain ⟨cka, zka⟩ := own_cell2 OR.out.1 ka (show ka < R.length by omega)
  have HAka := Lib.hid (atI_nat R ka (by omega))
  have hwy : whyV vm vi ⟨pc, R, M, S, inn, O, cd, st⟩ ⟨13, (ka : Int), b', c⟩ = if atI R (ka : Int) = 0 then 8 else 0 := rfl
  rw [HAka.out] at hwy
  by_cases hz : R[ka] = 0
  · rw [if_pos hz] at hwy
    rw [hwy, if_neg (by decide), if_neg (by decide)]
    have hq : (R[ka] == 0) = true := by simpa using hz
    clear hz hwy
    go_enter Try.func101, Try.ntmps101
    go_upto_region 1 with fail
    rw [← hw0]
    clear hw0
    obtain ⟨m0, m1, m2, m3, m4, m5, m6, m7, m8, m9, m10, m11, m12, m13⟩ := mcells MR.out
    obtain ⟨i0, i1, i2, i3⟩ := cell4_row IR.out
    go_region
    go_wp2
    go_ret
    exact m_same HM0.out HO0.out HB.out.drew _
  · rw [if_neg hz] at hwy
    rw [hwy, if_pos rfl, if_pos rfl]
    have hq : (R[ka] == 0) = false := by simpa using hz
    clear hz hwy
    go_enter Try.func101, Try.ntmps101
    go_upto_region 1 with fail
    rw [← hw0]
    clear hw0
    obtain ⟨m0, m1, m2, m3, m4, m5, m6, m7, m8, m9, m10, m11, m12, m13⟩ := mcells MR.out
    obtain ⟨i0, i1, i2, i3⟩ := cell4_row IR.out
    go_region
    go_wp2
    go_ret
    exact m_same HM0.out HO0.out HB.out.drew _
set_option maxRecDepth 100000 in
set_option maxHeartbeats 8000000 in
theorem d_halt : DoesIt 102 14 := by
  intro vw vm vi n qL nL cL iq ic I x r m s o nx a b' c b base w hw2 hw8 hv3 hG hI hli hbb hM0 hO0 hi
  obtain ⟨pc, R, M, S, inn, O, cd, st⟩ := x
  have hR : R.length = 4 := hG.hR
  have hS3 : S.length ≤ 3 := hG.hS
  have hO6 : O.length ≤ 6 := hG.hO
  have HI := Lib.hid hI
  have HG := Lib.hid hG
  have hinn : 0 ≤ inn ∧ inn ≤ vi := hG.inn
  have HMV := Lib.hid (show (M.length : Int) = vm from hG.hM)
  obtain ⟨gr, rc, rfl⟩ : ∃ g c, r = .slice (some ⟨g, 0, none⟩) 4 c := by have := own_some hO0.1 (show 0 < R.length by omega); rw [show (StR.mk pc R M S inn O cd st).R.length = 4 from hR] at this; exact this
  have hM1 : 1 ≤ vm ∨ vm ≤ 0 := by omega
  obtain ⟨mq, mc, rfl⟩ := own_slice hO0.2.1
  obtain ⟨sq, sc, rfl⟩ := own_slice hO0.2.2.1
  obtain ⟨oq, oc, rfl⟩ := own_slice hO0.2.2.2.1
  clear hM1
  obtain ⟨hop, hA, hB, hC⟩ := ins_parts hi
  simp only at hop hA hB hC
  have hgr : gr < w.heap.size := (hO0.lt (g := gr) (by simp [StB, Value.ownBlock])).2
  have hbs : b < w.heap.size := row_lt hM0
  have hne : gr ≠ b := fun e => hM0.off hO0 (by rw [← e]; simp [StB, Value.ownBlock])
  obtain ⟨w0, hw0⟩ : ∃ w0, w0 = w.alloc (.cells #[.int .i64 14, .int .i64 a, .int .i64 b', .int .i64 c] 77) := ⟨_, rfl⟩
  have HB := Lib.hid (show Below w.heap.size w w0 by rw [hw0]; exact (Below.refl _ _).alloc (Nat.le_refl _) _)
  have hs0 : w.heap.size < w0.heap.size := by rw [hw0]; simp
  have IR := Lib.hid (show w0.heap[w.heap.size]? = some (.cells #[.int .i64 14, .int .i64 a, .int .i64 b', .int .i64 c] 77 (0, 0)) by rw [hw0]; exact heap_alloc_new _ _)
  have MR := Lib.hid (hM0.keep HB.out)
  have OR := Lib.hid (hO0.keep HB.out)
  have A0 := Lib.hid (Apart.of_below (bs := b :: StB (.slice (some ⟨gr, 0, none⟩) 4 rc) (.slice mq M.length mc) (.slice sq S.length sc) (.slice oq O.length oc)) HB.out)
  have HM0 := Lib.hid hM0
  have HO0 := Lib.hid hO0
  have hgr0 : gr < w0.heap.size := by omega
  have hbs0 : b < w0.heap.size := by omega
  clear hG hI hi hM0 hO0
  clear hli
  have hwy : whyV vm vi ⟨pc, R, M, S, inn, O, cd, st⟩ ⟨14, a, b', c⟩ = 1 := rfl
  rw [hwy, if_neg (by decide), if_neg (by decide)]
  clear hwy
  go_enter Try.func102, Try.ntmps102
  go_upto_region 1 with fail
  rw [← hw0]
  clear hw0
  go_wp2
  go_ret
  exact m_same HM0.out HO0.out HB.out _
set_option maxRecDepth 100000 in
set_option maxHeartbeats 8000000 in
theorem d_zero : DoesIt 98 10 := by
  intro vw vm vi n qL nL cL iq ic I x r m s o nx a b' c b base w hw2 hw8 hv3 hG hI hli hbb hM0 hO0 hi
  obtain ⟨pc, R, M, S, inn, O, cd, st⟩ := x
  have hR : R.length = 4 := hG.hR
  have hS3 : S.length ≤ 3 := hG.hS
  have hO6 : O.length ≤ 6 := hG.hO
  have HI := Lib.hid hI
  have HG := Lib.hid hG
  have hinn : 0 ≤ inn ∧ inn ≤ vi := hG.inn
  have HMV := Lib.hid (show (M.length : Int) = vm from hG.hM)
  obtain ⟨gr, rc, rfl⟩ : ∃ g c, r = .slice (some ⟨g, 0, none⟩) 4 c := by have := own_some hO0.1 (show 0 < R.length by omega); rw [show (StR.mk pc R M S inn O cd st).R.length = 4 from hR] at this; exact this
  have hM1 : 1 ≤ vm ∨ vm ≤ 0 := by omega
  obtain ⟨mq, mc, rfl⟩ := own_slice hO0.2.1
  obtain ⟨sq, sc, rfl⟩ := own_slice hO0.2.2.1
  obtain ⟨oq, oc, rfl⟩ := own_slice hO0.2.2.2.1
  clear hM1
  obtain ⟨hop, hA, hB, hC⟩ := ins_parts hi
  simp only at hop hA hB hC
  have hgr : gr < w.heap.size := (hO0.lt (g := gr) (by simp [StB, Value.ownBlock])).2
  have hbs : b < w.heap.size := row_lt hM0
  have hne : gr ≠ b := fun e => hM0.off hO0 (by rw [← e]; simp [StB, Value.ownBlock])
  obtain ⟨w0, hw0⟩ : ∃ w0, w0 = w.alloc (.cells #[.int .i64 10, .int .i64 a, .int .i64 b', .int .i64 c] 77) := ⟨_, rfl⟩
  have HB := Lib.hid (show Below w.heap.size w w0 by rw [hw0]; exact (Below.refl _ _).alloc (Nat.le_refl _) _)
  have hs0 : w.heap.size < w0.heap.size := by rw [hw0]; simp
  have IR := Lib.hid (show w0.heap[w.heap.size]? = some (.cells #[.int .i64 10, .int .i64 a, .int .i64 b', .int .i64 c] 77 (0, 0)) by rw [hw0]; exact heap_alloc_new _ _)
  have MR := Lib.hid (hM0.keep HB.out)
  have OR := Lib.hid (hO0.keep HB.out)
  have A0 := Lib.hid (Apart.of_below (bs := b :: StB (.slice (some ⟨gr, 0, none⟩) 4 rc) (.slice mq M.length mc) (.slice sq S.length sc) (.slice oq O.length oc)) HB.out)
  have HM0 := Lib.hid hM0
  have HO0 := Lib.hid hO0
  have hgr0 : gr < w0.heap.size := by omega
  have hbs0 : b < w0.heap.size := by omega
  clear hG hI hi hM0 hO0
  clear hli
  have hi10 : insB ⟨9, a, b', c⟩ vw n = true ∨ True := .inr trivial
  clear hi10
  obtain ⟨ka, hpka⟩ : ∃ j : Nat, a = j := ⟨a.toNat, by have := reg_of hA; omega⟩
  have hka : ka < 4 := by have := reg_of hA; omega
  have hkai : (ka : Int) < 4 := by omega
  have hwka := HG.out.reg (reg_of hA)
  subst hpka
  have hkaR : ka < R.length := by omega
  obtain ⟨cka, zka⟩ := own_cell2 OR.out.1 ka (show ka < R.length by omega)
  have HAka := Lib.hid (atI_nat R ka (by omega))
  have hwy : whyV vm vi ⟨pc, R, M, S, inn, O, cd, st⟩ ⟨10, (ka : Int), b', c⟩ = 0 := rfl
  rw [hwy, if_pos rfl, if_pos rfl]
  clear hwy
  by_cases hz : R[ka] = 0
  · have hq : (R[ka] != 0) = false := by simpa using hz
    have hx : doN ⟨pc, R, M, S, inn, O, cd, st⟩ nx ⟨10, (ka : Int), b', c⟩ = b' := by show (if atI R (ka : Int) = 0 then b' else nx) = b'; rw [HAka.out, if_pos hz]
    rw [hx]
    clear hz hx
    go_enter Try.func98, Try.ntmps98
    go_upto_region 1 with fail
    rw [← hw0]
    clear hw0
    obtain ⟨m0, m1, m2, m3, m4, m5, m6, m7, m8, m9, m10, m11, m12, m13⟩ := mcells MR.out
    obtain ⟨i0, i1, i2, i3⟩ := cell4_row IR.out
    go_region
    go_wp2_with fail
    refine (i_jump10 (ka : Int) b' c b base vw vm vi _ _ _ _ _ _ _ nx _ (MR.out.keep (Below.refl w0.heap.size w0).drew) (OR.out.keep (Below.refl w0.heap.size w0).drew)).mono ?_
    rintro e w9 ⟨rfl, r', m', s', o', hM9, hO9, hA9, hs9⟩
    go_wp2
    go_ret
    exact ⟨rfl, r', m', s', o', hM9, hO9, (A0.out.trans (Apart.of_below (Below.refl w0.heap.size w0).drew)).trans hA9, fun g hg => (hs9 g hg).imp id (fun h => Nat.le_trans (Nat.le_of_lt hs0) (by simpa using h))⟩
  · have hq : (R[ka] != 0) = true := by simpa using hz
    have hx : doN ⟨pc, R, M, S, inn, O, cd, st⟩ nx ⟨10, (ka : Int), b', c⟩ = nx := by show (if atI R (ka : Int) = 0 then b' else nx) = nx; rw [HAka.out, if_neg hz]
    rw [hx]
    clear hz hx
    go_enter Try.func98, Try.ntmps98
    go_upto_region 1 with fail
    rw [← hw0]
    clear hw0
    obtain ⟨m0, m1, m2, m3, m4, m5, m6, m7, m8, m9, m10, m11, m12, m13⟩ := mcells MR.out
    obtain ⟨i0, i1, i2, i3⟩ := cell4_row IR.out
    go_region
    go_wp2
    go_ret
    exact m_same HM0.out HO0.out HB.out.drew _
end Go.Proofs.Ytmmcpjdcfhgkiaa
