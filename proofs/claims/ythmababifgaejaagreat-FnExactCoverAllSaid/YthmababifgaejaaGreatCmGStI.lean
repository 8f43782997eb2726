/- What a step of the program's machine does. No condition. What the program's allAccepted returns. No condition. -/
import Derived.Test.YthmababifgaejaaGreatCmStDa
import Derived.Test.YthmababifgaejaaGreatCmPrI
import Derived.Test.YthmababifgaejaaGreatCmGFlInt
namespace Go.Proofs.YthmababifgaejaaGreat
open Go.ChangeShapes Go.WideShapes Go.ChangeAt Go.RowKit
theorem cf_set (a : Array Value) (W : World) : (callFunc 82 a).run Tryz.prog W = .ok (.enter 82 a) W := by kernel_rfl
theorem cf_move (a : Array Value) (W : World) : (callFunc 83 a).run Tryz.prog W = .ok (.enter 83 a) W := by kernel_rfl
theorem cf_operate (a : Array Value) (W : World) : (callFunc 84 a).run Tryz.prog W = .ok (.enter 84 a) W := by kernel_rfl
theorem cf_not (a : Array Value) (W : World) : (callFunc 85 a).run Tryz.prog W = .ok (.enter 85 a) W := by kernel_rfl
theorem cf_input (a : Array Value) (W : World) : (callFunc 86 a).run Tryz.prog W = .ok (.enter 86 a) W := by kernel_rfl
theorem cf_output (a : Array Value) (W : World) : (callFunc 87 a).run Tryz.prog W = .ok (.enter 87 a) W := by kernel_rfl
theorem cf_load (a : Array Value) (W : World) : (callFunc 88 a).run Tryz.prog W = .ok (.enter 88 a) W := by kernel_rfl
theorem cf_store (a : Array Value) (W : World) : (callFunc 89 a).run Tryz.prog W = .ok (.enter 89 a) W := by kernel_rfl
theorem cf_jump (a : Array Value) (W : World) : (callFunc 90 a).run Tryz.prog W = .ok (.enter 90 a) W := by kernel_rfl
theorem cf_zero (a : Array Value) (W : World) : (callFunc 91 a).run Tryz.prog W = .ok (.enter 91 a) W := by kernel_rfl
theorem cf_call (a : Array Value) (W : World) : (callFunc 92 a).run Tryz.prog W = .ok (.enter 92 a) W := by kernel_rfl
theorem cf_ret (a : Array Value) (W : World) : (callFunc 93 a).run Tryz.prog W = .ok (.enter 93 a) W := by kernel_rfl
theorem cf_check (a : Array Value) (W : World) : (callFunc 94 a).run Tryz.prog W = .ok (.enter 94 a) W := by kernel_rfl
theorem cf_halt (a : Array Value) (W : World) : (callFunc 95 a).run Tryz.prog W = .ok (.enter 95 a) W := by kernel_rfl
/-- the form of an instruction: its function does it -/
theorem form_does {op : Int} (h1 : 1 ≤ op) (h2 : op ≤ 14) : ∃ nm F, formV op = .agg #[.string nm, .int .i64 (fA op), .int .i64 (fB op), .int .i64 (fC op), .bool (fL op), .func (.func F) #[] #[]] ∧ DoesIt F op ∧ ∀ (a : Array Value) (W : World), (callFunc F a).run Tryz.prog W = .ok (.enter F a) W := by
  rcases op_cases op with rfl | rfl | rfl | rfl | rfl | rfl | rfl | rfl | rfl | rfl | rfl | rfl | rfl | rfl | hop
  · exact ⟨_, 82, rfl, d_set, cf_set⟩
  · exact ⟨_, 83, rfl, d_move, cf_move⟩
  · exact ⟨_, 84, rfl, d_operate, cf_operate⟩
  · exact ⟨_, 85, rfl, d_not, cf_not⟩
  · exact ⟨_, 86, rfl, d_input, cf_input⟩
  · exact ⟨_, 87, rfl, d_output, cf_output⟩
  · exact ⟨_, 88, rfl, d_load, cf_load⟩
  · exact ⟨_, 89, rfl, d_store, cf_store⟩
  · exact ⟨_, 90, rfl, d_jump, cf_jump⟩
  · exact ⟨_, 91, rfl, d_zero, cf_zero⟩
  · exact ⟨_, 92, rfl, d_call, cf_call⟩
  · exact ⟨_, 93, rfl, d_ret, cf_ret⟩
  · exact ⟨_, 94, rfl, d_check, cf_check⟩
  · exact ⟨_, 95, rfl, d_halt, cf_halt⟩
  · omega
theorem doX_cd (vw : Int) (I : List Int) (x : StR) (nx : Int) (r : InsR) : (doX vw I x nx r).cd = x.cd := by
  unfold doX
  repeat (first | rfl | split)
/-- the instructions lie in memory, below what a machine owns -/
def CodeAt (w : World) (base : Nat) (q : Option Addr) (L : List InsR) : Prop := ∀ j (hj : j < L.length), ∃ bo oo, q = some ⟨bo, oo, none⟩ ∧ bo < base ∧ bo < w.heap.size ∧ w.cell? ⟨bo, oo + j * 4, none⟩ = some (.int .i64 L[j].f0) ∧ w.cell? ⟨bo, oo + j * 4 + 1, none⟩ = some (.int .i64 L[j].f1) ∧ w.cell? ⟨bo, oo + j * 4 + 2, none⟩ = some (.int .i64 L[j].f2) ∧ w.cell? ⟨bo, oo + j * 4 + 3, none⟩ = some (.int .i64 L[j].f3)
theorem CodeAt.below {w w' : World} {base : Nat} {q : Option Addr} {L : List InsR} (h : CodeAt w base q L) (hb : Below base w w') : CodeAt w' base q L := fun j hj => by
  obtain ⟨bo, oo, h1, h2, h3, c0, c1, c2, c3⟩ := h j hj
  have e : ∀ o, w'.cell? ⟨bo, o, none⟩ = w.cell? ⟨bo, o, none⟩ := fun o => hb.cell (p := ⟨bo, o, none⟩) h2
  exact ⟨bo, oo, h1, h2, World.block_lt_of_cell? _ _ ((e _).trans c0), (e _).trans c0, (e _).trans c1, (e _).trans c2, (e _).trans c3⟩
set_option maxRecDepth 100000 in
set_option maxHeartbeats 16000000 in
theorem i_mstep (vw vm vi : Int) (L : List InsR) (q : Option Addr) (cap : Nat) (iq : Option Addr) (ic : Nat) (I : List Int) (x : StR) (r m s o : Value) (nx : Int) (b base : Nat) (w : World) (hp : prB vw vm vi L = true) (hG : Gd vw vm vi L.length x) (hI : (I.length : Int) = vi ∧ ∀ y ∈ I, IsW vw y) (hc : CodeAt w base q L) (hin : InAt w base iq I) (hbb : base ≤ b) (hM0 : MRow w b vw vm vi (.slice q L.length cap) (.slice iq I.length ic) x r m s o nx) (hO0 : StO w base x r m s o) :
    Calls Tryz.prog 54 #[.pointer (some ⟨b, 0, none⟩)] w fun e w' => ∃ nx', MEnd b base vw vm vi (.slice q L.length cap) (.slice iq I.length ic) r m s o w (.bool (begunB L.length x)) (stepV vw vm vi L I x) nx' e w' := by
  obtain ⟨⟨hw2, hw8, hm1, hm6, _, hi0, hi3, hl1, hl40⟩, hins⟩ := pr_in hp
  have HINS := Lib.hid hins
  obtain ⟨pc, R, M, S, inn, O, cd, st⟩ := x
  have hpc : 0 ≤ pc ∧ pc ≤ L.length := hG.pc
  have hst : 0 ≤ st ∧ st ≤ 400 := hG.st
  have HG := Lib.hid hG
  have HI := Lib.hid hI
  have HIN := Lib.hid hin
  have HC := Lib.hid hc
  obtain ⟨rq, rc, rfl⟩ := own_slice hO0.1
  obtain ⟨mq, mc, rfl⟩ := own_slice hO0.2.1
  obtain ⟨sq, sc, rfl⟩ := own_slice hO0.2.2.1
  obtain ⟨oq, oc, rfl⟩ := own_slice hO0.2.2.2.1
  have MR : Hid (w.heap[b]? = some (.cells #[.int .i64 vw, .int .i64 vm, .int .i64 vi, .slice q L.length cap, .slice iq I.length ic, .int .i64 pc, .slice rq R.length rc, .slice mq M.length mc, .slice sq S.length sc, .int .i64 inn, .slice oq O.length oc, .int .i64 cd, .int .i64 st, .int .i64 nx] 77 (0, 0))) := Lib.hid hM0
  have HM0 := Lib.hid hM0
  have HO0 := Lib.hid hO0
  have hbs : b < w.heap.size := row_ltD hM0
  obtain ⟨XR, hXR⟩ : ∃ X, stepV vw vm vi L I ⟨pc, R, M, S, inn, O, cd, st⟩ = X := ⟨_, rfl⟩
  obtain ⟨BR, hBR⟩ : ∃ B, begunB L.length ⟨pc, R, M, S, inn, O, cd, st⟩ = B := ⟨_, rfl⟩
  rw [hXR, hBR]
  clear hp hG hI hc hin hM0 hO0 hins
  obtain ⟨m0, m1, m2, m3, m4, m5, m6, m7, m8, m9, m10, m11, m12, m13⟩ := mcells MR.out
  obtain ⟨f5, f8, f9, f10, f11, f12, f13⟩ := mfroz MR.out
  by_cases hcd : cd ≠ 0 ∨ st = 400
  · have hx : XR = ⟨pc, R, M, S, inn, O, cd, st⟩ := by rw [← hXR]; unfold stepV; rw [if_pos hcd]
    have hb : BR = false := by rw [← hBR]; exact decide_eq_false (fun h => hcd.elim (fun g => g h.1) (fun g => h.2.1 g))
    subst hx hb
    clear hXR hBR
    have hq : (cd != 0) = true ∨ ((cd != 0) = false ∧ (st == 400) = true) := by
      by_cases h : cd = 0
      · exact .inr ⟨by simpa using h, by have := hcd.resolve_left (fun q => q h); simpa using this⟩
      · exact .inl (by simpa using h)
    clear hcd
    rcases hq with hq | ⟨hq, hq2⟩
    · go_enter Tryz.func54, Tryz.ntmps54
      go_wp2
      go_ret
      exact ⟨nx, m_same HM0.out HO0.out (Below.refl _ _) _⟩
    · go_enter Tryz.func54, Tryz.ntmps54
      go_wp2
      go_ret
      exact ⟨nx, m_same HM0.out HO0.out (Below.refl _ _) _⟩
  · have hcd0 : cd = 0 := by by_cases h : cd = 0; exact h; exact absurd (.inl h) hcd
    have hst4 : ¬ st = 400 := fun h => hcd (.inr h)
    subst hcd0
    have hq : ((0 : Int) != 0) = false := rfl
    have hq2 : (st == 400) = false := by simpa using hst4
    by_cases hpl : pc = L.length
    · have hx : XR = ⟨pc, R, M, S, inn, O, 2, st⟩ := by rw [← hXR]; unfold stepV; rw [if_neg hcd, if_pos hpl]
      have hb : BR = false := by rw [← hBR]; exact decide_eq_false (fun h => h.2.2 hpl)
      subst hx hb
      clear hXR hBR hcd
      have hq3 : (pc == (L.length : Int)) = true := by simpa using hpl
      clear hpl
      go_enter Tryz.func54, Tryz.ntmps54
      go_upto_region 4 with fail
      go_region
      go_wp2
      go_ret
      have hbd := (Below.refl w.heap.size w).drew
      have MM := (HM0.out.keep hbd).cd 2
      refine ⟨nx, rfl, _, _, _, _, MM, ((HO0.out.keep hbd).aside ((HM0.out.keep hbd).off (HO0.out.keep hbd)) 11 _).like rfl rfl rfl rfl, (Apart.of_below hbd).setCell (p := ⟨b, 11, none⟩) (List.mem_cons_self ..) _, fun _ hg => .inl hg⟩
    · obtain ⟨k, hk, hpk, hLk⟩ := getD_ins (L := L) hpc.1 (by omega)
      subst hpk
      obtain ⟨bo, oo, hqe, hbo, hbow, c0, c1, c2, c3⟩ := HC.out k hk
      subst hqe
      have hik := HINS.out k hk
      obtain ⟨op, a, b', c, hLe⟩ : ∃ op a b c, L[k] = (⟨op, a, b, c⟩ : InsR) := ⟨_, _, _, _, rfl⟩
      have HLK := Lib.hid hLe
      rw [hLe] at c0 c1 c2 c3 hik hLk
      simp only at c0 c1 c2 c3
      have hb : BR = true := by rw [← hBR]; exact decide_eq_true ⟨rfl, hst4, hpl⟩
      subst hb
      have hop := (ins_parts hik).1
      obtain ⟨nm, F, hF, hDo, hcf⟩ := form_does hop.1 hop.2
      have HX := Lib.hid (show XR = if whyV vm vi ⟨(k : Int), R, M, S, inn, O, 0, st⟩ ⟨op, a, b', c⟩ ≠ 0 then ⟨(k : Int), R, M, S, inn, O, whyV vm vi ⟨(k : Int), R, M, S, inn, O, 0, st⟩ ⟨op, a, b', c⟩, st + 1⟩ else (doX vw I ⟨(k : Int), R, M, S, inn, O, 0, st + 1⟩ ((k : Int) + 1) ⟨op, a, b', c⟩).goto (doN ⟨(k : Int), R, M, S, inn, O, 0, st + 1⟩ ((k : Int) + 1) ⟨op, a, b', c⟩) by
        rw [← hXR]
        unfold stepV
        rw [if_neg hcd, if_neg hpl]
        show (if whyV vm vi ⟨(k : Int), R, M, S, inn, O, 0, st⟩ (L.getD (k : Int).toNat ⟨0, 0, 0, 0⟩) ≠ 0 then _ else _) = _
        rw [hLk]
        rfl)
      have hq3 : ((k : Int) == (L.length : Int)) = false := by simpa using hpl
      have hkl : (k : Int) < (L.length : Int) := by omega
      have KF := Lib.hid (fun W => i_form op W)
      rw [hF] at KF
      have HD := Lib.hid hDo
      have HCF := Lib.hid hcf
      have hst1 : st + 1 ≤ 401 := by omega
      have hk1 : (k : Int) + 1 ≤ 41 := by omega
      have hbob : bo ≠ b := by omega
      generalize fA op = ka at *
      generalize fB op = kb at *
      generalize fC op = kc at *
      generalize fL op = kl at *
      clear hXR hBR hcd hpl hLe hLk hF hDo hcf
      go_enter Tryz.func54, Tryz.ntmps54
      go_upto_region 4 with fail
      go_region
      go_upto_region 8 with fail
      clear m0 m1 m2 m3 m4 m5 m6 m7 m8 m9 m10 m11 m12 m13 f5 f8 f9 f10 f11 f12 f13 c0 c1 c2 c3
      obtain ⟨w1, hw1⟩ : ∃ W9, W9 = (w.setCell ⟨b, 12, none⟩ (.int .i64 (st + 1))).drew := ⟨_, rfl⟩
      have M1 := Lib.hid (show MRow w1 b vw vm vi (.slice (some ⟨bo, oo, none⟩) L.length cap) (.slice iq I.length ic) ⟨(k : Int), R, M, S, inn, O, 0, st + 1⟩ (.slice rq R.length rc) (.slice mq M.length mc) (.slice sq S.length sc) (.slice oq O.length oc) nx by rw [hw1]; exact HM0.out.st (st + 1))
      have O1 : Hid (StO w1 base ⟨(k : Int), R, M, S, inn, O, 0, st + 1⟩ (.slice rq R.length rc) (.slice mq M.length mc) (.slice sq S.length sc) (.slice oq O.length oc)) := Lib.hid (by rw [hw1]; exact StO.same ((HO0.out.aside (HM0.out.off HO0.out) 12 _).like rfl rfl rfl rfl) (fun _ _ => rfl))
      have A1 := Lib.hid (show Apart (b :: StB (.slice rq R.length rc) (.slice mq M.length mc) (.slice sq S.length sc) (.slice oq O.length oc)) w w1 by rw [hw1]; exact ((Apart.refl _ w).setCell (p := ⟨b, 12, none⟩) (List.mem_cons_self ..) _).trans (Apart.of_below (Below.refl _ _).drew))
      have hs1 : w.heap.size ≤ w1.heap.size := A1.out.size
      have C1 := Lib.hid (HC.out.below (A1.out.below (B := base) (by omega) (fun g hg => by
        rcases List.mem_cons.1 hg with h | h
        · omega
        · exact (HO0.out.lt h).1)))
      have IN1 := Lib.hid (HIN.out.below (A1.out.below (B := base) (by omega) (fun g hg => by
        rcases List.mem_cons.1 hg with h | h
        · omega
        · exact (HO0.out.lt h).1)))
      rw [← hw1]
      clear hw1
      obtain ⟨m0, m1, m2, m3, m4, m5, m6, m7, m8, m9, m10, m11, m12, m13⟩ := mcells M1.out
      obtain ⟨f5, f8, f9, f10, f11, f12, f13⟩ := mfroz M1.out
      obtain ⟨bo', oo', hqe, _, hbow1, c0, c1, c2, c3⟩ := C1.out k hk
      obtain ⟨rfl, rfl⟩ : bo = bo' ∧ oo = oo' := by cases hqe; exact ⟨rfl, rfl⟩
      have hik2 := HINS.out k hk
      obtain ⟨h0, h1, h2, h3⟩ : L[k].f0 = op ∧ L[k].f1 = a ∧ L[k].f2 = b' ∧ L[k].f3 = c := by have := HLK.out; rw [this]; exact ⟨rfl, rfl, rfl, rfl⟩
      rw [h0] at c0
      rw [h1] at c1
      rw [h2] at c2
      rw [h3] at c3
      clear h0 h1 h2 h3 hik2
      have CH : Hid (w1.drew.cell? ⟨b, 3, none⟩ = some (.slice (some ⟨bo, oo, none⟩) L.length cap) ∧ w1.drew.cell? ⟨b, 5, none⟩ = some (.int .i64 (k : Int)) ∧ w1.drew.cell? ⟨bo, oo + k * 4, none⟩ = some (.int .i64 op) ∧ w1.drew.cell? ⟨bo, oo + k * 4 + 1, none⟩ = some (.int .i64 a) ∧ w1.drew.cell? ⟨bo, oo + k * 4 + 2, none⟩ = some (.int .i64 b') ∧ w1.drew.cell? ⟨bo, oo + k * 4 + 3, none⟩ = some (.int .i64 c)) := Lib.hid ⟨by assumption, by assumption, by assumption, by assumption, by assumption, by assumption⟩
      have hbs1 : b < w1.heap.size := by omega
      refine region_s [12] (fun V => V.cell? ⟨b, 3, none⟩ = some (.slice (some ⟨bo, oo, none⟩) L.length cap) ∧ V.cell? ⟨b, 5, none⟩ = some (.int .i64 (k : Int)) ∧ V.cell? ⟨bo, oo + k * 4, none⟩ = some (.int .i64 op) ∧ V.cell? ⟨bo, oo + k * 4 + 1, none⟩ = some (.int .i64 a) ∧ V.cell? ⟨bo, oo + k * 4 + 2, none⟩ = some (.int .i64 b') ∧ V.cell? ⟨bo, oo + k * 4 + 3, none⟩ = some (.int .i64 c)) (by kernel_rfl) ?_
      refine take_s (i := 0) (v := .pointer (some ⟨b, 0, none⟩)) rfl (by kernel_rfl) (fun _ _ _ h => h) CH.out rfl (fun V hV => ?_) ?_
      · go_simp
      refine take_s (i := 1) (v := .pointer (some ⟨b, 0, none⟩)) rfl (by kernel_rfl) (fun _ _ _ h => h) CH.out rfl (fun V hV => ?_) ?_
      · go_simp
      refine take_s (i := 2) (v := .pointer (some ⟨b, 0, none⟩)) rfl (by kernel_rfl) (fun _ _ _ h => h) CH.out rfl (fun V hV => ?_) ?_
      · go_simp
      refine take_s (i := 3) (v := .pointer (some ⟨b, 3, none⟩)) rfl (by kernel_rfl) (fun _ _ _ h => h) CH.out rfl (fun V hV => ?_) ?_
      · go_simp
      refine take_s (i := 4) (v := .slice (some ⟨bo, oo, none⟩) L.length cap) rfl (by kernel_rfl) (fun _ _ _ h => h) CH.out rfl (fun V hV => ?_) ?_
      · obtain ⟨t0, t1, t2, t3, t4, t5⟩ := hV; go_simp
      refine take_s (i := 5) (v := .pointer (some ⟨b, 5, none⟩)) rfl (by kernel_rfl) (fun _ _ _ h => h) CH.out rfl (fun V hV => ?_) ?_
      · go_simp
      refine take_s (i := 6) (v := .pointer (some ⟨b, 5, none⟩)) rfl (by kernel_rfl) (fun _ _ _ h => h) CH.out rfl (fun V hV => ?_) ?_
      · go_simp
      refine take_s (i := 7) (v := .pointer (some ⟨b, 5, none⟩)) rfl (by kernel_rfl) (fun _ _ _ h => h) CH.out rfl (fun V hV => ?_) ?_
      · go_simp
      refine take_s (i := 8) (v := .int .i64 (k : Int)) rfl (by kernel_rfl) (fun _ _ _ h => h) CH.out rfl (fun V hV => ?_) ?_
      · obtain ⟨t0, t1, t2, t3, t4, t5⟩ := hV; go_simp
      refine take_s (i := 9) (v := .pointer (some ⟨bo, oo + k * 4, none⟩)) rfl (by kernel_rfl) (fun _ _ _ h => h) CH.out rfl (fun V hV => ?_) ?_
      · go_simp
      refine take_s (i := 10) (v := .agg #[.int .i64 op, .int .i64 a, .int .i64 b', .int .i64 c]) rfl (by kernel_rfl) (fun _ _ _ h => h) CH.out rfl (fun V hV => ?_) ?_
      · obtain ⟨t0, t1, t2, t3, t4, t5⟩ := hV; go_simp
      refine one_s (i := 11) (by kernel_rfl) (op_list rfl ?_)
      go_wp2
      obtain ⟨wa, hwa⟩ : ∃ W9, W9 = (w1.alloc (.cells #[.int .i64 0, .int .i64 0, .int .i64 0, .int .i64 0] 55)).drew := ⟨_, rfl⟩
      have BW := Lib.hid (show Below w1.heap.size w1 wa by rw [hwa]; exact ((Below.refl _ _).alloc (Nat.le_refl _) _).drew)
      have ZR := Lib.hid (show wa.heap[w1.heap.size]? = some (.cells #[.int .i64 0, .int .i64 0, .int .i64 0, .int .i64 0] 55 (0, 0)) by rw [hwa]; exact heap_alloc_new w1 _)
      rw [← hwa]
      clear hwa
      have CA : Hid (wa.cell? ⟨b, 3, none⟩ = some (.slice (some ⟨bo, oo, none⟩) L.length cap) ∧ wa.cell? ⟨b, 5, none⟩ = some (.int .i64 (k : Int)) ∧ wa.cell? ⟨bo, oo + k * 4, none⟩ = some (.int .i64 op) ∧ wa.cell? ⟨bo, oo + k * 4 + 1, none⟩ = some (.int .i64 a) ∧ wa.cell? ⟨bo, oo + k * 4 + 2, none⟩ = some (.int .i64 b') ∧ wa.cell? ⟨bo, oo + k * 4 + 3, none⟩ = some (.int .i64 c)) := Lib.hid (by obtain ⟨t0, t1, t2, t3, t4, t5⟩ := CH.out; exact ⟨(BW.out.cell (p := ⟨b, 3, none⟩) (hbs1)).trans t0, (BW.out.cell (p := ⟨b, 5, none⟩) (hbs1)).trans t1, (BW.out.cell (p := ⟨bo, oo + k * 4, none⟩) (hbow1)).trans t2, (BW.out.cell (p := ⟨bo, oo + k * 4 + 1, none⟩) (hbow1)).trans t3, (BW.out.cell (p := ⟨bo, oo + k * 4 + 2, none⟩) (hbow1)).trans t4, (BW.out.cell (p := ⟨bo, oo + k * 4 + 3, none⟩) (hbow1)).trans t5⟩)
      refine ⟨fun _ => CA.out, ?_⟩
      obtain ⟨bi, hbi⟩ : ∃ g, g = w1.heap.size := ⟨_, rfl⟩
      have hbiw : w.heap.size ≤ bi := by omega
      have hbib : bi ≠ b := by omega
      have hbi1 : w1.heap.size ≤ bi := by omega
      rw [← hbi] at ZR ⊢
      clear hbi
      obtain ⟨z0, z1, z2, z3⟩ := cell4_row ZR.out
      obtain ⟨y0, y1, y2, y3⟩ := froz4_row ZR.out
      refine one_s (i := 12) (by kernel_rfl) (op_list rfl ?_)
      go_wp2
      refine ⟨late_s (by kernel_rfl), done_s (by kernel_rfl) ?_ _⟩
      clear m0 m1 m2 m3 m4 m5 m6 m7 m8 m9 m10 m11 m12 m13 f5 f8 f9 f10 f11 f12 f13 c0 c1 c2 c3 z0 z1 z2 z3 y0 y1 y2 y3
      obtain ⟨wb, hwb⟩ : ∃ W9, W9 = (((wa.setCell ⟨bi, 0, none⟩ (.int .i64 op)).setCell ⟨bi, 1, none⟩ (.int .i64 a)).setCell ⟨bi, 2, none⟩ (.int .i64 b')).setCell ⟨bi, 3, none⟩ (.int .i64 c) := ⟨_, rfl⟩
      have IRb := Lib.hid (show wb.heap[bi]? = some (.cells #[.int .i64 op, .int .i64 a, .int .i64 b', .int .i64 c] 55 (0, 0)) by rw [hwb]; exact heap_setCell_same _ bi 3 _ _ _ (heap_setCell_same _ bi 2 _ _ _ (heap_setCell_same _ bi 1 _ _ _ (heap_setCell_same wa bi 0 _ _ _ ZR.out))))
      have BWb := Lib.hid (show Below w1.heap.size w1 wb by rw [hwb]; exact (((BW.out.setCell hbi1 _).setCell hbi1 _).setCell hbi1 _).setCell hbi1 _)
      rw [← hwb]
      clear hwb
      have Mb := Lib.hid (M1.out.keep BWb.out)
      have Ob := Lib.hid (O1.out.keep BWb.out)
      have Ab := Lib.hid (show Apart (b :: StB (.slice rq R.length rc) (.slice mq M.length mc) (.slice sq S.length sc) (.slice oq O.length oc)) w wb from A1.out.trans (Apart.of_below BWb.out))
      obtain ⟨m0, m1, m2, m3, m4, m5, m6, m7, m8, m9, m10, m11, m12, m13⟩ := mcells Mb.out
      obtain ⟨f5, f8, f9, f10, f11, f12, f13⟩ := mfroz Mb.out
      have hbsb : b < wb.heap.size := row_ltD Mb.out
      go_upto_region 10 with fail
      clear m0 m1 m2 m3 m4 m5 m6 m7 m8 m9 m10 m11 m12 m13 f5 f8 f9 f10 f11 f12 f13
      obtain ⟨w2, hw2⟩ : ∃ W9, W9 = wb.setCell ⟨b, 13, none⟩ (.int .i64 ((k : Int) + 1)) := ⟨_, rfl⟩
      have M2 := Lib.hid (show MRow w2 b vw vm vi (.slice (some ⟨bo, oo, none⟩) L.length cap) (.slice iq I.length ic) ⟨(k : Int), R, M, S, inn, O, 0, st + 1⟩ (.slice rq R.length rc) (.slice mq M.length mc) (.slice sq S.length sc) (.slice oq O.length oc) ((k : Int) + 1) by rw [hw2]; exact Mb.out.next _)
      have O2 : Hid (StO w2 base ⟨(k : Int), R, M, S, inn, O, 0, st + 1⟩ (.slice rq R.length rc) (.slice mq M.length mc) (.slice sq S.length sc) (.slice oq O.length oc)) := Lib.hid (by rw [hw2]; exact Ob.out.aside (Mb.out.off Ob.out) 13 _)
      have IR2 := Lib.hid (show w2.heap[bi]? = some (.cells #[.int .i64 op, .int .i64 a, .int .i64 b', .int .i64 c] 55 (0, 0)) by rw [hw2, heap_setCell_other _ _ _ _ (fun h => by have h : bi = b := h; omega)]; exact IRb.out)
      have A2 := Lib.hid (show Apart (b :: StB (.slice rq R.length rc) (.slice mq M.length mc) (.slice sq S.length sc) (.slice oq O.length oc)) w w2 by rw [hw2]; exact Ab.out.setCell (p := ⟨b, 13, none⟩) (List.mem_cons_self ..) _)
      rw [← hw2]
      clear hw2 Mb Ob Ab IRb BWb ZR BW CA CH
      obtain ⟨i0, i1, i2, i3⟩ := cell4_row IR2.out
      have CH : Hid (w2.drew.cell? ⟨bi, 0, none⟩ = some (.int .i64 op) ∧ w2.drew.cell? ⟨bi, 1, none⟩ = some (.int .i64 a) ∧ w2.drew.cell? ⟨bi, 2, none⟩ = some (.int .i64 b') ∧ w2.drew.cell? ⟨bi, 3, none⟩ = some (.int .i64 c)) := Lib.hid (by exact ⟨i0, i1, i2, i3⟩)
      refine region_s [10] (fun V => V.cell? ⟨bi, 0, none⟩ = some (.int .i64 op) ∧ V.cell? ⟨bi, 1, none⟩ = some (.int .i64 a) ∧ V.cell? ⟨bi, 2, none⟩ = some (.int .i64 b') ∧ V.cell? ⟨bi, 3, none⟩ = some (.int .i64 c)) (by kernel_rfl) ?_
      refine take_s (i := 0) (v := .pointer (some ⟨b, 5, none⟩)) rfl (by kernel_rfl) (fun _ _ _ h => h) CH.out rfl (fun V hV => ?_) ?_
      · go_simp
      refine take_s (i := 1) (v := .pointer (some ⟨bi, 0, none⟩)) rfl (by kernel_rfl) (fun _ _ _ h => h) CH.out rfl (fun V hV => ?_) ?_
      · go_simp
      refine take_s (i := 2) (v := .int .i64 op) rfl (by kernel_rfl) (fun _ _ _ h => h) CH.out rfl (fun V hV => ?_) ?_
      · obtain ⟨t0, t1, t2, t3⟩ := hV; go_simp
      refine take_s (i := 5) (v := .pointer (some ⟨b, 0, none⟩)) rfl (by kernel_rfl) (fun _ _ _ h => h) CH.out rfl (fun V hV => ?_) ?_
      · go_simp
      refine take_s (i := 6) (v := .agg #[.int .i64 op, .int .i64 a, .int .i64 b', .int .i64 c]) rfl (by kernel_rfl) (fun _ _ _ h => h) CH.out rfl (fun V hV => ?_) ?_
      · obtain ⟨t0, t1, t2, t3⟩ := hV; go_simp
      clear i0 i1 i2 i3
      refine one_s (i := 3) (by kernel_rfl) (op_list rfl ?_)
      go_wp2_with fail
      refine (KF.out _).mono ?_
      rintro e w3 ⟨rfl, hb3⟩
      have HB3 := Lib.hid ((Below.refl w2.heap.size w2).drew.trans hb3)
      have M3 := Lib.hid (M2.out.keep HB3.out)
      have O3 := Lib.hid (O2.out.keep HB3.out)
      have IR3 := Lib.hid ((HB3.out.block bi (row_ltD IR2.out)).trans IR2.out)
      have A3 := Lib.hid (A2.out.trans (Apart.of_below HB3.out))
      have hs3 : w.heap.size ≤ w3.heap.size := A3.out.size
      clear hb3
      go_wp2
      have C3 : Hid (w3.cell? ⟨bi, 0, none⟩ = some (.int .i64 op) ∧ w3.cell? ⟨bi, 1, none⟩ = some (.int .i64 a) ∧ w3.cell? ⟨bi, 2, none⟩ = some (.int .i64 b') ∧ w3.cell? ⟨bi, 3, none⟩ = some (.int .i64 c)) := Lib.hid (by exact cell4_row IR3.out)
      refine ⟨fun _ => C3.out, ?_⟩
      refine take_s (i := 4) (v := .func (.func F) #[] #[]) rfl (by kernel_rfl) (fun _ _ _ h => h) C3.out rfl (fun V hV => ?_) ?_
      · go_simp
        rfl
      have INC := Lib.hid (show CodeAt w3 base (some ⟨bo, oo, none⟩) L ∧ InAt w3 base iq I from ⟨HC.out.below (A3.out.below (B := base) (by omega) (fun g hg => by
        rcases List.mem_cons.1 hg with h | h
        · omega
        · exact (HO0.out.lt h).1)), HIN.out.below (A3.out.below (B := base) (by omega) (fun g hg => by
        rcases List.mem_cons.1 hg with h | h
        · omega
        · exact (HO0.out.lt h).1))⟩)
      have G1 : Gd vw vm vi L.length ⟨(k : Int), R, M, S, inn, O, 0, st + 1⟩ := ⟨HG.out.hR, HG.out.hM, HG.out.hS, HG.out.hO, HG.out.pc, HG.out.inn, HG.out.cd, by show 0 ≤ st + 1 ∧ st + 1 ≤ 400; omega, HG.out.wR, HG.out.wM, HG.out.wS, HG.out.wO⟩
      have KD := Lib.hid (HD.out vw vm vi L.length (some ⟨bo, oo, none⟩) L.length cap iq ic I ⟨(k : Int), R, M, S, inn, O, 0, st + 1⟩ (.slice rq R.length rc) (.slice mq M.length mc) (.slice sq S.length sc) (.slice oq O.length oc) ((k : Int) + 1) a b' c b base w3 hw2 hw8 hi3 G1 HI.out INC.out.2 hbb M3.out O3.out hik)
      clear G1
      obtain ⟨V, hV⟩ : ∃ V, whyV vm vi ⟨(k : Int), R, M, S, inn, O, 0, st + 1⟩ ⟨op, a, b', c⟩ = V := ⟨_, rfl⟩
      rw [hV] at KD
      have HX2 := Lib.hid (show XR = if V ≠ 0 then ⟨(k : Int), R, M, S, inn, O, V, st + 1⟩ else (doX vw I ⟨(k : Int), R, M, S, inn, O, 0, st + 1⟩ ((k : Int) + 1) ⟨op, a, b', c⟩).goto (doN ⟨(k : Int), R, M, S, inn, O, 0, st + 1⟩ ((k : Int) + 1) ⟨op, a, b', c⟩) by rw [← hV]; exact HX.out)
      clear hV
      have hcf := HCF.out
      refine one_s (i := 7) (by kernel_rfl) (op_list rfl ?_)
      go_wp2_with fail
      clear hcf
      refine KD.out.mono ?_
      rintro e w4 ⟨rfl, r4, m4, s4, o4, hM4, hO4, hA4, hs4⟩
      have HE := Lib.hid (show _ ∧ _ ∧ _ ∧ _ from ⟨hM4, hO4, hA4, hs4⟩)
      have IR4 := Lib.hid ((hA4.block bi (row_ltD IR3.out) (fun h => by
        rcases List.mem_cons.1 h with h | h
        · exact hbib h
        · exact O3.out.off (T := 55) (by decide) IR3.out h)).trans IR3.out)
      clear hM4 hO4 hA4 hs4
      go_wp2
      have C4 : Hid (w4.cell? ⟨bi, 0, none⟩ = some (.int .i64 op) ∧ w4.cell? ⟨bi, 1, none⟩ = some (.int .i64 a) ∧ w4.cell? ⟨bi, 2, none⟩ = some (.int .i64 b') ∧ w4.cell? ⟨bi, 3, none⟩ = some (.int .i64 c)) := Lib.hid (by exact cell4_row IR4.out)
      refine ⟨fun _ => C4.out, ?_⟩
      refine one_s (i := 8) (by kernel_rfl) (op_list rfl ?_)
      go_wp2
      refine ⟨fun _ => C4.out, ?_⟩
      refine one_s (i := 9) (by kernel_rfl) (op_list rfl ?_)
      go_wp2
      refine ⟨fun _ => C4.out, ?_⟩
      obtain ⟨x4, hx4⟩ : ∃ x, (if V = 0 then doX vw I ⟨(k : Int), R, M, S, inn, O, 0, st + 1⟩ ((k : Int) + 1) ⟨op, a, b', c⟩ else ⟨(k : Int), R, M, S, inn, O, 0, st + 1⟩) = x := ⟨_, rfl⟩
      obtain ⟨n4, hn4⟩ : ∃ n, (if V = 0 then doN ⟨(k : Int), R, M, S, inn, O, 0, st + 1⟩ ((k : Int) + 1) ⟨op, a, b', c⟩ else (k : Int) + 1) = n := ⟨_, rfl⟩
      rw [hx4, hn4] at HE
      have HX4 := Lib.hid hx4
      have HN4 := Lib.hid hn4
      clear hx4 hn4
      obtain ⟨hM4, hO4, hA4, hs4⟩ := HE.out
      have M4 := Lib.hid hM4
      have O4 := Lib.hid hO4
      have A4 := Lib.hid (show Apart (b :: StB (.slice rq R.length rc) (.slice mq M.length mc) (.slice sq S.length sc) (.slice oq O.length oc)) w w4 from ⟨hA4.os.trans A3.out.os, hA4.tape.trans A3.out.tape, hA4.output.trans A3.out.output, Nat.le_trans A3.out.size hA4.size, fun j hj hn => (hA4.block j (Nat.lt_of_lt_of_le hj hs3) hn).trans (A3.out.block j hj hn)⟩)
      have S4 := Lib.hid (show ∀ g ∈ StB r4 m4 s4 o4, g ∈ StB (.slice rq R.length rc) (.slice mq M.length mc) (.slice sq S.length sc) (.slice oq O.length oc) ∨ w.heap.size ≤ g from fun g hg => (hs4 g hg).imp id (fun h => Nat.le_trans hs3 h))
      clear hM4 hO4 hA4 hs4 HE
      obtain ⟨m0, m1, m2, m3, m4, m5, m6, m7, m8, m9, m10, m11, m12, m13⟩ := mcells M4.out
      obtain ⟨f5, f8, f9, f10, f11, f12, f13⟩ := mfroz M4.out
      refine one_s (i := 10) (by kernel_rfl) (op_list rfl ?_)
      go_wp2
      refine ⟨late_s (by kernel_rfl), done_s (by kernel_rfl) ?_ _⟩
      clear m0 m1 m2 m3 m4 m5 m6 m7 m8 m9 m10 m11 m12 m13 f5 f8 f9 f10 f11 f12 f13
      obtain ⟨w5, hw5⟩ : ∃ W9, W9 = w4.setCell ⟨b, 11, none⟩ (.int .i64 V) := ⟨_, rfl⟩
      have M5 := Lib.hid (show MRow w5 b vw vm vi (.slice (some ⟨bo, oo, none⟩) L.length cap) (.slice iq I.length ic) ⟨x4.pc, x4.R, x4.M, x4.S, x4.inn, x4.O, V, x4.st⟩ r4 m4 s4 o4 n4 by rw [hw5]; exact M4.out.cd V)
      have O5 : Hid (StO w5 base ⟨x4.pc, x4.R, x4.M, x4.S, x4.inn, x4.O, V, x4.st⟩ r4 m4 s4 o4) := Lib.hid (by rw [hw5]; exact (O4.out.aside (M4.out.off O4.out) 11 _).like rfl rfl rfl rfl)
      have A5 := Lib.hid (show Apart (b :: StB (.slice rq R.length rc) (.slice mq M.length mc) (.slice sq S.length sc) (.slice oq O.length oc)) w w5 by rw [hw5]; exact A4.out.setCell (p := ⟨b, 11, none⟩) (List.mem_cons_self ..) _)
      rw [← hw5]
      clear hw5
      obtain ⟨m0, m1, m2, m3, m4, m5, m6, m7, m8, m9, m10, m11, m12, m13⟩ := mcells M5.out
      obtain ⟨f5, f8, f9, f10, f11, f12, f13⟩ := mfroz M5.out
      by_cases hV : V = 0
      · subst hV
        have hx : XR = ⟨n4, x4.R, x4.M, x4.S, x4.inn, x4.O, 0, x4.st⟩ := by
          have h1 := HX4.out
          have h2 := HN4.out
          rw [if_pos rfl] at h1 h2
          rw [HX2.out, if_neg (by simp), h1, h2]
          have h3 := doX_cd vw I ⟨(k : Int), R, M, S, inn, O, 0, st + 1⟩ ((k : Int) + 1) ⟨op, a, b', c⟩
          rw [h1] at h3
          show (⟨n4, x4.R, x4.M, x4.S, x4.inn, x4.O, x4.cd, x4.st⟩ : StR) = _
          rw [h3]
        have HXX := Lib.hid hx
        clear hx
        go_wp2
        go_ret
        rw [HXX.out]
        exact ⟨n4, rfl, _, _, _, _, M5.out.pc n4, (O5.out.aside (M5.out.off O5.out) 5 _).like rfl rfl rfl rfl, A5.out.setCell (p := ⟨b, 5, none⟩) (List.mem_cons_self ..) _, S4.out⟩
      · have hqv : (V == 0) = false := by simpa using hV
        have hx : XR = ⟨x4.pc, x4.R, x4.M, x4.S, x4.inn, x4.O, V, x4.st⟩ := by
          have h1 := HX4.out
          rw [if_neg hV] at h1
          rw [HX2.out, if_pos hV, ← h1]
        have HXX := Lib.hid hx
        clear hx hV
        go_wp2
        go_ret
        rw [HXX.out]
        exact ⟨n4, rfl, _, _, _, _, M5.out, O5.out, A5.out, S4.out⟩
end Go.Proofs.YthmababifgaejaaGreat
namespace Go.Proofs.YthmababifgaejaaGreat
open Go.ChangeShapes Go.WideShapes Go.ChangeAt Go.RowKit
set_option maxRecDepth 100000 in
set_option maxHeartbeats 2000000 in
theorem i_all (vw vm vi : Int) (qL : Option Addr) (nL cL : Nat) (l : List Int) (o : Int) (ho : o = 0 ∨ o = 1 ∨ o = 2 ∨ o = 3 ∨ o = 4) (ls : Value) (w : World) (hs : Cs.Shows w 0 1 ls l.length (IntL.all l)) (hl : l.length ≤ maxLen) (_hnL : nL ≤ maxLen) :
    Calls Tryz.prog 51 #[.agg #[.int .i64 vw, .int .i64 vm, .int .i64 vi, .slice qL nL cL], ls, .int .i64 o] w fun e w' => e = .returned (.bool (oprB o vw nL l)) ∧ Below w.heap.size w w' := by
  have hml : maxLen = 9223372036854775807 := rfl
  have HS := Lib.hid hs
  obtain ⟨_, lq, lcap, rfl, _⟩ := hs
  obtain ⟨V, hV⟩ : ∃ V, oprB o vw nL l = V := ⟨_, rfl⟩
  rw [hV]
  obtain ⟨size, hsz⟩ : ∃ size : Int, size = nL := ⟨_, rfl⟩
  obtain ⟨wd, hwd⟩ : ∃ wd : Int, wd = vw := ⟨_, rfl⟩
  rw [← hsz, ← hwd] at hV
  have HAT := Lib.hid (fun j (h : j < l.length) (hi : opB o l[j] wd size = false) => show V = false by rw [← hV, oprB_bad h hi])
  have HEND := Lib.hid (fun (h : ∀ j (hj : j < l.length), opB o l[j] wd size = true) => show V = true by rw [← hV, oprB_ok h])
  have KW := Lib.hid (fun n W => show Calls Tryz.prog 65 #[.int .i64 o, .int .i64 n, .int .i64 vw, .int .i64 nL] W fun e w' => e = .returned (.bool (opB o n wd size)) ∧ W = w' by rw [hsz, hwd]; exact i_acc o n vw nL ho W)
  clear hV hsz hwd ho
  have HR : Hid (∀ j, (h : j < l.length) → ∃ b o, lq = some ⟨b, o, none⟩ ∧ b < w.heap.size ∧ ∀ W, Below w.heap.size w W → W.cell? ⟨b, o + j, none⟩ = some (.int .i64 l[j])) := Lib.hid (fun j h => by
    rcases Cs.shows_cases HS.out with ⟨h0, _⟩ | ⟨_, b, o, c, hq, _, _, hbl, hr⟩
    · omega
    · injection hq with e1 e2 e3
      exact ⟨b, o, e1, hbl, fun W hW => IntL.nth l j h (rangeAt_below hW hr)⟩)
  clear HS
  have HB0 := Lib.hid ((Below.refl w.heap.size w).alloc (Nat.le_refl _) (.cells #[.int .i64 vw, .int .i64 vm, .int .i64 vi, .slice qL nL cL] 32))
  have X0 := Lib.hid (cell4_alloc w 32 (.int .i64 vw) (.int .i64 vm) (.int .i64 vi) (.slice qL nL cL))
  obtain ⟨w0, hw0⟩ : ∃ w0, w0 = w.alloc (.cells #[.int .i64 vw, .int .i64 vm, .int .i64 vi, .slice qL nL cL] 32) := ⟨_, rfl⟩
  rw [← hw0] at HB0 X0
  obtain ⟨x0, x1, x2, x3⟩ := X0.out
  rw [hw0] at x0 x1 x2 x3
  go_enter Tryz.func51, Tryz.ntmps51
  go_wp2
  rw [← hw0] at x0 x1 x2 x3 ⊢
  clear hw0
  go_loopw [11] (fun i wr => ∃ j : Nat, j ≤ l.length ∧ i = .int .i64 j ∧ (∀ t (ht : t < l.length), t < j → opB o l[t] wd size = true) ∧ wr = w0) (fun i _ => l.length - (intOf i).toNat)
  case atStart => exact ⟨0, Nat.zero_le _, rfl, fun t _ h => absurd h (Nat.not_lt_zero _), rfl⟩
  case round =>
    obtain ⟨j, hj, rfl, hv, hwr⟩ := hrel
    subst hwr
    have HV := Lib.hid hv
    clear hv
    by_cases hjn : j < l.length
    · obtain ⟨b, p, rfl, hbl, hcells⟩ := HR.out j hjn
      have c0 := hcells wr HB0.out
      clear hcells
      have hat := HAT.out j hjn
      have HN := Lib.hid (show ∀ (hv : opB o l[j] wd size = true) t (ht : t < l.length), t < j + 1 → opB o l[t] wd size = true from fun hv t ht h => by
        by_cases e : t = j
        · subst e; exact hv
        · exact HV.out t ht (by omega))
      generalize l[j] = n at *
      have KX := Lib.hid (fun W => KW.out n W)
      obtain ⟨B, hB⟩ : ∃ B, opB o n wd size = B := ⟨_, rfl⟩
      rw [hB] at KX hat
      have HAT2 := Lib.hid hat
      have HN2 := Lib.hid (fun e => HN.out (hB.trans e))
      clear hat hB HN
      have hki : decide ((j : Int) < (l.length : Int)) = true := by simp; omega
      have hki2 : (j : Int) < (l.length : Int) := by omega
      go_wp2_with fail
      refine (KX.out _).mono ?_
      rintro e w2 ⟨rfl, rfl⟩
      cases B
      case false =>
        have hv := HAT2.out rfl
        subst hv
        go_wp2
        go_ret
        exact ⟨rfl, HB0.out⟩
      case true =>
        go_wp2
        first
          | (refine ⟨⟨j + 1, by omega, by go_num, HN2.out (by trivial), (by first | trivial | rfl)⟩, ?_⟩; simp [intOf]; omega)
          | (go_roundw
             case rel => exact ⟨j + 1, by omega, by go_num, HN2.out (by trivial), (by first | trivial | rfl)⟩
             case measure => simp [intOf]; omega)
    · have hje : j = l.length := by omega
      subst hje
      have hv := HEND.out (fun t ht => HV.out t ht ht)
      have hki : decide ((l.length : Int) < (l.length : Int)) = false := by simp
      subst hv
      go_wp2
      go_ret
      exact ⟨rfl, HB0.out⟩
end Go.Proofs.YthmababifgaejaaGreat
