/- Sessions by value: how one comes in, and what the laws do with it: sz, to, eq. No condition. -/
import Derived.Test.YtbbalmeglgecgaaProgram
import Derived.Test.YtbbalmeglgecgaaTsO
import Derived.Test.YtbbalmeglgecgaaCell6
namespace Go.Proofs.Ytbbalmeglgecgaa
open Go.ChangeShapes Go.WideShapes Go.ChangeAt Go.RowKit
section
variable {H : Type} {enc : TypeId × Value → H} {w : World} {base b0 : Nat} {spare : Nat → Bool} {held : Bool} {r : Reach}
theorem plain_Session : [36, 34, 106, 32, 25, 58, 3].all (Cs.plainAt Try.prog [36, 34, 106, 32, 25, 58, 3]) = true := by kernel_rfl
set_option maxRecDepth 100000 in
theorem ty_Program (m : Nat) (C : Cs) (h : Cs.Ty Try.prog m 34 C) : ∃ (vw vm vi : Int) (L : List InsR), C = .val (.int .i64 vw) (.val (.int .i64 vm) (.val (.int .i64 vi) (.sl 106 4 L.length (Cs.flat (InsR.all L)) .nil))) ∧ ((-9223372036854775808 ≤ vw ∧ vw ≤ 9223372036854775807) ∧ (-9223372036854775808 ≤ vm ∧ vm ≤ 9223372036854775807) ∧ (-9223372036854775808 ≤ vi ∧ vi ≤ 9223372036854775807) ∧ (∀ r ∈ L, r.Ok) ∧ L.length ≤ maxLen) := by
  cases m with
  | zero => exact h.elim
  | succ m =>
    unfold Cs.Ty at h
    rw [Try.underlying34] at h
    simp only [List.map, Cs.Fields] at h
    obtain ⟨c0, _, rfl, g0, c1, _, rfl, g1, c2, _, rfl, g2, c3, _, rfl, g3, rfl⟩ := h
    obtain ⟨z0, rfl, w0⟩ := Fo.ty_int Try.underlying3 g0
    obtain ⟨z1, rfl, w1⟩ := Fo.ty_int Try.underlying3 g1
    obtain ⟨z2, rfl, w2⟩ := Fo.ty_int Try.underlying3 g2
    obtain ⟨L, rfl, hok, hl⟩ := tys_Ins m _ g3
    exact ⟨z0, z1, z2, L, rfl, w0, w1, w2, hok, hl⟩
set_option maxRecDepth 100000 in
/-- one by value -/
theorem open_Session {v : Value} {d : DataW H} {p : List MemPlace} (hv : Value.okWide Try.prog w r b0 36 v) (h : DataW.Trod enc Try.prog w base spare held 36 v d p) :
    ∃ (vw vm vi fu : Int) (L : List InsR) (T : List (List Int)) (s t : Value), v = .agg #[.int .i64 vw, .int .i64 vm, .int .i64 vi, s, .int .i64 fu, t] ∧ Cs.Shows w base 4 s L.length (InsR.all L) ∧ (Cs.rows IntSS.c T).Is w base 1 T.length t ∧
      ((-9223372036854775808 ≤ vw ∧ vw ≤ 9223372036854775807) ∧ (-9223372036854775808 ≤ vm ∧ vm ≤ 9223372036854775807) ∧ (-9223372036854775808 ≤ vi ∧ vi ≤ 9223372036854775807) ∧ (∀ r ∈ L, r.Ok) ∧ L.length ≤ maxLen) ∧ IntSS.Ok T ∧ T.length ≤ maxLen := by
  obtain ⟨cs, rfl, _⟩ := okWide_struct Try.underlying36 hv
  obtain ⟨m, C, h1, h2⟩ := Cs.open_arg (t := 36) plain_Session (List.mem_cons_self ..) h
  cases m with
  | zero => exact h2.elim
  | succ m =>
    unfold Cs.Ty at h2
    rw [Try.underlying36] at h2
    simp only [List.map, Cs.Fields] at h2
    obtain ⟨c0, _, rfl, g0, c1, _, rfl, g1, c2, _, rfl, g2, rfl⟩ := h2
    obtain ⟨z0, z1, z2, L, rfl, hok⟩ := ty_Program m _ g0
    obtain ⟨z3, rfl, w3⟩ := Fo.ty_int Try.underlying3 g1
    obtain ⟨T, rfl, tok, tl⟩ := tys_IntSS m _ g2
    obtain ⟨_, e, _, rfl, _, rfl, s, _, ys, rfl, k2, k3, _, rfl, t, _, yt, rfl, k4, k5, rfl⟩ := h1
    refine ⟨z0, z1, z2, z3, L, T, s, t, ?_, by rw [Cs.flat_vs.1 k3] at k2; exact k2, ⟨yt, k4, k5⟩, hok, tok, tl⟩
    have e : cs.toList = _ := e
    rw [← Array.toArray_toList (xs := cs), e]
end
def SeC (L : List InsR) (T : List (List Int)) : Nat := InsR.costs L + IntSS.costs T
set_option maxRecDepth 100000 in
set_option maxHeartbeats 1000000 in
theorem sz_Session (vw vm vi fu : Int) (L : List InsR) (T : List (List Int)) (s t : Value) (l : Nat) (w : World) (hl : l ≤ 1048576) (hv : Cs.Shows w 0 4 s L.length (InsR.all L)) (ht : (Cs.rows IntSS.c T).Is w 0 1 T.length t) (hok : (∀ r ∈ L, r.Ok)) (hlen : L.length ≤ maxLen) (tok : IntSS.Ok T) (tl : T.length ≤ maxLen) :
    Calls Try.prog 13 #[.agg #[.int .i64 vw, .int .i64 vm, .int .i64 vi, s, .int .i64 fu, t], .int .i64 l] w fun e w' => e = .returned (.int .i64 (left l (SeC L T))) ∧ Below w.heap.size w w' := by
  have hml : maxLen = 9223372036854775807 := rfl
  have KP := Lib.hid (fun W (hb : Below w.heap.size w W) => sz_Program vw vm vi L _ l W (by omega) (hv.below hb) hok hlen)
  have KT := Lib.hid (fun (l' : Nat) (hl' : l' ≤ 1048576) W (hb : Below w.heap.size w W) => sz_IntSS T _ l' W hl' (ht.below hb) tok tl)
  obtain ⟨_, q, cap, rfl, _⟩ := hv
  obtain ⟨_, ⟨_, tq, tc, rfl, _⟩, _⟩ := ht
  clear hok hlen tok tl
  obtain ⟨w0, hw0⟩ : ∃ w0, w0 = w.alloc (.cells #[.int .i64 vw, .int .i64 vm, .int .i64 vi, .slice q L.length cap, .int .i64 fu, .slice tq T.length tc] 36) := ⟨_, rfl⟩
  have HB0 := Lib.hid (show Below w.heap.size w w0 by rw [hw0]; exact (Below.refl _ _).alloc (Nat.le_refl _) _)
  have X0 := Lib.hid (show Cell6 w0 w.heap.size (.int .i64 vw) (.int .i64 vm) (.int .i64 vi) (.slice q L.length cap) (.int .i64 fu) (.slice tq T.length tc) by rw [hw0]; exact cell6_alloc _ _ _ _ _ _ _ _)
  by_cases h : InsR.costs L ≤ l
  · obtain ⟨l1, hl1, hm1⟩ : ∃ l1 : Nat, left l (InsR.costs L) = (l1 : Int) ∧ l1 + InsR.costs L = l := ⟨l - InsR.costs L, by unfold left; rw [if_pos h]; omega, by omega⟩
    rw [hl1] at KP
    have KT1 := Lib.hid (KT.out l1 (by omega))
    have he : left l (SeC L T) = left l1 (IntSS.costs T) := by unfold left SeC; split <;> split <;> omega
    rw [he]
    clear he hl1 hm1 KT h
    have HLL : Hid ((0 ≤ left l1 (IntSS.costs T)) ∨ left l1 (IntSS.costs T) = -1) := Lib.hid (by unfold left; split <;> omega)
    generalize left l1 (IntSS.costs T) = R at *
    go_enter Try.func13, Try.ntmps13
    go_wp2_with fail
    rw [← hw0]
    clear hw0
    refine (KP.out _ HB0.out).mono ?_
    rintro e w1 ⟨rfl, hb⟩
    have HB1 := Lib.hid (HB0.out.trans (hb.mono HB0.out.size))
    obtain ⟨x0, x1, x2, x3, x4, x5⟩ := X0.out.below hb
    have hln : ¬ ((l1 : Int) < 0) := by omega
    clear hb
    go_wp2_with fail
    clear x0 x1 x2 x3 x4 x5
    refine (KT1.out _ HB1.out).mono ?_
    rintro e w2 ⟨rfl, hb⟩
    have HB2 := Lib.hid (HB1.out.trans (hb.mono HB1.out.size))
    clear hb
    rcases HLL.out with h0 | rfl
    · have h1 : ¬ (R < 0) := by omega
      go_wp2
      go_ret
      exact ⟨rfl, HB2.out⟩
    · go_wp2
      go_ret
      exact ⟨rfl, HB2.out⟩
  · have he : left l (SeC L T) = -1 := by unfold left SeC; rw [if_neg (by omega)]
    have he2 : left l (InsR.costs L) = -1 := by unfold left; rw [if_neg h]
    rw [he2] at KP
    rw [he]
    clear he he2 KT h
    go_enter Try.func13, Try.ntmps13
    go_wp2_with fail
    rw [← hw0]
    clear hw0
    refine (KP.out _ HB0.out).mono ?_
    rintro e w1 ⟨rfl, hb⟩
    have HB1 := Lib.hid (HB0.out.trans (hb.mono HB0.out.size))
    clear hb
    go_wp2
    go_ret
    exact ⟨rfl, HB1.out⟩
set_option maxRecDepth 100000 in
set_option maxHeartbeats 1000000 in
theorem eq_Session (vw vm vi fu : Int) (L : List InsR) (T : List (List Int)) (s1 t1 s2 t2 : Value) (w : World) (hs1 : Cs.Shows w 0 4 s1 L.length (InsR.all L)) (ht1 : (Cs.rows IntSS.c T).Is w 0 1 T.length t1) (hs2 : Cs.Shows w 0 4 s2 L.length (InsR.all L)) (ht2 : (Cs.rows IntSS.c T).Is w 0 1 T.length t2) (hn : InsR.costs L ≤ 2097152) (hm : IntSS.costs T ≤ 2097152) :
    Calls Try.prog 10 #[.agg #[.int .i64 vw, .int .i64 vm, .int .i64 vi, s1, .int .i64 fu, t1], .agg #[.int .i64 vw, .int .i64 vm, .int .i64 vi, s2, .int .i64 fu, t2]] w fun e w' => e = .returned (.bool true) ∧ Below w.heap.size w w' := by
  have KP := Lib.hid (fun W (hb : Below w.heap.size w W) => eq_Program vw vm vi L _ _ W (hs1.below hb) (hs2.below hb) hn)
  have KT := Lib.hid (fun W (hb : Below w.heap.size w W) => eq_IntSS T _ _ W (ht1.below hb) (ht2.below hb) hm)
  obtain ⟨_, q1, c1, rfl, _⟩ := hs1
  obtain ⟨_, q2, c2, rfl, _⟩ := hs2
  obtain ⟨_, ⟨_, tq1, tc1, rfl, _⟩, _⟩ := ht1
  obtain ⟨_, ⟨_, tq2, tc2, rfl, _⟩, _⟩ := ht2
  clear hn hm
  obtain ⟨w0, hw0⟩ : ∃ w0, w0 = (w.alloc (.cells #[.int .i64 vw, .int .i64 vm, .int .i64 vi, .slice q1 L.length c1, .int .i64 fu, .slice tq1 T.length tc1] 27)).alloc (.cells #[.int .i64 vw, .int .i64 vm, .int .i64 vi, .slice q2 L.length c2, .int .i64 fu, .slice tq2 T.length tc2] 27) := ⟨_, rfl⟩
  have HB0 := Lib.hid (show Below w.heap.size w w0 by rw [hw0]; exact ((Below.refl _ _).alloc (Nat.le_refl _) _).alloc (by simp) _)
  have X0 := Lib.hid (show Cell6 w0 w.heap.size (.int .i64 vw) (.int .i64 vm) (.int .i64 vi) (.slice q1 L.length c1) (.int .i64 fu) (.slice tq1 T.length tc1) by rw [hw0]; exact (cell6_alloc _ _ _ _ _ _ _ _).below ((Below.refl _ _).alloc (Nat.le_refl _) _))
  have Y0 := Lib.hid (show Cell6 w0 (w.heap.size + 1) (.int .i64 vw) (.int .i64 vm) (.int .i64 vi) (.slice q2 L.length c2) (.int .i64 fu) (.slice tq2 T.length tc2) by
    rw [hw0]
    have := cell6_alloc (w.alloc (.cells #[.int .i64 vw, .int .i64 vm, .int .i64 vi, .slice q1 L.length c1, .int .i64 fu, .slice tq1 T.length tc1] 27)) 27 (.int .i64 vw) (.int .i64 vm) (.int .i64 vi) (.slice q2 L.length c2) (.int .i64 fu) (.slice tq2 T.length tc2)
    simpa using this)
  go_enter Try.func10, Try.ntmps10
  go_wp2_with fail
  rw [← hw0]
  clear hw0
  refine (KP.out _ HB0.out).mono ?_
  rintro e w1 ⟨rfl, hb⟩
  have HB1 := Lib.hid (HB0.out.trans (hb.mono HB0.out.size))
  obtain ⟨x0, x1, x2, x3, x4, x5⟩ := X0.out.below hb
  obtain ⟨y0, y1, y2, y3, y4, y5⟩ := Y0.out.below hb
  clear hb
  go_wp2_with fail
  clear x0 x1 x2 x3 x4 x5 y0 y1 y2 y3 y4 y5
  refine (KT.out _ HB1.out).mono ?_
  rintro e w2 ⟨rfl, hb⟩
  have HB2 := Lib.hid (HB1.out.trans (hb.mono HB1.out.size))
  clear hb
  go_wp2
  go_ret
  exact ⟨rfl, HB2.out⟩
end Go.Proofs.Ytbbalmeglgecgaa
