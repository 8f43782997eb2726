/- A state of the machine by value: how it comes in, and what the laws do with it: sz, to, eq. No condition. -/
import Derived.Test.YtbdkningngpgcaaFlInt
import Derived.Test.YtbdkningngpgcaaCell
import Derived.Deep.RegionWith
namespace Go.Proofs.Ytbdkningngpgcaa
open Go.ChangeShapes Go.WideShapes Go.ChangeAt Go.RowKit
structure StR where
  pc : Int
  R : List Int
  M : List Int
  S : List Int
  inn : Int
  O : List Int
  cd : Int
  st : Int
namespace StR
/-- its lists in their order, all together -/
def cost (x : StR) : Nat := x.R.length + x.M.length + x.S.length + x.O.length
def Long (x : StR) : Prop := x.R.length ≤ maxLen ∧ x.M.length ≤ maxLen ∧ x.S.length ≤ maxLen ∧ x.O.length ≤ maxLen
def Ok (x : StR) : Prop := (-9223372036854775808 ≤ x.pc ∧ x.pc ≤ 9223372036854775807) ∧ (-9223372036854775808 ≤ x.inn ∧ x.inn ≤ 9223372036854775807) ∧ (-9223372036854775808 ≤ x.cd ∧ x.cd ≤ 9223372036854775807) ∧ (-9223372036854775808 ≤ x.st ∧ x.st ≤ 9223372036854775807) ∧ (∀ y ∈ x.R, IntL.Ok y) ∧ (∀ y ∈ x.M, IntL.Ok y) ∧ (∀ y ∈ x.S, IntL.Ok y) ∧ (∀ y ∈ x.O, IntL.Ok y)
end StR
/-- its slices show its lists -/
def StS (w : World) (base : Nat) (x : StR) (r m s o : Value) : Prop := Cs.Shows w base 1 r x.R.length (IntL.all x.R) ∧ Cs.Shows w base 1 m x.M.length (IntL.all x.M) ∧ Cs.Shows w base 1 s x.S.length (IntL.all x.S) ∧ Cs.Shows w base 1 o x.O.length (IntL.all x.O)
theorem StS.below {w w' : World} {base : Nat} {x : StR} {r m s o : Value} (h : StS w base x r m s o) (hb : Below w.heap.size w w') : StS w' base x r m s o := ⟨h.1.below hb, h.2.1.below hb, h.2.2.1.below hb, h.2.2.2.below hb⟩
theorem StS.down {w : World} {base : Nat} {x : StR} {r m s o : Value} (h : StS w base x r m s o) : StS w 0 x r m s o := ⟨h.1.down (Nat.zero_le _), h.2.1.down (Nat.zero_le _), h.2.2.1.down (Nat.zero_le _), h.2.2.2.down (Nat.zero_le _)⟩
/-- its slices own their rows, each its own -/
def StO (w : World) (base : Nat) (x : StR) (r m s o : Value) : Prop := w.ownsRow base 3 1 r x.R.length (IntL.all x.R) ∧ w.ownsRow base 3 1 m x.M.length (IntL.all x.M) ∧ w.ownsRow base 3 1 s x.S.length (IntL.all x.S) ∧ w.ownsRow base 3 1 o x.O.length (IntL.all x.O) ∧ (r.ownBlock.toList ++ m.ownBlock.toList ++ s.ownBlock.toList ++ o.ownBlock.toList).Nodup
def StB (r m s o : Value) : List Nat := r.ownBlock.toList ++ m.ownBlock.toList ++ s.ownBlock.toList ++ o.ownBlock.toList
theorem StO.shows {w : World} {base : Nat} {x : StR} {r m s o : Value} (h : StO w base x r m s o) : StS w 0 x r m s o := ⟨(Cs.shows_of_owns h.1).down (Nat.zero_le _), (Cs.shows_of_owns h.2.1).down (Nat.zero_le _), (Cs.shows_of_owns h.2.2.1).down (Nat.zero_le _), (Cs.shows_of_owns h.2.2.2.1).down (Nat.zero_le _)⟩
theorem StO.lt {w : World} {base : Nat} {x : StR} {r m s o : Value} (h : StO w base x r m s o) {g : Nat} (hg : g ∈ StB r m s o) : base ≤ g ∧ g < w.heap.size := by
  unfold StB at hg
  simp only [List.mem_append] at hg
  rcases hg with ((hg | hg) | hg) | hg
  · exact own_lt h.1 hg
  · exact own_lt h.2.1 hg
  · exact own_lt h.2.2.1 hg
  · exact own_lt h.2.2.2.1 hg
theorem StO.keep {w w' : World} {base : Nat} {x : StR} {r m s o : Value} (h : StO w base x r m s o) (hb : Below w.heap.size w w') : StO w' base x r m s o := ⟨own_keep h.1 hb, own_keep h.2.1 hb, own_keep h.2.2.1 hb, own_keep h.2.2.2.1 hb, h.2.2.2.2⟩
theorem StO.same {w w' : World} {base : Nat} {x : StR} {r m s o : Value} (h : StO w base x r m s o) (hs : ∀ g ∈ StB r m s o, w'.heap[g]? = w.heap[g]?) : StO w' base x r m s o :=
  ⟨own_same h.1 (fun g hg => hs g (by unfold StB; simp only [List.mem_append]; exact .inl (.inl (.inl hg)))), own_same h.2.1 (fun g hg => hs g (by unfold StB; simp only [List.mem_append]; exact .inl (.inl (.inr hg)))), own_same h.2.2.1 (fun g hg => hs g (by unfold StB; simp only [List.mem_append]; exact .inl (.inr hg))), own_same h.2.2.2.1 (fun g hg => hs g (by unfold StB; simp only [List.mem_append]; exact .inr hg)), h.2.2.2.2⟩
theorem StO.base {w : World} {base base' : Nat} {x : StR} {r m s o : Value} (h : StO w base x r m s o) (hb : base' ≤ base) : StO w base' x r m s o := ⟨own_base h.1 hb, own_base h.2.1 hb, own_base h.2.2.1 hb, own_base h.2.2.2.1 hb, h.2.2.2.2⟩
section
variable {H : Type} {enc : TypeId × Value → H} {w : World} {base b0 : Nat} {spare : Nat → Bool} {held : Bool} {r : Reach}
theorem plain_State : [39, 37, 3].all (Cs.plainAt Try.prog [39, 37, 3]) = true := by kernel_rfl
set_option maxRecDepth 100000 in
/-- one by value -/
theorem open_State {v : Value} {d : DataW H} {p : List MemPlace} (hv : Value.okWide Try.prog w r b0 39 v) (h : DataW.Trod enc Try.prog w base spare held 39 v d p) :
    ∃ (x : StR) (r m s o : Value), v = .agg #[.int .i64 x.pc, r, m, s, .int .i64 x.inn, o, .int .i64 x.cd, .int .i64 x.st] ∧ StS w base x r m s o ∧ x.Ok ∧ x.Long := by
  obtain ⟨cs, rfl, _⟩ := okWide_struct Try.underlying39 hv
  obtain ⟨m, C, h1, h2⟩ := Cs.open_arg (t := 39) plain_State (List.mem_cons_self ..) h
  cases m with
  | zero => exact h2.elim
  | succ m =>
    unfold Cs.Ty at h2
    rw [Try.underlying39] at h2
    simp only [List.map, Cs.Fields] at h2
    obtain ⟨c0, _, rfl, g0, c1, _, rfl, g1, c2, _, rfl, g2, c3, _, rfl, g3, c4, _, rfl, g4, c5, _, rfl, g5, c6, _, rfl, g6, c7, _, rfl, g7, rfl⟩ := h2
    obtain ⟨z0, rfl, w0⟩ := Fo.ty_int Try.underlying3 g0
    obtain ⟨z1, rfl, w1, l1⟩ := tys_Int m _ g1
    obtain ⟨z2, rfl, w2, l2⟩ := tys_Int m _ g2
    obtain ⟨z3, rfl, w3, l3⟩ := tys_Int m _ g3
    obtain ⟨z4, rfl, w4⟩ := Fo.ty_int Try.underlying3 g4
    obtain ⟨z5, rfl, w5, l5⟩ := tys_Int m _ g5
    obtain ⟨z6, rfl, w6⟩ := Fo.ty_int Try.underlying3 g6
    obtain ⟨z7, rfl, w7⟩ := Fo.ty_int Try.underlying3 g7
    obtain ⟨_, e, v1, _, y1, rfl, s1, a1, v2, _, y2, rfl, s2, a2, v3, _, y3, rfl, s3, a3, _, rfl, v5, _, y5, rfl, s5, a5, _, rfl, _, rfl, rfl⟩ := h1
    rw [Cs.flat_vs.1 a1] at s1
    rw [Cs.flat_vs.1 a2] at s2
    rw [Cs.flat_vs.1 a3] at s3
    rw [Cs.flat_vs.1 a5] at s5
    refine ⟨⟨z0, z1, z2, z3, z4, z5, z6, z7⟩, v1, v2, v3, v5, ?_, ⟨s1, s2, s3, s5⟩, ⟨w0, w4, w6, w7, w1, w2, w3, w5⟩, ⟨l1, l2, l3, l5⟩⟩
    have e : cs.toList = _ := e
    rw [← Array.toArray_toList (xs := cs), e]
end
set_option maxRecDepth 100000 in
set_option maxHeartbeats 4000000 in
theorem sz_State (x : StR) (r m s o : Value) (l : Nat) (w : World) (hl : l ≤ 1048576) (hv : StS w 0 x r m s o) (hlen : x.Long) :
    Calls Try.prog 18 #[.agg #[.int .i64 x.pc, r, m, s, .int .i64 x.inn, o, .int .i64 x.cd, .int .i64 x.st], .int .i64 l] w fun e w' => e = .returned (.int .i64 (left l x.cost)) ∧ Below w.heap.size w w' := by
  have hml : maxLen = 9223372036854775807 := rfl
  obtain ⟨hr, hm, hs, ho⟩ := hv
  obtain ⟨gr, gm, gs, go⟩ := hlen
  have K0 := Lib.hid (fun (l' : Nat) (hl' : l' ≤ 1048576) W (hb : Below w.heap.size w W) => sz_Int x.R r l' W hl' (hr.below hb) gr)
  have K1 := Lib.hid (fun (l' : Nat) (hl' : l' ≤ 1048576) W (hb : Below w.heap.size w W) => sz_Int x.M m l' W hl' (hm.below hb) gm)
  have K2 := Lib.hid (fun (l' : Nat) (hl' : l' ≤ 1048576) W (hb : Below w.heap.size w W) => sz_Int x.S s l' W hl' (hs.below hb) gs)
  have K3 := Lib.hid (fun (l' : Nat) (hl' : l' ≤ 1048576) W (hb : Below w.heap.size w W) => sz_Int x.O o l' W hl' (ho.below hb) go)
  obtain ⟨_, qr, cr, rfl, _⟩ := hr
  obtain ⟨_, qm, cm, rfl, _⟩ := hm
  obtain ⟨_, qs, cs, rfl, _⟩ := hs
  obtain ⟨_, qo, co, rfl, _⟩ := ho
  have hx : x.cost = x.R.length + x.M.length + x.S.length + x.O.length := rfl
  have HB0 := Lib.hid ((Below.refl w.heap.size w).alloc (Nat.le_refl _) (.cells #[.int .i64 x.pc, .slice qr x.R.length cr, .slice qm x.M.length cm, .slice qs x.S.length cs, .int .i64 x.inn, .slice qo x.O.length co, .int .i64 x.cd, .int .i64 x.st] 39))
  have X0 := Lib.hid (cell8_alloc w 39 (.int .i64 x.pc) (.slice qr x.R.length cr) (.slice qm x.M.length cm) (.slice qs x.S.length cs) (.int .i64 x.inn) (.slice qo x.O.length co) (.int .i64 x.cd) (.int .i64 x.st))
  obtain ⟨w0, hw0⟩ : ∃ w0, w0 = w.alloc (.cells #[.int .i64 x.pc, .slice qr x.R.length cr, .slice qm x.M.length cm, .slice qs x.S.length cs, .int .i64 x.inn, .slice qo x.O.length co, .int .i64 x.cd, .int .i64 x.st] 39) := ⟨_, rfl⟩
  rw [← hw0] at HB0 X0
  have L0 : ∃ l0 : Nat, l0 = l ∧ l0 ≤ 1048576 := ⟨l, rfl, hl⟩
  go_enter Try.func18, Try.ntmps18
  go_wp2_with fail
  rw [← hw0]
  clear hw0
  by_cases h0 : x.R.length ≤ l
  · obtain ⟨l1, e0, m0⟩ : ∃ l' : Nat, left l x.R.length = (l' : Int) ∧ l' + x.R.length = l := ⟨l - x.R.length, by unfold left; rw [if_pos h0]; omega, by omega⟩
    have R0 := Lib.hid (K0.out l (by omega) w0 HB0.out)
    rw [e0] at R0
    refine R0.out.mono ?_
    rintro e w1 ⟨rfl, hb⟩
    have HB1 := Lib.hid (HB0.out.trans (hb.mono HB0.out.size))
    have X1 := Lib.hid (X0.out.below hb)
    have hn0 : 0 ≤ (l1 : Int) := by omega
    clear hb R0 e0
    obtain ⟨x0, x1, x2, x3, x4, x5, x6, x7⟩ := X1.out
    go_wp2_with fail
    clear x0 x1 x2 x3 x4 x5 x6 x7
    by_cases h1 : x.M.length ≤ l1
    · obtain ⟨l2, e1, m1⟩ : ∃ l' : Nat, left l1 x.M.length = (l' : Int) ∧ l' + x.M.length = l1 := ⟨l1 - x.M.length, by unfold left; rw [if_pos h1]; omega, by omega⟩
      have R1 := Lib.hid (K1.out l1 (by omega) w1 HB1.out)
      rw [e1] at R1
      refine R1.out.mono ?_
      rintro e w2 ⟨rfl, hb⟩
      have HB2 := Lib.hid (HB1.out.trans (hb.mono HB1.out.size))
      have X2 := Lib.hid (X1.out.below hb)
      have hn1 : 0 ≤ (l2 : Int) := by omega
      clear hb R1 e1
      obtain ⟨x0, x1, x2, x3, x4, x5, x6, x7⟩ := X2.out
      go_wp2_with fail
      clear x0 x1 x2 x3 x4 x5 x6 x7
      by_cases h2 : x.S.length ≤ l2
      · obtain ⟨l3, e2, m2⟩ : ∃ l' : Nat, left l2 x.S.length = (l' : Int) ∧ l' + x.S.length = l2 := ⟨l2 - x.S.length, by unfold left; rw [if_pos h2]; omega, by omega⟩
        have R2 := Lib.hid (K2.out l2 (by omega) w2 HB2.out)
        rw [e2] at R2
        refine R2.out.mono ?_
        rintro e w3 ⟨rfl, hb⟩
        have HB3 := Lib.hid (HB2.out.trans (hb.mono HB2.out.size))
        have X3 := Lib.hid (X2.out.below hb)
        have hn2 : 0 ≤ (l3 : Int) := by omega
        clear hb R2 e2
        obtain ⟨x0, x1, x2, x3, x4, x5, x6, x7⟩ := X3.out
        go_wp2_with fail
        clear x0 x1 x2 x3 x4 x5 x6 x7
        by_cases h3 : x.O.length ≤ l3
        · obtain ⟨l4, e3, m3⟩ : ∃ l' : Nat, left l3 x.O.length = (l' : Int) ∧ l' + x.O.length = l3 := ⟨l3 - x.O.length, by unfold left; rw [if_pos h3]; omega, by omega⟩
          have R3 := Lib.hid (K3.out l3 (by omega) w3 HB3.out)
          rw [e3] at R3
          refine R3.out.mono ?_
          rintro e w4 ⟨rfl, hb⟩
          have HB4 := Lib.hid (HB3.out.trans (hb.mono HB3.out.size))
          have X4 := Lib.hid (X3.out.below hb)
          have hn3 : 0 ≤ (l4 : Int) := by omega
          clear hb R3 e3
          obtain ⟨x0, x1, x2, x3, x4, x5, x6, x7⟩ := X4.out
          go_wp2
          go_ret
          exact ⟨by rw [show left l x.cost = (l4 : Int) by unfold left; rw [if_pos (show x.cost ≤ l by omega)]; omega] <;> rfl, HB4.out⟩
        · have R3 := Lib.hid (K3.out l3 (by omega) w3 HB3.out)
          rw [show left l3 x.O.length = -1 by unfold left; rw [if_neg h3]] at R3
          refine R3.out.mono ?_
          rintro e w4 ⟨rfl, hb⟩
          have HB4 := Lib.hid (HB3.out.trans (hb.mono HB3.out.size))
          clear hb R3
          go_wp2
          go_ret
          exact ⟨by rw [show left l x.cost = -1 by unfold left; rw [if_neg (show ¬ x.cost ≤ l by omega)]] <;> rfl, HB4.out⟩
      · have R2 := Lib.hid (K2.out l2 (by omega) w2 HB2.out)
        rw [show left l2 x.S.length = -1 by unfold left; rw [if_neg h2]] at R2
        refine R2.out.mono ?_
        rintro e w3 ⟨rfl, hb⟩
        have HB3 := Lib.hid (HB2.out.trans (hb.mono HB2.out.size))
        clear hb R2
        go_wp2
        go_ret
        exact ⟨by rw [show left l x.cost = -1 by unfold left; rw [if_neg (show ¬ x.cost ≤ l by omega)]] <;> rfl, HB3.out⟩
    · have R1 := Lib.hid (K1.out l1 (by omega) w1 HB1.out)
      rw [show left l1 x.M.length = -1 by unfold left; rw [if_neg h1]] at R1
      refine R1.out.mono ?_
      rintro e w2 ⟨rfl, hb⟩
      have HB2 := Lib.hid (HB1.out.trans (hb.mono HB1.out.size))
      clear hb R1
      go_wp2
      go_ret
      exact ⟨by rw [show left l x.cost = -1 by unfold left; rw [if_neg (show ¬ x.cost ≤ l by omega)]] <;> rfl, HB2.out⟩
  · have R0 := Lib.hid (K0.out l (by omega) w0 HB0.out)
    rw [show left l x.R.length = -1 by unfold left; rw [if_neg h0]] at R0
    refine R0.out.mono ?_
    rintro e w1 ⟨rfl, hb⟩
    have HB1 := Lib.hid (HB0.out.trans (hb.mono HB0.out.size))
    clear hb R0
    go_wp2
    go_ret
    exact ⟨by rw [show left l x.cost = -1 by unfold left; rw [if_neg (show ¬ x.cost ≤ l by omega)]] <;> rfl, HB1.out⟩
set_option maxRecDepth 100000 in
set_option maxHeartbeats 4000000 in
theorem eq_State (x : StR) (r1 m1 s1 o1 r2 m2 s2 o2 : Value) (w : World) (hs1 : StS w 0 x r1 m1 s1 o1) (hs2 : StS w 0 x r2 m2 s2 o2) (hn : x.cost ≤ 2097152) :
    Calls Try.prog 23 #[.agg #[.int .i64 x.pc, r1, m1, s1, .int .i64 x.inn, o1, .int .i64 x.cd, .int .i64 x.st], .agg #[.int .i64 x.pc, r2, m2, s2, .int .i64 x.inn, o2, .int .i64 x.cd, .int .i64 x.st]] w fun e w' => e = .returned (.bool true) ∧ Below w.heap.size w w' := by
  have hx : x.cost = x.R.length + x.M.length + x.S.length + x.O.length := rfl
  obtain ⟨hr1, hm1, hs1, ho1⟩ := hs1
  obtain ⟨hr2, hm2, hs2, ho2⟩ := hs2
  have K0 := Lib.hid (fun W (hb : Below w.heap.size w W) => eq_Int x.R _ _ W (hr1.below hb) (hr2.below hb) (by omega))
  have K1 := Lib.hid (fun W (hb : Below w.heap.size w W) => eq_Int x.M _ _ W (hm1.below hb) (hm2.below hb) (by omega))
  have K2 := Lib.hid (fun W (hb : Below w.heap.size w W) => eq_Int x.S _ _ W (hs1.below hb) (hs2.below hb) (by omega))
  have K3 := Lib.hid (fun W (hb : Below w.heap.size w W) => eq_Int x.O _ _ W (ho1.below hb) (ho2.below hb) (by omega))
  obtain ⟨_, qr1, cr1, rfl, _⟩ := hr1
  obtain ⟨_, qm1, cm1, rfl, _⟩ := hm1
  obtain ⟨_, qs1, cs1, rfl, _⟩ := hs1
  obtain ⟨_, qo1, co1, rfl, _⟩ := ho1
  obtain ⟨_, qr2, cr2, rfl, _⟩ := hr2
  obtain ⟨_, qm2, cm2, rfl, _⟩ := hm2
  obtain ⟨_, qs2, cs2, rfl, _⟩ := hs2
  obtain ⟨_, qo2, co2, rfl, _⟩ := ho2
  have X0 := Lib.hid ((cell8_alloc w 41 (.int .i64 x.pc) (.slice qr1 x.R.length cr1) (.slice qm1 x.M.length cm1) (.slice qs1 x.S.length cs1) (.int .i64 x.inn) (.slice qo1 x.O.length co1) (.int .i64 x.cd) (.int .i64 x.st)).below (((Below.refl _ _).alloc (Nat.le_refl _) (.cells #[.int .i64 x.pc, .slice qr2 x.R.length cr2, .slice qm2 x.M.length cm2, .slice qs2 x.S.length cs2, .int .i64 x.inn, .slice qo2 x.O.length co2, .int .i64 x.cd, .int .i64 x.st] 41))))
  have Y0 := Lib.hid (cell8_alloc (w.alloc (.cells #[.int .i64 x.pc, .slice qr1 x.R.length cr1, .slice qm1 x.M.length cm1, .slice qs1 x.S.length cs1, .int .i64 x.inn, .slice qo1 x.O.length co1, .int .i64 x.cd, .int .i64 x.st] 41)) 41 (.int .i64 x.pc) (.slice qr2 x.R.length cr2) (.slice qm2 x.M.length cm2) (.slice qs2 x.S.length cs2) (.int .i64 x.inn) (.slice qo2 x.O.length co2) (.int .i64 x.cd) (.int .i64 x.st))
  have HB0 := Lib.hid (((Below.refl w.heap.size w).alloc (Nat.le_refl _) (.cells #[.int .i64 x.pc, .slice qr1 x.R.length cr1, .slice qm1 x.M.length cm1, .slice qs1 x.S.length cs1, .int .i64 x.inn, .slice qo1 x.O.length co1, .int .i64 x.cd, .int .i64 x.st] 41)).alloc (by simp) (.cells #[.int .i64 x.pc, .slice qr2 x.R.length cr2, .slice qm2 x.M.length cm2, .slice qs2 x.S.length cs2, .int .i64 x.inn, .slice qo2 x.O.length co2, .int .i64 x.cd, .int .i64 x.st] 41))
  rw [show (w.alloc (.cells #[.int .i64 x.pc, .slice qr1 x.R.length cr1, .slice qm1 x.M.length cm1, .slice qs1 x.S.length cs1, .int .i64 x.inn, .slice qo1 x.O.length co1, .int .i64 x.cd, .int .i64 x.st] 41)).heap.size = w.heap.size + 1 by simp] at Y0
  obtain ⟨w0, hw0⟩ : ∃ w0, w0 = (w.alloc (.cells #[.int .i64 x.pc, .slice qr1 x.R.length cr1, .slice qm1 x.M.length cm1, .slice qs1 x.S.length cs1, .int .i64 x.inn, .slice qo1 x.O.length co1, .int .i64 x.cd, .int .i64 x.st] 41)).alloc (.cells #[.int .i64 x.pc, .slice qr2 x.R.length cr2, .slice qm2 x.M.length cm2, .slice qs2 x.S.length cs2, .int .i64 x.inn, .slice qo2 x.O.length co2, .int .i64 x.cd, .int .i64 x.st] 41) := ⟨_, rfl⟩
  rw [← hw0] at HB0 X0 Y0
  obtain ⟨x0, x1, x2, x3, x4, x5, x6, x7⟩ := X0.out
  obtain ⟨y0, y1, y2, y3, y4, y5, y6, y7⟩ := Y0.out
  rw [hw0] at x0 y0 x1 y1 x2 y2 x3 y3 x4 y4 x5 y5 x6 y6 x7 y7
  go_enter Try.func23, Try.ntmps23
  go_wp2_with fail
  rw [← hw0]
  clear hw0 x0 y0 x1 y1 x2 y2 x3 y3 x4 y4 x5 y5 x6 y6 x7 y7
  refine (K0.out w0 HB0.out).mono ?_
  rintro e w1 ⟨rfl, hb⟩
  have HB1 := Lib.hid (HB0.out.trans (hb.mono HB0.out.size))
  have X1 := Lib.hid (X0.out.below hb)
  have Y1 := Lib.hid (Y0.out.below hb)
  clear hb
  obtain ⟨x0, x1, x2, x3, x4, x5, x6, x7⟩ := X1.out
  obtain ⟨y0, y1, y2, y3, y4, y5, y6, y7⟩ := Y1.out
  go_wp2_with fail
  clear x0 y0 x1 y1 x2 y2 x3 y3 x4 y4 x5 y5 x6 y6 x7 y7
  refine (K1.out w1 HB1.out).mono ?_
  rintro e w2 ⟨rfl, hb⟩
  have HB2 := Lib.hid (HB1.out.trans (hb.mono HB1.out.size))
  have X2 := Lib.hid (X1.out.below hb)
  have Y2 := Lib.hid (Y1.out.below hb)
  clear hb
  obtain ⟨x0, x1, x2, x3, x4, x5, x6, x7⟩ := X2.out
  obtain ⟨y0, y1, y2, y3, y4, y5, y6, y7⟩ := Y2.out
  go_wp2_with fail
  clear x0 y0 x1 y1 x2 y2 x3 y3 x4 y4 x5 y5 x6 y6 x7 y7
  refine (K2.out w2 HB2.out).mono ?_
  rintro e w3 ⟨rfl, hb⟩
  have HB3 := Lib.hid (HB2.out.trans (hb.mono HB2.out.size))
  have X3 := Lib.hid (X2.out.below hb)
  have Y3 := Lib.hid (Y2.out.below hb)
  clear hb
  obtain ⟨x0, x1, x2, x3, x4, x5, x6, x7⟩ := X3.out
  obtain ⟨y0, y1, y2, y3, y4, y5, y6, y7⟩ := Y3.out
  go_wp2_with fail
  clear x0 y0 x1 y1 x2 y2 x3 y3 x4 y4 x5 y5 x6 y6 x7 y7
  refine (K3.out w3 HB3.out).mono ?_
  rintro e w4 ⟨rfl, hb⟩
  have HB4 := Lib.hid (HB3.out.trans (hb.mono HB3.out.size))
  have X4 := Lib.hid (X3.out.below hb)
  have Y4 := Lib.hid (Y3.out.below hb)
  clear hb
  obtain ⟨x0, x1, x2, x3, x4, x5, x6, x7⟩ := X4.out
  obtain ⟨y0, y1, y2, y3, y4, y5, y6, y7⟩ := Y4.out
  go_wp2
  go_ret
  exact ⟨rfl, HB4.out⟩
def ToStateEnd (x : StR) (w : World) (e : Ending) (w' : World) : Prop := ∃ gr gm gs go, e = .returned (.agg #[.int .i64 x.pc, .slice (some ⟨gr, 0, none⟩) x.R.length x.R.length, .slice (some ⟨gm, 0, none⟩) x.M.length x.M.length, .slice (some ⟨gs, 0, none⟩) x.S.length x.S.length, .int .i64 x.inn, .slice (some ⟨go, 0, none⟩) x.O.length x.O.length, .int .i64 x.cd, .int .i64 x.st]) ∧ StO w' w.heap.size x (.slice (some ⟨gr, 0, none⟩) x.R.length x.R.length) (.slice (some ⟨gm, 0, none⟩) x.M.length x.M.length) (.slice (some ⟨gs, 0, none⟩) x.S.length x.S.length) (.slice (some ⟨go, 0, none⟩) x.O.length x.O.length) ∧ Below w.heap.size w w'
set_option maxRecDepth 100000 in
set_option maxHeartbeats 4000000 in
theorem to_State (x : StR) (r m s o : Value) (w : World) (hv : StS w 0 x r m s o) (hn : x.cost ≤ 1048576) :
    Calls Try.prog 20 #[.agg #[.int .i64 x.pc, r, m, s, .int .i64 x.inn, o, .int .i64 x.cd, .int .i64 x.st]] w (ToStateEnd x w) := by
  have hx : x.cost = x.R.length + x.M.length + x.S.length + x.O.length := rfl
  obtain ⟨hr, hm, hs, ho⟩ := hv
  have K0 := Lib.hid (fun W (hb : Below w.heap.size w W) => to_Int x.R _ W (hr.below hb) (by omega))
  have K1 := Lib.hid (fun W (hb : Below w.heap.size w W) => to_Int x.M _ W (hm.below hb) (by omega))
  have K2 := Lib.hid (fun W (hb : Below w.heap.size w W) => to_Int x.S _ W (hs.below hb) (by omega))
  have K3 := Lib.hid (fun W (hb : Below w.heap.size w W) => to_Int x.O _ W (ho.below hb) (by omega))
  obtain ⟨_, qr, cr, rfl, _⟩ := hr
  obtain ⟨_, qm, cm, rfl, _⟩ := hm
  obtain ⟨_, qs, cs, rfl, _⟩ := hs
  obtain ⟨_, qo, co, rfl, _⟩ := ho
  unfold ToStateEnd
  unfold ToIntEnd at K0 K1 K2 K3
  have HB0 := Lib.hid ((((Below.refl w.heap.size w).alloc (Nat.le_refl _) (.cells #[.int .i64 x.pc, .slice qr x.R.length cr, .slice qm x.M.length cm, .slice qs x.S.length cs, .int .i64 x.inn, .slice qo x.O.length co, .int .i64 x.cd, .int .i64 x.st] 39)).alloc (by simp) (.cells #[.int .i64 0, .slice none 0 0, .slice none 0 0, .slice none 0 0, .int .i64 0, .slice none 0 0, .int .i64 0, .int .i64 0] 41)).alloc (by simp; omega) (.cells #[.int .i64 x.pc, .slice none 0 0, .slice none 0 0, .slice none 0 0, .int .i64 0, .slice none 0 0, .int .i64 0, .int .i64 0] 41))
  obtain ⟨v1, hv1⟩ : ∃ v1, v1 = w.alloc (.cells #[.int .i64 x.pc, .slice qr x.R.length cr, .slice qm x.M.length cm, .slice qs x.S.length cs, .int .i64 x.inn, .slice qo x.O.length co, .int .i64 x.cd, .int .i64 x.st] 39) := ⟨_, rfl⟩
  have e1 : v1.heap.size = w.heap.size + 1 := by rw [hv1]; simp
  obtain ⟨v2, hv2⟩ : ∃ v2, v2 = v1.alloc (.cells #[.int .i64 0, .slice none 0 0, .slice none 0 0, .slice none 0 0, .int .i64 0, .slice none 0 0, .int .i64 0, .int .i64 0] 41) := ⟨_, rfl⟩
  have e2 : v2.heap.size = w.heap.size + 1 + 1 := by rw [hv2]; simp [e1]
  obtain ⟨w0, hw0⟩ : ∃ w0, w0 = v2.alloc (.cells #[.int .i64 x.pc, .slice none 0 0, .slice none 0 0, .slice none 0 0, .int .i64 0, .slice none 0 0, .int .i64 0, .int .i64 0] 41) := ⟨_, rfl⟩
  have hs0 : w0.heap.size = w.heap.size + 3 := by rw [hw0]; simp [e2]
  have k1 : Below v1.heap.size v1 w0 := by rw [hw0, hv2]; exact ((Below.refl _ _).alloc (Nat.le_refl _) _).alloc (by simp) _
  have k2 : Below v2.heap.size v2 w0 := by rw [hw0]; exact (Below.refl _ _).alloc (Nat.le_refl _) _
  have X0 := Lib.hid (show w0.heap[w.heap.size]? = some (.cells #[.int .i64 x.pc, .slice qr x.R.length cr, .slice qm x.M.length cm, .slice qs x.S.length cs, .int .i64 x.inn, .slice qo x.O.length co, .int .i64 x.cd, .int .i64 x.st] 39 (0, 0)) from (k1.block w.heap.size (by omega)).trans (show v1.heap[w.heap.size]? = some (.cells #[.int .i64 x.pc, .slice qr x.R.length cr, .slice qm x.M.length cm, .slice qs x.S.length cs, .int .i64 x.inn, .slice qo x.O.length co, .int .i64 x.cd, .int .i64 x.st] 39 (0, 0)) by rw [hv1]; exact heap_alloc_new w (.cells #[.int .i64 x.pc, .slice qr x.R.length cr, .slice qm x.M.length cm, .slice qs x.S.length cs, .int .i64 x.inn, .slice qo x.O.length co, .int .i64 x.cd, .int .i64 x.st] 39)))
  have Z0 := Lib.hid (show w0.heap[w.heap.size + 1]? = some (.cells #[.int .i64 0, .slice none 0 0, .slice none 0 0, .slice none 0 0, .int .i64 0, .slice none 0 0, .int .i64 0, .int .i64 0] 41 (0, 0)) from (k2.block (w.heap.size + 1) (by omega)).trans (show v2.heap[w.heap.size + 1]? = some (.cells #[.int .i64 0, .slice none 0 0, .slice none 0 0, .slice none 0 0, .int .i64 0, .slice none 0 0, .int .i64 0, .int .i64 0] 41 (0, 0)) by rw [hv2, ← e1]; exact heap_alloc_new v1 (.cells #[.int .i64 0, .slice none 0 0, .slice none 0 0, .slice none 0 0, .int .i64 0, .slice none 0 0, .int .i64 0, .int .i64 0] 41)))
  have Y0 := Lib.hid (show w0.heap[w.heap.size + 1 + 1]? = some (.cells #[.int .i64 x.pc, .slice none 0 0, .slice none 0 0, .slice none 0 0, .int .i64 0, .slice none 0 0, .int .i64 0, .int .i64 0] 41 (0, 0)) by rw [hw0, ← e2]; exact heap_alloc_new v2 (.cells #[.int .i64 x.pc, .slice none 0 0, .slice none 0 0, .slice none 0 0, .int .i64 0, .slice none 0 0, .int .i64 0, .int .i64 0] 41))
  rw [hv1] at hv2
  rw [hv2] at hw0
  rw [← hw0] at HB0
  clear k1 k2 e1 e2 hv1 hv2
  obtain ⟨x0, x1, x2, x3, x4, x5, x6, x7⟩ := cell8_row X0.out
  obtain ⟨y0, y1, y2, y3, y4, y5, y6, y7⟩ := cell8_row Y0.out
  obtain ⟨f0, f1, f2, f3, f4, f5, f6, f7⟩ := froz8_row Y0.out
  obtain ⟨e0, e1, e2, e3, e4, e5, e6, e7⟩ := froz8_row Z0.out
  obtain ⟨d0, d1, d2, d3, d4, d5, d6, d7⟩ := cell8_row Z0.out
  rw [hw0] at x0 x1 x2 x3 x4 x5 x6 x7 y0 y1 y2 y3 y4 y5 y6 y7 f0 f1 f2 f3 f4 f5 f6 f7 e0 e1 e2 e3 e4 e5 e6 e7 d0 d1 d2 d3 d4 d5 d6 d7
  go_enter Try.func20, Try.ntmps20
  go_wp2_with fail
  rw [← hw0] at x0 x1 x2 x3 x4 x5 x6 x7 y0 y1 y2 y3 y4 y5 y6 y7 f0 f1 f2 f3 f4 f5 f6 f7 e0 e1 e2 e3 e4 e5 e6 e7 d0 d1 d2 d3 d4 d5 d6 d7 ⊢
  clear hw0
  clear x0 x1 x2 x3 x4 x5 x6 x7 y0 y1 y2 y3 y4 y5 y6 y7 f0 f1 f2 f3 f4 f5 f6 f7 e0 e1 e2 e3 e4 e5 e6 e7 d0 d1 d2 d3 d4 d5 d6 d7
  refine (K0.out w0 HB0.out).mono ?_
  rintro e w1 ⟨gr, rfl, hh, hb⟩
  have Or := Lib.hid (own_base (base' := w.heap.size) hh HB0.out.size)
  have Lr := Lib.hid (show w0.heap.size ≤ gr ∧ gr < w1.heap.size from own_lt hh (g := gr) (by simp [Value.ownBlock]))
  have HBw1 := Lib.hid (HB0.out.trans (hb.mono HB0.out.size))
  have Xw1 := Lib.hid ((hb.block w.heap.size (by omega)).trans X0.out)
  have Zw1 := Lib.hid ((hb.block (w.heap.size + 1) (by omega)).trans Z0.out)
  have Yw1 := Lib.hid ((hb.block (w.heap.size + 1 + 1) (by omega)).trans Y0.out)
  have hsw1 : w0.heap.size ≤ w1.heap.size := hb.size
  clear hh hb
  obtain ⟨x0, x1, x2, x3, x4, x5, x6, x7⟩ := cell8_row Xw1.out
  obtain ⟨y0, y1, y2, y3, y4, y5, y6, y7⟩ := cell8_row Yw1.out
  obtain ⟨f0, f1, f2, f3, f4, f5, f6, f7⟩ := froz8_row Yw1.out
  obtain ⟨e0, e1, e2, e3, e4, e5, e6, e7⟩ := froz8_row Zw1.out
  obtain ⟨d0, d1, d2, d3, d4, d5, d6, d7⟩ := cell8_row Zw1.out
  go_wp2_with fail
  obtain ⟨u1, hu1⟩ : ∃ W, W = (w1.setCell ⟨w.heap.size + 1 + 1, 1, none⟩ (.slice (some ⟨gr, 0, none⟩) x.R.length x.R.length)) := ⟨_, rfl⟩
  have Yw1s0 := Lib.hid (show (w1.setCell ⟨w.heap.size + 1 + 1, 1, none⟩ (.slice (some ⟨gr, 0, none⟩) x.R.length x.R.length)).heap[w.heap.size + 1 + 1]? = some (.cells #[.int .i64 x.pc, .slice (some ⟨gr, 0, none⟩) x.R.length x.R.length, .slice none 0 0, .slice none 0 0, .int .i64 0, .slice none 0 0, .int .i64 0, .int .i64 0] 41 (0, 0)) from heap_setCell_same w1 (w.heap.size + 1 + 1) 1 _ _ _ Yw1.out)
  have Xu1 : Hid (u1.heap[w.heap.size]? = _) := Lib.hid (show u1.heap[w.heap.size]? = some (.cells #[.int .i64 x.pc, .slice qr x.R.length cr, .slice qm x.M.length cm, .slice qs x.S.length cs, .int .i64 x.inn, .slice qo x.O.length co, .int .i64 x.cd, .int .i64 x.st] 39 (0, 0)) by rw [hu1]; repeat (first | rw [heap_setCell_other _ _ _ _ (by first | (simp; done) | (simp; omega))] | exact Xw1.out))
  have Zu1 : Hid (u1.heap[w.heap.size + 1]? = _) := Lib.hid (show u1.heap[w.heap.size + 1]? = some (.cells #[.int .i64 0, .slice none 0 0, .slice none 0 0, .slice none 0 0, .int .i64 0, .slice none 0 0, .int .i64 0, .int .i64 0] 41 (0, 0)) by rw [hu1]; repeat (first | rw [heap_setCell_other _ _ _ _ (by first | (simp; done) | (simp; omega))] | exact Zw1.out))
  have HBu1 : Hid (Below w.heap.size w u1) := Lib.hid (by rw [hu1]; repeat (first | refine Below.setCell ?_ (by first | (simp; done) | (simp; omega)) _ | exact HBw1.out))
  have hsu1 : u1.heap.size = w1.heap.size := by rw [hu1]; simp [World.setCell]
  have Or := Lib.hid (show u1.ownsRow w.heap.size 3 1 (.slice (some ⟨gr, 0, none⟩) x.R.length x.R.length) x.R.length (IntL.all x.R) by rw [hu1]; refine own_same Or.out (fun k hk => ?_); have hne := Lr.out; have hk : k = gr := (by simp [Value.ownBlock] at hk; omega); subst hk; repeat (first | rw [heap_setCell_other _ _ _ _ (by simp; omega)]))
  have Yu1 : Hid (u1.heap[w.heap.size + 1 + 1]? = some (.cells #[.int .i64 x.pc, .slice (some ⟨gr, 0, none⟩) x.R.length x.R.length, .slice none 0 0, .slice none 0 0, .int .i64 0, .slice none 0 0, .int .i64 0, .int .i64 0] 41 (0, 0))) := Lib.hid (by rw [hu1]; exact Yw1s0.out)
  rw [← hu1]
  clear x0 x1 x2 x3 x4 x5 x6 x7 y0 y1 y2 y3 y4 y5 y6 y7 f0 f1 f2 f3 f4 f5 f6 f7 e0 e1 e2 e3 e4 e5 e6 e7 d0 d1 d2 d3 d4 d5 d6 d7
  refine (K1.out u1 HBu1.out).mono ?_
  rintro e w2 ⟨gm, rfl, hh, hb⟩
  have Om := Lib.hid (own_base (base' := w.heap.size) hh HBu1.out.size)
  have Lm := Lib.hid (show u1.heap.size ≤ gm ∧ gm < w2.heap.size from own_lt hh (g := gm) (by simp [Value.ownBlock]))
  have HBw2 := Lib.hid (HBu1.out.trans (hb.mono HBu1.out.size))
  have Xw2 := Lib.hid ((hb.block w.heap.size (by omega)).trans Xu1.out)
  have Zw2 := Lib.hid ((hb.block (w.heap.size + 1) (by omega)).trans Zu1.out)
  have Yw2 := Lib.hid ((hb.block (w.heap.size + 1 + 1) (by omega)).trans Yu1.out)
  have hsw2 : u1.heap.size ≤ w2.heap.size := hb.size
  have Or := Lib.hid (own_keep Or.out hb)
  clear hh hb
  obtain ⟨x0, x1, x2, x3, x4, x5, x6, x7⟩ := cell8_row Xw2.out
  obtain ⟨y0, y1, y2, y3, y4, y5, y6, y7⟩ := cell8_row Yw2.out
  obtain ⟨f0, f1, f2, f3, f4, f5, f6, f7⟩ := froz8_row Yw2.out
  obtain ⟨e0, e1, e2, e3, e4, e5, e6, e7⟩ := froz8_row Zw2.out
  obtain ⟨d0, d1, d2, d3, d4, d5, d6, d7⟩ := cell8_row Zw2.out
  go_wp2_with fail
  obtain ⟨u2, hu2⟩ : ∃ W, W = (w2.setCell ⟨w.heap.size + 1 + 1, 2, none⟩ (.slice (some ⟨gm, 0, none⟩) x.M.length x.M.length)) := ⟨_, rfl⟩
  have Yw2s0 := Lib.hid (show (w2.setCell ⟨w.heap.size + 1 + 1, 2, none⟩ (.slice (some ⟨gm, 0, none⟩) x.M.length x.M.length)).heap[w.heap.size + 1 + 1]? = some (.cells #[.int .i64 x.pc, .slice (some ⟨gr, 0, none⟩) x.R.length x.R.length, .slice (some ⟨gm, 0, none⟩) x.M.length x.M.length, .slice none 0 0, .int .i64 0, .slice none 0 0, .int .i64 0, .int .i64 0] 41 (0, 0)) from heap_setCell_same w2 (w.heap.size + 1 + 1) 2 _ _ _ Yw2.out)
  have Xu2 : Hid (u2.heap[w.heap.size]? = _) := Lib.hid (show u2.heap[w.heap.size]? = some (.cells #[.int .i64 x.pc, .slice qr x.R.length cr, .slice qm x.M.length cm, .slice qs x.S.length cs, .int .i64 x.inn, .slice qo x.O.length co, .int .i64 x.cd, .int .i64 x.st] 39 (0, 0)) by rw [hu2]; repeat (first | rw [heap_setCell_other _ _ _ _ (by first | (simp; done) | (simp; omega))] | exact Xw2.out))
  have Zu2 : Hid (u2.heap[w.heap.size + 1]? = _) := Lib.hid (show u2.heap[w.heap.size + 1]? = some (.cells #[.int .i64 0, .slice none 0 0, .slice none 0 0, .slice none 0 0, .int .i64 0, .slice none 0 0, .int .i64 0, .int .i64 0] 41 (0, 0)) by rw [hu2]; repeat (first | rw [heap_setCell_other _ _ _ _ (by first | (simp; done) | (simp; omega))] | exact Zw2.out))
  have HBu2 : Hid (Below w.heap.size w u2) := Lib.hid (by rw [hu2]; repeat (first | refine Below.setCell ?_ (by first | (simp; done) | (simp; omega)) _ | exact HBw2.out))
  have hsu2 : u2.heap.size = w2.heap.size := by rw [hu2]; simp [World.setCell]
  have Or := Lib.hid (show u2.ownsRow w.heap.size 3 1 (.slice (some ⟨gr, 0, none⟩) x.R.length x.R.length) x.R.length (IntL.all x.R) by rw [hu2]; refine own_same Or.out (fun k hk => ?_); have hne := Lr.out; have hk : k = gr := (by simp [Value.ownBlock] at hk; omega); subst hk; repeat (first | rw [heap_setCell_other _ _ _ _ (by simp; omega)]))
  have Om := Lib.hid (show u2.ownsRow w.heap.size 3 1 (.slice (some ⟨gm, 0, none⟩) x.M.length x.M.length) x.M.length (IntL.all x.M) by rw [hu2]; refine own_same Om.out (fun k hk => ?_); have hne := Lm.out; have hk : k = gm := (by simp [Value.ownBlock] at hk; omega); subst hk; repeat (first | rw [heap_setCell_other _ _ _ _ (by simp; omega)]))
  have Yu2 : Hid (u2.heap[w.heap.size + 1 + 1]? = some (.cells #[.int .i64 x.pc, .slice (some ⟨gr, 0, none⟩) x.R.length x.R.length, .slice (some ⟨gm, 0, none⟩) x.M.length x.M.length, .slice none 0 0, .int .i64 0, .slice none 0 0, .int .i64 0, .int .i64 0] 41 (0, 0))) := Lib.hid (by rw [hu2]; exact Yw2s0.out)
  rw [← hu2]
  clear x0 x1 x2 x3 x4 x5 x6 x7 y0 y1 y2 y3 y4 y5 y6 y7 f0 f1 f2 f3 f4 f5 f6 f7 e0 e1 e2 e3 e4 e5 e6 e7 d0 d1 d2 d3 d4 d5 d6 d7
  refine (K2.out u2 HBu2.out).mono ?_
  rintro e w3 ⟨gs, rfl, hh, hb⟩
  have Os := Lib.hid (own_base (base' := w.heap.size) hh HBu2.out.size)
  have Ls := Lib.hid (show u2.heap.size ≤ gs ∧ gs < w3.heap.size from own_lt hh (g := gs) (by simp [Value.ownBlock]))
  have HBw3 := Lib.hid (HBu2.out.trans (hb.mono HBu2.out.size))
  have Xw3 := Lib.hid ((hb.block w.heap.size (by omega)).trans Xu2.out)
  have Zw3 := Lib.hid ((hb.block (w.heap.size + 1) (by omega)).trans Zu2.out)
  have Yw3 := Lib.hid ((hb.block (w.heap.size + 1 + 1) (by omega)).trans Yu2.out)
  have hsw3 : u2.heap.size ≤ w3.heap.size := hb.size
  have Or := Lib.hid (own_keep Or.out hb)
  have Om := Lib.hid (own_keep Om.out hb)
  clear hh hb
  obtain ⟨x0, x1, x2, x3, x4, x5, x6, x7⟩ := cell8_row Xw3.out
  obtain ⟨y0, y1, y2, y3, y4, y5, y6, y7⟩ := cell8_row Yw3.out
  obtain ⟨f0, f1, f2, f3, f4, f5, f6, f7⟩ := froz8_row Yw3.out
  obtain ⟨e0, e1, e2, e3, e4, e5, e6, e7⟩ := froz8_row Zw3.out
  obtain ⟨d0, d1, d2, d3, d4, d5, d6, d7⟩ := cell8_row Zw3.out
  go_wp2_with fail
  obtain ⟨u3, hu3⟩ : ∃ W, W = ((w3.setCell ⟨w.heap.size + 1 + 1, 3, none⟩ (.slice (some ⟨gs, 0, none⟩) x.S.length x.S.length)).setCell ⟨w.heap.size + 1 + 1, 4, none⟩ (.int .i64 x.inn)) := ⟨_, rfl⟩
  have Yw3s0 := Lib.hid (show (w3.setCell ⟨w.heap.size + 1 + 1, 3, none⟩ (.slice (some ⟨gs, 0, none⟩) x.S.length x.S.length)).heap[w.heap.size + 1 + 1]? = some (.cells #[.int .i64 x.pc, .slice (some ⟨gr, 0, none⟩) x.R.length x.R.length, .slice (some ⟨gm, 0, none⟩) x.M.length x.M.length, .slice (some ⟨gs, 0, none⟩) x.S.length x.S.length, .int .i64 0, .slice none 0 0, .int .i64 0, .int .i64 0] 41 (0, 0)) from heap_setCell_same w3 (w.heap.size + 1 + 1) 3 _ _ _ Yw3.out)
  have Yw3s1 := Lib.hid (show ((w3.setCell ⟨w.heap.size + 1 + 1, 3, none⟩ (.slice (some ⟨gs, 0, none⟩) x.S.length x.S.length)).setCell ⟨w.heap.size + 1 + 1, 4, none⟩ (.int .i64 x.inn)).heap[w.heap.size + 1 + 1]? = some (.cells #[.int .i64 x.pc, .slice (some ⟨gr, 0, none⟩) x.R.length x.R.length, .slice (some ⟨gm, 0, none⟩) x.M.length x.M.length, .slice (some ⟨gs, 0, none⟩) x.S.length x.S.length, .int .i64 x.inn, .slice none 0 0, .int .i64 0, .int .i64 0] 41 (0, 0)) from heap_setCell_same (w3.setCell ⟨w.heap.size + 1 + 1, 3, none⟩ (.slice (some ⟨gs, 0, none⟩) x.S.length x.S.length)) (w.heap.size + 1 + 1) 4 _ _ _ Yw3s0.out)
  have Xu3 : Hid (u3.heap[w.heap.size]? = _) := Lib.hid (show u3.heap[w.heap.size]? = some (.cells #[.int .i64 x.pc, .slice qr x.R.length cr, .slice qm x.M.length cm, .slice qs x.S.length cs, .int .i64 x.inn, .slice qo x.O.length co, .int .i64 x.cd, .int .i64 x.st] 39 (0, 0)) by rw [hu3]; repeat (first | rw [heap_setCell_other _ _ _ _ (by first | (simp; done) | (simp; omega))] | exact Xw3.out))
  have Zu3 : Hid (u3.heap[w.heap.size + 1]? = _) := Lib.hid (show u3.heap[w.heap.size + 1]? = some (.cells #[.int .i64 0, .slice none 0 0, .slice none 0 0, .slice none 0 0, .int .i64 0, .slice none 0 0, .int .i64 0, .int .i64 0] 41 (0, 0)) by rw [hu3]; repeat (first | rw [heap_setCell_other _ _ _ _ (by first | (simp; done) | (simp; omega))] | exact Zw3.out))
  have HBu3 : Hid (Below w.heap.size w u3) := Lib.hid (by rw [hu3]; repeat (first | refine Below.setCell ?_ (by first | (simp; done) | (simp; omega)) _ | exact HBw3.out))
  have hsu3 : u3.heap.size = w3.heap.size := by rw [hu3]; simp [World.setCell]
  have Or := Lib.hid (show u3.ownsRow w.heap.size 3 1 (.slice (some ⟨gr, 0, none⟩) x.R.length x.R.length) x.R.length (IntL.all x.R) by rw [hu3]; refine own_same Or.out (fun k hk => ?_); have hne := Lr.out; have hk : k = gr := (by simp [Value.ownBlock] at hk; omega); subst hk; repeat (first | rw [heap_setCell_other _ _ _ _ (by simp; omega)]))
  have Om := Lib.hid (show u3.ownsRow w.heap.size 3 1 (.slice (some ⟨gm, 0, none⟩) x.M.length x.M.length) x.M.length (IntL.all x.M) by rw [hu3]; refine own_same Om.out (fun k hk => ?_); have hne := Lm.out; have hk : k = gm := (by simp [Value.ownBlock] at hk; omega); subst hk; repeat (first | rw [heap_setCell_other _ _ _ _ (by simp; omega)]))
  have Os := Lib.hid (show u3.ownsRow w.heap.size 3 1 (.slice (some ⟨gs, 0, none⟩) x.S.length x.S.length) x.S.length (IntL.all x.S) by rw [hu3]; refine own_same Os.out (fun k hk => ?_); have hne := Ls.out; have hk : k = gs := (by simp [Value.ownBlock] at hk; omega); subst hk; repeat (first | rw [heap_setCell_other _ _ _ _ (by simp; omega)]))
  have Yu3 : Hid (u3.heap[w.heap.size + 1 + 1]? = some (.cells #[.int .i64 x.pc, .slice (some ⟨gr, 0, none⟩) x.R.length x.R.length, .slice (some ⟨gm, 0, none⟩) x.M.length x.M.length, .slice (some ⟨gs, 0, none⟩) x.S.length x.S.length, .int .i64 x.inn, .slice none 0 0, .int .i64 0, .int .i64 0] 41 (0, 0))) := Lib.hid (by rw [hu3]; exact Yw3s1.out)
  rw [← hu3]
  clear x0 x1 x2 x3 x4 x5 x6 x7 y0 y1 y2 y3 y4 y5 y6 y7 f0 f1 f2 f3 f4 f5 f6 f7 e0 e1 e2 e3 e4 e5 e6 e7 d0 d1 d2 d3 d4 d5 d6 d7
  refine (K3.out u3 HBu3.out).mono ?_
  rintro e w4 ⟨go, rfl, hh, hb⟩
  have Oo := Lib.hid (own_base (base' := w.heap.size) hh HBu3.out.size)
  have Lo := Lib.hid (show u3.heap.size ≤ go ∧ go < w4.heap.size from own_lt hh (g := go) (by simp [Value.ownBlock]))
  have HBw4 := Lib.hid (HBu3.out.trans (hb.mono HBu3.out.size))
  have Xw4 := Lib.hid ((hb.block w.heap.size (by omega)).trans Xu3.out)
  have Zw4 := Lib.hid ((hb.block (w.heap.size + 1) (by omega)).trans Zu3.out)
  have Yw4 := Lib.hid ((hb.block (w.heap.size + 1 + 1) (by omega)).trans Yu3.out)
  have hsw4 : u3.heap.size ≤ w4.heap.size := hb.size
  have Or := Lib.hid (own_keep Or.out hb)
  have Om := Lib.hid (own_keep Om.out hb)
  have Os := Lib.hid (own_keep Os.out hb)
  clear hh hb
  obtain ⟨x0, x1, x2, x3, x4, x5, x6, x7⟩ := cell8_row Xw4.out
  obtain ⟨y0, y1, y2, y3, y4, y5, y6, y7⟩ := cell8_row Yw4.out
  obtain ⟨f0, f1, f2, f3, f4, f5, f6, f7⟩ := froz8_row Yw4.out
  obtain ⟨e0, e1, e2, e3, e4, e5, e6, e7⟩ := froz8_row Zw4.out
  obtain ⟨d0, d1, d2, d3, d4, d5, d6, d7⟩ := cell8_row Zw4.out
  go_wp2
  refine bodyPost_ret (v := .agg #[.int .i64 x.pc, .slice (some ⟨gr, 0, none⟩) x.R.length x.R.length, .slice (some ⟨gm, 0, none⟩) x.M.length x.M.length, .slice (some ⟨gs, 0, none⟩) x.S.length x.S.length, .int .i64 x.inn, .slice (some ⟨go, 0, none⟩) x.O.length x.O.length, .int .i64 x.cd, .int .i64 x.st]) (by simp [results, Try.results20, go_sem, d0, d1, d2, d3, d4, d5, d6, d7]) rfl ?_
  have q1 := Lr.out
  have q2 := Lm.out
  have q3 := Ls.out
  have q4 := Lo.out
  refine ⟨gr, gm, gs, go, rfl, ⟨?_, ?_, ?_, ?_, ?_⟩, ?_⟩
  · refine own_same Or.out (fun k hk => ?_)
    have hk : k = gr := by simp [Value.ownBlock] at hk; omega
    subst hk
    repeat (first | rw [heap_setCell_other _ _ _ _ (by simp; omega)])
  · refine own_same Om.out (fun k hk => ?_)
    have hk : k = gm := by simp [Value.ownBlock] at hk; omega
    subst hk
    repeat (first | rw [heap_setCell_other _ _ _ _ (by simp; omega)])
  · refine own_same Os.out (fun k hk => ?_)
    have hk : k = gs := by simp [Value.ownBlock] at hk; omega
    subst hk
    repeat (first | rw [heap_setCell_other _ _ _ _ (by simp; omega)])
  · refine own_same Oo.out (fun k hk => ?_)
    have hk : k = go := by simp [Value.ownBlock] at hk; omega
    subst hk
    repeat (first | rw [heap_setCell_other _ _ _ _ (by simp; omega)])
  · simp [Value.ownBlock]
    omega
  · repeat (first | refine Below.setCell ?_ (by first | (simp; done) | (simp; omega)) _ | exact HBw4.out)
end Go.Proofs.Ytbdkningngpgcaa
