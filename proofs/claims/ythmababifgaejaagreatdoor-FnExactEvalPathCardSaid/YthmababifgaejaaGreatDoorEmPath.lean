/- A path by value: how it comes in, and what the laws do with it: sz, to, eq. No condition. -/
import Derived.Test.YthmababifgaejaaGreatDoorEmGSzI
import Derived.Test.YthmababifgaejaaGreatDoorEmGDat
import Derived.Test.YthmababifgaejaaGreatDoorEmGSz
import Derived.Test.YthmababifgaejaaGreatDoorEmOpenT
import Derived.Deep.RegionWith
namespace Go.Proofs.YthmababifgaejaaGreatDoor
open Go.ChangeShapes Go.WideShapes Go.ChangeAt Go.RowKit
structure PaR where
  pc : Int
  R : Fo
  M : Fo
  S : List Int
  inn : Int
  O : Fo
  cd : Int
  st : Int
  C : Fo
  U : List Int
namespace PaR
/-- its lists in their order, all together -/
def cost (x : PaR) : Nat := x.R.cost + x.M.cost + x.S.length + x.O.cost + x.C.cost + x.U.length
def Long (x : PaR) : Prop := x.R.len ≤ maxLen ∧ x.M.len ≤ maxLen ∧ x.S.length ≤ maxLen ∧ x.O.len ≤ maxLen ∧ x.C.len ≤ maxLen ∧ x.U.length ≤ maxLen
def Ok (x : PaR) : Prop := (-9223372036854775808 ≤ x.pc ∧ x.pc ≤ 9223372036854775807) ∧ (-9223372036854775808 ≤ x.inn ∧ x.inn ≤ 9223372036854775807) ∧ (-9223372036854775808 ≤ x.cd ∧ x.cd ≤ 9223372036854775807) ∧ (-9223372036854775808 ≤ x.st ∧ x.st ≤ 9223372036854775807) ∧ x.R.Ok ∧ x.M.Ok ∧ (∀ y ∈ x.S, IntL.Ok y) ∧ x.O.Ok ∧ x.C.Ok ∧ (∀ y ∈ x.U, IntL.Ok y)
end PaR
/-- its slices show its lists -/
def PaS (w : World) (base : Nat) (x : PaR) (r m s o c u : Value) : Prop := (x.R.cs 74).Is w base 5 x.R.len r ∧ (x.M.cs 74).Is w base 5 x.M.len m ∧ Cs.Shows w base 1 s x.S.length (IntL.all x.S) ∧ (x.O.cs 74).Is w base 5 x.O.len o ∧ (x.C.cs 74).Is w base 5 x.C.len c ∧ Cs.Shows w base 1 u x.U.length (IntL.all x.U)
theorem PaS.below {w w' : World} {base : Nat} {x : PaR} {r m s o c u : Value} (h : PaS w base x r m s o c u) (hb : Below w.heap.size w w') : PaS w' base x r m s o c u := ⟨h.1.below hb, h.2.1.below hb, h.2.2.1.below hb, h.2.2.2.1.below hb, h.2.2.2.2.1.below hb, h.2.2.2.2.2.below hb⟩
theorem PaS.down {w : World} {base : Nat} {x : PaR} {r m s o c u : Value} (h : PaS w base x r m s o c u) : PaS w 0 x r m s o c u := ⟨h.1.down (Nat.zero_le _), h.2.1.down (Nat.zero_le _), h.2.2.1.down (Nat.zero_le _), h.2.2.2.1.down (Nat.zero_le _), h.2.2.2.2.1.down (Nat.zero_le _), h.2.2.2.2.2.down (Nat.zero_le _)⟩
/-- its slices show its lists -/
def PaI (w : World) (base : Nat) (x : PaR) (r m s o c u : Value) : Prop := (x.R.cs 64).Is w base 5 x.R.len r ∧ (x.M.cs 64).Is w base 5 x.M.len m ∧ Cs.Shows w base 1 s x.S.length (IntL.all x.S) ∧ (x.O.cs 64).Is w base 5 x.O.len o ∧ (x.C.cs 64).Is w base 5 x.C.len c ∧ Cs.Shows w base 1 u x.U.length (IntL.all x.U)
theorem PaI.below {w w' : World} {base : Nat} {x : PaR} {r m s o c u : Value} (h : PaI w base x r m s o c u) (hb : Below w.heap.size w w') : PaI w' base x r m s o c u := ⟨h.1.below hb, h.2.1.below hb, h.2.2.1.below hb, h.2.2.2.1.below hb, h.2.2.2.2.1.below hb, h.2.2.2.2.2.below hb⟩
theorem PaI.down {w : World} {base : Nat} {x : PaR} {r m s o c u : Value} (h : PaI w base x r m s o c u) : PaI w 0 x r m s o c u := ⟨h.1.down (Nat.zero_le _), h.2.1.down (Nat.zero_le _), h.2.2.1.down (Nat.zero_le _), h.2.2.2.1.down (Nat.zero_le _), h.2.2.2.2.1.down (Nat.zero_le _), h.2.2.2.2.2.down (Nat.zero_le _)⟩
/-- its slices own their rows, each its own; B: all their blocks -/
def PaO (w : World) (base : Nat) (x : PaR) (r m s o c u : Value) (B : List Nat) : Prop := ∃ br bm bo bc, (x.R.cs 64).Has w base 64 5 x.R.len r br ∧ (x.M.cs 64).Has w base 64 5 x.M.len m bm ∧ w.ownsRow base 3 1 s x.S.length (IntL.all x.S) ∧ (x.O.cs 64).Has w base 64 5 x.O.len o bo ∧ (x.C.cs 64).Has w base 64 5 x.C.len c bc ∧ w.ownsRow base 3 1 u x.U.length (IntL.all x.U) ∧ B = br ++ (bm ++ (s.ownBlock.toList ++ (bo ++ (bc ++ (u.ownBlock.toList))))) ∧ B.Nodup
theorem PaO.shows {w : World} {base : Nat} {x : PaR} {r m s o c u : Value} {B : List Nat} (h : PaO w base x r m s o c u B) : PaI w 0 x r m s o c u := by
  obtain ⟨br, bm, bo, bc, hr, hm, hs, ho, hc, hu, _⟩ := h
  exact ⟨hr.is.down (Nat.zero_le _), hm.is.down (Nat.zero_le _), (Cs.shows_of_owns hs).down (Nat.zero_le _), ho.is.down (Nat.zero_le _), hc.is.down (Nat.zero_le _), (Cs.shows_of_owns hu).down (Nat.zero_le _)⟩
theorem PaO.lt {w : World} {base : Nat} {x : PaR} {r m s o c u : Value} {B : List Nat} (h : PaO w base x r m s o c u B) : ∀ g ∈ B, base ≤ g ∧ g < w.heap.size := by
  obtain ⟨br, bm, bo, bc, hr, hm, hs, ho, hc, hu, rfl, _⟩ := h
  intro g hg
  simp only [List.mem_append] at hg
  rcases hg with hg | hg | hg | hg | hg | hg
  · exact hr.lt g hg
  · exact hm.lt g hg
  · exact own_lt hs hg
  · exact ho.lt g hg
  · exact hc.lt g hg
  · exact own_lt hu hg
theorem PaO.same {w' : World} {w : World} {base : Nat} {x : PaR} {r m s o c u : Value} {B : List Nat} (h : PaO w base x r m s o c u B) (hsm : ∀ g ∈ B, w'.heap[g]? = w.heap[g]?) : PaO w' base x r m s o c u B := by
  obtain ⟨br, bm, bo, bc, hr, hm, hs, ho, hc, hu, hB, hN⟩ := h
  subst hB
  simp only [List.mem_append] at hsm
  exact ⟨br, bm, bo, bc, hr.same (fun g hg => hsm g (.inl hg)), hm.same (fun g hg => hsm g (.inr (.inl hg))), own_same hs (fun g hg => hsm g (.inr (.inr (.inl hg)))), ho.same (fun g hg => hsm g (.inr (.inr (.inr (.inl hg))))), hc.same (fun g hg => hsm g (.inr (.inr (.inr (.inr (.inl hg)))))), own_same hu (fun g hg => hsm g (.inr (.inr (.inr (.inr (.inr (hg))))))), rfl, hN⟩
theorem PaO.keep {w' : World} {w : World} {base : Nat} {x : PaR} {r m s o c u : Value} {B : List Nat} (h : PaO w base x r m s o c u B) (hb : Below w.heap.size w w') : PaO w' base x r m s o c u B := h.same fun g hg => hb.block g (h.lt g hg).2
theorem PaO.base {base' : Nat} {w : World} {base : Nat} {x : PaR} {r m s o c u : Value} {B : List Nat} (h : PaO w base x r m s o c u B) (hb : base' ≤ base) : PaO w base' x r m s o c u B := by
  obtain ⟨br, bm, bo, bc, hr, hm, hs, ho, hc, hu, hB⟩ := h
  exact ⟨br, bm, bo, bc, hr.down hb, hm.down hb, own_base hs hb, ho.down hb, hc.down hb, own_base hu hb, hB⟩
section
variable {H : Type} {enc : TypeId × Value → H} {w : World} {base b0 : Nat} {spare : Nat → Bool} {held : Bool} {r : Reach}
theorem plain_Path : [28, 25, 74, 26, 3, 9].all (Cs.plainAt Tryz.prog [28, 25, 74, 26, 3, 9]) = true := by kernel_rfl
set_option maxRecDepth 100000 in
/-- one by value -/
theorem open_Path {v : Value} {d : DataW H} {p : List MemPlace} (hv : Value.okWide Tryz.prog w r b0 28 v) (h : DataW.Trod enc Tryz.prog w base spare held 28 v d p) :
    ∃ (x : PaR) (r m s o c u : Value), v = .agg #[.int .i64 x.pc, r, m, s, .int .i64 x.inn, o, .int .i64 x.cd, .int .i64 x.st, c, u] ∧ PaS w base x r m s o c u ∧ x.Ok ∧ x.Long := by
  obtain ⟨cs, rfl, _⟩ := okWide_struct Tryz.underlying28 hv
  obtain ⟨m, C, h1, h2⟩ := Cs.open_arg (t := 28) plain_Path (List.mem_cons_self ..) h
  cases m with
  | zero => exact h2.elim
  | succ m =>
    unfold Cs.Ty at h2
    rw [Tryz.underlying28] at h2
    simp only [List.map, Cs.Fields] at h2
    obtain ⟨c0, _, rfl, g0, c1, _, rfl, g1, c2, _, rfl, g2, c3, _, rfl, g3, c4, _, rfl, g4, c5, _, rfl, g5, c6, _, rfl, g6, c7, _, rfl, g7, c8, _, rfl, g8, c9, _, rfl, g9, rfl⟩ := h2
    obtain ⟨z0, rfl, w0⟩ := Fo.ty_int Tryz.underlying3 g0
    obtain ⟨z1, rfl, w1, l1⟩ := (both_T m).1 _ g1
    obtain ⟨z2, rfl, w2, l2⟩ := (both_T m).1 _ g2
    obtain ⟨z3, rfl, w3, l3⟩ := tys_Int m _ g3
    obtain ⟨z4, rfl, w4⟩ := Fo.ty_int Tryz.underlying3 g4
    obtain ⟨z5, rfl, w5, l5⟩ := (both_T m).1 _ g5
    obtain ⟨z6, rfl, w6⟩ := Fo.ty_int Tryz.underlying3 g6
    obtain ⟨z7, rfl, w7⟩ := Fo.ty_int Tryz.underlying3 g7
    obtain ⟨z8, rfl, w8, l8⟩ := (both_T m).1 _ g8
    obtain ⟨z9, rfl, w9, l9⟩ := tys_Int m _ g9
    obtain ⟨_, e, v1, _, y1, rfl, s1, a1, v2, _, y2, rfl, s2, a2, v3, _, y3, rfl, s3, a3, _, rfl, v5, _, y5, rfl, s5, a5, _, rfl, _, rfl, v8, _, y8, rfl, s8, a8, v9, _, y9, rfl, s9, a9, rfl⟩ := h1
    rw [Cs.flat_vs.1 a3] at s3
    rw [Cs.flat_vs.1 a9] at s9
    refine ⟨⟨z0, z1, z2, z3, z4, z5, z6, z7, z8, z9⟩, v1, v2, v3, v5, v8, v9, ?_, ⟨⟨y1, s1, a1⟩, ⟨y2, s2, a2⟩, s3, ⟨y5, s5, a5⟩, ⟨y8, s8, a8⟩, s9⟩, ⟨w0, w4, w6, w7, w1, w2, w3, w5, w8, w9⟩, ⟨l1, l2, l3, l5, l8, l9⟩⟩
    have e : cs.toList = _ := e
    rw [← Array.toArray_toList (xs := cs), e]
end
set_option maxRecDepth 100000 in
set_option maxHeartbeats 8000000 in
theorem sz_Path (x : PaR) (r m s o c u : Value) (l : Nat) (w : World) (hl : l ≤ 1048576) (hv : PaS w 0 x r m s o c u) (hok : x.Ok) (hlen : x.Long) :
    Calls Tryz.prog 5 #[.agg #[.int .i64 x.pc, r, m, s, .int .i64 x.inn, o, .int .i64 x.cd, .int .i64 x.st, c, u], .int .i64 l] w fun e w' => e = .returned (.int .i64 (left l x.cost)) ∧ Below w.heap.size w w' := by
  have hml : maxLen = 9223372036854775807 := rfl
  obtain ⟨hr, hm, hs, ho, hc, hu⟩ := hv
  obtain ⟨gr, gm, gs, go, gc, gu⟩ := hlen
  obtain ⟨_, _, _, _, kr, km, ks, ko, kc, ku⟩ := hok
  have K0 := Lib.hid (fun (l' : Nat) (hl' : l' ≤ 1048576) W (hb : Below w.heap.size w W) => sz_any x.R r l' W hl' (hr.below hb) kr gr)
  have K1 := Lib.hid (fun (l' : Nat) (hl' : l' ≤ 1048576) W (hb : Below w.heap.size w W) => sz_any x.M m l' W hl' (hm.below hb) km gm)
  have K2 := Lib.hid (fun (l' : Nat) (hl' : l' ≤ 1048576) W (hb : Below w.heap.size w W) => sz_Int x.S s l' W hl' (hs.below hb) gs)
  have K3 := Lib.hid (fun (l' : Nat) (hl' : l' ≤ 1048576) W (hb : Below w.heap.size w W) => sz_any x.O o l' W hl' (ho.below hb) ko go)
  have K4 := Lib.hid (fun (l' : Nat) (hl' : l' ≤ 1048576) W (hb : Below w.heap.size w W) => sz_any x.C c l' W hl' (hc.below hb) kc gc)
  have K5 := Lib.hid (fun (l' : Nat) (hl' : l' ≤ 1048576) W (hb : Below w.heap.size w W) => sz_Int x.U u l' W hl' (hu.below hb) gu)
  obtain ⟨_, ⟨_, qr, cr, rfl, _⟩, _⟩ := hr
  obtain ⟨_, ⟨_, qm, cm, rfl, _⟩, _⟩ := hm
  obtain ⟨_, qs, cs, rfl, _⟩ := hs
  obtain ⟨_, ⟨_, qo, co, rfl, _⟩, _⟩ := ho
  obtain ⟨_, ⟨_, qc, cc, rfl, _⟩, _⟩ := hc
  obtain ⟨_, qu, cu, rfl, _⟩ := hu
  have hx : x.cost = x.R.cost + x.M.cost + x.S.length + x.O.cost + x.C.cost + x.U.length := rfl
  have HB0 := Lib.hid ((Below.refl w.heap.size w).alloc (Nat.le_refl _) (.cells #[.int .i64 x.pc, .slice qr x.R.len cr, .slice qm x.M.len cm, .slice qs x.S.length cs, .int .i64 x.inn, .slice qo x.O.len co, .int .i64 x.cd, .int .i64 x.st, .slice qc x.C.len cc, .slice qu x.U.length cu] 28))
  have X0 := Lib.hid (cell10_alloc w 28 (.int .i64 x.pc) (.slice qr x.R.len cr) (.slice qm x.M.len cm) (.slice qs x.S.length cs) (.int .i64 x.inn) (.slice qo x.O.len co) (.int .i64 x.cd) (.int .i64 x.st) (.slice qc x.C.len cc) (.slice qu x.U.length cu))
  obtain ⟨w0, hw0⟩ : ∃ w0, w0 = w.alloc (.cells #[.int .i64 x.pc, .slice qr x.R.len cr, .slice qm x.M.len cm, .slice qs x.S.length cs, .int .i64 x.inn, .slice qo x.O.len co, .int .i64 x.cd, .int .i64 x.st, .slice qc x.C.len cc, .slice qu x.U.length cu] 28) := ⟨_, rfl⟩
  rw [← hw0] at HB0 X0
  go_enter Tryz.func5, Tryz.ntmps5
  go_wp2_with fail
  rw [← hw0]
  clear hw0
  by_cases h0 : x.R.cost ≤ l
  · obtain ⟨l1, e0, m0⟩ : ∃ l' : Nat, left l (x.R.cost) = (l' : Int) ∧ l' + x.R.cost = l := ⟨l - x.R.cost, by unfold left; rw [if_pos h0]; omega, by omega⟩
    have R0 := Lib.hid (K0.out l (by omega) w0 HB0.out)
    rw [e0] at R0
    refine R0.out.mono ?_
    rintro e w1 ⟨rfl, hb⟩
    have HB1 := Lib.hid (HB0.out.trans (hb.mono HB0.out.size))
    have X1 := Lib.hid (X0.out.below hb)
    have hn0 : 0 ≤ (l1 : Int) := by omega
    clear hb R0 e0
    obtain ⟨x0, x1, x2, x3, x4, x5, x6, x7, x8, x9⟩ := X1.out
    go_wp2_with fail
    clear x0 x1 x2 x3 x4 x5 x6 x7 x8 x9
    by_cases h1 : x.M.cost ≤ l1
    · obtain ⟨l2, e1, m1⟩ : ∃ l' : Nat, left l1 (x.M.cost) = (l' : Int) ∧ l' + x.M.cost = l1 := ⟨l1 - x.M.cost, by unfold left; rw [if_pos h1]; omega, by omega⟩
      have R1 := Lib.hid (K1.out l1 (by omega) w1 HB1.out)
      rw [e1] at R1
      refine R1.out.mono ?_
      rintro e w2 ⟨rfl, hb⟩
      have HB2 := Lib.hid (HB1.out.trans (hb.mono HB1.out.size))
      have X2 := Lib.hid (X1.out.below hb)
      have hn1 : 0 ≤ (l2 : Int) := by omega
      clear hb R1 e1
      obtain ⟨x0, x1, x2, x3, x4, x5, x6, x7, x8, x9⟩ := X2.out
      go_wp2_with fail
      clear x0 x1 x2 x3 x4 x5 x6 x7 x8 x9
      by_cases h2 : x.S.length ≤ l2
      · obtain ⟨l3, e2, m2⟩ : ∃ l' : Nat, left l2 (x.S.length) = (l' : Int) ∧ l' + x.S.length = l2 := ⟨l2 - x.S.length, by unfold left; rw [if_pos h2]; omega, by omega⟩
        have R2 := Lib.hid (K2.out l2 (by omega) w2 HB2.out)
        rw [e2] at R2
        refine R2.out.mono ?_
        rintro e w3 ⟨rfl, hb⟩
        have HB3 := Lib.hid (HB2.out.trans (hb.mono HB2.out.size))
        have X3 := Lib.hid (X2.out.below hb)
        have hn2 : 0 ≤ (l3 : Int) := by omega
        clear hb R2 e2
        obtain ⟨x0, x1, x2, x3, x4, x5, x6, x7, x8, x9⟩ := X3.out
        go_wp2_with fail
        clear x0 x1 x2 x3 x4 x5 x6 x7 x8 x9
        by_cases h3 : x.O.cost ≤ l3
        · obtain ⟨l4, e3, m3⟩ : ∃ l' : Nat, left l3 (x.O.cost) = (l' : Int) ∧ l' + x.O.cost = l3 := ⟨l3 - x.O.cost, by unfold left; rw [if_pos h3]; omega, by omega⟩
          have R3 := Lib.hid (K3.out l3 (by omega) w3 HB3.out)
          rw [e3] at R3
          refine R3.out.mono ?_
          rintro e w4 ⟨rfl, hb⟩
          have HB4 := Lib.hid (HB3.out.trans (hb.mono HB3.out.size))
          have X4 := Lib.hid (X3.out.below hb)
          have hn3 : 0 ≤ (l4 : Int) := by omega
          clear hb R3 e3
          obtain ⟨x0, x1, x2, x3, x4, x5, x6, x7, x8, x9⟩ := X4.out
          go_wp2_with fail
          clear x0 x1 x2 x3 x4 x5 x6 x7 x8 x9
          by_cases h4 : x.C.cost ≤ l4
          · obtain ⟨l5, e4, m4⟩ : ∃ l' : Nat, left l4 (x.C.cost) = (l' : Int) ∧ l' + x.C.cost = l4 := ⟨l4 - x.C.cost, by unfold left; rw [if_pos h4]; omega, by omega⟩
            have R4 := Lib.hid (K4.out l4 (by omega) w4 HB4.out)
            rw [e4] at R4
            refine R4.out.mono ?_
            rintro e w5 ⟨rfl, hb⟩
            have HB5 := Lib.hid (HB4.out.trans (hb.mono HB4.out.size))
            have X5 := Lib.hid (X4.out.below hb)
            have hn4 : 0 ≤ (l5 : Int) := by omega
            clear hb R4 e4
            obtain ⟨x0, x1, x2, x3, x4, x5, x6, x7, x8, x9⟩ := X5.out
            go_wp2_with fail
            clear x0 x1 x2 x3 x4 x5 x6 x7 x8 x9
            by_cases h5 : x.U.length ≤ l5
            · obtain ⟨l6, e5, m5⟩ : ∃ l' : Nat, left l5 (x.U.length) = (l' : Int) ∧ l' + x.U.length = l5 := ⟨l5 - x.U.length, by unfold left; rw [if_pos h5]; omega, by omega⟩
              have R5 := Lib.hid (K5.out l5 (by omega) w5 HB5.out)
              rw [e5] at R5
              refine R5.out.mono ?_
              rintro e w6 ⟨rfl, hb⟩
              have HB6 := Lib.hid (HB5.out.trans (hb.mono HB5.out.size))
              have X6 := Lib.hid (X5.out.below hb)
              have hn5 : 0 ≤ (l6 : Int) := by omega
              clear hb R5 e5
              obtain ⟨x0, x1, x2, x3, x4, x5, x6, x7, x8, x9⟩ := X6.out
              go_wp2
              go_ret
              exact ⟨by rw [show left l x.cost = (l6 : Int) by unfold left; rw [if_pos (show x.cost ≤ l by omega)]; omega] <;> rfl, HB6.out⟩
            · have R5 := Lib.hid (K5.out l5 (by omega) w5 HB5.out)
              rw [show left l5 (x.U.length) = -1 by unfold left; rw [if_neg h5]] at R5
              refine R5.out.mono ?_
              rintro e w6 ⟨rfl, hb⟩
              have HB6 := Lib.hid (HB5.out.trans (hb.mono HB5.out.size))
              clear hb R5
              go_wp2
              go_ret
              exact ⟨by rw [show left l x.cost = -1 by unfold left; rw [if_neg (show ¬ x.cost ≤ l by omega)]] <;> rfl, HB6.out⟩
          · have R4 := Lib.hid (K4.out l4 (by omega) w4 HB4.out)
            rw [show left l4 (x.C.cost) = -1 by unfold left; rw [if_neg h4]] at R4
            refine R4.out.mono ?_
            rintro e w5 ⟨rfl, hb⟩
            have HB5 := Lib.hid (HB4.out.trans (hb.mono HB4.out.size))
            clear hb R4
            go_wp2
            go_ret
            exact ⟨by rw [show left l x.cost = -1 by unfold left; rw [if_neg (show ¬ x.cost ≤ l by omega)]] <;> rfl, HB5.out⟩
        · have R3 := Lib.hid (K3.out l3 (by omega) w3 HB3.out)
          rw [show left l3 (x.O.cost) = -1 by unfold left; rw [if_neg h3]] at R3
          refine R3.out.mono ?_
          rintro e w4 ⟨rfl, hb⟩
          have HB4 := Lib.hid (HB3.out.trans (hb.mono HB3.out.size))
          clear hb R3
          go_wp2
          go_ret
          exact ⟨by rw [show left l x.cost = -1 by unfold left; rw [if_neg (show ¬ x.cost ≤ l by omega)]] <;> rfl, HB4.out⟩
      · have R2 := Lib.hid (K2.out l2 (by omega) w2 HB2.out)
        rw [show left l2 (x.S.length) = -1 by unfold left; rw [if_neg h2]] at R2
        refine R2.out.mono ?_
        rintro e w3 ⟨rfl, hb⟩
        have HB3 := Lib.hid (HB2.out.trans (hb.mono HB2.out.size))
        clear hb R2
        go_wp2
        go_ret
        exact ⟨by rw [show left l x.cost = -1 by unfold left; rw [if_neg (show ¬ x.cost ≤ l by omega)]] <;> rfl, HB3.out⟩
    · have R1 := Lib.hid (K1.out l1 (by omega) w1 HB1.out)
      rw [show left l1 (x.M.cost) = -1 by unfold left; rw [if_neg h1]] at R1
      refine R1.out.mono ?_
      rintro e w2 ⟨rfl, hb⟩
      have HB2 := Lib.hid (HB1.out.trans (hb.mono HB1.out.size))
      clear hb R1
      go_wp2
      go_ret
      exact ⟨by rw [show left l x.cost = -1 by unfold left; rw [if_neg (show ¬ x.cost ≤ l by omega)]] <;> rfl, HB2.out⟩
  · have R0 := Lib.hid (K0.out l (by omega) w0 HB0.out)
    rw [show left l (x.R.cost) = -1 by unfold left; rw [if_neg h0]] at R0
    refine R0.out.mono ?_
    rintro e w1 ⟨rfl, hb⟩
    have HB1 := Lib.hid (HB0.out.trans (hb.mono HB0.out.size))
    clear hb R0
    go_wp2
    go_ret
    exact ⟨by rw [show left l x.cost = -1 by unfold left; rw [if_neg (show ¬ x.cost ≤ l by omega)]] <;> rfl, HB1.out⟩
set_option maxRecDepth 100000 in
set_option maxHeartbeats 8000000 in
theorem eq_Path (x : PaR) (r1 m1 s1 o1 c1 u1 r2 m2 s2 o2 c2 u2 : Value) (w : World) (hs1 : PaI w 0 x r1 m1 s1 o1 c1 u1) (hs2 : PaI w 0 x r2 m2 s2 o2 c2 u2) (hn : x.R.nodes ≤ 2097152 ∧ x.M.nodes ≤ 2097152 ∧ x.S.length ≤ 2097152 ∧ x.O.nodes ≤ 2097152 ∧ x.C.nodes ≤ 2097152 ∧ x.U.length ≤ 2097152) :
    Calls Tryz.prog 13 #[.agg #[.int .i64 x.pc, r1, m1, s1, .int .i64 x.inn, o1, .int .i64 x.cd, .int .i64 x.st, c1, u1], .agg #[.int .i64 x.pc, r2, m2, s2, .int .i64 x.inn, o2, .int .i64 x.cd, .int .i64 x.st, c2, u2]] w fun e w' => e = .returned (.bool true) ∧ Below w.heap.size w w' := by
  obtain ⟨hr1, hm1, hs1, ho1, hc1, hu1⟩ := hs1
  obtain ⟨hr2, hm2, hs2, ho2, hc2, hu2⟩ := hs2
  obtain ⟨nr, nm, ns, no, nc, nu⟩ := hn
  have K0 := Lib.hid (fun W (hb : Below w.heap.size w W) => eq_any x.R _ _ W (hr1.below hb) (hr2.below hb) nr)
  have K1 := Lib.hid (fun W (hb : Below w.heap.size w W) => eq_any x.M _ _ W (hm1.below hb) (hm2.below hb) nm)
  have K2 := Lib.hid (fun W (hb : Below w.heap.size w W) => eq_Int x.S _ _ W (hs1.below hb) (hs2.below hb) ns)
  have K3 := Lib.hid (fun W (hb : Below w.heap.size w W) => eq_any x.O _ _ W (ho1.below hb) (ho2.below hb) no)
  have K4 := Lib.hid (fun W (hb : Below w.heap.size w W) => eq_any x.C _ _ W (hc1.below hb) (hc2.below hb) nc)
  have K5 := Lib.hid (fun W (hb : Below w.heap.size w W) => eq_Int x.U _ _ W (hu1.below hb) (hu2.below hb) nu)
  obtain ⟨_, ⟨_, qr1, cr1, rfl, _⟩, _⟩ := hr1
  obtain ⟨_, ⟨_, qm1, cm1, rfl, _⟩, _⟩ := hm1
  obtain ⟨_, qs1, cs1, rfl, _⟩ := hs1
  obtain ⟨_, ⟨_, qo1, co1, rfl, _⟩, _⟩ := ho1
  obtain ⟨_, ⟨_, qc1, cc1, rfl, _⟩, _⟩ := hc1
  obtain ⟨_, qu1, cu1, rfl, _⟩ := hu1
  obtain ⟨_, ⟨_, qr2, cr2, rfl, _⟩, _⟩ := hr2
  obtain ⟨_, ⟨_, qm2, cm2, rfl, _⟩, _⟩ := hm2
  obtain ⟨_, qs2, cs2, rfl, _⟩ := hs2
  obtain ⟨_, ⟨_, qo2, co2, rfl, _⟩, _⟩ := ho2
  obtain ⟨_, ⟨_, qc2, cc2, rfl, _⟩, _⟩ := hc2
  obtain ⟨_, qu2, cu2, rfl, _⟩ := hu2
  have X0 := Lib.hid ((cell10_alloc w 41 (.int .i64 x.pc) (.slice qr1 x.R.len cr1) (.slice qm1 x.M.len cm1) (.slice qs1 x.S.length cs1) (.int .i64 x.inn) (.slice qo1 x.O.len co1) (.int .i64 x.cd) (.int .i64 x.st) (.slice qc1 x.C.len cc1) (.slice qu1 x.U.length cu1)).below (((Below.refl _ _).alloc (Nat.le_refl _) (.cells #[.int .i64 x.pc, .slice qr2 x.R.len cr2, .slice qm2 x.M.len cm2, .slice qs2 x.S.length cs2, .int .i64 x.inn, .slice qo2 x.O.len co2, .int .i64 x.cd, .int .i64 x.st, .slice qc2 x.C.len cc2, .slice qu2 x.U.length cu2] 41))))
  have Y0 := Lib.hid (cell10_alloc (w.alloc (.cells #[.int .i64 x.pc, .slice qr1 x.R.len cr1, .slice qm1 x.M.len cm1, .slice qs1 x.S.length cs1, .int .i64 x.inn, .slice qo1 x.O.len co1, .int .i64 x.cd, .int .i64 x.st, .slice qc1 x.C.len cc1, .slice qu1 x.U.length cu1] 41)) 41 (.int .i64 x.pc) (.slice qr2 x.R.len cr2) (.slice qm2 x.M.len cm2) (.slice qs2 x.S.length cs2) (.int .i64 x.inn) (.slice qo2 x.O.len co2) (.int .i64 x.cd) (.int .i64 x.st) (.slice qc2 x.C.len cc2) (.slice qu2 x.U.length cu2))
  have HB0 := Lib.hid (((Below.refl w.heap.size w).alloc (Nat.le_refl _) (.cells #[.int .i64 x.pc, .slice qr1 x.R.len cr1, .slice qm1 x.M.len cm1, .slice qs1 x.S.length cs1, .int .i64 x.inn, .slice qo1 x.O.len co1, .int .i64 x.cd, .int .i64 x.st, .slice qc1 x.C.len cc1, .slice qu1 x.U.length cu1] 41)).alloc (by simp) (.cells #[.int .i64 x.pc, .slice qr2 x.R.len cr2, .slice qm2 x.M.len cm2, .slice qs2 x.S.length cs2, .int .i64 x.inn, .slice qo2 x.O.len co2, .int .i64 x.cd, .int .i64 x.st, .slice qc2 x.C.len cc2, .slice qu2 x.U.length cu2] 41))
  rw [show (w.alloc (.cells #[.int .i64 x.pc, .slice qr1 x.R.len cr1, .slice qm1 x.M.len cm1, .slice qs1 x.S.length cs1, .int .i64 x.inn, .slice qo1 x.O.len co1, .int .i64 x.cd, .int .i64 x.st, .slice qc1 x.C.len cc1, .slice qu1 x.U.length cu1] 41)).heap.size = w.heap.size + 1 by simp] at Y0
  obtain ⟨w0, hw0⟩ : ∃ w0, w0 = (w.alloc (.cells #[.int .i64 x.pc, .slice qr1 x.R.len cr1, .slice qm1 x.M.len cm1, .slice qs1 x.S.length cs1, .int .i64 x.inn, .slice qo1 x.O.len co1, .int .i64 x.cd, .int .i64 x.st, .slice qc1 x.C.len cc1, .slice qu1 x.U.length cu1] 41)).alloc (.cells #[.int .i64 x.pc, .slice qr2 x.R.len cr2, .slice qm2 x.M.len cm2, .slice qs2 x.S.length cs2, .int .i64 x.inn, .slice qo2 x.O.len co2, .int .i64 x.cd, .int .i64 x.st, .slice qc2 x.C.len cc2, .slice qu2 x.U.length cu2] 41) := ⟨_, rfl⟩
  rw [← hw0] at HB0 X0 Y0
  obtain ⟨x0, x1, x2, x3, x4, x5, x6, x7, x8, x9⟩ := X0.out
  obtain ⟨y0, y1, y2, y3, y4, y5, y6, y7, y8, y9⟩ := Y0.out
  rw [hw0] at x0 x1 x2 x3 x4 x5 x6 x7 x8 x9 y0 y1 y2 y3 y4 y5 y6 y7 y8 y9
  go_enter Tryz.func13, Tryz.ntmps13
  go_wp2_with fail
  rw [← hw0]
  clear hw0 x0 x1 x2 x3 x4 x5 x6 x7 x8 x9 y0 y1 y2 y3 y4 y5 y6 y7 y8 y9
  refine (K0.out w0 HB0.out).mono ?_
  rintro e w1 ⟨rfl, hb⟩
  have HB1 := Lib.hid (HB0.out.trans (hb.mono HB0.out.size))
  have X1 := Lib.hid (X0.out.below hb)
  have Y1 := Lib.hid (Y0.out.below hb)
  clear hb
  obtain ⟨x0, x1, x2, x3, x4, x5, x6, x7, x8, x9⟩ := X1.out
  obtain ⟨y0, y1, y2, y3, y4, y5, y6, y7, y8, y9⟩ := Y1.out
  go_wp2_with fail
  clear x0 x1 x2 x3 x4 x5 x6 x7 x8 x9 y0 y1 y2 y3 y4 y5 y6 y7 y8 y9
  refine (K1.out w1 HB1.out).mono ?_
  rintro e w2 ⟨rfl, hb⟩
  have HB2 := Lib.hid (HB1.out.trans (hb.mono HB1.out.size))
  have X2 := Lib.hid (X1.out.below hb)
  have Y2 := Lib.hid (Y1.out.below hb)
  clear hb
  obtain ⟨x0, x1, x2, x3, x4, x5, x6, x7, x8, x9⟩ := X2.out
  obtain ⟨y0, y1, y2, y3, y4, y5, y6, y7, y8, y9⟩ := Y2.out
  go_wp2_with fail
  clear x0 x1 x2 x3 x4 x5 x6 x7 x8 x9 y0 y1 y2 y3 y4 y5 y6 y7 y8 y9
  refine (K2.out w2 HB2.out).mono ?_
  rintro e w3 ⟨rfl, hb⟩
  have HB3 := Lib.hid (HB2.out.trans (hb.mono HB2.out.size))
  have X3 := Lib.hid (X2.out.below hb)
  have Y3 := Lib.hid (Y2.out.below hb)
  clear hb
  obtain ⟨x0, x1, x2, x3, x4, x5, x6, x7, x8, x9⟩ := X3.out
  obtain ⟨y0, y1, y2, y3, y4, y5, y6, y7, y8, y9⟩ := Y3.out
  go_wp2_with fail
  clear x0 x1 x2 x3 x4 x5 x6 x7 x8 x9 y0 y1 y2 y3 y4 y5 y6 y7 y8 y9
  refine (K3.out w3 HB3.out).mono ?_
  rintro e w4 ⟨rfl, hb⟩
  have HB4 := Lib.hid (HB3.out.trans (hb.mono HB3.out.size))
  have X4 := Lib.hid (X3.out.below hb)
  have Y4 := Lib.hid (Y3.out.below hb)
  clear hb
  obtain ⟨x0, x1, x2, x3, x4, x5, x6, x7, x8, x9⟩ := X4.out
  obtain ⟨y0, y1, y2, y3, y4, y5, y6, y7, y8, y9⟩ := Y4.out
  go_wp2_with fail
  clear x0 x1 x2 x3 x4 x5 x6 x7 x8 x9 y0 y1 y2 y3 y4 y5 y6 y7 y8 y9
  refine (K4.out w4 HB4.out).mono ?_
  rintro e w5 ⟨rfl, hb⟩
  have HB5 := Lib.hid (HB4.out.trans (hb.mono HB4.out.size))
  have X5 := Lib.hid (X4.out.below hb)
  have Y5 := Lib.hid (Y4.out.below hb)
  clear hb
  obtain ⟨x0, x1, x2, x3, x4, x5, x6, x7, x8, x9⟩ := X5.out
  obtain ⟨y0, y1, y2, y3, y4, y5, y6, y7, y8, y9⟩ := Y5.out
  go_wp2_with fail
  clear x0 x1 x2 x3 x4 x5 x6 x7 x8 x9 y0 y1 y2 y3 y4 y5 y6 y7 y8 y9
  refine (K5.out w5 HB5.out).mono ?_
  rintro e w6 ⟨rfl, hb⟩
  have HB6 := Lib.hid (HB5.out.trans (hb.mono HB5.out.size))
  have X6 := Lib.hid (X5.out.below hb)
  have Y6 := Lib.hid (Y5.out.below hb)
  clear hb
  obtain ⟨x0, x1, x2, x3, x4, x5, x6, x7, x8, x9⟩ := X6.out
  obtain ⟨y0, y1, y2, y3, y4, y5, y6, y7, y8, y9⟩ := Y6.out
  go_wp2
  go_ret
  exact ⟨rfl, HB6.out⟩
theorem opt_nodup2 (v : Value) : v.ownBlock.toList.Nodup := by cases v.ownBlock <;> simp
def ToPathEnd (x : PaR) (w : World) (e : Ending) (w' : World) : Prop := ∃ gr gm gs go gc gu B, e = .returned (.agg #[.int .i64 x.pc, .slice (some ⟨gr, 0, none⟩) x.R.len x.R.len, .slice (some ⟨gm, 0, none⟩) x.M.len x.M.len, .slice (some ⟨gs, 0, none⟩) x.S.length x.S.length, .int .i64 x.inn, .slice (some ⟨go, 0, none⟩) x.O.len x.O.len, .int .i64 x.cd, .int .i64 x.st, .slice (some ⟨gc, 0, none⟩) x.C.len x.C.len, .slice (some ⟨gu, 0, none⟩) x.U.length x.U.length]) ∧ PaO w' w.heap.size x (.slice (some ⟨gr, 0, none⟩) x.R.len x.R.len) (.slice (some ⟨gm, 0, none⟩) x.M.len x.M.len) (.slice (some ⟨gs, 0, none⟩) x.S.length x.S.length) (.slice (some ⟨go, 0, none⟩) x.O.len x.O.len) (.slice (some ⟨gc, 0, none⟩) x.C.len x.C.len) (.slice (some ⟨gu, 0, none⟩) x.U.length x.U.length) B ∧ Below w.heap.size w w'
set_option maxRecDepth 100000 in
set_option maxHeartbeats 8000000 in
theorem to_Path (x : PaR) (r m s o c u : Value) (w : World) (hv : PaS w 0 x r m s o c u) (hn : x.R.nodes ≤ 1048576 ∧ x.M.nodes ≤ 1048576 ∧ x.S.length ≤ 1048576 ∧ x.O.nodes ≤ 1048576 ∧ x.C.nodes ≤ 1048576 ∧ x.U.length ≤ 1048576) :
    Calls Tryz.prog 8 #[.agg #[.int .i64 x.pc, r, m, s, .int .i64 x.inn, o, .int .i64 x.cd, .int .i64 x.st, c, u]] w (ToPathEnd x w) := by
  obtain ⟨hr, hm, hs, ho, hc, hu⟩ := hv
  obtain ⟨nr, nm, ns, no, nc, nu⟩ := hn
  have K0 := Lib.hid (fun W (hb : Below w.heap.size w W) => to_any x.R _ W (hr.below hb) nr)
  have K1 := Lib.hid (fun W (hb : Below w.heap.size w W) => to_any x.M _ W (hm.below hb) nm)
  have K2 := Lib.hid (fun W (hb : Below w.heap.size w W) => to_Int x.S _ W (hs.below hb) ns)
  have K3 := Lib.hid (fun W (hb : Below w.heap.size w W) => to_any x.O _ W (ho.below hb) no)
  have K4 := Lib.hid (fun W (hb : Below w.heap.size w W) => to_any x.C _ W (hc.below hb) nc)
  have K5 := Lib.hid (fun W (hb : Below w.heap.size w W) => to_Int x.U _ W (hu.below hb) nu)
  obtain ⟨_, ⟨_, qr, cr, rfl, _⟩, _⟩ := hr
  obtain ⟨_, ⟨_, qm, cm, rfl, _⟩, _⟩ := hm
  obtain ⟨_, qs, cs, rfl, _⟩ := hs
  obtain ⟨_, ⟨_, qo, co, rfl, _⟩, _⟩ := ho
  obtain ⟨_, ⟨_, qc, cc, rfl, _⟩, _⟩ := hc
  obtain ⟨_, qu, cu, rfl, _⟩ := hu
  unfold ToPathEnd
  unfold ToIntEnd at K2 K5
  unfold ToEnd at K0 K1 K3 K4
  have HB0 := Lib.hid ((((Below.refl w.heap.size w).alloc (Nat.le_refl _) (.cells #[.int .i64 x.pc, .slice qr x.R.len cr, .slice qm x.M.len cm, .slice qs x.S.length cs, .int .i64 x.inn, .slice qo x.O.len co, .int .i64 x.cd, .int .i64 x.st, .slice qc x.C.len cc, .slice qu x.U.length cu] 28)).alloc (by simp) (.cells #[.int .i64 0, .slice none 0 0, .slice none 0 0, .slice none 0 0, .int .i64 0, .slice none 0 0, .int .i64 0, .int .i64 0, .slice none 0 0, .slice none 0 0] 41)).alloc (by simp; omega) (.cells #[.int .i64 x.pc, .slice none 0 0, .slice none 0 0, .slice none 0 0, .int .i64 0, .slice none 0 0, .int .i64 0, .int .i64 0, .slice none 0 0, .slice none 0 0] 41))
  obtain ⟨v1, hv1⟩ : ∃ v1, v1 = w.alloc (.cells #[.int .i64 x.pc, .slice qr x.R.len cr, .slice qm x.M.len cm, .slice qs x.S.length cs, .int .i64 x.inn, .slice qo x.O.len co, .int .i64 x.cd, .int .i64 x.st, .slice qc x.C.len cc, .slice qu x.U.length cu] 28) := ⟨_, rfl⟩
  have e1 : v1.heap.size = w.heap.size + 1 := by rw [hv1]; simp
  obtain ⟨v2, hv2⟩ : ∃ v2, v2 = v1.alloc (.cells #[.int .i64 0, .slice none 0 0, .slice none 0 0, .slice none 0 0, .int .i64 0, .slice none 0 0, .int .i64 0, .int .i64 0, .slice none 0 0, .slice none 0 0] 41) := ⟨_, rfl⟩
  have e2 : v2.heap.size = w.heap.size + 1 + 1 := by rw [hv2]; simp [e1]
  obtain ⟨w0, hw0⟩ : ∃ w0, w0 = v2.alloc (.cells #[.int .i64 x.pc, .slice none 0 0, .slice none 0 0, .slice none 0 0, .int .i64 0, .slice none 0 0, .int .i64 0, .int .i64 0, .slice none 0 0, .slice none 0 0] 41) := ⟨_, rfl⟩
  have hs0 : w0.heap.size = w.heap.size + 3 := by rw [hw0]; simp [e2]
  have k1 : Below v1.heap.size v1 w0 := by rw [hw0, hv2]; exact ((Below.refl _ _).alloc (Nat.le_refl _) _).alloc (by simp) _
  have k2 : Below v2.heap.size v2 w0 := by rw [hw0]; exact (Below.refl _ _).alloc (Nat.le_refl _) _
  have X0 := Lib.hid (show w0.heap[w.heap.size]? = some (.cells #[.int .i64 x.pc, .slice qr x.R.len cr, .slice qm x.M.len cm, .slice qs x.S.length cs, .int .i64 x.inn, .slice qo x.O.len co, .int .i64 x.cd, .int .i64 x.st, .slice qc x.C.len cc, .slice qu x.U.length cu] 28 (0, 0)) from (k1.block w.heap.size (by omega)).trans (show v1.heap[w.heap.size]? = some (.cells #[.int .i64 x.pc, .slice qr x.R.len cr, .slice qm x.M.len cm, .slice qs x.S.length cs, .int .i64 x.inn, .slice qo x.O.len co, .int .i64 x.cd, .int .i64 x.st, .slice qc x.C.len cc, .slice qu x.U.length cu] 28 (0, 0)) by rw [hv1]; exact heap_alloc_new w (.cells #[.int .i64 x.pc, .slice qr x.R.len cr, .slice qm x.M.len cm, .slice qs x.S.length cs, .int .i64 x.inn, .slice qo x.O.len co, .int .i64 x.cd, .int .i64 x.st, .slice qc x.C.len cc, .slice qu x.U.length cu] 28)))
  have Z0 := Lib.hid (show w0.heap[w.heap.size + 1]? = some (.cells #[.int .i64 0, .slice none 0 0, .slice none 0 0, .slice none 0 0, .int .i64 0, .slice none 0 0, .int .i64 0, .int .i64 0, .slice none 0 0, .slice none 0 0] 41 (0, 0)) from (k2.block (w.heap.size + 1) (by omega)).trans (show v2.heap[w.heap.size + 1]? = some (.cells #[.int .i64 0, .slice none 0 0, .slice none 0 0, .slice none 0 0, .int .i64 0, .slice none 0 0, .int .i64 0, .int .i64 0, .slice none 0 0, .slice none 0 0] 41 (0, 0)) by rw [hv2, ← e1]; exact heap_alloc_new v1 (.cells #[.int .i64 0, .slice none 0 0, .slice none 0 0, .slice none 0 0, .int .i64 0, .slice none 0 0, .int .i64 0, .int .i64 0, .slice none 0 0, .slice none 0 0] 41)))
  have Y0 := Lib.hid (show w0.heap[w.heap.size + 1 + 1]? = some (.cells #[.int .i64 x.pc, .slice none 0 0, .slice none 0 0, .slice none 0 0, .int .i64 0, .slice none 0 0, .int .i64 0, .int .i64 0, .slice none 0 0, .slice none 0 0] 41 (0, 0)) by rw [hw0, ← e2]; exact heap_alloc_new v2 (.cells #[.int .i64 x.pc, .slice none 0 0, .slice none 0 0, .slice none 0 0, .int .i64 0, .slice none 0 0, .int .i64 0, .int .i64 0, .slice none 0 0, .slice none 0 0] 41))
  rw [hv1] at hv2
  rw [hv2] at hw0
  rw [← hw0] at HB0
  clear k1 k2 e1 e2 hv1 hv2
  obtain ⟨x0, x1, x2, x3, x4, x5, x6, x7, x8, x9⟩ := cell10_row X0.out
  obtain ⟨y0, y1, y2, y3, y4, y5, y6, y7, y8, y9⟩ := cell10_row Y0.out
  obtain ⟨f0, f1, f2, f3, f4, f5, f6, f7, f8, f9⟩ := froz10_row Y0.out
  obtain ⟨e0, e1, e2, e3, e4, e5, e6, e7, e8, e9⟩ := froz10_row Z0.out
  obtain ⟨d0, d1, d2, d3, d4, d5, d6, d7, d8, d9⟩ := cell10_row Z0.out
  rw [hw0] at x0 x1 x2 x3 x4 x5 x6 x7 x8 x9 y0 y1 y2 y3 y4 y5 y6 y7 y8 y9 f0 f1 f2 f3 f4 f5 f6 f7 f8 f9 e0 e1 e2 e3 e4 e5 e6 e7 e8 e9 d0 d1 d2 d3 d4 d5 d6 d7 d8 d9
  go_enter Tryz.func8, Tryz.ntmps8
  go_wp2_with fail
  rw [← hw0] at x0 x1 x2 x3 x4 x5 x6 x7 x8 x9 y0 y1 y2 y3 y4 y5 y6 y7 y8 y9 f0 f1 f2 f3 f4 f5 f6 f7 f8 f9 e0 e1 e2 e3 e4 e5 e6 e7 e8 e9 d0 d1 d2 d3 d4 d5 d6 d7 d8 d9 ⊢
  clear hw0
  clear x0 x1 x2 x3 x4 x5 x6 x7 x8 x9 y0 y1 y2 y3 y4 y5 y6 y7 y8 y9 f0 f1 f2 f3 f4 f5 f6 f7 f8 f9 e0 e1 e2 e3 e4 e5 e6 e7 e8 e9 d0 d1 d2 d3 d4 d5 d6 d7 d8 d9
  refine (K0.out w0 HB0.out).mono ?_
  rintro e w1 ⟨gr, rfl, ⟨br, hh, hnd⟩, hb⟩
  have Nr := Lib.hid hnd
  have Lr := Lib.hid (show ∀ k ∈ br, w0.heap.size ≤ k ∧ k < w1.heap.size from hh.lt)
  have Or := Lib.hid (hh.down HB0.out.size)
  clear hnd
  have HBw1 := Lib.hid (HB0.out.trans (hb.mono HB0.out.size))
  have Xw1 := Lib.hid ((hb.block w.heap.size (by omega)).trans X0.out)
  have Zw1 := Lib.hid ((hb.block (w.heap.size + 1) (by omega)).trans Z0.out)
  have Yw1 := Lib.hid ((hb.block (w.heap.size + 1 + 1) (by omega)).trans Y0.out)
  have hsw1 : w0.heap.size ≤ w1.heap.size := hb.size
  clear hh hb
  obtain ⟨x0, x1, x2, x3, x4, x5, x6, x7, x8, x9⟩ := cell10_row Xw1.out
  obtain ⟨y0, y1, y2, y3, y4, y5, y6, y7, y8, y9⟩ := cell10_row Yw1.out
  obtain ⟨f0, f1, f2, f3, f4, f5, f6, f7, f8, f9⟩ := froz10_row Yw1.out
  obtain ⟨e0, e1, e2, e3, e4, e5, e6, e7, e8, e9⟩ := froz10_row Zw1.out
  obtain ⟨d0, d1, d2, d3, d4, d5, d6, d7, d8, d9⟩ := cell10_row Zw1.out
  go_wp2_with fail
  obtain ⟨u1, hu1⟩ : ∃ W9, W9 = (w1.setCell ⟨w.heap.size + 1 + 1, 1, none⟩ (.slice (some ⟨gr, 0, none⟩) x.R.len x.R.len)) := ⟨_, rfl⟩
  have Yu10 := Lib.hid (show (w1.setCell ⟨w.heap.size + 1 + 1, 1, none⟩ (.slice (some ⟨gr, 0, none⟩) x.R.len x.R.len)).heap[w.heap.size + 1 + 1]? = some (.cells #[.int .i64 x.pc, .slice (some ⟨gr, 0, none⟩) x.R.len x.R.len, .slice none 0 0, .slice none 0 0, .int .i64 0, .slice none 0 0, .int .i64 0, .int .i64 0, .slice none 0 0, .slice none 0 0] 41 (0, 0)) from heap_setCell_same w1 (w.heap.size + 1 + 1) 1 _ _ _ Yw1.out)
  have OTu1 : ∀ k, k ≠ w.heap.size + 1 + 1 → u1.heap[k]? = w1.heap[k]? := fun k hk => by rw [hu1, heap_setCell_other _ _ _ _ hk]
  have Yu1 := Lib.hid (show u1.heap[w.heap.size + 1 + 1]? = some (.cells #[.int .i64 x.pc, .slice (some ⟨gr, 0, none⟩) x.R.len x.R.len, .slice none 0 0, .slice none 0 0, .int .i64 0, .slice none 0 0, .int .i64 0, .int .i64 0, .slice none 0 0, .slice none 0 0] 41 (0, 0)) by rw [hu1]; exact Yu10.out)
  have Xu1 := Lib.hid ((OTu1 w.heap.size (by omega)).trans Xw1.out)
  have Zu1 := Lib.hid ((OTu1 (w.heap.size + 1) (by omega)).trans Zw1.out)
  have HBu1 := Lib.hid (show Below w.heap.size w u1 by rw [hu1]; exact (Below.setCell HBw1.out (by simp; omega) (.slice (some ⟨gr, 0, none⟩) x.R.len x.R.len)))
  have hsu1 : u1.heap.size = w1.heap.size := by rw [hu1]; simp [World.setCell]
  have Or := Lib.hid (Or.out.same (fun k hk => OTu1 k (by have := Lr.out k hk; omega)))
  rw [← hu1]
  clear hu1 OTu1 Yu10 x0 x1 x2 x3 x4 x5 x6 x7 x8 x9 y0 y1 y2 y3 y4 y5 y6 y7 y8 y9 f0 f1 f2 f3 f4 f5 f6 f7 f8 f9 e0 e1 e2 e3 e4 e5 e6 e7 e8 e9 d0 d1 d2 d3 d4 d5 d6 d7 d8 d9
  refine (K1.out u1 HBu1.out).mono ?_
  rintro e w2 ⟨gm, rfl, ⟨bm, hh, hnd⟩, hb⟩
  have Nm := Lib.hid hnd
  have Lm := Lib.hid (show ∀ k ∈ bm, u1.heap.size ≤ k ∧ k < w2.heap.size from hh.lt)
  have Om := Lib.hid (hh.down HBu1.out.size)
  clear hnd
  have HBw2 := Lib.hid (HBu1.out.trans (hb.mono HBu1.out.size))
  have Xw2 := Lib.hid ((hb.block w.heap.size (by omega)).trans Xu1.out)
  have Zw2 := Lib.hid ((hb.block (w.heap.size + 1) (by omega)).trans Zu1.out)
  have Yw2 := Lib.hid ((hb.block (w.heap.size + 1 + 1) (by omega)).trans Yu1.out)
  have hsw2 : u1.heap.size ≤ w2.heap.size := hb.size
  have Or := Lib.hid (Or.out.same (fun k hk => hb.block k (by have := Lr.out k hk; omega)))
  clear hh hb
  obtain ⟨x0, x1, x2, x3, x4, x5, x6, x7, x8, x9⟩ := cell10_row Xw2.out
  obtain ⟨y0, y1, y2, y3, y4, y5, y6, y7, y8, y9⟩ := cell10_row Yw2.out
  obtain ⟨f0, f1, f2, f3, f4, f5, f6, f7, f8, f9⟩ := froz10_row Yw2.out
  obtain ⟨e0, e1, e2, e3, e4, e5, e6, e7, e8, e9⟩ := froz10_row Zw2.out
  obtain ⟨d0, d1, d2, d3, d4, d5, d6, d7, d8, d9⟩ := cell10_row Zw2.out
  go_wp2_with fail
  obtain ⟨u2, hu2⟩ : ∃ W9, W9 = (w2.setCell ⟨w.heap.size + 1 + 1, 2, none⟩ (.slice (some ⟨gm, 0, none⟩) x.M.len x.M.len)) := ⟨_, rfl⟩
  have Yu20 := Lib.hid (show (w2.setCell ⟨w.heap.size + 1 + 1, 2, none⟩ (.slice (some ⟨gm, 0, none⟩) x.M.len x.M.len)).heap[w.heap.size + 1 + 1]? = some (.cells #[.int .i64 x.pc, .slice (some ⟨gr, 0, none⟩) x.R.len x.R.len, .slice (some ⟨gm, 0, none⟩) x.M.len x.M.len, .slice none 0 0, .int .i64 0, .slice none 0 0, .int .i64 0, .int .i64 0, .slice none 0 0, .slice none 0 0] 41 (0, 0)) from heap_setCell_same w2 (w.heap.size + 1 + 1) 2 _ _ _ Yw2.out)
  have OTu2 : ∀ k, k ≠ w.heap.size + 1 + 1 → u2.heap[k]? = w2.heap[k]? := fun k hk => by rw [hu2, heap_setCell_other _ _ _ _ hk]
  have Yu2 := Lib.hid (show u2.heap[w.heap.size + 1 + 1]? = some (.cells #[.int .i64 x.pc, .slice (some ⟨gr, 0, none⟩) x.R.len x.R.len, .slice (some ⟨gm, 0, none⟩) x.M.len x.M.len, .slice none 0 0, .int .i64 0, .slice none 0 0, .int .i64 0, .int .i64 0, .slice none 0 0, .slice none 0 0] 41 (0, 0)) by rw [hu2]; exact Yu20.out)
  have Xu2 := Lib.hid ((OTu2 w.heap.size (by omega)).trans Xw2.out)
  have Zu2 := Lib.hid ((OTu2 (w.heap.size + 1) (by omega)).trans Zw2.out)
  have HBu2 := Lib.hid (show Below w.heap.size w u2 by rw [hu2]; exact (Below.setCell HBw2.out (by simp; omega) (.slice (some ⟨gm, 0, none⟩) x.M.len x.M.len)))
  have hsu2 : u2.heap.size = w2.heap.size := by rw [hu2]; simp [World.setCell]
  have Or := Lib.hid (Or.out.same (fun k hk => OTu2 k (by have := Lr.out k hk; omega)))
  have Om := Lib.hid (Om.out.same (fun k hk => OTu2 k (by have := Lm.out k hk; omega)))
  rw [← hu2]
  clear hu2 OTu2 Yu20 x0 x1 x2 x3 x4 x5 x6 x7 x8 x9 y0 y1 y2 y3 y4 y5 y6 y7 y8 y9 f0 f1 f2 f3 f4 f5 f6 f7 f8 f9 e0 e1 e2 e3 e4 e5 e6 e7 e8 e9 d0 d1 d2 d3 d4 d5 d6 d7 d8 d9
  refine (K2.out u2 HBu2.out).mono ?_
  rintro e w3 ⟨gs, rfl, hh, hb⟩
  have Ls := Lib.hid (show ∀ k ∈ (.slice (some ⟨gs, 0, none⟩) x.S.length x.S.length : Value).ownBlock.toList, u2.heap.size ≤ k ∧ k < w3.heap.size from fun k hk => own_lt hh hk)
  have Os := Lib.hid (own_base (base' := w.heap.size) hh HBu2.out.size)
  have HBw3 := Lib.hid (HBu2.out.trans (hb.mono HBu2.out.size))
  have Xw3 := Lib.hid ((hb.block w.heap.size (by omega)).trans Xu2.out)
  have Zw3 := Lib.hid ((hb.block (w.heap.size + 1) (by omega)).trans Zu2.out)
  have Yw3 := Lib.hid ((hb.block (w.heap.size + 1 + 1) (by omega)).trans Yu2.out)
  have hsw3 : u2.heap.size ≤ w3.heap.size := hb.size
  have Or := Lib.hid (Or.out.same (fun k hk => hb.block k (by have := Lr.out k hk; omega)))
  have Om := Lib.hid (Om.out.same (fun k hk => hb.block k (by have := Lm.out k hk; omega)))
  clear hh hb
  obtain ⟨x0, x1, x2, x3, x4, x5, x6, x7, x8, x9⟩ := cell10_row Xw3.out
  obtain ⟨y0, y1, y2, y3, y4, y5, y6, y7, y8, y9⟩ := cell10_row Yw3.out
  obtain ⟨f0, f1, f2, f3, f4, f5, f6, f7, f8, f9⟩ := froz10_row Yw3.out
  obtain ⟨e0, e1, e2, e3, e4, e5, e6, e7, e8, e9⟩ := froz10_row Zw3.out
  obtain ⟨d0, d1, d2, d3, d4, d5, d6, d7, d8, d9⟩ := cell10_row Zw3.out
  go_wp2_with fail
  obtain ⟨u3, hu3⟩ : ∃ W9, W9 = ((w3.setCell ⟨w.heap.size + 1 + 1, 3, none⟩ (.slice (some ⟨gs, 0, none⟩) x.S.length x.S.length)).setCell ⟨w.heap.size + 1 + 1, 4, none⟩ (.int .i64 x.inn)) := ⟨_, rfl⟩
  have Yu30 := Lib.hid (show (w3.setCell ⟨w.heap.size + 1 + 1, 3, none⟩ (.slice (some ⟨gs, 0, none⟩) x.S.length x.S.length)).heap[w.heap.size + 1 + 1]? = some (.cells #[.int .i64 x.pc, .slice (some ⟨gr, 0, none⟩) x.R.len x.R.len, .slice (some ⟨gm, 0, none⟩) x.M.len x.M.len, .slice (some ⟨gs, 0, none⟩) x.S.length x.S.length, .int .i64 0, .slice none 0 0, .int .i64 0, .int .i64 0, .slice none 0 0, .slice none 0 0] 41 (0, 0)) from heap_setCell_same w3 (w.heap.size + 1 + 1) 3 _ _ _ Yw3.out)
  have Yu31 := Lib.hid (show ((w3.setCell ⟨w.heap.size + 1 + 1, 3, none⟩ (.slice (some ⟨gs, 0, none⟩) x.S.length x.S.length)).setCell ⟨w.heap.size + 1 + 1, 4, none⟩ (.int .i64 x.inn)).heap[w.heap.size + 1 + 1]? = some (.cells #[.int .i64 x.pc, .slice (some ⟨gr, 0, none⟩) x.R.len x.R.len, .slice (some ⟨gm, 0, none⟩) x.M.len x.M.len, .slice (some ⟨gs, 0, none⟩) x.S.length x.S.length, .int .i64 x.inn, .slice none 0 0, .int .i64 0, .int .i64 0, .slice none 0 0, .slice none 0 0] 41 (0, 0)) from heap_setCell_same (w3.setCell ⟨w.heap.size + 1 + 1, 3, none⟩ (.slice (some ⟨gs, 0, none⟩) x.S.length x.S.length)) (w.heap.size + 1 + 1) 4 _ _ _ Yu30.out)
  have OTu3 : ∀ k, k ≠ w.heap.size + 1 + 1 → u3.heap[k]? = w3.heap[k]? := fun k hk => by rw [hu3, heap_setCell_other _ _ _ _ hk, heap_setCell_other _ _ _ _ hk]
  have Yu3 := Lib.hid (show u3.heap[w.heap.size + 1 + 1]? = some (.cells #[.int .i64 x.pc, .slice (some ⟨gr, 0, none⟩) x.R.len x.R.len, .slice (some ⟨gm, 0, none⟩) x.M.len x.M.len, .slice (some ⟨gs, 0, none⟩) x.S.length x.S.length, .int .i64 x.inn, .slice none 0 0, .int .i64 0, .int .i64 0, .slice none 0 0, .slice none 0 0] 41 (0, 0)) by rw [hu3]; exact Yu31.out)
  have Xu3 := Lib.hid ((OTu3 w.heap.size (by omega)).trans Xw3.out)
  have Zu3 := Lib.hid ((OTu3 (w.heap.size + 1) (by omega)).trans Zw3.out)
  have HBu3 := Lib.hid (show Below w.heap.size w u3 by rw [hu3]; exact (Below.setCell (Below.setCell HBw3.out (by simp; omega) (.slice (some ⟨gs, 0, none⟩) x.S.length x.S.length)) (by simp; omega) (.int .i64 x.inn)))
  have hsu3 : u3.heap.size = w3.heap.size := by rw [hu3]; simp [World.setCell]
  have Or := Lib.hid (Or.out.same (fun k hk => OTu3 k (by have := Lr.out k hk; omega)))
  have Om := Lib.hid (Om.out.same (fun k hk => OTu3 k (by have := Lm.out k hk; omega)))
  have Os := Lib.hid (own_same Os.out (fun k hk => OTu3 k (by have := Ls.out k hk; omega)))
  rw [← hu3]
  clear hu3 OTu3 Yu30 Yu31 x0 x1 x2 x3 x4 x5 x6 x7 x8 x9 y0 y1 y2 y3 y4 y5 y6 y7 y8 y9 f0 f1 f2 f3 f4 f5 f6 f7 f8 f9 e0 e1 e2 e3 e4 e5 e6 e7 e8 e9 d0 d1 d2 d3 d4 d5 d6 d7 d8 d9
  refine (K3.out u3 HBu3.out).mono ?_
  rintro e w4 ⟨go, rfl, ⟨bo, hh, hnd⟩, hb⟩
  have No := Lib.hid hnd
  have Lo := Lib.hid (show ∀ k ∈ bo, u3.heap.size ≤ k ∧ k < w4.heap.size from hh.lt)
  have Oo := Lib.hid (hh.down HBu3.out.size)
  clear hnd
  have HBw4 := Lib.hid (HBu3.out.trans (hb.mono HBu3.out.size))
  have Xw4 := Lib.hid ((hb.block w.heap.size (by omega)).trans Xu3.out)
  have Zw4 := Lib.hid ((hb.block (w.heap.size + 1) (by omega)).trans Zu3.out)
  have Yw4 := Lib.hid ((hb.block (w.heap.size + 1 + 1) (by omega)).trans Yu3.out)
  have hsw4 : u3.heap.size ≤ w4.heap.size := hb.size
  have Or := Lib.hid (Or.out.same (fun k hk => hb.block k (by have := Lr.out k hk; omega)))
  have Om := Lib.hid (Om.out.same (fun k hk => hb.block k (by have := Lm.out k hk; omega)))
  have Os := Lib.hid (own_same Os.out (fun k hk => hb.block k (by have := Ls.out k hk; omega)))
  clear hh hb
  obtain ⟨x0, x1, x2, x3, x4, x5, x6, x7, x8, x9⟩ := cell10_row Xw4.out
  obtain ⟨y0, y1, y2, y3, y4, y5, y6, y7, y8, y9⟩ := cell10_row Yw4.out
  obtain ⟨f0, f1, f2, f3, f4, f5, f6, f7, f8, f9⟩ := froz10_row Yw4.out
  obtain ⟨e0, e1, e2, e3, e4, e5, e6, e7, e8, e9⟩ := froz10_row Zw4.out
  obtain ⟨d0, d1, d2, d3, d4, d5, d6, d7, d8, d9⟩ := cell10_row Zw4.out
  go_wp2_with fail
  obtain ⟨u4, hu4⟩ : ∃ W9, W9 = (((w4.setCell ⟨w.heap.size + 1 + 1, 5, none⟩ (.slice (some ⟨go, 0, none⟩) x.O.len x.O.len)).setCell ⟨w.heap.size + 1 + 1, 6, none⟩ (.int .i64 x.cd)).setCell ⟨w.heap.size + 1 + 1, 7, none⟩ (.int .i64 x.st)) := ⟨_, rfl⟩
  have Yu40 := Lib.hid (show (w4.setCell ⟨w.heap.size + 1 + 1, 5, none⟩ (.slice (some ⟨go, 0, none⟩) x.O.len x.O.len)).heap[w.heap.size + 1 + 1]? = some (.cells #[.int .i64 x.pc, .slice (some ⟨gr, 0, none⟩) x.R.len x.R.len, .slice (some ⟨gm, 0, none⟩) x.M.len x.M.len, .slice (some ⟨gs, 0, none⟩) x.S.length x.S.length, .int .i64 x.inn, .slice (some ⟨go, 0, none⟩) x.O.len x.O.len, .int .i64 0, .int .i64 0, .slice none 0 0, .slice none 0 0] 41 (0, 0)) from heap_setCell_same w4 (w.heap.size + 1 + 1) 5 _ _ _ Yw4.out)
  have Yu41 := Lib.hid (show ((w4.setCell ⟨w.heap.size + 1 + 1, 5, none⟩ (.slice (some ⟨go, 0, none⟩) x.O.len x.O.len)).setCell ⟨w.heap.size + 1 + 1, 6, none⟩ (.int .i64 x.cd)).heap[w.heap.size + 1 + 1]? = some (.cells #[.int .i64 x.pc, .slice (some ⟨gr, 0, none⟩) x.R.len x.R.len, .slice (some ⟨gm, 0, none⟩) x.M.len x.M.len, .slice (some ⟨gs, 0, none⟩) x.S.length x.S.length, .int .i64 x.inn, .slice (some ⟨go, 0, none⟩) x.O.len x.O.len, .int .i64 x.cd, .int .i64 0, .slice none 0 0, .slice none 0 0] 41 (0, 0)) from heap_setCell_same (w4.setCell ⟨w.heap.size + 1 + 1, 5, none⟩ (.slice (some ⟨go, 0, none⟩) x.O.len x.O.len)) (w.heap.size + 1 + 1) 6 _ _ _ Yu40.out)
  have Yu42 := Lib.hid (show (((w4.setCell ⟨w.heap.size + 1 + 1, 5, none⟩ (.slice (some ⟨go, 0, none⟩) x.O.len x.O.len)).setCell ⟨w.heap.size + 1 + 1, 6, none⟩ (.int .i64 x.cd)).setCell ⟨w.heap.size + 1 + 1, 7, none⟩ (.int .i64 x.st)).heap[w.heap.size + 1 + 1]? = some (.cells #[.int .i64 x.pc, .slice (some ⟨gr, 0, none⟩) x.R.len x.R.len, .slice (some ⟨gm, 0, none⟩) x.M.len x.M.len, .slice (some ⟨gs, 0, none⟩) x.S.length x.S.length, .int .i64 x.inn, .slice (some ⟨go, 0, none⟩) x.O.len x.O.len, .int .i64 x.cd, .int .i64 x.st, .slice none 0 0, .slice none 0 0] 41 (0, 0)) from heap_setCell_same ((w4.setCell ⟨w.heap.size + 1 + 1, 5, none⟩ (.slice (some ⟨go, 0, none⟩) x.O.len x.O.len)).setCell ⟨w.heap.size + 1 + 1, 6, none⟩ (.int .i64 x.cd)) (w.heap.size + 1 + 1) 7 _ _ _ Yu41.out)
  have OTu4 : ∀ k, k ≠ w.heap.size + 1 + 1 → u4.heap[k]? = w4.heap[k]? := fun k hk => by rw [hu4, heap_setCell_other _ _ _ _ hk, heap_setCell_other _ _ _ _ hk, heap_setCell_other _ _ _ _ hk]
  have Yu4 := Lib.hid (show u4.heap[w.heap.size + 1 + 1]? = some (.cells #[.int .i64 x.pc, .slice (some ⟨gr, 0, none⟩) x.R.len x.R.len, .slice (some ⟨gm, 0, none⟩) x.M.len x.M.len, .slice (some ⟨gs, 0, none⟩) x.S.length x.S.length, .int .i64 x.inn, .slice (some ⟨go, 0, none⟩) x.O.len x.O.len, .int .i64 x.cd, .int .i64 x.st, .slice none 0 0, .slice none 0 0] 41 (0, 0)) by rw [hu4]; exact Yu42.out)
  have Xu4 := Lib.hid ((OTu4 w.heap.size (by omega)).trans Xw4.out)
  have Zu4 := Lib.hid ((OTu4 (w.heap.size + 1) (by omega)).trans Zw4.out)
  have HBu4 := Lib.hid (show Below w.heap.size w u4 by rw [hu4]; exact (Below.setCell (Below.setCell (Below.setCell HBw4.out (by simp; omega) (.slice (some ⟨go, 0, none⟩) x.O.len x.O.len)) (by simp; omega) (.int .i64 x.cd)) (by simp; omega) (.int .i64 x.st)))
  have hsu4 : u4.heap.size = w4.heap.size := by rw [hu4]; simp [World.setCell]
  have Or := Lib.hid (Or.out.same (fun k hk => OTu4 k (by have := Lr.out k hk; omega)))
  have Om := Lib.hid (Om.out.same (fun k hk => OTu4 k (by have := Lm.out k hk; omega)))
  have Os := Lib.hid (own_same Os.out (fun k hk => OTu4 k (by have := Ls.out k hk; omega)))
  have Oo := Lib.hid (Oo.out.same (fun k hk => OTu4 k (by have := Lo.out k hk; omega)))
  rw [← hu4]
  clear hu4 OTu4 Yu40 Yu41 Yu42 x0 x1 x2 x3 x4 x5 x6 x7 x8 x9 y0 y1 y2 y3 y4 y5 y6 y7 y8 y9 f0 f1 f2 f3 f4 f5 f6 f7 f8 f9 e0 e1 e2 e3 e4 e5 e6 e7 e8 e9 d0 d1 d2 d3 d4 d5 d6 d7 d8 d9
  refine (K4.out u4 HBu4.out).mono ?_
  rintro e w5 ⟨gc, rfl, ⟨bc, hh, hnd⟩, hb⟩
  have Nc := Lib.hid hnd
  have Lc := Lib.hid (show ∀ k ∈ bc, u4.heap.size ≤ k ∧ k < w5.heap.size from hh.lt)
  have Oc := Lib.hid (hh.down HBu4.out.size)
  clear hnd
  have HBw5 := Lib.hid (HBu4.out.trans (hb.mono HBu4.out.size))
  have Xw5 := Lib.hid ((hb.block w.heap.size (by omega)).trans Xu4.out)
  have Zw5 := Lib.hid ((hb.block (w.heap.size + 1) (by omega)).trans Zu4.out)
  have Yw5 := Lib.hid ((hb.block (w.heap.size + 1 + 1) (by omega)).trans Yu4.out)
  have hsw5 : u4.heap.size ≤ w5.heap.size := hb.size
  have Or := Lib.hid (Or.out.same (fun k hk => hb.block k (by have := Lr.out k hk; omega)))
  have Om := Lib.hid (Om.out.same (fun k hk => hb.block k (by have := Lm.out k hk; omega)))
  have Os := Lib.hid (own_same Os.out (fun k hk => hb.block k (by have := Ls.out k hk; omega)))
  have Oo := Lib.hid (Oo.out.same (fun k hk => hb.block k (by have := Lo.out k hk; omega)))
  clear hh hb
  obtain ⟨x0, x1, x2, x3, x4, x5, x6, x7, x8, x9⟩ := cell10_row Xw5.out
  obtain ⟨y0, y1, y2, y3, y4, y5, y6, y7, y8, y9⟩ := cell10_row Yw5.out
  obtain ⟨f0, f1, f2, f3, f4, f5, f6, f7, f8, f9⟩ := froz10_row Yw5.out
  obtain ⟨e0, e1, e2, e3, e4, e5, e6, e7, e8, e9⟩ := froz10_row Zw5.out
  obtain ⟨d0, d1, d2, d3, d4, d5, d6, d7, d8, d9⟩ := cell10_row Zw5.out
  go_wp2_with fail
  obtain ⟨u5, hu5⟩ : ∃ W9, W9 = (w5.setCell ⟨w.heap.size + 1 + 1, 8, none⟩ (.slice (some ⟨gc, 0, none⟩) x.C.len x.C.len)) := ⟨_, rfl⟩
  have Yu50 := Lib.hid (show (w5.setCell ⟨w.heap.size + 1 + 1, 8, none⟩ (.slice (some ⟨gc, 0, none⟩) x.C.len x.C.len)).heap[w.heap.size + 1 + 1]? = some (.cells #[.int .i64 x.pc, .slice (some ⟨gr, 0, none⟩) x.R.len x.R.len, .slice (some ⟨gm, 0, none⟩) x.M.len x.M.len, .slice (some ⟨gs, 0, none⟩) x.S.length x.S.length, .int .i64 x.inn, .slice (some ⟨go, 0, none⟩) x.O.len x.O.len, .int .i64 x.cd, .int .i64 x.st, .slice (some ⟨gc, 0, none⟩) x.C.len x.C.len, .slice none 0 0] 41 (0, 0)) from heap_setCell_same w5 (w.heap.size + 1 + 1) 8 _ _ _ Yw5.out)
  have OTu5 : ∀ k, k ≠ w.heap.size + 1 + 1 → u5.heap[k]? = w5.heap[k]? := fun k hk => by rw [hu5, heap_setCell_other _ _ _ _ hk]
  have Yu5 := Lib.hid (show u5.heap[w.heap.size + 1 + 1]? = some (.cells #[.int .i64 x.pc, .slice (some ⟨gr, 0, none⟩) x.R.len x.R.len, .slice (some ⟨gm, 0, none⟩) x.M.len x.M.len, .slice (some ⟨gs, 0, none⟩) x.S.length x.S.length, .int .i64 x.inn, .slice (some ⟨go, 0, none⟩) x.O.len x.O.len, .int .i64 x.cd, .int .i64 x.st, .slice (some ⟨gc, 0, none⟩) x.C.len x.C.len, .slice none 0 0] 41 (0, 0)) by rw [hu5]; exact Yu50.out)
  have Xu5 := Lib.hid ((OTu5 w.heap.size (by omega)).trans Xw5.out)
  have Zu5 := Lib.hid ((OTu5 (w.heap.size + 1) (by omega)).trans Zw5.out)
  have HBu5 := Lib.hid (show Below w.heap.size w u5 by rw [hu5]; exact (Below.setCell HBw5.out (by simp; omega) (.slice (some ⟨gc, 0, none⟩) x.C.len x.C.len)))
  have hsu5 : u5.heap.size = w5.heap.size := by rw [hu5]; simp [World.setCell]
  have Or := Lib.hid (Or.out.same (fun k hk => OTu5 k (by have := Lr.out k hk; omega)))
  have Om := Lib.hid (Om.out.same (fun k hk => OTu5 k (by have := Lm.out k hk; omega)))
  have Os := Lib.hid (own_same Os.out (fun k hk => OTu5 k (by have := Ls.out k hk; omega)))
  have Oo := Lib.hid (Oo.out.same (fun k hk => OTu5 k (by have := Lo.out k hk; omega)))
  have Oc := Lib.hid (Oc.out.same (fun k hk => OTu5 k (by have := Lc.out k hk; omega)))
  rw [← hu5]
  clear hu5 OTu5 Yu50 x0 x1 x2 x3 x4 x5 x6 x7 x8 x9 y0 y1 y2 y3 y4 y5 y6 y7 y8 y9 f0 f1 f2 f3 f4 f5 f6 f7 f8 f9 e0 e1 e2 e3 e4 e5 e6 e7 e8 e9 d0 d1 d2 d3 d4 d5 d6 d7 d8 d9
  refine (K5.out u5 HBu5.out).mono ?_
  rintro e w6 ⟨gu, rfl, hh, hb⟩
  have Lu := Lib.hid (show ∀ k ∈ (.slice (some ⟨gu, 0, none⟩) x.U.length x.U.length : Value).ownBlock.toList, u5.heap.size ≤ k ∧ k < w6.heap.size from fun k hk => own_lt hh hk)
  have Ou := Lib.hid (own_base (base' := w.heap.size) hh HBu5.out.size)
  have HBw6 := Lib.hid (HBu5.out.trans (hb.mono HBu5.out.size))
  have Xw6 := Lib.hid ((hb.block w.heap.size (by omega)).trans Xu5.out)
  have Zw6 := Lib.hid ((hb.block (w.heap.size + 1) (by omega)).trans Zu5.out)
  have Yw6 := Lib.hid ((hb.block (w.heap.size + 1 + 1) (by omega)).trans Yu5.out)
  have hsw6 : u5.heap.size ≤ w6.heap.size := hb.size
  have Or := Lib.hid (Or.out.same (fun k hk => hb.block k (by have := Lr.out k hk; omega)))
  have Om := Lib.hid (Om.out.same (fun k hk => hb.block k (by have := Lm.out k hk; omega)))
  have Os := Lib.hid (own_same Os.out (fun k hk => hb.block k (by have := Ls.out k hk; omega)))
  have Oo := Lib.hid (Oo.out.same (fun k hk => hb.block k (by have := Lo.out k hk; omega)))
  have Oc := Lib.hid (Oc.out.same (fun k hk => hb.block k (by have := Lc.out k hk; omega)))
  clear hh hb
  obtain ⟨x0, x1, x2, x3, x4, x5, x6, x7, x8, x9⟩ := cell10_row Xw6.out
  obtain ⟨y0, y1, y2, y3, y4, y5, y6, y7, y8, y9⟩ := cell10_row Yw6.out
  obtain ⟨f0, f1, f2, f3, f4, f5, f6, f7, f8, f9⟩ := froz10_row Yw6.out
  obtain ⟨e0, e1, e2, e3, e4, e5, e6, e7, e8, e9⟩ := froz10_row Zw6.out
  obtain ⟨d0, d1, d2, d3, d4, d5, d6, d7, d8, d9⟩ := cell10_row Zw6.out
  go_wp2
  obtain ⟨we, hwe⟩ : ∃ W9, W9 = (((((((((((w6.setCell ⟨w.heap.size + 1 + 1, 9, none⟩ (.slice (some ⟨gu, 0, none⟩) x.U.length x.U.length)).setCell ⟨w.heap.size + 1, 0, none⟩ (.int .i64 x.pc)).setCell ⟨w.heap.size + 1, 1, none⟩ (.slice (some ⟨gr, 0, none⟩) x.R.len x.R.len)).setCell ⟨w.heap.size + 1, 2, none⟩ (.slice (some ⟨gm, 0, none⟩) x.M.len x.M.len)).setCell ⟨w.heap.size + 1, 3, none⟩ (.slice (some ⟨gs, 0, none⟩) x.S.length x.S.length)).setCell ⟨w.heap.size + 1, 4, none⟩ (.int .i64 x.inn)).setCell ⟨w.heap.size + 1, 5, none⟩ (.slice (some ⟨go, 0, none⟩) x.O.len x.O.len)).setCell ⟨w.heap.size + 1, 6, none⟩ (.int .i64 x.cd)).setCell ⟨w.heap.size + 1, 7, none⟩ (.int .i64 x.st)).setCell ⟨w.heap.size + 1, 8, none⟩ (.slice (some ⟨gc, 0, none⟩) x.C.len x.C.len)).setCell ⟨w.heap.size + 1, 9, none⟩ (.slice (some ⟨gu, 0, none⟩) x.U.length x.U.length)) := ⟨_, rfl⟩
  have OT : ∀ k, k ≠ w.heap.size + 1 + 1 → k ≠ w.heap.size + 1 → we.heap[k]? = w6.heap[k]? := fun k h1 h2 => by rw [hwe, set10_heap _ _ _ h2, heap_setCell_other _ _ _ _ h1]
  have D2 := Lib.hid (show we.heap[w.heap.size + 1]? = some (.cells #[.int .i64 x.pc, .slice (some ⟨gr, 0, none⟩) x.R.len x.R.len, .slice (some ⟨gm, 0, none⟩) x.M.len x.M.len, .slice (some ⟨gs, 0, none⟩) x.S.length x.S.length, .int .i64 x.inn, .slice (some ⟨go, 0, none⟩) x.O.len x.O.len, .int .i64 x.cd, .int .i64 x.st, .slice (some ⟨gc, 0, none⟩) x.C.len x.C.len, .slice (some ⟨gu, 0, none⟩) x.U.length x.U.length] 41 (0, 0)) by rw [hwe]; exact set10_row ((heap_setCell_other _ _ _ _ (by simp)).trans Zw6.out) (.int .i64 x.pc) (.slice (some ⟨gr, 0, none⟩) x.R.len x.R.len) (.slice (some ⟨gm, 0, none⟩) x.M.len x.M.len) (.slice (some ⟨gs, 0, none⟩) x.S.length x.S.length) (.int .i64 x.inn) (.slice (some ⟨go, 0, none⟩) x.O.len x.O.len) (.int .i64 x.cd) (.int .i64 x.st) (.slice (some ⟨gc, 0, none⟩) x.C.len x.C.len) (.slice (some ⟨gu, 0, none⟩) x.U.length x.U.length))
  have BE := Lib.hid (show Below w.heap.size w we by rw [hwe]; exact set10_below (Below.setCell HBw6.out (by simp; omega) _) (by omega) (.int .i64 x.pc) (.slice (some ⟨gr, 0, none⟩) x.R.len x.R.len) (.slice (some ⟨gm, 0, none⟩) x.M.len x.M.len) (.slice (some ⟨gs, 0, none⟩) x.S.length x.S.length) (.int .i64 x.inn) (.slice (some ⟨go, 0, none⟩) x.O.len x.O.len) (.int .i64 x.cd) (.int .i64 x.st) (.slice (some ⟨gc, 0, none⟩) x.C.len x.C.len) (.slice (some ⟨gu, 0, none⟩) x.U.length x.U.length))
  rw [← hwe]
  clear hwe x0 x1 x2 x3 x4 x5 x6 x7 x8 x9 y0 y1 y2 y3 y4 y5 y6 y7 y8 y9 f0 f1 f2 f3 f4 f5 f6 f7 f8 f9 e0 e1 e2 e3 e4 e5 e6 e7 e8 e9 d0 d1 d2 d3 d4 d5 d6 d7 d8 d9
  have Or := Lib.hid (Or.out.same (fun k hk => OT k (by have := Lr.out k hk; omega) (by have := Lr.out k hk; omega)))
  have Om := Lib.hid (Om.out.same (fun k hk => OT k (by have := Lm.out k hk; omega) (by have := Lm.out k hk; omega)))
  have Os := Lib.hid (own_same Os.out (fun k hk => OT k (by have := Ls.out k hk; omega) (by have := Ls.out k hk; omega)))
  have Oo := Lib.hid (Oo.out.same (fun k hk => OT k (by have := Lo.out k hk; omega) (by have := Lo.out k hk; omega)))
  have Oc := Lib.hid (Oc.out.same (fun k hk => OT k (by have := Lc.out k hk; omega) (by have := Lc.out k hk; omega)))
  have Ou := Lib.hid (own_same Ou.out (fun k hk => OT k (by have := Lu.out k hk; omega) (by have := Lu.out k hk; omega)))
  obtain ⟨d0, d1, d2, d3, d4, d5, d6, d7, d8, d9⟩ := cell10_row D2.out
  refine bodyPost_ret (v := .agg #[.int .i64 x.pc, .slice (some ⟨gr, 0, none⟩) x.R.len x.R.len, .slice (some ⟨gm, 0, none⟩) x.M.len x.M.len, .slice (some ⟨gs, 0, none⟩) x.S.length x.S.length, .int .i64 x.inn, .slice (some ⟨go, 0, none⟩) x.O.len x.O.len, .int .i64 x.cd, .int .i64 x.st, .slice (some ⟨gc, 0, none⟩) x.C.len x.C.len, .slice (some ⟨gu, 0, none⟩) x.U.length x.U.length]) (by simp [results, Tryz.results8, go_sem, d0, d1, d2, d3, d4, d5, d6, d7, d8, d9]) rfl ?_
  have qr := Lr.out
  have qm := Lm.out
  have qs := Ls.out
  have qo := Lo.out
  have qc := Lc.out
  have qu := Lu.out
  refine ⟨gr, gm, gs, go, gc, gu, _, rfl, ⟨br, bm, bo, bc, Or.out, Om.out, Os.out, Oo.out, Oc.out, Ou.out, rfl, ?_⟩, BE.out⟩
  simp only [List.nodup_append]
  exact ⟨Nr.out, ⟨Nm.out, ⟨opt_nodup2 _, ⟨No.out, ⟨Nc.out, opt_nodup2 _, fun a ha b hb e => by
    subst e
    have h1 := qc a ha
    try simp only [List.mem_append] at hb
    rcases hb with hb
    · have := qu a hb; omega
    ⟩, fun a ha b hb e => by
    subst e
    have h1 := qo a ha
    try simp only [List.mem_append] at hb
    rcases hb with hb | hb
    · have := qc a hb; omega
    · have := qu a hb; omega
    ⟩, fun a ha b hb e => by
    subst e
    have h1 := qs a ha
    try simp only [List.mem_append] at hb
    rcases hb with hb | hb | hb
    · have := qo a hb; omega
    · have := qc a hb; omega
    · have := qu a hb; omega
    ⟩, fun a ha b hb e => by
    subst e
    have h1 := qm a ha
    try simp only [List.mem_append] at hb
    rcases hb with hb | hb | hb | hb
    · have := qs a hb; omega
    · have := qo a hb; omega
    · have := qc a hb; omega
    · have := qu a hb; omega
    ⟩, fun a ha b hb e => by
    subst e
    have h1 := qr a ha
    try simp only [List.mem_append] at hb
    rcases hb with hb | hb | hb | hb | hb
    · have := qm a hb; omega
    · have := qs a hb; omega
    · have := qo a hb; omega
    · have := qc a hb; omega
    · have := qu a hb; omega
    ⟩
end Go.Proofs.YthmababifgaejaaGreatDoor
