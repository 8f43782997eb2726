/- The marks that the laws write into a program: markProgram. No condition. What the laws' eqState returns. No condition. -/
import Derived.Test.YthmababifgaejaaGreatDoorEmGMkT
import Derived.Test.YthmababifgaejaaGreatDoorEmGInb
import Derived.Test.YthmababifgaejaaGreatDoorEmGEv
import Derived.Deep.RegionWith
namespace Go.Proofs.YthmababifgaejaaGreatDoor
open Go.ChangeShapes Go.WideShapes Go.ChangeAt Go.RowKit
set_option maxRecDepth 100000 in
theorem mark_Program (vw vm vi : Int) (L : List InsR) (q : Option Addr) (cap k base : Nat) (w : World) (ho : w.ownsRow base 82 4 (.slice q L.length cap) L.length (InsR.all L)) (h1 : 1 ≤ k) (hk : k + 4 * L.length ≤ 1000000000000) :
    Calls Tryz.prog 15 #[.agg #[.int .i64 vw, .int .i64 vm, .int .i64 vi, .slice q L.length cap], .int .i64 k] w fun e w' => e = .returned (.int .i64 ((k + 4 * L.length : Nat) : Int)) ∧ w'.ownsRow base 82 4 (.slice q L.length cap) L.length (InsR.all (InsR.mkrs L k)) ∧ Apart (Value.slice q L.length cap).ownBlock.toList w w' := by
  have KM := Lib.hid (fun W (h : W.ownsRow base 82 4 (.slice q L.length cap) L.length (InsR.all L)) => mark_Ins L _ k base W h h1 hk)
  unfold MarkInsEnd at KM
  have HO := Lib.hid (ho.alloc (.cells #[.int .i64 vw, .int .i64 vm, .int .i64 vi, .slice q L.length cap] 37))
  have HA := Lib.hid (Apart.of_below (bs := (Value.slice q L.length cap).ownBlock.toList) ((Below.refl w.heap.size w).alloc (Nat.le_refl _) (.cells #[.int .i64 vw, .int .i64 vm, .int .i64 vi, .slice q L.length cap] 37)))
  generalize InsR.mkrs L k = M at *
  generalize hz : ((k + 4 * L.length : Nat) : Int) = z at *
  clear hk ho
  go_enter Tryz.func15, Tryz.ntmps15
  go_wp2_with (go_at_call 35; refine (KM.out _ HO.out).mono ?_; rintro e w1 ⟨rfl, ho1, ha1⟩)
  go_ret
  exact ⟨rfl, ho1, HA.out.trans ha1⟩
end Go.Proofs.YthmababifgaejaaGreatDoor
namespace Go.Proofs.YthmababifgaejaaGreatDoor
open Go.ChangeShapes Go.WideShapes Go.ChangeAt Go.RowKit
set_option maxRecDepth 100000 in
set_option maxHeartbeats 4000000 in
theorem eq_State (x : StR) (r1 m1 s1 o1 r2 m2 s2 o2 : Value) (w : World) (hs1 : StS w 0 x r1 m1 s1 o1) (hs2 : StS w 0 x r2 m2 s2 o2) (hn : x.cost ≤ 2097152) :
    Calls Tryz.prog 11 #[.agg #[.int .i64 x.pc, r1, m1, s1, .int .i64 x.inn, o1, .int .i64 x.cd, .int .i64 x.st], .agg #[.int .i64 x.pc, r2, m2, s2, .int .i64 x.inn, o2, .int .i64 x.cd, .int .i64 x.st]] w fun e w' => e = .returned (.bool true) ∧ Below w.heap.size w w' := by
  have hx : x.cost = x.R.length + x.M.length + x.S.length + x.O.length := rfl
  obtain ⟨hr1, hm1, hs1, ho1⟩ := hs1
  obtain ⟨hr2, hm2, hs2, ho2⟩ := hs2
  have K0 := Lib.hid (fun W (hb : Below w.heap.size w W) => eq_Int x.R _ _ W (hr1.below hb) (hr2.below hb) (by omega))
  have K1 := Lib.hid (fun W (hb : Below w.heap.size w W) => eq_Int x.M _ _ W (hm1.below hb) (hm2.below hb) (by omega))
  have K2 := Lib.hid (fun W (hb : Below w.heap.size w W) => eq_Int x.S _ _ W (hs1.below hb) (hs2.below hb) (by omega))
  have K3 := Lib.hid (fun W (hb : Below w.heap.size w W) => eq_Int x.O _ _ W (ho1.below hb) (ho2.below hb) (by omega))
  obtain ⟨_, qr1, cr1, rfl, _⟩ := hr1
  obtain ⟨_, qm1, cm1, rfl, _⟩ := hm1
  obtain ⟨_, qs1, cs1, rfl, _⟩ := hs1
  obtain ⟨_, qo1, co1, rfl, _⟩ := ho1
  obtain ⟨_, qr2, cr2, rfl, _⟩ := hr2
  obtain ⟨_, qm2, cm2, rfl, _⟩ := hm2
  obtain ⟨_, qs2, cs2, rfl, _⟩ := hs2
  obtain ⟨_, qo2, co2, rfl, _⟩ := ho2
  have X0 := Lib.hid ((cell8_alloc w 32 (.int .i64 x.pc) (.slice qr1 x.R.length cr1) (.slice qm1 x.M.length cm1) (.slice qs1 x.S.length cs1) (.int .i64 x.inn) (.slice qo1 x.O.length co1) (.int .i64 x.cd) (.int .i64 x.st)).below (((Below.refl _ _).alloc (Nat.le_refl _) (.cells #[.int .i64 x.pc, .slice qr2 x.R.length cr2, .slice qm2 x.M.length cm2, .slice qs2 x.S.length cs2, .int .i64 x.inn, .slice qo2 x.O.length co2, .int .i64 x.cd, .int .i64 x.st] 32))))
  have Y0 := Lib.hid (cell8_alloc (w.alloc (.cells #[.int .i64 x.pc, .slice qr1 x.R.length cr1, .slice qm1 x.M.length cm1, .slice qs1 x.S.length cs1, .int .i64 x.inn, .slice qo1 x.O.length co1, .int .i64 x.cd, .int .i64 x.st] 32)) 32 (.int .i64 x.pc) (.slice qr2 x.R.length cr2) (.slice qm2 x.M.length cm2) (.slice qs2 x.S.length cs2) (.int .i64 x.inn) (.slice qo2 x.O.length co2) (.int .i64 x.cd) (.int .i64 x.st))
  have HB0 := Lib.hid (((Below.refl w.heap.size w).alloc (Nat.le_refl _) (.cells #[.int .i64 x.pc, .slice qr1 x.R.length cr1, .slice qm1 x.M.length cm1, .slice qs1 x.S.length cs1, .int .i64 x.inn, .slice qo1 x.O.length co1, .int .i64 x.cd, .int .i64 x.st] 32)).alloc (by simp) (.cells #[.int .i64 x.pc, .slice qr2 x.R.length cr2, .slice qm2 x.M.length cm2, .slice qs2 x.S.length cs2, .int .i64 x.inn, .slice qo2 x.O.length co2, .int .i64 x.cd, .int .i64 x.st] 32))
  rw [show (w.alloc (.cells #[.int .i64 x.pc, .slice qr1 x.R.length cr1, .slice qm1 x.M.length cm1, .slice qs1 x.S.length cs1, .int .i64 x.inn, .slice qo1 x.O.length co1, .int .i64 x.cd, .int .i64 x.st] 32)).heap.size = w.heap.size + 1 by simp] at Y0
  obtain ⟨w0, hw0⟩ : ∃ w0, w0 = (w.alloc (.cells #[.int .i64 x.pc, .slice qr1 x.R.length cr1, .slice qm1 x.M.length cm1, .slice qs1 x.S.length cs1, .int .i64 x.inn, .slice qo1 x.O.length co1, .int .i64 x.cd, .int .i64 x.st] 32)).alloc (.cells #[.int .i64 x.pc, .slice qr2 x.R.length cr2, .slice qm2 x.M.length cm2, .slice qs2 x.S.length cs2, .int .i64 x.inn, .slice qo2 x.O.length co2, .int .i64 x.cd, .int .i64 x.st] 32) := ⟨_, rfl⟩
  rw [← hw0] at HB0 X0 Y0
  obtain ⟨x0, x1, x2, x3, x4, x5, x6, x7⟩ := X0.out
  obtain ⟨y0, y1, y2, y3, y4, y5, y6, y7⟩ := Y0.out
  rw [hw0] at x0 y0 x1 y1 x2 y2 x3 y3 x4 y4 x5 y5 x6 y6 x7 y7
  go_enter Tryz.func11, Tryz.ntmps11
  go_wp2_with fail
  rw [← hw0]
  clear hw0 x0 y0 x1 y1 x2 y2 x3 y3 x4 y4 x5 y5 x6 y6 x7 y7
  refine (K0.out w0 HB0.out).mono ?_
  rintro e w1 ⟨rfl, hb⟩
  have HB1 := Lib.hid (HB0.out.trans (hb.mono HB0.out.size))
  have X1 := Lib.hid (X0.out.below hb)
  have Y1 := Lib.hid (Y0.out.below hb)
  clear hb
  obtain ⟨x0, x1, x2, x3, x4, x5, x6, x7⟩ := X1.out
  obtain ⟨y0, y1, y2, y3, y4, y5, y6, y7⟩ := Y1.out
  go_wp2_with fail
  clear x0 y0 x1 y1 x2 y2 x3 y3 x4 y4 x5 y5 x6 y6 x7 y7
  refine (K1.out w1 HB1.out).mono ?_
  rintro e w2 ⟨rfl, hb⟩
  have HB2 := Lib.hid (HB1.out.trans (hb.mono HB1.out.size))
  have X2 := Lib.hid (X1.out.below hb)
  have Y2 := Lib.hid (Y1.out.below hb)
  clear hb
  obtain ⟨x0, x1, x2, x3, x4, x5, x6, x7⟩ := X2.out
  obtain ⟨y0, y1, y2, y3, y4, y5, y6, y7⟩ := Y2.out
  go_wp2_with fail
  clear x0 y0 x1 y1 x2 y2 x3 y3 x4 y4 x5 y5 x6 y6 x7 y7
  refine (K2.out w2 HB2.out).mono ?_
  rintro e w3 ⟨rfl, hb⟩
  have HB3 := Lib.hid (HB2.out.trans (hb.mono HB2.out.size))
  have X3 := Lib.hid (X2.out.below hb)
  have Y3 := Lib.hid (Y2.out.below hb)
  clear hb
  obtain ⟨x0, x1, x2, x3, x4, x5, x6, x7⟩ := X3.out
  obtain ⟨y0, y1, y2, y3, y4, y5, y6, y7⟩ := Y3.out
  go_wp2_with fail
  clear x0 y0 x1 y1 x2 y2 x3 y3 x4 y4 x5 y5 x6 y6 x7 y7
  refine (K3.out w3 HB3.out).mono ?_
  rintro e w4 ⟨rfl, hb⟩
  have HB4 := Lib.hid (HB3.out.trans (hb.mono HB3.out.size))
  have X4 := Lib.hid (X3.out.below hb)
  have Y4 := Lib.hid (Y3.out.below hb)
  clear hb
  obtain ⟨x0, x1, x2, x3, x4, x5, x6, x7⟩ := X4.out
  obtain ⟨y0, y1, y2, y3, y4, y5, y6, y7⟩ := Y4.out
  go_wp2
  go_ret
  exact ⟨rfl, HB4.out⟩
end Go.Proofs.YthmababifgaejaaGreatDoor
