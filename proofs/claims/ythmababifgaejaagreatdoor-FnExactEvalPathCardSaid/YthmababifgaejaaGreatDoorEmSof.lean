/- The program's mapped with the function that gives 0. No condition. What the program's stateOf returns with the function that gives 0. No condition. -/
import Derived.Test.YthmababifgaejaaGreatDoorEmGPaM
import Derived.Test.YthmababifgaejaaGreatDoorEmGHpS
import Derived.Test.YthmababifgaejaaGreatDoorEmGEv
import Derived.Test.YthmababifgaejaaGreatDoorEmGOwAt
import Derived.Test.YthmababifgaejaaGreatDoorEmGReg
namespace Go.Proofs.YthmababifgaejaaGreatDoor
open Go.ChangeShapes Go.WideShapes Go.ChangeAt Go.RowKit
set_option maxRecDepth 100000 in
theorem i_const0 (op wd n : Int) (nm : ByteArray) (s : Value) (w : World) : Calls Tryz.prog 62 #[.agg #[.int .i64 op, .int .i64 wd, .int .i64 n, .string nm, s]] w fun e w' => e = .returned (.int .i64 0) ∧ Below w.heap.size w w' := by
  go_enter Tryz.func62, Tryz.ntmps62
  go_wp2
  go_ret
  exact ⟨rfl, (Below.refl _ _).alloc (Nat.le_refl _) _⟩
/-- zeros that are made, the first ones -/
def Z0Rel (w : World) (n j : Nat) (wr : World) : Prop := ∃ cur, wr.ownsRow w.heap.size 3 1 (.slice (some ⟨w.heap.size, 0, none⟩) n n) n cur ∧ cur.take j = IntL.all (List.replicate j 0) ∧ Below w.heap.size w wr
theorem z0_step {w wr : World} {n j : Nat} (hj : j < n) (hr : Z0Rel w n j wr) : Z0Rel w n (j + 1) (wr.setCell ⟨w.heap.size, j, none⟩ (.int .i64 0)) := by
  obtain ⟨cur, ho, hc, hbw⟩ := hr
  have hlen := ho.1
  refine ⟨_, own_put [.int .i64 0] j wr cur ho, ?_, hbw.setCell (Nat.le_refl _) _⟩
  rw [putAt_take cur j [.int .i64 0] (j + 1) rfl (by omega), hc, List.replicate_succ', IntL.all_app]
  rfl
theorem z0_keep {w wr w' : World} {n j : Nat} (hr : Z0Rel w n j wr) (hb : Below wr.heap.size wr w') : Z0Rel w n j w' := by
  obtain ⟨cur, ho, hc, hbw⟩ := hr
  exact ⟨cur, own_keep ho hb, hc, hbw.trans (hb.mono hbw.size)⟩
set_option maxRecDepth 100000 in
set_option maxHeartbeats 4000000 in
theorem i_map0 (F : Fo) (v : Value) (w : World) (hv : (F.cs 64).Is w 0 5 F.len v) (hc : F.cost ≤ 1048576) :
    Calls Tryz.prog 49 #[v, .func (.func 62) #[] #[]] w fun e w' => Below w.heap.size w w' ∧ ∃ q c, e = .returned (.slice q F.len c) ∧ w'.ownsRow w.heap.size 3 1 (.slice q F.len c) F.len (IntL.all (List.replicate F.len 0)) := by
  have hml : maxLen = 9223372036854775807 := rfl
  have hFn := F.nodes_le
  have hFl := F.len_le
  obtain ⟨i9, hi9, hz9, hzs9, hzb9⟩ := info_parts zero_Int
  rcases Fo.is_cases hv with ⟨h0, q, cap, rfl⟩ | ⟨hpos, b, o, cap, ys, rfl, hc1, hc2, _, hbl, hvs, hr⟩
  · have hF : F = .nil := by cases F with | nil => rfl | cons => simp [Fo.len] at h0
    subst hF
    clear hv h0 hc hFn hFl
    go_enter Tryz.func49, Tryz.ntmps49
    go_wp2
    go_ret
    exact ⟨Below.refl _ _, none, 0, rfl, World.ownsRow_nil _ _ _ _⟩
  · have HI := Lib.hid (fun j (hj : j < F.len) => Fo.nth F hvs hr j hj)
    have hn0 : ((F.len : Int) == 0) = false := by simp; omega
    have hn1 : ¬ ((F.len : Int) = 0) := by omega
    clear hv hvs hr
    go_enter Tryz.func49, Tryz.ntmps49
    go_wp2_with (refine wpList_make_full _ rfl _ _ 26 rfl w.heap.size 3 i9 (.int .i64 0) 1 Tryz.underlying26 hi9 hz9 hzs9 .i64 .i64 _ _ F.len rfl rfl rfl rfl (by rw [hzb9]; omega) (by omega) (Nat.le_refl _) ?_; intro w1 hown hgrow; have hb1 := (Below.refl w.heap.size w).grown hgrow (Nat.le_refl _) (fun k e => by cases e); have HO := Lib.hid hown; have HB1 := Lib.hid hb1; clear hown hgrow hb1)
    go_loopw [16] (fun i wr => ∃ j : Nat, j ≤ F.len ∧ i = .int .i64 j ∧ Z0Rel w F.len j wr) (fun i _ => F.len - (intOf i).toNat)
    case atStart => exact ⟨0, Nat.zero_le _, rfl, _, HO.out, by simp [IntL.all], HB1.out⟩
    case round =>
      obtain ⟨j, hj, rfl, hrel⟩ := hrel
      have HR := Lib.hid hrel
      obtain ⟨_, ho, _, hb⟩ := hrel
      have hwl := (own_lt ho (g := w.heap.size) (by simp [Value.ownBlock])).2
      have hsr := hb.size
      have HB := Lib.hid hb
      clear ho hb
      by_cases hjn : j < F.len
      · obtain ⟨op, wd, n, nm, k, sv, hat, his, hrr⟩ := HI.out j hjn
        have hrr := rangeAt_below HB.out hrr
        have c0 : wr.cell? ⟨b, o + j * 5, none⟩ = some (.int .i64 op) := hrr 0 _ rfl
        have c1 : wr.cell? ⟨b, o + j * 5 + 1, none⟩ = some (.int .i64 wd) := hrr 1 _ rfl
        have c2 : wr.cell? ⟨b, o + j * 5 + 2, none⟩ = some (.int .i64 n) := hrr 2 _ rfl
        have c3 : wr.cell? ⟨b, o + j * 5 + 3, none⟩ = some (.string nm) := hrr 3 _ rfl
        have c4 : wr.cell? ⟨b, o + j * 5 + 4, none⟩ = some sv := hrr 4 _ rfl
        have hji : (j : Int) < (F.len : Int) := by omega
        have hbw : b < wr.heap.size := by omega
        obtain ⟨_, ⟨_, sq, sc, rfl, _⟩, _⟩ := his
        clear hat hrr
        obtain ⟨w1, hw1⟩ : ∃ W, W = wr.alloc (.cells #[.int .i64 op, .int .i64 wd, .int .i64 n, .string nm, .slice sq k.len sc] 64) := ⟨_, rfl⟩
        have hb1 : Below wr.heap.size wr w1 := by rw [hw1]; exact (Below.refl _ _).alloc (Nat.le_refl _) _
        have HR1 := Lib.hid (z0_keep HR.out hb1)
        have KC := Lib.hid (i_const0 op wd n nm (.slice sq k.len sc) w1)
        clear hb1
        go_wp2_with fail
        rw [← hw1]
        clear hw1 c0 c1 c2 c3 c4
        refine KC.out.mono ?_
        rintro e w2 ⟨rfl, hb2⟩
        have HR2 := Lib.hid (z0_keep HR1.out hb2)
        have HS := Lib.hid (z0_step hjn HR2.out)
        obtain ⟨cur, ho, hcu, hbb⟩ := HR2.out
        have hcl := ho.1
        obtain ⟨old, hold⟩ : ∃ old, w2.cell? ⟨w.heap.size, j, none⟩ = some old := ⟨cur[j]'(by omega), by
          rw [ho.cellAt j (by omega)]; exact List.getElem?_eq_getElem (by omega)⟩
        have hfz := ho.frozenAt j
        clear ho hcu hbb hb2 hcl
        go_wp2
        go_roundw
        case rel => exact ⟨j + 1, by omega, by go_num, HS.out⟩
        case measure => simp [intOf]; omega
      · have ej : j = F.len := by omega
        have hnj : ¬ ((j : Int) < (F.len : Int)) := by omega
        rw [ej] at HR
        go_wp2
        go_ret
        obtain ⟨cur, ho, hcu, hb2⟩ := HR.out
        rw [List.take_of_length_le (by rw [ho.1]; omega)] at hcu
        rw [hcu] at ho
        exact ⟨hb2, _, _, rfl, ho⟩
end Go.Proofs.YthmababifgaejaaGreatDoor
namespace Go.Proofs.YthmababifgaejaaGreatDoor
open Go.ChangeShapes Go.WideShapes Go.ChangeAt Go.RowKit
/-- a path's state with 0 for each term -/
def shp (x : PaR) : StR := ⟨x.pc, List.replicate x.R.len 0, List.replicate x.M.len 0, x.S, x.inn, List.replicate x.O.len 0, x.cd, x.st⟩
def SofEnd (x : PaR) (w : World) (e : Ending) (w' : World) : Prop := Below w.heap.size w w' ∧ ∃ qr cr qm cm qs cs qo co, e = .returned (.agg #[.int .i64 x.pc, .slice qr x.R.len cr, .slice qm x.M.len cm, .slice qs x.S.length cs, .int .i64 x.inn, .slice qo x.O.len co, .int .i64 x.cd, .int .i64 x.st]) ∧ StS w' 0 (shp x) (.slice qr x.R.len cr) (.slice qm x.M.len cm) (.slice qs x.S.length cs) (.slice qo x.O.len co)
set_option maxRecDepth 100000 in
set_option maxHeartbeats 8000000 in
theorem i_sof (x : PaR) (r m sk o c u : Value) (w : World) (hx : PaI w 0 x r m sk o c u) (hc : x.cost ≤ 1048576) :
    Calls Tryz.prog 30 #[.agg #[.int .i64 x.pc, r, m, sk, .int .i64 x.inn, o, .int .i64 x.cd, .int .i64 x.st, c, u], .func (.func 62) #[] #[]] w (SofEnd x w) := by
  have hml : maxLen = 9223372036854775807 := rfl
  obtain ⟨hr, hm, hsk, ho, hc, hu⟩ := hx
  have hcx : x.cost = x.R.cost + x.M.cost + x.S.length + x.O.cost + x.C.cost + x.U.length := rfl
  have KR := Lib.hid (fun W (hb : Below w.heap.size w W) => i_map0 x.R r W (hr.below hb) (by omega))
  have KM := Lib.hid (fun W (hb : Below w.heap.size w W) => i_map0 x.M m W (hm.below hb) (by omega))
  have KO := Lib.hid (fun W (hb : Below w.heap.size w W) => i_map0 x.O o W (ho.below hb) (by omega))
  have KS := Lib.hid (fun W (hb : Below w.heap.size w W) => own_clone2 x.S sk W (hsk.below hb) (by omega))
  obtain ⟨_, ⟨_, qr, cr, rfl, _⟩, _⟩ := hr
  obtain ⟨_, ⟨_, qm, cm, rfl, _⟩, _⟩ := hm
  obtain ⟨_, qsk, csk, rfl, _⟩ := hsk
  obtain ⟨_, ⟨_, qo, co, rfl, _⟩, _⟩ := ho
  obtain ⟨_, ⟨_, qc, cc, rfl, _⟩, _⟩ := hc
  obtain ⟨_, qu, cu, rfl, _⟩ := hu
  obtain ⟨v1, hv1⟩ : ∃ W, W = w.alloc (.cells #[.int .i64 x.pc, .slice qr x.R.len cr, .slice qm x.M.len cm, .slice qsk x.S.length csk, .int .i64 x.inn, .slice qo x.O.len co, .int .i64 x.cd, .int .i64 x.st, .slice qc x.C.len cc, .slice qu x.U.length cu] 41) := ⟨_, rfl⟩
  obtain ⟨w0, hw0⟩ : ∃ W, W = v1.alloc (.cells #[.int .i64 0, .slice none 0 0, .slice none 0 0, .slice none 0 0, .int .i64 0, .slice none 0 0, .int .i64 0, .int .i64 0] 32) := ⟨_, rfl⟩
  have hv1s : v1.heap.size = w.heap.size + 1 := by rw [hv1]; simp
  have k1 : Below v1.heap.size v1 w0 := by rw [hw0]; exact (Below.refl _ _).alloc (Nat.le_refl _) _
  have HB0 := Lib.hid (show Below w.heap.size w w0 by rw [hw0, hv1]; exact ((Below.refl _ _).alloc (Nat.le_refl _) _).alloc (by simp) _)
  have X0 := Lib.hid (show w0.heap[w.heap.size]? = some (.cells #[.int .i64 x.pc, .slice qr x.R.len cr, .slice qm x.M.len cm, .slice qsk x.S.length csk, .int .i64 x.inn, .slice qo x.O.len co, .int .i64 x.cd, .int .i64 x.st, .slice qc x.C.len cc, .slice qu x.U.length cu] 41 (0, 0)) from (k1.block w.heap.size (by omega)).trans (by rw [hv1]; exact heap_alloc_new _ _))
  have Z0 := Lib.hid (show w0.heap[w.heap.size + 1]? = some (.cells #[.int .i64 0, .slice none 0 0, .slice none 0 0, .slice none 0 0, .int .i64 0, .slice none 0 0, .int .i64 0, .int .i64 0] 32 (0, 0)) by rw [hw0, ← hv1s]; exact heap_alloc_new _ _)
  have hs0 := Lib.hid (show w0.heap.size = w.heap.size + 2 by rw [hw0]; simp; omega)
  clear k1 hv1s
  rw [hv1] at hw0
  clear hv1
  go_enter Tryz.func30, Tryz.ntmps30
  go_wp2_with fail
  rw [← hw0]
  clear hw0
  obtain ⟨wd, hwd⟩ : ∃ W, W = w0.drew := ⟨_, rfl⟩
  have CH := Lib.hid (show wd.heap[w.heap.size]? = some (.cells #[.int .i64 x.pc, .slice qr x.R.len cr, .slice qm x.M.len cm, .slice qsk x.S.length csk, .int .i64 x.inn, .slice qo x.O.len co, .int .i64 x.cd, .int .i64 x.st, .slice qc x.C.len cc, .slice qu x.U.length cu] 41 (0, 0)) by rw [hwd]; exact X0.out)
  have ZD := Lib.hid (show wd.heap[w.heap.size + 1]? = some (.cells #[.int .i64 0, .slice none 0 0, .slice none 0 0, .slice none 0 0, .int .i64 0, .slice none 0 0, .int .i64 0, .int .i64 0] 32 (0, 0)) by rw [hwd]; exact Z0.out)
  have HD := Lib.hid (show Below w.heap.size w wd by rw [hwd]; exact HB0.out.drew)
  have hsd := Lib.hid (show wd.heap.size = w.heap.size + 2 by rw [hwd]; exact hs0.out)
  refine region_s [24] (fun V => V.heap[w.heap.size]? = some (.cells #[.int .i64 x.pc, .slice qr x.R.len cr, .slice qm x.M.len cm, .slice qsk x.S.length csk, .int .i64 x.inn, .slice qo x.O.len co, .int .i64 x.cd, .int .i64 x.st, .slice qc x.C.len cc, .slice qu x.U.length cu] 41 (0, 0))) (by kernel_rfl) ?_
  rw [← hwd]
  clear hwd
  refine take_s (i := 0) (v := .pointer (some ⟨w.heap.size, 0, none⟩)) rfl (by kernel_rfl) (fun _ _ _ h => h) CH.out rfl (fun V hV => ?_) ?_
  · go_simp
  refine take_s (i := 1) (v := .int .i64 x.pc) rfl (by kernel_rfl) (fun _ _ _ h => h) CH.out rfl (fun V hV => ?_) ?_
  · obtain ⟨y0, y1, y2, y3, y4, y5, y6, y7, y8, y9⟩ := cell10_row hV
    go_simp
  refine take_s (i := 2) (v := .pointer (some ⟨w.heap.size, 1, none⟩)) rfl (by kernel_rfl) (fun _ _ _ h => h) CH.out rfl (fun V hV => ?_) ?_
  · go_simp
  refine take_s (i := 3) (v := .slice qr x.R.len cr) rfl (by kernel_rfl) (fun _ _ _ h => h) CH.out rfl (fun V hV => ?_) ?_
  · obtain ⟨y0, y1, y2, y3, y4, y5, y6, y7, y8, y9⟩ := cell10_row hV
    go_simp
  refine take_s (i := 4) (v := .func (.func 62) #[] #[]) rfl (by kernel_rfl) (fun _ _ _ h => h) CH.out rfl (fun V hV => ?_) ?_
  · go_simp
  refine take_s (i := 6) (v := .pointer (some ⟨w.heap.size, 2, none⟩)) rfl (by kernel_rfl) (fun _ _ _ h => h) CH.out rfl (fun V hV => ?_) ?_
  · go_simp
  refine take_s (i := 7) (v := .slice qm x.M.len cm) rfl (by kernel_rfl) (fun _ _ _ h => h) CH.out rfl (fun V hV => ?_) ?_
  · obtain ⟨y0, y1, y2, y3, y4, y5, y6, y7, y8, y9⟩ := cell10_row hV
    go_simp
  refine take_s (i := 8) (v := .func (.func 62) #[] #[]) rfl (by kernel_rfl) (fun _ _ _ h => h) CH.out rfl (fun V hV => ?_) ?_
  · go_simp
  refine take_s (i := 10) (v := .pointer (some ⟨w.heap.size, 3, none⟩)) rfl (by kernel_rfl) (fun _ _ _ h => h) CH.out rfl (fun V hV => ?_) ?_
  · go_simp
  refine take_s (i := 11) (v := .slice qsk x.S.length csk) rfl (by kernel_rfl) (fun _ _ _ h => h) CH.out rfl (fun V hV => ?_) ?_
  · obtain ⟨y0, y1, y2, y3, y4, y5, y6, y7, y8, y9⟩ := cell10_row hV
    go_simp
  refine take_s (i := 13) (v := .pointer (some ⟨w.heap.size, 4, none⟩)) rfl (by kernel_rfl) (fun _ _ _ h => h) CH.out rfl (fun V hV => ?_) ?_
  · go_simp
  refine take_s (i := 14) (v := .int .i64 x.inn) rfl (by kernel_rfl) (fun _ _ _ h => h) CH.out rfl (fun V hV => ?_) ?_
  · obtain ⟨y0, y1, y2, y3, y4, y5, y6, y7, y8, y9⟩ := cell10_row hV
    go_simp
  refine take_s (i := 15) (v := .pointer (some ⟨w.heap.size, 5, none⟩)) rfl (by kernel_rfl) (fun _ _ _ h => h) CH.out rfl (fun V hV => ?_) ?_
  · go_simp
  refine take_s (i := 16) (v := .slice qo x.O.len co) rfl (by kernel_rfl) (fun _ _ _ h => h) CH.out rfl (fun V hV => ?_) ?_
  · obtain ⟨y0, y1, y2, y3, y4, y5, y6, y7, y8, y9⟩ := cell10_row hV
    go_simp
  refine take_s (i := 17) (v := .func (.func 62) #[] #[]) rfl (by kernel_rfl) (fun _ _ _ h => h) CH.out rfl (fun V hV => ?_) ?_
  · go_simp
  refine take_s (i := 19) (v := .pointer (some ⟨w.heap.size, 6, none⟩)) rfl (by kernel_rfl) (fun _ _ _ h => h) CH.out rfl (fun V hV => ?_) ?_
  · go_simp
  refine take_s (i := 20) (v := .int .i64 x.cd) rfl (by kernel_rfl) (fun _ _ _ h => h) CH.out rfl (fun V hV => ?_) ?_
  · obtain ⟨y0, y1, y2, y3, y4, y5, y6, y7, y8, y9⟩ := cell10_row hV
    go_simp
  refine take_s (i := 21) (v := .pointer (some ⟨w.heap.size, 7, none⟩)) rfl (by kernel_rfl) (fun _ _ _ h => h) CH.out rfl (fun V hV => ?_) ?_
  · go_simp
  refine take_s (i := 22) (v := .int .i64 x.st) rfl (by kernel_rfl) (fun _ _ _ h => h) CH.out rfl (fun V hV => ?_) ?_
  · obtain ⟨y0, y1, y2, y3, y4, y5, y6, y7, y8, y9⟩ := cell10_row hV
    go_simp
  refine one_s (i := 5) (by kernel_rfl) (op_list rfl ?_)
  go_wp2_with fail
  refine (KR.out _ HD.out).mono ?_
  rintro e w5 ⟨hb, qr0, cr0, rfl, ho⟩
  have D5 := Lib.hid (HD.out.trans (hb.mono HD.out.size))
  have H5 := Lib.hid ((hb.block w.heap.size (Array.getElem?_eq_some_iff.1 CH.out).1).trans CH.out)
  have Z5 := Lib.hid ((hb.block (w.heap.size + 1) (Array.getElem?_eq_some_iff.1 ZD.out).1).trans ZD.out)
  have Or := Lib.hid (own_base (base' := w.heap.size + 2) ho (by have := hsd.out; omega))
  have hhw5 : w.heap.size + 2 ≤ w5.heap.size := by have h1 := hb.size; have h2 := hsd.out; omega
  clear hb ho
  go_wp2
  refine ⟨fun _ => H5.out, ?_⟩
  refine one_s (i := 9) (by kernel_rfl) (op_list rfl ?_)
  go_wp2_with fail
  refine (KM.out _ D5.out).mono ?_
  rintro e w9 ⟨hb, qm0, cm0, rfl, ho⟩
  have D9 := Lib.hid (D5.out.trans (hb.mono D5.out.size))
  have H9 := Lib.hid ((hb.block w.heap.size (Array.getElem?_eq_some_iff.1 H5.out).1).trans H5.out)
  have Z9 := Lib.hid ((hb.block (w.heap.size + 1) (Array.getElem?_eq_some_iff.1 Z5.out).1).trans Z5.out)
  have Om := Lib.hid (own_base (base' := w.heap.size + 2) ho (by have := hsd.out; have := hhw5; omega))
  have hhw9 : w.heap.size + 2 ≤ w9.heap.size := by have h1 := hb.size; have h2 := hsd.out; have h3 := hhw5; omega
  have Or := Lib.hid (own_keep Or.out hb)
  clear hb ho
  go_wp2
  refine ⟨fun _ => H9.out, ?_⟩
  refine one_s (i := 12) (by kernel_rfl) (op_list rfl ?_)
  go_wp2_with fail
  refine (KS.out _ D9.out).mono ?_
  rintro e w12 ⟨hb, qs0, cs0, rfl, ho⟩
  have D12 := Lib.hid (D9.out.trans (hb.mono D9.out.size))
  have H12 := Lib.hid ((hb.block w.heap.size (Array.getElem?_eq_some_iff.1 H9.out).1).trans H9.out)
  have Z12 := Lib.hid ((hb.block (w.heap.size + 1) (Array.getElem?_eq_some_iff.1 Z9.out).1).trans Z9.out)
  have Os := Lib.hid (own_base (base' := w.heap.size + 2) ho (by have := hsd.out; have := hhw9; omega))
  have hhw12 : w.heap.size + 2 ≤ w12.heap.size := by have h1 := hb.size; have h2 := hsd.out; have h3 := hhw9; omega
  have Or := Lib.hid (own_keep Or.out hb)
  have Om := Lib.hid (own_keep Om.out hb)
  clear hb ho
  go_wp2
  refine ⟨fun _ => H12.out, ?_⟩
  refine one_s (i := 18) (by kernel_rfl) (op_list rfl ?_)
  go_wp2_with fail
  refine (KO.out _ D12.out).mono ?_
  rintro e w18 ⟨hb, qo0, co0, rfl, ho⟩
  have D18 := Lib.hid (D12.out.trans (hb.mono D12.out.size))
  have H18 := Lib.hid ((hb.block w.heap.size (Array.getElem?_eq_some_iff.1 H12.out).1).trans H12.out)
  have Z18 := Lib.hid ((hb.block (w.heap.size + 1) (Array.getElem?_eq_some_iff.1 Z12.out).1).trans Z12.out)
  have Oo := Lib.hid (own_base (base' := w.heap.size + 2) ho (by have := hsd.out; have := hhw12; omega))
  have hhw18 : w.heap.size + 2 ≤ w18.heap.size := by have h1 := hb.size; have h2 := hsd.out; have h3 := hhw12; omega
  have Or := Lib.hid (own_keep Or.out hb)
  have Om := Lib.hid (own_keep Om.out hb)
  have Os := Lib.hid (own_keep Os.out hb)
  clear hb ho
  go_wp2
  refine ⟨fun _ => H18.out, ?_⟩
  refine one_s (i := 23) (by kernel_rfl) (op_list rfl ?_)
  go_wp2
  refine ⟨fun _ => H18.out, ?_⟩
  obtain ⟨z0, z1, z2, z3, z4, z5, z6, z7⟩ := cell8_row Z18.out
  obtain ⟨f0, f1, f2, f3, f4, f5, f6, f7⟩ := froz8_row Z18.out
  refine one_s (i := 24) (by kernel_rfl) (op_list rfl ?_)
  go_wp2
  refine ⟨late_s (by kernel_rfl), done_s (by kernel_rfl) ?_ _⟩
  obtain ⟨we, hwe⟩ : ∃ W9, W9 = ((((((((w18.setCell ⟨w.heap.size + 1, 0, none⟩ (.int .i64 x.pc)).setCell ⟨w.heap.size + 1, 1, none⟩ (.slice qr0 x.R.len cr0)).setCell ⟨w.heap.size + 1, 2, none⟩ (.slice qm0 x.M.len cm0)).setCell ⟨w.heap.size + 1, 3, none⟩ (.slice qs0 x.S.length cs0)).setCell ⟨w.heap.size + 1, 4, none⟩ (.int .i64 x.inn)).setCell ⟨w.heap.size + 1, 5, none⟩ (.slice qo0 x.O.len co0)).setCell ⟨w.heap.size + 1, 6, none⟩ (.int .i64 x.cd)).setCell ⟨w.heap.size + 1, 7, none⟩ (.int .i64 x.st)) := ⟨_, rfl⟩
  have D2 := Lib.hid (show we.heap[w.heap.size + 1]? = some (.cells #[.int .i64 x.pc, .slice qr0 x.R.len cr0, .slice qm0 x.M.len cm0, .slice qs0 x.S.length cs0, .int .i64 x.inn, .slice qo0 x.O.len co0, .int .i64 x.cd, .int .i64 x.st] 32 (0, 0)) by rw [hwe]; exact set8_row Z18.out (.int .i64 x.pc) (.slice qr0 x.R.len cr0) (.slice qm0 x.M.len cm0) (.slice qs0 x.S.length cs0) (.int .i64 x.inn) (.slice qo0 x.O.len co0) (.int .i64 x.cd) (.int .i64 x.st))
  have BE := Lib.hid (show Below w.heap.size w we by rw [hwe]; exact set8_below D18.out (by omega) (.int .i64 x.pc) (.slice qr0 x.R.len cr0) (.slice qm0 x.M.len cm0) (.slice qs0 x.S.length cs0) (.int .i64 x.inn) (.slice qo0 x.O.len co0) (.int .i64 x.cd) (.int .i64 x.st))
  have OT : ∀ k, k ≠ w.heap.size + 1 → we.heap[k]? = w18.heap[k]? := fun k hk => by rw [hwe, heap_setCell_other _ _ _ _ hk, heap_setCell_other _ _ _ _ hk, heap_setCell_other _ _ _ _ hk, heap_setCell_other _ _ _ _ hk, heap_setCell_other _ _ _ _ hk, heap_setCell_other _ _ _ _ hk, heap_setCell_other _ _ _ _ hk, heap_setCell_other _ _ _ _ hk]
  have Pr := Lib.hid (own_same Or.out (fun g hg => OT g (by have := (own_lt Or.out hg).1; omega)))
  have Pm := Lib.hid (own_same Om.out (fun g hg => OT g (by have := (own_lt Om.out hg).1; omega)))
  have Ps := Lib.hid (own_same Os.out (fun g hg => OT g (by have := (own_lt Os.out hg).1; omega)))
  have Po := Lib.hid (own_same Oo.out (fun g hg => OT g (by have := (own_lt Oo.out hg).1; omega)))
  rw [← hwe]
  clear hwe z0 z1 z2 z3 z4 z5 z6 z7 f0 f1 f2 f3 f4 f5 f6 f7 OT
  obtain ⟨d0, d1, d2, d3, d4, d5, d6, d7⟩ := cell8_row D2.out
  go_wp2
  refine bodyPost_ret (v := .agg #[.int .i64 x.pc, .slice qr0 x.R.len cr0, .slice qm0 x.M.len cm0, .slice qs0 x.S.length cs0, .int .i64 x.inn, .slice qo0 x.O.len co0, .int .i64 x.cd, .int .i64 x.st]) (by simp [results, Tryz.results30, go_sem, d0, d1, d2, d3, d4, d5, d6, d7]) rfl ?_
  refine ⟨BE.out, qr0, cr0, qm0, cm0, qs0, cs0, qo0, co0, rfl, ?_⟩
  have er := Cs.shows_of_owns Pr.out
  have em := Cs.shows_of_owns Pm.out
  have es := Cs.shows_of_owns Ps.out
  have eo := Cs.shows_of_owns Po.out
  unfold StS shp
  simp only [List.length_replicate]
  exact ⟨er.down (Nat.zero_le _), em.down (Nat.zero_le _), es.down (Nat.zero_le _), eo.down (Nat.zero_le _)⟩
end Go.Proofs.YthmababifgaejaaGreatDoor
