/- What the program's run leaves, told to whatever function value. No condition. -/
import Derived.Test.YthmababifgaejaaGreatCmGInI
import Derived.Test.YthmababifgaejaaGreatCmGStI
import Derived.Test.YthmababifgaejaaGreatCmGStM
import Derived.Test.YthmababifgaejaaGreatCmNsI
namespace Go.Proofs.YthmababifgaejaaGreat
open Go.ChangeShapes Go.WideShapes Go.ChangeAt Go.RowKit
set_option maxRecDepth 100000 in
theorem i_fuel (x : Int) (w : World) : Calls Tryz.prog 52 #[.int .i64 x] w fun e w' => e = .returned (.bool (decide (0 ≤ x) && decide (x ≤ 400))) ∧ w = w' := by
  by_cases h1 : 0 ≤ x
  · by_cases h2 : x ≤ 400
    · have e : (decide (0 ≤ x) && decide (x ≤ 400)) = true := by simp [h1, h2]
      rw [e]
      clear e
      go_enter Tryz.func52, Tryz.ntmps52
      go_wp2
      go_ret
      exact ⟨rfl, rfl⟩
    · have e : (decide (0 ≤ x) && decide (x ≤ 400)) = false := by simp [h2]
      have h3 : 400 < x := by omega
      rw [e]
      clear e h2
      go_enter Tryz.func52, Tryz.ntmps52
      go_wp2
      go_ret
      exact ⟨by show Ending.returned (.bool (decide (x ≤ 400))) = _; rw [decide_eq_false (by omega)], rfl⟩
  · have e : (decide (0 ≤ x) && decide (x ≤ 400)) = false := by simp [h1]
    have h3 : x < 0 := by omega
    rw [e]
    clear e h1
    go_enter Tryz.func52, Tryz.ntmps52
    go_wp2
    go_ret
    exact ⟨rfl, rfl⟩
/-- how many steps are made -/
def rnS (vw vm vi : Int) (L : List InsR) (I : List Int) (f : Int) : Nat := if rnB vw vm vi L I f = true then f.toNat else 0
/-- what a function value that is told of a run keeps: J W B j behind j steps, all of it in the blocks B -/
structure Told (J : World → List Nat → Nat → Prop) (F : FuncId) (caps : Array Value) (vw vm vi : Int) (L : List InsR) (I : List Int) (wa : World) : Prop where
  lt : ∀ {W B j}, J W B j → ∀ g ∈ B, wa.heap.size ≤ g ∧ g < W.heap.size
  same : ∀ {W W' B j}, J W B j → (∀ g ∈ B, W'.heap[g]? = W.heap[g]?) → W.heap.size ≤ W'.heap.size → J W' B j
  no : ∀ {W B j}, J W B j → begunB L.length (stN vw vm vi L I j) = false → J W B (j + 1)
  yes : ∀ {W B j} (x : StR) (base : Nat) (rq : Option Addr) (rc : Nat) (mq : Option Addr) (mc : Nat) (sq : Option Addr) (sc : Nat) (oq : Option Addr) (oc : Nat), J W B j → Below wa.heap.size wa W → inB vw vm vi L I = true → begunB L.length (stN vw vm vi L I j) = true → stN vw vm vi L I (j + 1) = x → j < 400 → StO W base x (.slice rq x.R.length rc) (.slice mq x.M.length mc) (.slice sq x.S.length sc) (.slice oq x.O.length oc) → (∀ k ∈ B, k ∉ StB (.slice rq x.R.length rc) (.slice mq x.M.length mc) (.slice sq x.S.length sc) (.slice oq x.O.length oc)) →
    Calls Tryz.prog F (#[.int .i64 (stN vw vm vi L I j).pc, .agg #[.int .i64 x.pc, .slice rq x.R.length rc, .slice mq x.M.length mc, .slice sq x.S.length sc, .int .i64 x.inn, .slice oq x.O.length oc, .int .i64 x.cd, .int .i64 x.st]] ++ caps) W fun e W' => e = .returned (.tuple #[]) ∧ Apart B W W' ∧ ∃ B', J W' B' (j + 1) ∧ ∀ g ∈ B', g ∈ B ∨ W.heap.size ≤ g
/-- what run leaves -/
def ToldEnd (J : World → List Nat → Nat → Prop) (x : StR) (n : Nat) (wa : World) (e : Ending) (w' : World) : Prop := Below wa.heap.size wa w' ∧ (∃ B, J w' B n) ∧ ∃ rq rc mq mc sq sc oq oc, e = .returned (.agg #[.int .i64 x.pc, .slice rq x.R.length rc, .slice mq x.M.length mc, .slice sq x.S.length sc, .int .i64 x.inn, .slice oq x.O.length oc, .int .i64 x.cd, .int .i64 x.st]) ∧ StO w' wa.heap.size x (.slice rq x.R.length rc) (.slice mq x.M.length mc) (.slice sq x.S.length sc) (.slice oq x.O.length oc)
def ToldRel (J : World → List Nat → Nat → Prop) (vw vm vi : Int) (L : List InsR) (I : List Int) (q : Option Addr) (cap : Nat) (iq : Option Addr) (ic b : Nat) (wa w : World) (j : Nat) (wr : World) : Prop :=
  ∃ r m s o nx B, MRow wr b vw vm vi (.slice q L.length cap) (.slice iq I.length ic) (stN vw vm vi L I j) r m s o nx ∧ StO wr wa.heap.size (stN vw vm vi L I j) r m s o ∧ Below wa.heap.size wa wr ∧ w.heap.size + 2 ≤ wr.heap.size ∧ wr.heap[w.heap.size]? = some (.cells #[.int .i64 vw, .int .i64 vm, .int .i64 vi, .slice q L.length cap] 32 (0, 0)) ∧ wr.heap[w.heap.size + 1]? = some (.cells #[.int .i64 0, .slice none 0 0, .slice none 0 0, .slice none 0 0, .int .i64 0, .slice none 0 0, .int .i64 0, .int .i64 0] 52 (0, 0)) ∧ J wr B j ∧ ∀ g ∈ B, g ≠ w.heap.size ∧ g ≠ w.heap.size + 1 ∧ g ∉ b :: StB r m s o
set_option maxRecDepth 100000 in
set_option maxHeartbeats 16000000 in
theorem i_run {J : World → List Nat → Nat → Prop} {F : FuncId} {caps : Array Value} (vw vm vi : Int) (L : List InsR) (I : List Int) (f : Int) (sL li : Value) (wa w : World) (hcf : ∀ (a : Array Value) (W : World), (callFunc F a).run Tryz.prog W = .ok (.enter F a) W) (hT : Told J F caps vw vm vi L I wa) (hba : Below wa.heap.size wa w) (B0 : List Nat) (hJ0 : J w B0 0) (hs : Cs.Shows wa 0 4 sL L.length (InsR.all L)) (hls : Cs.Shows wa 0 1 li I.length (IntL.all I)) (hok : ∀ r ∈ L, r.Ok) (hL : L.length ≤ maxLen) (hl : I.length ≤ maxLen) :
    Calls Tryz.prog 38 #[.agg #[.int .i64 vw, .int .i64 vm, .int .i64 vi, sL], li, .int .i64 f, .func (.func F) #[] caps] w (ToldEnd J (rnV vw vm vi L I f) (rnS vw vm vi L I f) wa) := by
  have hml : maxLen = 9223372036854775807 := rfl
  have hsa := hba.size
  have HBA0 := Lib.hid hba
  have HT := Lib.hid hT
  have HJ0 := Lib.hid hJ0
  have HJL := Lib.hid (hT.lt hJ0)
  have KI := Lib.hid (fun W (hb : Below w.heap.size w W) => i_inputs vw vm vi L I sL li W (hs.below (hba.trans (hb.mono hsa))) (hls.below (hba.trans (hb.mono hsa))) hok hL hl)
  have KN := Lib.hid (fun W (hb : Below w.heap.size w W) => i_new0 vw vm vi L sL W (hs.below (hba.trans (hb.mono hsa))) hok hL)
  clear hba hT hJ0
  have HS := Lib.hid hs
  have HLI := Lib.hid hls
  obtain ⟨_, q, cap, rfl, _⟩ := hs
  obtain ⟨_, iq, ic, rfl, _⟩ := hls
  have HCA := Lib.hid (code_at HS.out)
  have HIA := Lib.hid (in_at HLI.out)
  obtain ⟨B1, hB1⟩ : ∃ B, inB vw vm vi L I = B := ⟨_, rfl⟩
  obtain ⟨B2, hB2⟩ : ∃ B, (decide (0 ≤ f) && decide (f ≤ 400)) = B := ⟨_, rfl⟩
  have KR := Lib.hid (fun W => i_fuel f W)
  rw [hB2] at KR
  rw [hB1] at KI
  obtain ⟨XV, hXV⟩ : ∃ V, rnV vw vm vi L I f = V := ⟨_, rfl⟩
  obtain ⟨SV, hSV⟩ : ∃ V, rnS vw vm vi L I f = V := ⟨_, rfl⟩
  rw [hXV, hSV]
  have HXd := Lib.hid (show XV = if (B1 && B2) = true then stN vw vm vi L I f.toNat else zeroSt from by rw [← hXV, ← hB1, ← hB2]; rfl)
  have HTd := Lib.hid (show SV = if (B1 && B2) = true then f.toNat else 0 from by rw [← hSV, ← hB1, ← hB2]; rfl)
  clear hXV hSV hok
  obtain ⟨w0, hw0⟩ : ∃ w0, w0 = (w.alloc (.cells #[.int .i64 vw, .int .i64 vm, .int .i64 vi, .slice q L.length cap] 32)).alloc (.cells #[.int .i64 0, .slice none 0 0, .slice none 0 0, .slice none 0 0, .int .i64 0, .slice none 0 0, .int .i64 0, .int .i64 0] 52) := ⟨_, rfl⟩
  have HB0 := Lib.hid (show Below w.heap.size w w0 by rw [hw0]; exact ((Below.refl _ _).alloc (Nat.le_refl _) _).alloc (by simp) _)
  have hs0 : w0.heap.size = w.heap.size + 2 := by rw [hw0]; simp
  have XR0 := Lib.hid (show w0.heap[w.heap.size]? = some (.cells #[.int .i64 vw, .int .i64 vm, .int .i64 vi, .slice q L.length cap] 32 (0, 0)) by rw [hw0, heap_alloc_old _ _ (by simp)]; exact heap_alloc_new _ _)
  have ZR0 := Lib.hid (show w0.heap[w.heap.size + 1]? = some (.cells #[.int .i64 0, .slice none 0 0, .slice none 0 0, .slice none 0 0, .int .i64 0, .slice none 0 0, .int .i64 0, .int .i64 0] 52 (0, 0)) by rw [hw0, ← show (w.alloc (.cells #[.int .i64 vw, .int .i64 vm, .int .i64 vi, .slice q L.length cap] 32)).heap.size = w.heap.size + 1 by simp]; exact heap_alloc_new _ _)
  obtain ⟨x0, x1, x2, x3⟩ := cell4_row XR0.out
  rw [hw0] at x0 x1 x2 x3
  go_enter Tryz.func38, Tryz.ntmps38
  go_wp2_with fail
  rw [← hw0]
  clear hw0 x0 x1 x2 x3
  refine (KI.out _ HB0.out).mono ?_
  rintro e w1 ⟨rfl, hb⟩
  have HBI := Lib.hid (HB0.out.trans (hb.mono HB0.out.size))
  have XR1 := Lib.hid ((hb.block w.heap.size (by omega)).trans XR0.out)
  have ZR1 := Lib.hid ((hb.block (w.heap.size + 1) (by omega)).trans ZR0.out)
  have hs1 := hb.size
  have hs1' : w.heap.size + 2 ≤ w1.heap.size := by omega
  clear hb hs1
  cases B1
  case false =>
    have hx : XV = zeroSt := HXd.out
    have ht : SV = 0 := HTd.out
    clear HXd HTd
    subst hx ht
    obtain ⟨d0, d1, d2, d3, d4, d5, d6, d7⟩ := cell8_row ZR1.out
    obtain ⟨f0, f1, f2, f3, f4, f5, f6, f7⟩ := froz8_row ZR1.out
    go_wp2
    refine bodyPost_ret (v := .agg #[.int .i64 0, .slice none 0 0, .slice none 0 0, .slice none 0 0, .int .i64 0, .slice none 0 0, .int .i64 0, .int .i64 0]) (by simp [results, Tryz.results38, go_sem, d0, d1, d2, d3, d4, d5, d6, d7]) rfl ?_
    have BZ : Below w.heap.size w ((((((((w1.setCell ⟨w.heap.size + 1, 0, none⟩ (.int .i64 0)).setCell ⟨w.heap.size + 1, 1, none⟩ (.slice none 0 0)).setCell ⟨w.heap.size + 1, 2, none⟩ (.slice none 0 0)).setCell ⟨w.heap.size + 1, 3, none⟩ (.slice none 0 0)).setCell ⟨w.heap.size + 1, 4, none⟩ (.int .i64 0)).setCell ⟨w.heap.size + 1, 5, none⟩ (.slice none 0 0)).setCell ⟨w.heap.size + 1, 6, none⟩ (.int .i64 0)).setCell ⟨w.heap.size + 1, 7, none⟩ (.int .i64 0)) := set8_below HBI.out (by omega) _ _ _ _ _ _ _ _
    exact ⟨HBA0.out.trans (BZ.mono hsa), ⟨B0, HT.out.same HJ0.out (fun g hg => BZ.block g (HJL.out g hg).2) BZ.size⟩, none, 0, none, 0, none, 0, none, 0, rfl, ⟨World.ownsRow_nil _ _ _ _, World.ownsRow_nil _ _ _ _, World.ownsRow_nil _ _ _ _, World.ownsRow_nil _ _ _ _, by simp [Value.ownBlock]⟩⟩
  case true =>
    go_wp2_with fail
    refine (KR.out _).mono ?_
    rintro e w2 ⟨rfl, rfl⟩
    cases B2
    case false =>
      have hx : XV = zeroSt := HXd.out
      have ht : SV = 0 := HTd.out
      clear HXd HTd
      subst hx ht
      obtain ⟨d0, d1, d2, d3, d4, d5, d6, d7⟩ := cell8_row ZR1.out
      obtain ⟨f0, f1, f2, f3, f4, f5, f6, f7⟩ := froz8_row ZR1.out
      go_wp2
      refine bodyPost_ret (v := .agg #[.int .i64 0, .slice none 0 0, .slice none 0 0, .slice none 0 0, .int .i64 0, .slice none 0 0, .int .i64 0, .int .i64 0]) (by simp [results, Tryz.results38, go_sem, d0, d1, d2, d3, d4, d5, d6, d7]) rfl ?_
      have BZ : Below w.heap.size w ((((((((w1.setCell ⟨w.heap.size + 1, 0, none⟩ (.int .i64 0)).setCell ⟨w.heap.size + 1, 1, none⟩ (.slice none 0 0)).setCell ⟨w.heap.size + 1, 2, none⟩ (.slice none 0 0)).setCell ⟨w.heap.size + 1, 3, none⟩ (.slice none 0 0)).setCell ⟨w.heap.size + 1, 4, none⟩ (.int .i64 0)).setCell ⟨w.heap.size + 1, 5, none⟩ (.slice none 0 0)).setCell ⟨w.heap.size + 1, 6, none⟩ (.int .i64 0)).setCell ⟨w.heap.size + 1, 7, none⟩ (.int .i64 0)) := set8_below HBI.out (by omega) _ _ _ _ _ _ _ _
      exact ⟨HBA0.out.trans (BZ.mono hsa), ⟨B0, HT.out.same HJ0.out (fun g hg => BZ.block g (HJL.out g hg).2) BZ.size⟩, none, 0, none, 0, none, 0, none, 0, rfl, ⟨World.ownsRow_nil _ _ _ _, World.ownsRow_nil _ _ _ _, World.ownsRow_nil _ _ _ _, World.ownsRow_nil _ _ _ _, by simp [Value.ownBlock]⟩⟩
    case true =>
      have hx : XV = stN vw vm vi L I f.toNat := HXd.out
      have ht : SV = f.toNat := HTd.out
      rw [Bool.and_eq_true, decide_eq_true_eq, decide_eq_true_eq] at hB2
      obtain ⟨fn, rfl⟩ : ∃ n : Nat, f = n := ⟨f.toNat, by omega⟩
      rw [Int.toNat_natCast] at hx ht
      subst hx
      subst SV
      have hfn : fn ≤ 400 := by omega
      have HBT := Lib.hid hB1
      have HIN := Lib.hid (in_of hB1)
      have HG := Lib.hid (gd_N hB1)
      have hpr := (in_of hB1).1
      have hns : nsV vw vm vi L = newSt vm := by unfold nsV; rw [if_pos hpr]
      rw [hns] at KN
      clear hns HXd hB1 hB2 hpr
      try clear HTd
      obtain ⟨y, hy⟩ : ∃ y, newSt vm = y := ⟨_, rfl⟩
      have HY := Lib.hid hy
      rw [hy] at KN
      clear hy
      have hsp : w.heap.size < w1.heap.size := by omega
      obtain ⟨i9, hi9, hz9, hzs9, hzb9⟩ := info_parts zero_Int
      obtain ⟨x0, x1, x2, x3⟩ := cell4_row XR1.out
      go_upto_region 3 with fail
      go_cut [9] from 21 to 25 (fun v wx => ∃ b r m s o, v = .pointer (some ⟨b, 0, none⟩) ∧ w.heap.size + 2 ≤ b ∧ MRow wx b vw vm vi (.slice q L.length cap) (.slice iq I.length ic) y r m s o 0 ∧ StO wx w.heap.size y r m s o ∧ Below w1.heap.size w1 wx)
      case first =>
        have CH : Hid (w1.drew.cell? ⟨w.heap.size, 0, none⟩ = some (.int .i64 vw) ∧ w1.drew.cell? ⟨w.heap.size, 1, none⟩ = some (.int .i64 vm) ∧ w1.drew.cell? ⟨w.heap.size, 2, none⟩ = some (.int .i64 vi) ∧ w1.drew.cell? ⟨w.heap.size, 3, none⟩ = some (.slice q L.length cap)) := Lib.hid ⟨by assumption, by assumption, by assumption, by assumption⟩
        refine region_s [6] (fun V => V.cell? ⟨w.heap.size, 0, none⟩ = some (.int .i64 vw) ∧ V.cell? ⟨w.heap.size, 1, none⟩ = some (.int .i64 vm) ∧ V.cell? ⟨w.heap.size, 2, none⟩ = some (.int .i64 vi) ∧ V.cell? ⟨w.heap.size, 3, none⟩ = some (.slice q L.length cap)) (by kernel_rfl) ?_
        refine take_s (i := 0) (v := .agg #[.int .i64 vw, .int .i64 vm, .int .i64 vi, .slice q L.length cap]) rfl (by kernel_rfl) (fun _ _ _ h => h) CH.out rfl (fun V hV => ?_) ?_
        · obtain ⟨t0, t1, t2, t3⟩ := hV; go_simp
        refine take_s (i := 1) (v := .slice iq I.length ic) rfl (by kernel_rfl) (fun _ _ _ h => h) CH.out rfl (fun V hV => ?_) ?_
        · go_simp
        refine take_s (i := 2) (v := .agg #[.int .i64 vw, .int .i64 vm, .int .i64 vi, .slice q L.length cap]) rfl (by kernel_rfl) (fun _ _ _ h => h) CH.out rfl (fun V hV => ?_) ?_
        · obtain ⟨t0, t1, t2, t3⟩ := hV; go_simp
        have BD := Lib.hid (show Below w1.heap.size w1 w1.drew from (Below.refl _ _).drew)
        refine two_s (i := 3) (k := 5) (by kernel_rfl) (op_list rfl ?_) (op_list rfl ?_)
        · go_wp2_with fail
          refine (KN.out w1.drew (HBI.out.trans (BD.out.mono HBI.out.size))).mono ?_
          rintro e w2 ⟨hb, rq, rc, mq, mc, sq, sc, oq, oc, rfl, ho⟩
          have hb12 : Below w1.heap.size w1 w2 := BD.out.trans (hb.mono BD.out.size)
          have B2 := Lib.hid hb12
          have HO2 := Lib.hid (ho.base (base' := w.heap.size) (by have := HBI.out.size; first | omega | (simp; omega) | (have := HBa.out.size; omega)))
          go_wp2
          have C2 : Hid (w2.cell? ⟨w.heap.size, 0, none⟩ = some (.int .i64 vw) ∧ w2.cell? ⟨w.heap.size, 1, none⟩ = some (.int .i64 vm) ∧ w2.cell? ⟨w.heap.size, 2, none⟩ = some (.int .i64 vi) ∧ w2.cell? ⟨w.heap.size, 3, none⟩ = some (.slice q L.length cap)) := Lib.hid (by obtain ⟨t0, t1, t2, t3⟩ := CH.out; exact ⟨(hb.cell (p := ⟨w.heap.size, 0, none⟩) (hsp)).trans t0, (hb.cell (p := ⟨w.heap.size, 1, none⟩) (hsp)).trans t1, (hb.cell (p := ⟨w.heap.size, 2, none⟩) (hsp)).trans t2, (hb.cell (p := ⟨w.heap.size, 3, none⟩) (hsp)).trans t3⟩)
          refine ⟨fun _ => C2.out, ?_⟩
          refine take_s (i := 4) (v := .agg #[.int .i64 vw, .int .i64 vm, .int .i64 vi, .slice q L.length cap, .slice iq I.length ic, .int .i64 y.pc, .slice rq y.R.length rc, .slice mq y.M.length mc, .slice sq y.S.length sc, .int .i64 y.inn, .slice oq y.O.length oc, .int .i64 y.cd, .int .i64 y.st, .int .i64 0]) rfl (by kernel_rfl) (fun _ _ _ h => h) C2.out rfl (fun V hV => ?_) ?_
          · go_simp
            all_goals rfl
          refine one_s (i := 5) (by kernel_rfl) (op_list rfl ?_)
          go_wp2
          obtain ⟨wa, hwa⟩ : ∃ W9, W9 = (w2.alloc (.cells #[.int .i64 0, .int .i64 0, .int .i64 0, .slice none 0 0, .slice none 0 0, .int .i64 0, .slice none 0 0, .slice none 0 0, .slice none 0 0, .int .i64 0, .slice none 0 0, .int .i64 0, .int .i64 0, .int .i64 0] 77)) := ⟨_, rfl⟩
          have hba : Below w2.heap.size w2 wa := by rw [hwa]; exact (Below.refl _ _).alloc (Nat.le_refl _) _
          have hra : wa.heap[w2.heap.size]? = some (.cells #[.int .i64 0, .int .i64 0, .int .i64 0, .slice none 0 0, .slice none 0 0, .int .i64 0, .slice none 0 0, .slice none 0 0, .slice none 0 0, .int .i64 0, .slice none 0 0, .int .i64 0, .int .i64 0, .int .i64 0] 77 (0, 0)) := by rw [hwa]; exact heap_alloc_new w2 _
          obtain ⟨b, hbq⟩ : ∃ g, g = w2.heap.size := ⟨_, rfl⟩
          have hbge : w.heap.size + 2 ≤ b := by have := B2.out.size; omega
          rw [← hbq] at hra
          rw [← hwa, ← hbq]
          clear hwa
          have HRA := Lib.hid hra
          have HOA := Lib.hid (HO2.out.keep hba)
          have HBA := Lib.hid (B2.out.trans (hba.mono B2.out.size))
          have hb1b : w1.heap.size ≤ b := by have := B2.out.size; omega
          have C3 : Hid (wa.cell? ⟨w.heap.size, 0, none⟩ = some (.int .i64 vw) ∧ wa.cell? ⟨w.heap.size, 1, none⟩ = some (.int .i64 vm) ∧ wa.cell? ⟨w.heap.size, 2, none⟩ = some (.int .i64 vi) ∧ wa.cell? ⟨w.heap.size, 3, none⟩ = some (.slice q L.length cap)) := Lib.hid (by obtain ⟨t0, t1, t2, t3⟩ := C2.out; exact ⟨(hba.cell (p := ⟨w.heap.size, 0, none⟩) (by have := B2.out.size; (try dsimp only); omega)).trans t0, (hba.cell (p := ⟨w.heap.size, 1, none⟩) (by have := B2.out.size; (try dsimp only); omega)).trans t1, (hba.cell (p := ⟨w.heap.size, 2, none⟩) (by have := B2.out.size; (try dsimp only); omega)).trans t2, (hba.cell (p := ⟨w.heap.size, 3, none⟩) (by have := B2.out.size; (try dsimp only); omega)).trans t3⟩)
          clear hba hra hbq
          refine ⟨fun _ => C3.out, ?_⟩
          obtain ⟨z0, z1, z2, z3, z4, z5, z6, z7, z8, z9, z10, z11, z12, z13⟩ := mcells HRA.out
          obtain ⟨y0, y1, y2, y3, y4, y5, y6, y7, y8, y9, y10, y11, y12, y13⟩ := mfroz14 HRA.out
          refine one_s (i := 6) (by kernel_rfl) (op_list rfl ?_)
          go_wp2
          refine ⟨late_s (by kernel_rfl), done_s (by kernel_rfl) ?_ _⟩
          clear z0 z1 z2 z3 z4 z5 z6 z7 z8 z9 z10 z11 z12 z13 y0 y1 y2 y3 y4 y5 y6 y7 y8 y9 y10 y11 y12 y13
          obtain ⟨wm, hwm⟩ : ∃ W9, W9 = ((((((((((((((wa.setCell ⟨b, 0, none⟩ (.int .i64 vw)).setCell ⟨b, 1, none⟩ (.int .i64 vm)).setCell ⟨b, 2, none⟩ (.int .i64 vi)).setCell ⟨b, 3, none⟩ (.slice q L.length cap)).setCell ⟨b, 4, none⟩ (.slice iq I.length ic)).setCell ⟨b, 5, none⟩ (.int .i64 y.pc)).setCell ⟨b, 6, none⟩ (.slice rq y.R.length rc)).setCell ⟨b, 7, none⟩ (.slice mq y.M.length mc)).setCell ⟨b, 8, none⟩ (.slice sq y.S.length sc)).setCell ⟨b, 9, none⟩ (.int .i64 y.inn)).setCell ⟨b, 10, none⟩ (.slice oq y.O.length oc)).setCell ⟨b, 11, none⟩ (.int .i64 y.cd)).setCell ⟨b, 12, none⟩ (.int .i64 y.st)).setCell ⟨b, 13, none⟩ (.int .i64 0)) := ⟨_, rfl⟩
          have MM := Lib.hid (show MRow wm b vw vm vi (.slice q L.length cap) (.slice iq I.length ic) y (.slice rq y.R.length rc) (.slice mq y.M.length mc) (.slice sq y.S.length sc) (.slice oq y.O.length oc) 0 by rw [hwm]; exact set14_row HRA.out _ _ _ _ _ _ _ _ _ _ _ _ _ _)
          have OM := Lib.hid (show StO wm w.heap.size y (.slice rq y.R.length rc) (.slice mq y.M.length mc) (.slice sq y.S.length sc) (.slice oq y.O.length oc) by rw [hwm]; exact HOA.out.same (fun g hg => set14_heap _ _ _ (fun h => HOA.out.off (T := 77) mach_ne HRA.out (by rw [← h]; exact hg)) _ _ _ _ _ _ _ _ _ _ _ _ _ _))
          have hbm := Lib.hid (show ∀ g, g < w1.heap.size → wm.heap[g]? = w1.heap[g]? from fun g hg => by rw [hwm]; exact (set14_heap _ _ _ (by omega) _ _ _ _ _ _ _ _ _ _ _ _ _ _).trans (HBA.out.block g hg))
          have BM := Lib.hid (show Below w1.heap.size w1 wm by rw [hwm]; exact set14_below HBA.out (by omega) _ _ _ _ _ _ _ _ _ _ _ _ _ _)
          rw [← hwm]
          clear hwm
          go_wp2_with fail
          go_meet
          exact ⟨b, _, _, _, _, rfl, by omega, MM.out, OM.out, BM.out⟩
        · go_wp2
          obtain ⟨wa, hwa⟩ : ∃ W9, W9 = (w1.alloc (.cells #[.int .i64 0, .int .i64 0, .int .i64 0, .slice none 0 0, .slice none 0 0, .int .i64 0, .slice none 0 0, .slice none 0 0, .slice none 0 0, .int .i64 0, .slice none 0 0, .int .i64 0, .int .i64 0, .int .i64 0] 77)).drew := ⟨_, rfl⟩
          have hba : Below w1.heap.size w1 wa := by rw [hwa]; exact ((Below.refl _ _).alloc (Nat.le_refl _) _).drew
          have hra : wa.heap[w1.heap.size]? = some (.cells #[.int .i64 0, .int .i64 0, .int .i64 0, .slice none 0 0, .slice none 0 0, .int .i64 0, .slice none 0 0, .slice none 0 0, .slice none 0 0, .int .i64 0, .slice none 0 0, .int .i64 0, .int .i64 0, .int .i64 0] 77 (0, 0)) := by rw [hwa]; exact heap_alloc_new w1 _
          obtain ⟨b, hbq⟩ : ∃ g, g = w1.heap.size := ⟨_, rfl⟩
          have hbge : w.heap.size + 2 ≤ b := by have := BD.out.size; omega
          rw [← hbq] at hra
          rw [← hwa, ← hbq]
          clear hwa
          have HRa := Lib.hid hra
          have HBa := Lib.hid hba
          have hb1b : w1.heap.size ≤ b := by omega
          have C1 : Hid (wa.cell? ⟨w.heap.size, 0, none⟩ = some (.int .i64 vw) ∧ wa.cell? ⟨w.heap.size, 1, none⟩ = some (.int .i64 vm) ∧ wa.cell? ⟨w.heap.size, 2, none⟩ = some (.int .i64 vi) ∧ wa.cell? ⟨w.heap.size, 3, none⟩ = some (.slice q L.length cap)) := Lib.hid (by obtain ⟨t0, t1, t2, t3⟩ := CH.out; exact ⟨(hba.cell (p := ⟨w.heap.size, 0, none⟩) (by omega)).trans t0, (hba.cell (p := ⟨w.heap.size, 1, none⟩) (by omega)).trans t1, (hba.cell (p := ⟨w.heap.size, 2, none⟩) (by omega)).trans t2, (hba.cell (p := ⟨w.heap.size, 3, none⟩) (by omega)).trans t3⟩)
          have hba1 : b < wa.heap.size := row_ltD hra
          clear hba hra hbq
          refine ⟨fun _ => C1.out, ?_⟩
          refine one_s (i := 3) (by kernel_rfl) (op_list rfl ?_)
          go_wp2_with fail
          refine (KN.out wa (HBI.out.trans (HBa.out.mono HBI.out.size))).mono ?_
          rintro e w2 ⟨hb, rq, rc, mq, mc, sq, sc, oq, oc, rfl, ho⟩
          have hb12 : Below w1.heap.size w1 w2 := HBa.out.trans (hb.mono HBa.out.size)
          have B2 := Lib.hid hb12
          have HO2 := Lib.hid (ho.base (base' := w.heap.size) (by have := HBI.out.size; first | omega | (simp; omega) | (have := HBa.out.size; omega)))
          go_wp2
          have HRA := Lib.hid ((hb.block b hba1).trans HRa.out)
          have HOA := HO2
          have HBA := B2
          have C2 : Hid (w2.cell? ⟨w.heap.size, 0, none⟩ = some (.int .i64 vw) ∧ w2.cell? ⟨w.heap.size, 1, none⟩ = some (.int .i64 vm) ∧ w2.cell? ⟨w.heap.size, 2, none⟩ = some (.int .i64 vi) ∧ w2.cell? ⟨w.heap.size, 3, none⟩ = some (.slice q L.length cap)) := Lib.hid (by obtain ⟨t0, t1, t2, t3⟩ := C1.out; exact ⟨(hb.cell (p := ⟨w.heap.size, 0, none⟩) (by have := HBa.out.size; (try dsimp only); omega)).trans t0, (hb.cell (p := ⟨w.heap.size, 1, none⟩) (by have := HBa.out.size; (try dsimp only); omega)).trans t1, (hb.cell (p := ⟨w.heap.size, 2, none⟩) (by have := HBa.out.size; (try dsimp only); omega)).trans t2, (hb.cell (p := ⟨w.heap.size, 3, none⟩) (by have := HBa.out.size; (try dsimp only); omega)).trans t3⟩)
          refine ⟨fun _ => C2.out, ?_⟩
          refine take_s (i := 4) (v := .agg #[.int .i64 vw, .int .i64 vm, .int .i64 vi, .slice q L.length cap, .slice iq I.length ic, .int .i64 y.pc, .slice rq y.R.length rc, .slice mq y.M.length mc, .slice sq y.S.length sc, .int .i64 y.inn, .slice oq y.O.length oc, .int .i64 y.cd, .int .i64 y.st, .int .i64 0]) rfl (by kernel_rfl) (fun _ _ _ h => h) C2.out rfl (fun V hV => ?_) ?_
          · go_simp
            all_goals rfl
          obtain ⟨z0, z1, z2, z3, z4, z5, z6, z7, z8, z9, z10, z11, z12, z13⟩ := mcells HRA.out
          obtain ⟨y0, y1, y2, y3, y4, y5, y6, y7, y8, y9, y10, y11, y12, y13⟩ := mfroz14 HRA.out
          refine one_s (i := 6) (by kernel_rfl) (op_list rfl ?_)
          go_wp2
          refine ⟨late_s (by kernel_rfl), done_s (by kernel_rfl) ?_ _⟩
          clear z0 z1 z2 z3 z4 z5 z6 z7 z8 z9 z10 z11 z12 z13 y0 y1 y2 y3 y4 y5 y6 y7 y8 y9 y10 y11 y12 y13
          obtain ⟨wm, hwm⟩ : ∃ W9, W9 = ((((((((((((((w2.setCell ⟨b, 0, none⟩ (.int .i64 vw)).setCell ⟨b, 1, none⟩ (.int .i64 vm)).setCell ⟨b, 2, none⟩ (.int .i64 vi)).setCell ⟨b, 3, none⟩ (.slice q L.length cap)).setCell ⟨b, 4, none⟩ (.slice iq I.length ic)).setCell ⟨b, 5, none⟩ (.int .i64 y.pc)).setCell ⟨b, 6, none⟩ (.slice rq y.R.length rc)).setCell ⟨b, 7, none⟩ (.slice mq y.M.length mc)).setCell ⟨b, 8, none⟩ (.slice sq y.S.length sc)).setCell ⟨b, 9, none⟩ (.int .i64 y.inn)).setCell ⟨b, 10, none⟩ (.slice oq y.O.length oc)).setCell ⟨b, 11, none⟩ (.int .i64 y.cd)).setCell ⟨b, 12, none⟩ (.int .i64 y.st)).setCell ⟨b, 13, none⟩ (.int .i64 0)) := ⟨_, rfl⟩
          have MM := Lib.hid (show MRow wm b vw vm vi (.slice q L.length cap) (.slice iq I.length ic) y (.slice rq y.R.length rc) (.slice mq y.M.length mc) (.slice sq y.S.length sc) (.slice oq y.O.length oc) 0 by rw [hwm]; exact set14_row HRA.out _ _ _ _ _ _ _ _ _ _ _ _ _ _)
          have OM := Lib.hid (show StO wm w.heap.size y (.slice rq y.R.length rc) (.slice mq y.M.length mc) (.slice sq y.S.length sc) (.slice oq y.O.length oc) by rw [hwm]; exact HOA.out.same (fun g hg => set14_heap _ _ _ (fun h => HOA.out.off (T := 77) mach_ne HRA.out (by rw [← h]; exact hg)) _ _ _ _ _ _ _ _ _ _ _ _ _ _))
          have hbm := Lib.hid (show ∀ g, g < w1.heap.size → wm.heap[g]? = w1.heap[g]? from fun g hg => by rw [hwm]; exact (set14_heap _ _ _ (by omega) _ _ _ _ _ _ _ _ _ _ _ _ _ _).trans (HBA.out.block g hg))
          have BM := Lib.hid (show Below w1.heap.size w1 wm by rw [hwm]; exact set14_below HBA.out (by omega) _ _ _ _ _ _ _ _ _ _ _ _ _ _)
          rw [← hwm]
          clear hwm
          go_wp2_with fail
          go_meet
          exact ⟨b, _, _, _, _, rfl, by omega, MM.out, OM.out, BM.out⟩
      case rest =>
        clear x0 x1 x2 x3
        obtain ⟨b, r, m, s, o, hv8, hbge, hM, hO, hbm⟩ := hcut
        subst hv8
        have HBC := Lib.hid (HBI.out.trans (hbm.mono HBI.out.size))
        have XRC := Lib.hid ((hbm.block w.heap.size hsp).trans XR1.out)
        have ZRC := Lib.hid ((hbm.block (w.heap.size + 1) (by omega)).trans ZR1.out)
        have hOL := Lib.hid (fun g (hg : g ∈ StB r m s o) => (hO.lt hg).1)
        have RL := Lib.hid (show ToldRel J vw vm vi L I q cap iq ic b wa w 0 wc from ⟨r, m, s, o, 0, B0, by rw [show stN vw vm vi L I 0 = y from HY.out]; exact hM, by rw [show stN vw vm vi L I 0 = y from HY.out]; exact hO.base (by omega), HBA0.out.trans (HBC.out.mono hsa), by have := hbm.size; omega, XRC.out, ZRC.out, HT.out.same HJ0.out (fun g hg => HBC.out.block g (HJL.out g hg).2) HBC.out.size, fun g hg => ⟨by have := (HJL.out g hg).2; omega, by have := (HJL.out g hg).2; omega, fun h => (List.mem_cons.1 h).elim (fun h => by have := (HJL.out g hg).2; omega) (fun h => by have := (HJL.out g hg).2; have := hOL.out g h; omega)⟩⟩)
        clear hM hO hbm
        go_wp2
        go_loopw [27] (fun kv wr => ∃ j : Nat, j ≤ fn ∧ kv = .int .i64 j ∧ ToldRel J vw vm vi L I q cap iq ic b wa w j wr) (fun kv _ => fn - (intOf kv).toNat)
        case atStart => exact ⟨0, Nat.zero_le _, rfl, RL.out⟩
        case round =>
          obtain ⟨j, hj, rfl, r, m, s, o, nx, B, hM, hO, hB, hws, hX, hZ, hJ, hD⟩ := hrel
          obtain ⟨rq, rc, rfl⟩ := own_slice hO.1
          obtain ⟨mq, mc, rfl⟩ := own_slice hO.2.1
          obtain ⟨sq, sc, rfl⟩ := own_slice hO.2.2.1
          obtain ⟨oq, oc, rfl⟩ := own_slice hO.2.2.2.1
          obtain ⟨x, hx⟩ : ∃ x, stN vw vm vi L I j = x := ⟨_, rfl⟩
          have HXJ := Lib.hid hx
          have hGx := HG.out j
          rw [hx] at hM hO hGx hD
          clear hx
          have MR := Lib.hid hM
          have OR := Lib.hid hO
          have HBr := Lib.hid hB
          have XRr := Lib.hid hX
          have ZRr := Lib.hid hZ
          have HJ := Lib.hid hJ
          have HD := Lib.hid hD
          have hsr := hB.size
          have hbs : b < wr.heap.size := row_ltD hM
          have KM := Lib.hid (i_mstep vw vm vi L q cap iq ic I x (.slice rq x.R.length rc) (.slice mq x.M.length mc) (.slice sq x.S.length sc) (.slice oq x.O.length oc) nx b wa.heap.size wr HIN.out.1 hGx HIN.out.2 (HCA.out.below hB) (HIA.out.below hB) (by omega) hM hO)
          clear hM hO hB hX hZ hJ hD hGx
          obtain ⟨m0, m1, m2, m3, m4, m5, m6, m7, m8, m9, m10, m11, m12, m13⟩ := mcells MR.out
          by_cases hjn : j < fn
          · have hki : decide ((j : Int) < (fn : Int)) = true := decide_eq_true (by omega)
            go_wp2_with fail
            clear m0 m1 m2 m3 m4 m5 m6 m7 m8 m9 m10 m11 m12 m13
            refine KM.out.mono ?_
            rintro e w5 ⟨nx5, rfl, r5, m5, s5, o5, hM5, hO5, hA5, hs5⟩
            obtain ⟨rq5, rc5, rfl⟩ := own_slice hO5.1
            obtain ⟨mq5, mc5, rfl⟩ := own_slice hO5.2.1
            obtain ⟨sq5, sc5, rfl⟩ := own_slice hO5.2.2.1
            obtain ⟨oq5, oc5, rfl⟩ := own_slice hO5.2.2.2.1
            have HST := Lib.hid (show stN vw vm vi L I (j + 1) = stepV vw vm vi L I x by show stepV vw vm vi L I (stN vw vm vi L I j) = _; rw [HXJ.out])
            obtain ⟨y5, hy5⟩ : ∃ y, stepV vw vm vi L I x = y := ⟨_, rfl⟩
            rw [hy5] at HST hM5 hO5 hs5
            clear hy5
            have hoff : ∀ {g : Nat} {cs : Array Value} {T : TypeId}, T ≠ 3 → g ≠ b → wr.heap[g]? = some (.cells cs T (0, 0)) → g ∉ b :: StB (.slice rq x.R.length rc) (.slice mq x.M.length mc) (.slice sq x.S.length sc) (.slice oq x.O.length oc) := fun hT hg h hm => (List.mem_cons.1 hm).elim hg (OR.out.off hT h)
            have XR5 := Lib.hid ((hA5.block w.heap.size (by omega) (hoff (T := 32) (by decide) (by omega) XRr.out)).trans XRr.out)
            have ZR5 := Lib.hid ((hA5.block (w.heap.size + 1) (by omega) (hoff (T := 52) (by decide) (by omega) ZRr.out)).trans ZRr.out)
            have HJ5 := Lib.hid (HT.out.same HJ.out (fun g hg => hA5.block g (HT.out.lt HJ.out g hg).2 (HD.out g hg).2.2) hA5.size)
            have HD5 := Lib.hid (show ∀ g ∈ B, g ∉ b :: StB (.slice rq5 y5.R.length rc5) (.slice mq5 y5.M.length mc5) (.slice sq5 y5.S.length sc5) (.slice oq5 y5.O.length oc5) from fun g hg h => (List.mem_cons.1 h).elim (fun h => (HD.out g hg).2.2 (by rw [h]; exact List.mem_cons_self ..)) (fun h => (hs5 g h).elim (fun h => (HD.out g hg).2.2 (List.mem_cons_of_mem _ h)) (fun h => by have := (HT.out.lt HJ.out g hg).2; omega)))
            have HB5 := Lib.hid (HBr.out.trans (hA5.below (by omega) (fun g hg => (List.mem_cons.1 hg).elim (fun h => by omega) (fun h => (OR.out.lt h).1))))
            have M5 := Lib.hid hM5
            have O5 := Lib.hid hO5
            have hs5' := hA5.size
            clear hM5 hO5 hA5 hs5 hoff
            by_cases hbg : begunB L.length x = true
            · have KY := Lib.hid (HT.out.yes y5 wa.heap.size rq5 rc5 mq5 mc5 sq5 sc5 oq5 oc5 HJ5.out HB5.out HBT.out (by rw [HXJ.out]; exact hbg) HST.out (by omega) O5.out (fun k hk h => HD5.out k hk (List.mem_cons_of_mem _ h)))
              rw [HXJ.out] at KY
              rw [hbg]
              clear hbg
              obtain ⟨m0, m1, m2, m3, m4, m5, m6, m7, m8, m9, m10, m11, m12, m13⟩ := mcells M5.out
              go_wp2_with fail
              clear m0 m1 m2 m3 m4 m5 m6 m7 m8 m9 m10 m11 m12 m13
              refine KY.out.mono ?_
              rintro e w7 ⟨rfl, hA7, B7, hJ7, hB7⟩
              have hbl5 := row_ltD M5.out
              have RL7 := Lib.hid (show ToldRel J vw vm vi L I q cap iq ic b wa w (j + 1) w7 from ⟨.slice rq5 y5.R.length rc5, .slice mq5 y5.M.length mc5, .slice sq5 y5.S.length sc5, .slice oq5 y5.O.length oc5, nx5, B7, by
                rw [HST.out]
                refine ⟨(hA7.block b hbl5 (fun h => HD5.out b h (List.mem_cons_self ..))).trans M5.out, O5.out.same (fun g hg => hA7.block g (O5.out.lt hg).2 (fun h => HD5.out g h (List.mem_cons_of_mem _ hg))), HB5.out.trans (hA7.below (by omega) (fun g hg => (HT.out.lt HJ5.out g hg).1)), by have := hA7.size; omega, (hA7.block w.heap.size (by omega) (fun h => (HD.out _ h).1 rfl)).trans XR5.out, (hA7.block (w.heap.size + 1) (by omega) (fun h => (HD.out _ h).2.1 rfl)).trans ZR5.out, hJ7, fun g hg => ?_⟩
                rcases hB7 g hg with h | h
                · exact ⟨(HD.out g h).1, (HD.out g h).2.1, HD5.out g h⟩
                · exact ⟨by omega, by omega, fun h2 => (List.mem_cons.1 h2).elim (fun h2 => by omega) (fun h2 => by have := (O5.out.lt h2).2; omega)⟩⟩)
              clear hA7 hJ7 hB7
              go_wp2
              go_roundw
              case rel => exact ⟨j + 1, by omega, by go_num, RL7.out⟩
              case measure => simp [intOf]; omega
            · have hbf : begunB L.length x = false := by simpa using hbg
              have HJ7 := Lib.hid (HT.out.no HJ5.out (by rw [HXJ.out]; exact hbf))
              rw [hbf]
              clear hbg hbf
              have RL7 := Lib.hid (show ToldRel J vw vm vi L I q cap iq ic b wa w (j + 1) w5 from ⟨.slice rq5 y5.R.length rc5, .slice mq5 y5.M.length mc5, .slice sq5 y5.S.length sc5, .slice oq5 y5.O.length oc5, nx5, B, by
                rw [HST.out]
                exact ⟨M5.out, O5.out, HB5.out, by omega, XR5.out, ZR5.out, HJ7.out, fun g hg => ⟨(HD.out g hg).1, (HD.out g hg).2.1, HD5.out g hg⟩⟩⟩)
              go_wp2
              go_roundw
              case rel => exact ⟨j + 1, by omega, by go_num, RL7.out⟩
              case measure => simp [intOf]; omega
          · have hje : j = fn := by omega
            subst hje
            have hki : decide ((j : Int) < (j : Int)) = false := by simp
            obtain ⟨z0, z1, z2, z3, z4, z5, z6, z7⟩ := cell8_row ZRr.out
            obtain ⟨f0, f1, f2, f3, f4, f5, f6, f7⟩ := froz8_row ZRr.out
            go_wp2
            obtain ⟨we, hwe⟩ : ∃ W9, W9 = ((((((((wr.setCell ⟨w.heap.size + 1, 0, none⟩ (.int .i64 x.pc)).setCell ⟨w.heap.size + 1, 1, none⟩ (.slice rq x.R.length rc)).setCell ⟨w.heap.size + 1, 2, none⟩ (.slice mq x.M.length mc)).setCell ⟨w.heap.size + 1, 3, none⟩ (.slice sq x.S.length sc)).setCell ⟨w.heap.size + 1, 4, none⟩ (.int .i64 x.inn)).setCell ⟨w.heap.size + 1, 5, none⟩ (.slice oq x.O.length oc)).setCell ⟨w.heap.size + 1, 6, none⟩ (.int .i64 x.cd)).setCell ⟨w.heap.size + 1, 7, none⟩ (.int .i64 x.st)) := ⟨_, rfl⟩
            have D2 := Lib.hid (show we.heap[w.heap.size + 1]? = some (.cells #[.int .i64 x.pc, .slice rq x.R.length rc, .slice mq x.M.length mc, .slice sq x.S.length sc, .int .i64 x.inn, .slice oq x.O.length oc, .int .i64 x.cd, .int .i64 x.st] 52 (0, 0)) by rw [hwe]; exact set8_row ZRr.out _ _ _ _ _ _ _ _)
            have BE := Lib.hid (show Below wa.heap.size wa we by rw [hwe]; exact set8_below HBr.out (by omega) _ _ _ _ _ _ _ _)
            have BE2 := Lib.hid (show wr.heap.size ≤ we.heap.size by rw [hwe]; exact Nat.le_of_eq (set8_size wr _ _ _ _ _ _ _ _ _).symm)
            have OE := Lib.hid (show StO we wa.heap.size x _ _ _ _ by rw [hwe]; exact OR.out.set8 (OR.out.off (T := 52) (by decide) ZRr.out) _ _ _ _ _ _ _ _)
            have JE := Lib.hid (show J we B j by exact HT.out.same HJ.out (fun g hg => by rw [hwe]; exact set8_heap _ _ _ (HD.out g hg).2.1 _ _ _ _ _ _ _ _) BE2.out)
            rw [← hwe]
            clear hwe z0 z1 z2 z3 z4 z5 z6 z7 m0 m1 m2 m3 m4 m5 m6 m7 m8 m9 m10 m11 m12 m13
            obtain ⟨d0, d1, d2, d3, d4, d5, d6, d7⟩ := cell8_row D2.out
            refine bodyPost_ret (v := .agg #[.int .i64 x.pc, .slice rq x.R.length rc, .slice mq x.M.length mc, .slice sq x.S.length sc, .int .i64 x.inn, .slice oq x.O.length oc, .int .i64 x.cd, .int .i64 x.st]) (by simp [results, Tryz.results38, go_sem, d0, d1, d2, d3, d4, d5, d6, d7]) rfl ?_
            rw [HXJ.out]
            exact ⟨BE.out, ⟨B, JE.out⟩, rq, rc, mq, mc, sq, sc, oq, oc, rfl, OE.out⟩
end Go.Proofs.YthmababifgaejaaGreat
