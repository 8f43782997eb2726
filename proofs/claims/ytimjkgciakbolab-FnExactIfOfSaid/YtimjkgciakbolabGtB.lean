/- What the program's built, AndOf, OrOf, XorOf and IfOf return. No condition. -/
import Derived.Test.YtimjkgciakbolabGtA
namespace Go.Proofs.Ytimjkgciakbolab
open Go.ChangeShapes Go.WideShapes Go.ChangeAt Go.RowKit
set_option maxRecDepth 100000 in
set_option maxHeartbeats 1000000 in
theorem i_circuit (I : Int) (n cap bp : Nat) (q : Option Addr) (w : World) (c0 : w.cell? ⟨bp, 0, none⟩ = some (.int .i64 I)) (c1 : w.cell? ⟨bp, 1, none⟩ = some (.slice q n cap)) :
    Calls Try.prog 63 #[.pointer (some ⟨bp, 0, none⟩)] w fun e w' => e = .returned (.agg #[.int .i64 I, .slice q n cap]) ∧ Below w.heap.size w w' := by
  have hlt : bp < w.heap.size := World.block_lt_of_cell? _ _ c0
  have HB1 := Lib.hid ((Below.refl w.heap.size w).alloc (Nat.le_refl _) (.cells #[.int .i64 0, .slice none 0 0] 29))
  have HN := Lib.hid (heap_alloc_new w (.cells #[.int .i64 0, .slice none 0 0] 29))
  obtain ⟨W, hW⟩ : ∃ W, W = w.alloc (.cells #[.int .i64 0, .slice none 0 0] 29) := ⟨_, rfl⟩
  rw [← hW] at HB1 HN
  have d0 : W.cell? ⟨bp, 0, none⟩ = some (.int .i64 I) := (HB1.out.cell (p := ⟨bp, 0, none⟩) hlt).trans c0
  have d1 : W.cell? ⟨bp, 1, none⟩ = some (.slice q n cap) := (HB1.out.cell (p := ⟨bp, 1, none⟩) hlt).trans c1
  have HC := Lib.hid (show W.drew.cell? ⟨bp, 0, none⟩ = some (.int .i64 I) ∧ W.drew.cell? ⟨bp, 1, none⟩ = some (.slice q n cap) from ⟨d0, d1⟩)
  go_enter Try.func63, Try.ntmps63
  go_wp2_with fail
  rw [← hW]
  clear hW
  have HC0 := Lib.hid c0
  have HC1 := Lib.hid c1
  clear c0 c1
  refine region_s [] (fun V => V.cell? ⟨bp, 0, none⟩ = some (.int .i64 I) ∧ V.cell? ⟨bp, 1, none⟩ = some (.slice q n cap)) (by kernel_rfl) ?_
  refine take_p (i := 0) (v := .pointer (some ⟨bp, 0, none⟩)) rfl (by kernel_rfl) (fun _ _ _ h => h) HC.out rfl (fun V => ?_) ?_
  · go_simp
  refine take_p (i := 1) (v := .pointer (some ⟨bp, 0, none⟩)) rfl (by kernel_rfl) (fun _ _ _ h => h) HC.out rfl (fun V => ?_) ?_
  · go_simp
  refine take_p (i := 2) (v := .pointer (some ⟨bp, 0, none⟩)) rfl (by kernel_rfl) (fun _ _ _ h => h) HC.out rfl (fun V => ?_) ?_
  · go_simp
  refine take_s (i := 3) (v := .int .i64 I) rfl (by kernel_rfl) (fun _ _ _ h => h) HC.out rfl (fun V hV => ?_) ?_
  · obtain ⟨t1, t2⟩ := hV
    go_simp
  refine take_p (i := 4) (v := .pointer (some ⟨bp, 0, none⟩)) rfl (by kernel_rfl) (fun _ _ _ h => h) HC.out rfl (fun V => ?_) ?_
  · go_simp
  refine take_p (i := 5) (v := .pointer (some ⟨bp, 0, none⟩)) rfl (by kernel_rfl) (fun _ _ _ h => h) HC.out rfl (fun V => ?_) ?_
  · go_simp
  refine take_p (i := 6) (v := .pointer (some ⟨bp, 1, none⟩)) rfl (by kernel_rfl) (fun _ _ _ h => h) HC.out rfl (fun V => ?_) ?_
  · go_simp
  refine take_s (i := 7) (v := .slice q n cap) rfl (by kernel_rfl) (fun _ _ _ h => h) HC.out rfl (fun V hV => ?_) ?_
  · obtain ⟨t1, t2⟩ := hV
    go_simp
  refine take_p (i := 8) (v := .agg #[.int .i64 I, .slice q n cap]) rfl (by kernel_rfl) (fun _ _ _ h => h) HC.out rfl (fun V => ?_) ?_
  · go_simp
  have z0 : W.cell? ⟨w.heap.size, 0, none⟩ = some (.int .i64 0) := cell_of_row W _ 0 _ _ _ HN.out
  have z1 : W.cell? ⟨w.heap.size, 1, none⟩ = some (.slice none 0 0) := cell_of_row W _ 1 _ _ _ HN.out
  have f0 : W.frozen? ⟨w.heap.size, 0, none⟩ = false := frozen_of_row W _ 0 _ _ HN.out
  have f1 : W.frozen? ⟨w.heap.size, 1, none⟩ = false := frozen_of_row W _ 1 _ _ HN.out
  refine one_s (i := 9) (by kernel_rfl) (op_list rfl ?_)
  go_wp2
  have HB2 : Hid (Below w.heap.size w ((W.setCell ⟨w.heap.size, 0, none⟩ (.int .i64 I)).setCell ⟨w.heap.size, 1, none⟩ (.slice q n cap)).drew) := Lib.hid ((HB1.out.setCell (Nat.le_refl _) _).setCell (Nat.le_refl _) _).drew
  refine ⟨fun _ => ⟨(HB2.out.cell (p := ⟨bp, 0, none⟩) hlt).trans HC0.out, (HB2.out.cell (p := ⟨bp, 1, none⟩) hlt).trans HC1.out⟩, done_s (by kernel_rfl) ?_ _⟩
  go_wp2
  refine bodyPost_ret (v := .agg #[.int .i64 I, .slice q n cap]) (by simp [results, Try.results63, go_sem, z0, z1, f0, f1]) rfl ?_
  exact ⟨rfl, HB2.out⟩
/-- what is made of a circuit and some literals, if they are valid and there is room -/
def btV (I : Int) (L : List GateR) (lits : List Int) (r : Net × Int) : Option (List GateR × Int) := if ccB I L = true ∧ litsB (1 + I + L.length) lits = true ∧ r.1.full = false then some (r.1.gs, r.2) else none
def btI (I : Int) (o : Option (List GateR × Int)) : Int := if o.isSome then I else 0
def btL (o : Option (List GateR × Int)) : List GateR := (o.map (·.1)).getD []
def btX (o : Option (List GateR × Int)) : Int := (o.map (·.2)).getD 0
/-- what a function leaves that gives a circuit, a literal, and whether it is so -/
def BtEnd (I : Int) (o : Option (List GateR × Int)) (w : World) (e : Ending) (w' : World) : Prop := Below w.heap.size w w' ∧ ∃ q cap, e = .returned (.tuple #[.agg #[.int .i64 (btI I o), .slice q (btL o).length cap], .int .i64 (btX o), .bool o.isSome]) ∧ w'.ownsRow w.heap.size 48 2 (.slice q (btL o).length cap) (btL o).length (GateR.all (btL o))
theorem bt_none {I : Int} {o : Option (List GateR × Int)} {w w' : World} (h : o = none) (hb : Below w.heap.size w w') : BtEnd I o w (.returned (.tuple #[.agg #[.int .i64 0, .slice none 0 0], .int .i64 0, .bool false])) w' := by
  subst h
  exact ⟨hb, none, 0, rfl, World.ownsRow_nil _ _ _ _⟩
theorem bt_some {I : Int} {o : Option (List GateR × Int)} {w w' : World} {G : List GateR} {x : Int} {q : Option Addr} {cap : Nat} (h : o = some (G, x)) (hb : Below w.heap.size w w') (ho : w'.ownsRow w.heap.size 48 2 (.slice q G.length cap) G.length (GateR.all G)) : BtEnd I o w (.returned (.tuple #[.agg #[.int .i64 I, .slice q G.length cap], .int .i64 x, .bool true])) w' := by
  subst h
  exact ⟨hb, q, cap, rfl, ho⟩
theorem cell2_at {w : World} {b : Nat} {t : TypeId} {x y : Value} (h : w.heap[b]? = some (.cells #[x, y] t (0, 0))) : w.cell? ⟨b, 0, none⟩ = some x ∧ w.cell? ⟨b, 1, none⟩ = some y ∧ w.frozen? ⟨b, 0, none⟩ = false ∧ w.frozen? ⟨b, 1, none⟩ = false :=
  ⟨cell_of_row w b 0 _ _ _ h, cell_of_row w b 1 _ _ _ h, frozen_of_row w b 0 _ _ h, frozen_of_row w b 1 _ _ h⟩
set_option maxRecDepth 100000 in
set_option maxHeartbeats 2000000 in
theorem i_built (F : FuncId) (hcf : ∀ (a : Array Value) (W : World), (callFunc F a).run Try.prog W = .ok (.enter F a) W) (caps : Array Value) (r : Net × Int) (I : Int) (L : List GateR) (s : Value) (lits : List Int) (ls : Value) (w : World) (hs : Cs.Shows w 0 2 s L.length (GateR.all L)) (hI : -9223372036854775808 ≤ I ∧ I ≤ 9223372036854775807) (hok : ∀ r ∈ L, r.Ok) (hl : L.length ≤ maxLen)
    (hls : Cs.Shows w 0 1 ls lits.length (IntL.all lits)) (hll : lits.length ≤ 1048577)
    (HK : ∀ b0 B bp W, Below w.heap.size w W → Bu b0 B bp I ⟨L, false⟩ W → ccB I L = true → litsB (1 + I + L.length) lits = true → Calls Try.prog F (#[.pointer (some ⟨bp, 0, none⟩)] ++ caps) W (MkEnd b0 B bp I r W)) :
    Calls Try.prog 40 #[.agg #[.int .i64 I, s], ls, .func (.func F) #[] caps] w (BtEnd I (btV I L lits r) w) := by
  have HKK := Lib.hid HK
  have HLS := Lib.hid hls
  have KN := Lib.hid (fun W (hb : Below w.heap.size w W) => i_new I L s W (hs.below hb) hI hok hl)
  have KT := Lib.hid (fun W (hb : Below w.heap.size w W) (h0 : 0 ≤ I) (h1 : I ≤ 30) (h2 : L.length ≤ 360) => i_lits0 (1 + I + L.length) (by omega) (by omega) lits ls W (hls.below hb) hll)
  obtain ⟨_, q, cap, rfl, _⟩ := hs
  obtain ⟨_, lq, lcap, rfl, _⟩ := hls
  obtain ⟨o, ho⟩ : ∃ o, btV I L lits r = o := ⟨_, rfl⟩
  rw [ho]
  have HO := Lib.hid ho
  clear ho HK hok
  have HB1 := Lib.hid (((Below.refl w.heap.size w).alloc (Nat.le_refl _) (.cells #[.int .i64 I, .slice q L.length cap] 29)).alloc (by simp) (.cells #[.int .i64 0, .slice none 0 0] 29))
  have HX := Lib.hid ((((Below.refl _ _).alloc (Nat.le_refl _) (.cells #[.int .i64 0, .slice none 0 0] 29)).block w.heap.size (by simp)).trans (heap_alloc_new w (.cells #[.int .i64 I, .slice q L.length cap] 29)))
  have HR := Lib.hid (heap_alloc_new (w.alloc (.cells #[.int .i64 I, .slice q L.length cap] 29)) (.cells #[.int .i64 0, .slice none 0 0] 29))
  obtain ⟨w1, hw1⟩ : ∃ w1, w1 = (w.alloc (.cells #[.int .i64 I, .slice q L.length cap] 29)).alloc (.cells #[.int .i64 0, .slice none 0 0] 29) := ⟨_, rfl⟩
  have hs1 : w1.heap.size = w.heap.size + 2 := by rw [hw1]; simp
  rw [show (w.alloc (.cells #[.int .i64 I, .slice q L.length cap] 29)).heap.size = w.heap.size + 1 by simp] at HR
  rw [← hw1] at HB1 HX HR
  obtain ⟨x0, x1, _, _⟩ := cell2_at HX.out
  obtain ⟨r0, r1, s0, s1⟩ := cell2_at HR.out
  rw [hw1] at x0 x1 r0 r1 s0 s1
  go_enter Try.func40, Try.ntmps40
  go_wp2_with fail
  rw [← hw1] at x0 x1 r0 r1 s0 s1 ⊢
  clear hw1
  refine (KN.out _ HB1.out).mono ?_
  rintro e w2 ⟨hb, ⟨hc, rfl⟩ | ⟨hc, B, bp, rfl, hbu⟩⟩
  · have HV := Lib.hid (show o = none by rw [← HO.out]; unfold btV; rw [if_neg (by rw [hc]; simp)])
    have HB2 := Lib.hid (HB1.out.trans (hb.mono (by omega)))
    obtain ⟨r0, r1, s0, s1⟩ := cell2_at ((hb.block (w.heap.size + 1) (by omega)).trans HR.out)
    clear hb hc x0 x1
    go_wp2
    refine bodyPost_ret (v := .tuple #[.agg #[.int .i64 0, .slice none 0 0], .int .i64 0, .bool false]) (by simp [results, Try.results40, go_sem, r0, r1, s0, s1]) rfl ?_
    exact bt_none HV.out ((HB2.out.setCell (Nat.le_succ _) _).setCell (Nat.le_succ _) _)
  · obtain ⟨hi0, hi1, hl3, _⟩ := cc_of hc
    have HC := Lib.hid hc
    have HB2 := Lib.hid (HB1.out.trans (hb.mono (by omega)))
    have HR2 := Lib.hid ((hb.block (w.heap.size + 1) (by omega)).trans HR.out)
    have HBU2 := Lib.hid hbu
    have hs2 := hb.size
    have KL := Lib.hid (i_last w1.heap.size B bp I ⟨L, false⟩ w2 hbu ⟨hi0, hi1⟩ (by show L.length ≤ 361; omega))
    clear hb hc hbu x0 x1 r0 r1 s0 s1 HX HR
    go_wp2_with fail
    refine KL.out.mono ?_
    rintro e w3 ⟨rfl, k3, hk3⟩
    have HB3 := Lib.hid (show Below w.heap.size w w3 by rw [hk3]; exact below_drewN HB2.out _)
    have HR3 : Hid (w3.heap[w.heap.size + 1]? = some (.cells #[.int .i64 0, .slice none 0 0] 29 (0, 0))) := Lib.hid (by rw [hk3]; exact HR2.out)
    have HBU3 := Lib.hid (show Bu w1.heap.size B bp I ⟨L, false⟩ w3 by rw [hk3]; exact HBU2.out.same _)
    have hs3 : w3.heap.size = w2.heap.size := by rw [hk3]; rfl
    clear hk3 HR2 HBU2 HB2 KL
    have KT3 := Lib.hid (KT.out w3 HB3.out hi0 hi1 hl3)
    go_wp2_with fail
    refine KT3.out.mono ?_
    rintro e w4 ⟨rfl, hb4⟩
    have HB4 := Lib.hid (HB3.out.trans (hb4.mono (by omega)))
    have HR4 := Lib.hid ((hb4.block (w.heap.size + 1) (by omega)).trans HR3.out)
    have HBU4 := Lib.hid (HBU3.out.keep hb4)
    have hs4 := hb4.size
    clear hb4 HB3 HR3 HBU3 KT3
    obtain ⟨vl, hvl⟩ : ∃ vl, litsB (1 + I + L.length) lits = vl := ⟨_, rfl⟩
    have HVL := Lib.hid hvl
    rw [hvl]
    clear hvl
    cases vl with
    | false =>
      have HV := Lib.hid (show o = none by rw [← HO.out]; unfold btV; rw [if_neg (by rw [HVL.out]; simp)])
      obtain ⟨r0, r1, s0, s1⟩ := cell2_at HR4.out
      go_wp2
      refine bodyPost_ret (v := .tuple #[.agg #[.int .i64 0, .slice none 0 0], .int .i64 0, .bool false]) (by simp [results, Try.results40, go_sem, r0, r1, s0, s1]) rfl ?_
      exact bt_none HV.out ((HB4.out.setCell (Nat.le_succ _) _).setCell (Nat.le_succ _) _)
    | true =>
      have KF := Lib.hid (HKK.out w1.heap.size B bp w4 HB4.out HBU4.out HC.out HVL.out)
      unfold MkEnd at KF
      go_wp2_with fail
      refine KF.out.mono ?_
      rintro e w5 ⟨rfl, hbu5, hb5⟩
      have HB5 := Lib.hid (HB4.out.trans (hb5.mono (by omega)))
      have HR5 := Lib.hid ((hb5.block (w.heap.size + 1) (by omega)).trans HR4.out)
      have HBU5 := Lib.hid hbu5
      have hs5 := hb5.size
      clear hb5 hbu5 HB4 HR4 HBU4 KF
      obtain ⟨q5, cap5, m5, ⟨c0, c1, c2, c3⟩, _, _, hlt5, _⟩ := HBU5.out.cells
      obtain ⟨r0, r1, s0, s1⟩ := cell2_at HR5.out
      cases hfu : r.1.full with
      | true =>
        have HV := Lib.hid (show o = none by rw [← HO.out]; unfold btV; rw [if_neg (by rw [hfu]; simp)])
        rw [hfu] at c3
        go_wp2
        refine bodyPost_ret (v := .tuple #[.agg #[.int .i64 0, .slice none 0 0], .int .i64 0, .bool false]) (by simp [results, Try.results40, go_sem, r0, r1, s0, s1]) rfl ?_
        exact bt_none HV.out ((HB5.out.setCell (Nat.le_succ _) _).setCell (Nat.le_succ _) _)
      | false =>
        have HV := Lib.hid (show o = some (r.1.gs, r.2) by rw [← HO.out]; unfold btV; rw [if_pos ⟨HC.out, HVL.out, hfu⟩])
        rw [hfu] at c3
        have KC := Lib.hid (fun W (h0 : W.cell? ⟨bp, 0, none⟩ = some (.int .i64 I)) (h1 : W.cell? ⟨bp, 1, none⟩ = some (.slice q5 r.1.gs.length cap5)) => i_circuit I _ cap5 bp q5 W h0 h1)
        have KC5 := Lib.hid (KC.out w5 c0 c1)
        have HOW : Hid (w5.ownsRow (w.heap.size + 2) 48 2 (.slice q5 r.1.gs.length cap5) r.1.gs.length (GateR.all r.1.gs)) := Lib.hid (by
          obtain ⟨q6, cap6, m6, g1, g2, g3, g4, g5, g6, g7, g8⟩ := HBU5.out
          have e := cell_of_row w5 bp 1 _ _ _ g1
          rw [c1] at e
          have e : some (Value.slice q5 r.1.gs.length cap5) = some (Value.slice q6 r.1.gs.length cap6) := e
          cases e
          exact own_base g2 (by omega))
        clear c0 c1 c2 r0 r1 s0 s1 KC
        go_wp2_with fail
        refine KC5.out.mono ?_
        rintro e w6 ⟨rfl, hb6⟩
        have HB6 := Lib.hid (HB5.out.trans (hb6.mono (by omega)))
        have HR6 := (hb6.block (w.heap.size + 1) (by omega)).trans HR5.out
        have HO6 := Lib.hid (own_keep HOW.out hb6)
        obtain ⟨r0, r1, s0, s1⟩ := cell2_at HR6
        clear hb6 HR6 KC5 HOW HBU5 HR5 HB5
        generalize hn5 : r.1.gs.length = n5 at *
        go_wp2
        refine bodyPost_ret (v := .tuple #[.agg #[.int .i64 I, .slice q5 n5 cap5], .int .i64 r.2, .bool true]) (by simp [results, Try.results40, go_sem, r0, r1, s0, s1]) rfl ?_
        have HO7 : World.ownsRow ((w6.setCell ⟨w.heap.size + 1, 0, none⟩ (.int .i64 I)).setCell ⟨w.heap.size + 1, 1, none⟩ (.slice q5 n5 cap5)) w.heap.size 48 2 (.slice q5 n5 cap5) n5 (GateR.all r.1.gs) := own_base (own_same HO6.out (fun k hk => by
          have := (own_lt HO6.out hk).1
          have hne : k ≠ w.heap.size + 1 := by omega
          exact (heap_setCell_other _ _ _ _ hne).trans (heap_setCell_other _ _ _ _ hne))) (by omega)
        subst hn5
        exact bt_some HV.out ((HB6.out.setCell (Nat.le_succ _) _).setCell (Nat.le_succ _) _) HO7
end Go.Proofs.Ytimjkgciakbolab
