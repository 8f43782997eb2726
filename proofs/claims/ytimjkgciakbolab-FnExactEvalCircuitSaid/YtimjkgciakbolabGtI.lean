/- The program's builder of circuits: its state behind a pointer, its last line, what it accepts, what it puts. No condition. -/
import Derived.Test.YtimjkgciakbolabGtMp
import Derived.Test.YtimjkgciakbolabLits
import Derived.Test.YtimjkgciakbolabReg
import Derived.Deep.RegionWith
import Derived.Laws.AppendOwn
import Derived.Maps.AppendAt
namespace Go.Proofs.Ytimjkgciakbolab
open Go.ChangeShapes Go.WideShapes Go.ChangeAt Go.RowKit
theorem GateR.all_one (L : List GateR) : ∀ u ∈ GateR.all L, u.oneCell' = true := by
  intro u hu
  unfold GateR.all at hu
  rw [List.mem_flatMap] at hu
  obtain ⟨r, _, hr⟩ := hu
  unfold GateR.cells at hr
  simp only [List.mem_cons, List.not_mem_nil, or_false] at hr
  rcases hr with rfl | rfl <;> rfl
/-- a builder behind a pointer: its inputs, its gates, their lines, whether one found no room -/
def Bu (b0 B bp : Nat) (I : Int) (N : Net) (w : World) : Prop := ∃ (q : Option Addr) (cap m : Nat), w.heap[bp]? = some (.cells #[.int .i64 I, .slice q N.gs.length cap, .map (some m), .bool N.full] 70 (0, 0)) ∧ w.ownsRow B 48 2 (.slice q N.gs.length cap) N.gs.length (GateR.all N.gs) ∧ MpAt m I N.gs w ∧ b0 ≤ bp ∧ b0 ≤ m ∧ bp < B ∧ m < B ∧ B ≤ w.heap.size
theorem Bu.keep {b0 B bp : Nat} {I : Int} {N : Net} {w w' : World} (h : Bu b0 B bp I N w) (hb : Below w.heap.size w w') : Bu b0 B bp I N w' := by
  obtain ⟨q, cap, m, h1, h2, h3, h4, h5, h6, h7, h8⟩ := h
  exact ⟨q, cap, m, (hb.block bp (by omega)).trans h1, own_keep h2 hb, h3.same (hb.block m (by omega)), h4, h5, h6, h7, Nat.le_trans h8 hb.size⟩
theorem Bu.same {b0 B bp : Nat} {I : Int} {N : Net} {w : World} (h : Bu b0 B bp I N w) (n : Nat) : Bu b0 B bp I N (w.drewN n) := h.keep (below_drewN (Below.refl _ _) n)
/-- the cells of a builder -/
theorem Bu.cells {b0 B bp : Nat} {I : Int} {N : Net} {w : World} (h : Bu b0 B bp I N w) : ∃ (q : Option Addr) (cap m : Nat), (w.cell? ⟨bp, 0, none⟩ = some (.int .i64 I) ∧ w.cell? ⟨bp, 1, none⟩ = some (.slice q N.gs.length cap) ∧ w.cell? ⟨bp, 2, none⟩ = some (.map (some m)) ∧ w.cell? ⟨bp, 3, none⟩ = some (.bool N.full)) ∧ (w.frozen? ⟨bp, 1, none⟩ = false ∧ w.frozen? ⟨bp, 3, none⟩ = false) ∧ MpAt m I N.gs w ∧ bp < w.heap.size ∧ m < w.heap.size ∧ m ≠ bp := by
  obtain ⟨q, cap, m, h1, h2, h3, h4, h5, h6, h7, h8⟩ := h
  refine ⟨q, cap, m, ⟨cell_of_row w bp 0 _ _ _ h1, cell_of_row w bp 1 _ _ _ h1, cell_of_row w bp 2 _ _ _ h1, cell_of_row w bp 3 _ _ _ h1⟩, ⟨frozen_of_row w bp 1 _ _ h1, frozen_of_row w bp 3 _ _ h1⟩, h3, by omega, by omega, fun e => ?_⟩
  obtain ⟨D, ⟨es, clock, hb, _⟩, _⟩ := h3
  rw [e, h1] at hb
  cases hb
/-- block g is none of a builder's -/
def OffB (bp g : Nat) (w : World) : Prop := g ≠ bp ∧ ∀ (I : Int) (q : Option Addr) (n cap m : Nat) (f : Bool), w.heap[bp]? = some (.cells #[.int .i64 I, .slice q n cap, .map (some m), .bool f] 70 (0, 0)) → g ≠ m ∧ Value.ownBlock (.slice q n cap) ≠ some g
/-- the other blocks stay, and stay others -/
def KeepB (bp : Nat) (w w' : World) : Prop := ∀ g, g < w.heap.size → OffB bp g w → w'.heap[g]? = w.heap[g]? ∧ OffB bp g w'
theorem OffB.same {bp g : Nat} {w w' : World} (h : OffB bp g w) (e : w'.heap[bp]? = w.heap[bp]?) : OffB bp g w' := ⟨h.1, fun I q n cap m f hb => h.2 I q n cap m f (e ▸ hb)⟩
theorem KeepB.refl (bp : Nat) (w : World) : KeepB bp w w := fun _ _ h => ⟨rfl, h⟩
theorem KeepB.trans {bp : Nat} {w w1 w2 : World} (h1 : KeepB bp w w1) (hs : w.heap.size ≤ w1.heap.size) (h2 : KeepB bp w1 w2) : KeepB bp w w2 := fun g hg ho => by
  obtain ⟨a1, a2⟩ := h1 g hg ho
  obtain ⟨b1, b2⟩ := h2 g (Nat.lt_of_lt_of_le hg hs) a2
  exact ⟨b1.trans a1, b2⟩
theorem KeepB.of_below {bp : Nat} {w w' : World} (h : Below w.heap.size w w') (hb : bp < w.heap.size) : KeepB bp w w' := fun g hg ho => ⟨h.block g hg, ho.same (h.block bp hb)⟩
set_option maxRecDepth 100000 in
theorem i_last' (I : Int) (n bp : Nat) {q : Option Addr} {cap : Nat} (w : World) (hI : 0 ≤ I ∧ I ≤ 30) (hl : n ≤ 361) (c0 : w.cell? ⟨bp, 0, none⟩ = some (.int .i64 I)) (c1 : w.cell? ⟨bp, 1, none⟩ = some (.slice q n cap)) :
    Calls Try.prog 62 #[.pointer (some ⟨bp, 0, none⟩)] w fun e w' => e = .returned (.int .i64 (1 + I + n)) ∧ ∃ m, w' = w.drewN m := by
  go_enter Try.func62, Try.ntmps62
  go_wp2
  go_quiet (fail)
  go_wp2
  go_ret
  exact ⟨rfl, nq, rfl⟩
theorem i_last (b0 B bp : Nat) (I : Int) (N : Net) (w : World) (hbu : Bu b0 B bp I N w) (hI : 0 ≤ I ∧ I ≤ 30) (hl : N.gs.length ≤ 361) :
    Calls Try.prog 62 #[.pointer (some ⟨bp, 0, none⟩)] w fun e w' => e = .returned (.int .i64 (1 + I + N.gs.length)) ∧ ∃ m, w' = w.drewN m := by
  obtain ⟨q, cap, m, ⟨c0, c1, c2, c3⟩, _, hmp, hlt, _⟩ := hbu.cells
  exact i_last' I _ bp w hI hl c0 c1
theorem i_vo2 (x : Int) (h : -9223372036854775808 ≤ x ∧ x ≤ 9223372036854775807) (w : World) : Calls Try.prog 55 #[.int .i64 x] w fun e w' => e = .returned (.int .i64 (vo x)) ∧ w = w' := i_vo x h w
set_option maxRecDepth 100000 in
set_option maxHeartbeats 1000000 in
theorem i_accepts (b0 B bp : Nat) (I : Int) (N : Net) (g : GateR) (w : World) (hbu : Bu b0 B bp I N w) (hI : 0 ≤ I ∧ I ≤ 30) (hl : N.gs.length ≤ 361) (hg : g.Ok) :
    Calls Try.prog 57 #[.pointer (some ⟨bp, 0, none⟩), .agg #[.int .i64 g.f0, .int .i64 g.f1]] w fun e w' => e = .returned (.bool (gtB I N.gs g)) ∧ Below w.heap.size w w' := by
  obtain ⟨a, d⟩ := g
  obtain ⟨ha, hd⟩ := hg
  simp only at ha hd
  have HBU := Lib.hid hbu
  have HB1 := Lib.hid ((Below.refl w.heap.size w).alloc (Nat.le_refl _) (.cells #[.int .i64 a, .int .i64 d] 48))
  have HX := Lib.hid (heap_alloc_new w (.cells #[.int .i64 a, .int .i64 d] 48))
  have HNO := Lib.hid (fun h => gt_no (I := I) (D := N.gs) (g := ⟨a, d⟩) h)
  have HYES := Lib.hid (fun h1 h2 h3 h4 => gt_yes (I := I) (D := N.gs) (g := ⟨a, d⟩) h1 h2 h3 h4)
  have KV := Lib.hid (fun x (h : -9223372036854775808 ≤ x ∧ x ≤ 9223372036854775807) W => i_vo2 x h W)
  have KL := Lib.hid (fun W (h : Bu b0 B bp I N W) => i_last b0 B bp I N W h hI hl)
  obtain ⟨v, hv⟩ : ∃ v, gtB I N.gs ⟨a, d⟩ = v := ⟨_, rfl⟩
  rw [hv]
  simp only [hv] at HNO HYES
  obtain ⟨W, hW⟩ : ∃ W, W = w.alloc (.cells #[.int .i64 a, .int .i64 d] 48) := ⟨_, rfl⟩
  rw [← hW] at HB1 HX
  have x0 : W.cell? ⟨w.heap.size, 0, none⟩ = some (.int .i64 a) := cell_of_row W _ 0 _ _ _ HX.out
  have x1 : W.cell? ⟨w.heap.size, 1, none⟩ = some (.int .i64 d) := cell_of_row W _ 1 _ _ _ HX.out
  go_enter Try.func57, Try.ntmps57
  go_wp2_with fail
  rw [← hW]
  go_wp2
  go_quiet ((go_at_call 55; exact quiet_eq (KV.out _ (by omega) _)))
  have HB2 := Lib.hid (below_drewN HB1.out nq)
  have HX2 := Lib.hid (show (W.drewN nq).heap[w.heap.size]? = _ from HX.out)
  clear x0 x1 HB1 HX hW
  generalize W.drewN nq = W2 at *
  have HBU2 := Lib.hid (HBU.out.keep HB2.out)
  obtain ⟨q, cap, m, ⟨b0c, b1c, b2c, b3c⟩, _, hmp, hlt, _⟩ := HBU2.out.cells
  have x0 : W2.cell? ⟨w.heap.size, 0, none⟩ = some (.int .i64 a) := cell_of_row W2 _ 0 _ _ _ HX2.out
  have x1 : W2.cell? ⟨w.heap.size, 1, none⟩ = some (.int .i64 d) := cell_of_row W2 _ 1 _ _ _ HX2.out
  have hlk := fun n => (hmp.same (w' := W2.drewN n) rfl).look (g := ⟨a, d⟩) ⟨ha, hd⟩
  have HLZ := Lib.hid (lineG_zero (L := N.gs) (g := ⟨a, d⟩) hI.1)
  have HL := Lib.hid (fun (h : N.gs.length ≤ 361) => h)
  have hn : 0 ≤ (1 : Int) + I + N.gs.length ∧ (1 : Int) + I + N.gs.length ≤ 1000 := by omega
  generalize N.gs.length = n at *
  generalize hva : vo a = va at *
  generalize hvd : vo d = vd at *
  clear hva hvd hmp
  by_cases g1 : 1 < va
  · have e1 : decide (1 < va) = true := by simpa using g1
    by_cases g2 : va < vd
    · have e2 : decide (va < vd) = true := by simpa using g2
      by_cases g3 : vd ≤ 1 + I + n
      · have e3 : decide (vd ≤ 1 + I + n) = true := by simpa using g3
        generalize lineG I N.gs ⟨a, d⟩ = ln at *
        by_cases g4 : ln = 0
        · have e4 : (ln == 0) = true := by simpa using g4
          have HV := Lib.hid (HYES.out g1 g2 g3 (HLZ.out.1 g4))
          clear HNO HYES HLZ
          go_wp2
          go_quiet ((go_at_call 62; exact Calls.quiet_of (KL.out _ (HBU2.out.same _))))
          go_wp2
          go_ret
          exact ⟨by rw [← HV.out] <;> rfl, below_drewN HB2.out _⟩
        · have e4 : (ln == 0) = false := by simpa using g4
          have HV := Lib.hid (HNO.out (.inr (.inr (.inr (by
            cases h : hasG ⟨a, d⟩ N.gs with
            | true => rfl
            | false => exact absurd (HLZ.out.2 h) g4)))))
          clear HNO HYES HLZ
          go_wp2
          go_quiet ((go_at_call 62; exact Calls.quiet_of (KL.out _ (HBU2.out.same _))))
          go_wp2
          go_ret
          exact ⟨by rw [← HV.out] <;> rfl, below_drewN HB2.out _⟩
      · have e3 : decide (vd ≤ 1 + I + n) = false := by simpa using g3
        have HV := Lib.hid (HNO.out (.inr (.inr (.inl (by omega)))))
        clear HNO HYES HLZ
        go_wp2
        go_quiet ((go_at_call 62; exact Calls.quiet_of (KL.out _ (HBU2.out.same _))))
        go_wp2
        go_ret
        exact ⟨by rw [← HV.out] <;> rfl, below_drewN HB2.out _⟩
    · have e2 : decide (va < vd) = false := by simpa using g2
      have HV := Lib.hid (HNO.out (.inr (.inl (by omega))))
      clear HNO HYES HLZ
      go_wp2
      go_quiet (fail)
      go_wp2
      go_ret
      exact ⟨by rw [← HV.out] <;> rfl, below_drewN HB2.out _⟩
  · have e1 : decide (1 < va) = false := by simpa using g1
    have HV := Lib.hid (HNO.out (.inl (by omega)))
    clear HNO HYES HLZ
    go_wp2
    go_quiet (fail)
    go_wp2
    go_ret
    exact ⟨by rw [← HV.out] <;> rfl, below_drewN HB2.out _⟩
set_option maxRecDepth 100000 in
set_option maxHeartbeats 1000000 in
theorem i_put (b0 B bp : Nat) (I : Int) (N : Net) (g : GateR) (w0 w : World) (hbu : Bu b0 B bp I N w0) (hbel : Below w0.heap.size w0 w) (hI : 0 ≤ I ∧ I ≤ 30) (hl : N.gs.length < 360) (hg : g.Ok) (hno : hasG g N.gs = false) :
    Calls Try.prog 58 #[.pointer (some ⟨bp, 0, none⟩), .agg #[.int .i64 g.f0, .int .i64 g.f1]] w fun e w' => e = .returned (.tuple #[]) ∧ Bu b0 B bp I ⟨N.gs ++ [g], N.full⟩ w' ∧ Below b0 w w' ∧ KeepB bp w w' ∧ ∀ k, w0.heap.size ≤ k → k < w.heap.size → w'.heap[k]? = w.heap[k]? := by
  obtain ⟨i0, hi0, hz0, hzs, hzb⟩ := info_parts zero_Gate
  have hml : maxLen = 9223372036854775807 := rfl
  obtain ⟨a, d⟩ := g
  have HG := Lib.hid hg
  have HNO := Lib.hid hno
  obtain ⟨q, cap, m, h1, h2, h3, h4, h5, h6, h7, h8⟩ := hbu
  have hsz0 := hbel.size
  have HOB : Hid (∀ k, Value.ownBlock (.slice q N.gs.length cap) = some k → B ≤ k ∧ k < w0.heap.size) := Lib.hid (h2.lt)
  have hbp0 : bp < w0.heap.size := by omega
  have hm0 : m < w0.heap.size := by omega
  replace h1 := (hbel.block bp hbp0).trans h1
  replace h2 := own_keep h2 hbel
  replace h3 := h3.same (hbel.block m hm0)
  have hmb : m ≠ bp := fun e => by
    obtain ⟨D, ⟨es, clock, hb, _⟩, _⟩ := h3
    rw [e, h1] at hb
    cases hb
  obtain ⟨W, hW⟩ : ∃ W, W = w.alloc (.cells #[.int .i64 a, .int .i64 d] 48) := ⟨_, rfl⟩
  have HB1 : Hid (Below w.heap.size w W) := Lib.hid (by rw [hW]; exact (Below.refl w.heap.size w).alloc (Nat.le_refl _) _)
  have HX : Hid (W.heap[w.heap.size]? = some (.cells #[.int .i64 a, .int .i64 d] 48 (0, 0))) := Lib.hid (by rw [hW]; exact heap_alloc_new w _)
  have hsW : W.heap.size = w.heap.size + 1 := by rw [hW]; simp
  have HBP : Hid (W.heap[bp]? = some (.cells #[.int .i64 I, .slice q N.gs.length cap, .map (some m), .bool N.full] 70 (0, 0))) := Lib.hid ((HB1.out.block bp (by omega)).trans h1)
  have HOW := Lib.hid (own_keep h2 HB1.out)
  have HMP : Hid (MpAt m I N.gs W) := Lib.hid (h3.same (HB1.out.block m (by omega)))
  have HL := Lib.hid hl
  have HLE : Hid ((GateR.all N.gs).length = N.gs.length * 2) := Lib.hid (h2.1)
  clear h1 h2 h3 hno hg hl
  go_enter Try.func58, Try.ntmps58
  go_wp2_with fail
  rw [← hW]
  have HC : Hid (W.drew.cell? ⟨bp, 1, none⟩ = some (.slice q N.gs.length cap) ∧ W.drew.cell? ⟨w.heap.size, 0, none⟩ = some (.int .i64 a) ∧ W.drew.cell? ⟨w.heap.size, 1, none⟩ = some (.int .i64 d)) := Lib.hid ⟨cell_of_row W.drew _ 1 _ _ _ HBP.out, cell_of_row W.drew _ 0 _ _ _ HX.out, cell_of_row W.drew _ 1 _ _ _ HX.out⟩
  clear hW
  go_wp2
  refine region_s [10] (fun V => V.cell? ⟨bp, 1, none⟩ = some (.slice q N.gs.length cap) ∧ V.cell? ⟨w.heap.size, 0, none⟩ = some (.int .i64 a) ∧ V.cell? ⟨w.heap.size, 1, none⟩ = some (.int .i64 d)) (by kernel_rfl) ?_
  refine take_s (i := 0) (v := .pointer (some ⟨bp, 0, none⟩)) rfl (by kernel_rfl) (fun _ _ _ h => h) HC.out rfl (fun V hV => ?_) ?_
  · go_simp
  refine take_s (i := 1) (v := .pointer (some ⟨bp, 0, none⟩)) rfl (by kernel_rfl) (fun _ _ _ h => h) HC.out rfl (fun V hV => ?_) ?_
  · go_simp
  refine take_s (i := 2) (v := .pointer (some ⟨bp, 0, none⟩)) rfl (by kernel_rfl) (fun _ _ _ h => h) HC.out rfl (fun V hV => ?_) ?_
  · go_simp
  refine take_s (i := 3) (v := .pointer (some ⟨bp, 1, none⟩)) rfl (by kernel_rfl) (fun _ _ _ h => h) HC.out rfl (fun V hV => ?_) ?_
  · go_simp
  refine take_s (i := 4) (v := .slice q N.gs.length cap) rfl (by kernel_rfl) (fun _ _ _ h => h) HC.out rfl (fun V hV => ?_) ?_
  · obtain ⟨t1, t2, t3⟩ := hV
    go_simp
  refine take_s (i := 5) (v := .agg #[.int .i64 a, .int .i64 d]) rfl (by kernel_rfl) (fun _ _ _ h => h) HC.out rfl (fun V hV => ?_) ?_
  · obtain ⟨t1, t2, t3⟩ := hV
    go_simp
  refine one_s (i := 6) (by kernel_rfl) (op_list rfl ?_)
  go_wp2
  have HCB : Hid (∀ V, Below W.heap.size W V → V.cell? ⟨bp, 1, none⟩ = some (.slice q N.gs.length cap) ∧ V.cell? ⟨w.heap.size, 0, none⟩ = some (.int .i64 a) ∧ V.cell? ⟨w.heap.size, 1, none⟩ = some (.int .i64 d)) := Lib.hid (fun V hV => by
    have e1 := (hV.block bp (by omega)).trans HBP.out
    have e2 := (hV.block w.heap.size (by omega)).trans HX.out
    exact ⟨cell_of_row V _ 1 _ _ _ e1, cell_of_row V _ 0 _ _ _ e2, cell_of_row V _ 1 _ _ _ e2⟩)
  obtain ⟨V1, hV1⟩ : ∃ V1, V1 = (W.alloc (.cells #[.int .i64 a, .int .i64 d] 48)).drew := ⟨_, rfl⟩
  have HB2 : Hid (Below W.heap.size W V1) := Lib.hid (by rw [hV1]; exact ((Below.refl W.heap.size W).alloc (Nat.le_refl _) _).drew)
  have HN2 : Hid (V1.heap[w.heap.size + 1]? = some (.cells #[.int .i64 a, .int .i64 d] 48 (0, 0))) := Lib.hid (by rw [hV1, ← hsW]; exact heap_alloc_new W _)
  have hsV : V1.heap.size = w.heap.size + 2 := by rw [hV1, ← show w.heap.size + 1 + 1 = w.heap.size + 2 from rfl, ← hsW]; show (W.alloc _).heap.size = _; simp
  rw [← hV1]
  clear hV1
  refine ⟨fun _ => HCB.out _ HB2.out, ?_⟩
  refine one_s (i := 7) (by kernel_rfl) (op_list rfl ?_)
  refine wpList_append_own_at _ rfl _ _ 27 rfl B 48 i0 (.agg #[.int .i64 0, .int .i64 0]) 2 16 Try.underlying27 hi0 hz0 hzs hzb rfl (by decide) _ _ _ rfl (own_keep HOW.out HB2.out) _ 1 1 [.int .i64 a, .int .i64 d] rfl rfl ?c1 ?c2 ?c3 ?c4 ?c5 ?_
  case c1 =>
    intro i u hu
    have hi := (List.getElem?_eq_some_iff.1 hu).1
    rw [Addr.add_mid, Nat.zero_add, cell_of_row _ _ _ _ _ _ HN2.out]
    simpa using hu
  case c2 => intro u hu; simp at hu; rcases hu with rfl | rfl <;> rfl
  case c3 => have := HL.out; unfold maxLen; omega
  case c4 => have := HL.out; omega
  case c5 => omega
  intro v' w2 hown2 hgrow _ hat2
  obtain ⟨q', c', rfl⟩ : ∃ q' c', v' = .slice q' (N.gs.length + 1) c' := by
    rcases hown2.2 with ⟨_, h⟩ | ⟨g, cap, _, rfl, _⟩
    · omega
    · exact ⟨_, cap, rfl⟩
  have hk : ∀ k, k < V1.heap.size → (k < B ∨ w0.heap.size ≤ k) → w2.heap[k]? = V1.heap[k]? := fun k h1 h2 => hgrow.block k h1 (fun e => by have := HOB.out k e.symm; omega)
  have HBP2 : Hid (w2.heap[bp]? = some (.cells #[.int .i64 I, .slice q N.gs.length cap, .map (some m), .bool N.full] 70 (0, 0))) := Lib.hid (((hk bp (by omega) (.inl h6)).trans (HB2.out.block bp (by omega))).trans HBP.out)
  have HX2 : Hid (w2.heap[w.heap.size]? = some (.cells #[.int .i64 a, .int .i64 d] 48 (0, 0))) := Lib.hid (((hk w.heap.size (by omega) (.inr (by omega))).trans (HB2.out.block w.heap.size (by omega))).trans HX.out)
  have HMP2 := Lib.hid (HMP.out.same ((hk m (by omega) (.inl h7)).trans (HB2.out.block m (by omega))))
  have HB3 : Hid (Below b0 w w2) := Lib.hid ((HB1.out.mono (by omega)).trans ((HB2.out.mono (by omega)).trans ((Below.refl b0 V1).grown hgrow (by omega) fun k hk => Nat.le_trans (by omega) (HOB.out k hk).1)))
  have HO2 := Lib.hid hown2
  have hs2 : V1.heap.size ≤ w2.heap.size := hgrow.size
  have HC2 : Hid (w2.cell? ⟨bp, 1, none⟩ = some (.slice q N.gs.length cap) ∧ w2.cell? ⟨w.heap.size, 0, none⟩ = some (.int .i64 a) ∧ w2.cell? ⟨w.heap.size, 1, none⟩ = some (.int .i64 d)) := Lib.hid ⟨cell_of_row w2 _ 1 _ _ _ HBP2.out, cell_of_row w2 _ 0 _ _ _ HX2.out, cell_of_row w2 _ 1 _ _ _ HX2.out⟩
  have HAT2 : Hid (∀ g, g < V1.heap.size → Value.ownBlock (.slice q N.gs.length cap) ≠ some g → w2.heap[g]? = V1.heap[g]? ∧ Value.ownBlock (.slice q' (N.gs.length + 1) c') ≠ some g) := Lib.hid (fun g h1 h2 => ⟨hgrow.block g h1 (fun e => h2 e.symm), fun e => by
    rcases hat2 with h | h
    · exact h2 (h ▸ e)
    · rw [h] at e
      injection e with e
      omega⟩)
  have HKK : Hid (∀ k, w0.heap.size ≤ k → k < w.heap.size → w2.heap[k]? = w.heap[k]?) := Lib.hid (fun k h1 h2 => ((hk k (by omega) (.inr h1)).trans (HB2.out.block k (by omega))).trans (HB1.out.block k h2))
  clear hown2 hgrow hk HCB HC hat2
  go_wp2
  refine ⟨fun _ => HC2.out, ?_⟩
  refine one_s (i := 8) (by kernel_rfl) (op_list rfl ?_)
  go_wp2
  refine ⟨fun _ => HC2.out, ?_⟩
  refine one_s (i := 9) (by kernel_rfl) (op_list rfl ?_)
  go_wp2
  refine ⟨fun _ => HC2.out, ?_⟩
  refine one_s (i := 10) (by kernel_rfl) (op_list rfl ?_)
  have c1 : w2.cell? ⟨bp, 1, none⟩ = some (.slice q N.gs.length cap) := HC2.out.1
  have f1 : w2.frozen? ⟨bp, 1, none⟩ = false := frozen_of_row w2 _ 1 _ _ HBP2.out
  go_wp2
  refine ⟨late_s (by kernel_rfl), done_s (by kernel_rfl) ?_ _⟩
  clear c1 f1 HC2
  obtain ⟨W4, hW4⟩ : ∃ W4, W4 = w2.setCell ⟨bp, 1, none⟩ (.slice q' (N.gs.length + 1) c') := ⟨_, rfl⟩
  have HBP4 : Hid (W4.heap[bp]? = some (.cells #[.int .i64 I, .slice q' (N.gs.length + 1) c', .map (some m), .bool N.full] 70 (0, 0))) := Lib.hid (by rw [hW4]; exact heap_setCell_same w2 bp 1 _ _ _ HBP2.out)
  have hoth : ∀ k, k ≠ bp → W4.heap[k]? = w2.heap[k]? := fun k hk => by rw [hW4]; exact heap_setCell_other _ _ _ _ hk
  have HX4 := Lib.hid ((hoth w.heap.size (by omega)).trans HX2.out)
  have HMP4 := Lib.hid (HMP2.out.same (hoth m hmb))
  have hs4 : W4.heap.size = w2.heap.size := by rw [hW4]; simp [World.setCell]
  have HB4 : Hid (Below b0 w W4) := Lib.hid (by rw [hW4]; exact HB3.out.setCell h4 _)
  have HO4 := Lib.hid (own_same HO2.out (fun k hk => hoth k (fun e => by have := (own_lt HO2.out hk).1; omega)))
  have HG4 : Hid (∀ g, g ≠ bp → W4.heap[g]? = w2.heap[g]?) := Lib.hid hoth
  have HK4 : Hid (∀ k, w0.heap.size ≤ k → k < w.heap.size → W4.heap[k]? = w.heap[k]?) := Lib.hid (fun k h1 h2 => (hoth k (by omega)).trans (HKK.out k h1 h2))
  go_wp2_with fail
  rw [← hW4]
  clear hW4 hoth
  have d2 : W4.cell? ⟨bp, 2, none⟩ = some (.map (some m)) := cell_of_row W4 _ 2 _ _ _ HBP4.out
  have x0 : W4.cell? ⟨w.heap.size, 0, none⟩ = some (.int .i64 a) := cell_of_row W4 _ 0 _ _ _ HX4.out
  have x1 : W4.cell? ⟨w.heap.size, 1, none⟩ = some (.int .i64 d) := cell_of_row W4 _ 1 _ _ _ HX4.out
  have KL := Lib.hid (fun n => i_last' I (N.gs.length + 1) bp (W4.drewN n) hI (by have := HL.out; omega) (cell_of_row (W4.drewN n) bp 0 _ _ _ HBP4.out) (cell_of_row (W4.drewN n) bp 1 _ _ _ HBP4.out))
  refine region_s [7] (fun V => ∃ n, V = W4.drewN n) (by kernel_rfl) ?_
  refine take_s (i := 0) (v := .pointer (some ⟨bp, 0, none⟩)) rfl (by kernel_rfl) (fun _ _ _ h => h) ⟨1, rfl⟩ rfl (fun V hV => ?_) ?_
  · go_simp
  refine take_s (i := 1) (v := .pointer (some ⟨bp, 0, none⟩)) rfl (by kernel_rfl) (fun _ _ _ h => h) ⟨1, rfl⟩ rfl (fun V hV => ?_) ?_
  · go_simp
  refine take_s (i := 2) (v := .pointer (some ⟨bp, 2, none⟩)) rfl (by kernel_rfl) (fun _ _ _ h => h) ⟨1, rfl⟩ rfl (fun V hV => ?_) ?_
  · go_simp
  refine take_s (i := 3) (v := .map (some m)) rfl (by kernel_rfl) (fun _ _ _ h => h) ⟨1, rfl⟩ rfl (fun V hV => ?_) ?_
  · obtain ⟨k, rfl⟩ := hV
    go_simp
  refine take_s (i := 4) (v := .agg #[.int .i64 a, .int .i64 d]) rfl (by kernel_rfl) (fun _ _ _ h => h) ⟨1, rfl⟩ rfl (fun V hV => ?_) ?_
  · obtain ⟨k, rfl⟩ := hV
    go_simp
  refine take_s (i := 5) (v := .pointer (some ⟨bp, 0, none⟩)) rfl (by kernel_rfl) (fun _ _ _ h => h) ⟨1, rfl⟩ rfl (fun V hV => ?_) ?_
  · go_simp
  refine one_s (i := 6) (by kernel_rfl) (op_list rfl ?_)
  go_wp2_with (go_at_call 62; refine (KL.out 1).mono ?_; rintro e W5 ⟨rfl, k, hk⟩; have HK := Lib.hid hk; clear hk)
  have hh : W5.heap = W4.heap := by rw [HK.out]; rfl
  have hd : ∃ n, W5 = W4.drewN n := ⟨1 + k, by rw [HK.out, World.drewN_drewN]⟩
  refine ⟨fun _ => hd, ?_⟩
  have HBW : Hid (Below W4.heap.size W4 W5) := Lib.hid (by obtain ⟨n, rfl⟩ := hd; exact below_drewN (Below.refl _ _) _)
  obtain ⟨w6, hrun, hmp6, hgr⟩ := (HMP4.out.same (w' := W5) (by rw [hh])).put hI (by have := HL.out; omega) (g := ⟨a, d⟩) HG.out HNO.out
  have hz : (1 : Int) + I + (N.gs.length + 1 : Nat) = I + 2 + N.gs.length := by omega
  refine one_s (i := 7) (by kernel_rfl) (op_list rfl ?_)
  refine wpList_mp rfl _ _ _ _ rfl _ _ _ rfl rfl rfl (w' := w6) (by have e := hrun; rw [show I + 2 + (N.gs.length : Int) = 1 + I + ((N.gs.length : Int) + 1) from by omega] at e; exact e) ?_
  go_wp2
  refine ⟨late_s (by kernel_rfl), done_s (by kernel_rfl) ?_ _⟩
  go_wp2
  refine bodyPost_end (v := .tuple #[]) (by simp [results, Try.results58, go_sem]) rfl ?_
  have hk6 : ∀ k, k < W5.heap.size → k ≠ m → w6.heap[k]? = W5.heap[k]? := fun k h1 h2 => hgr.block k h1 (fun e => h2 (by simpa using e))
  have hsz6 : W5.heap.size ≤ w6.heap.size := hgr.size
  have hs5 : W5.heap.size = W4.heap.size := by rw [hh]
  have hlen : (N.gs ++ [(⟨a, d⟩ : GateR)]).length = N.gs.length + 1 := by simp
  refine ⟨rfl, ⟨q', c', m, ?_, ?_, hmp6, h4, h5, h6, h7, by omega⟩, ?_⟩
  · rw [hlen, hk6 bp (by omega) (fun e => hmb e.symm), hh]
    exact HBP4.out
  · rw [hlen, show GateR.all (N.gs ++ [(⟨a, d⟩ : GateR)]) = GateR.all N.gs ++ [.int .i64 a, .int .i64 d] by unfold GateR.all; rw [List.flatMap_append]; rfl]
    exact own_same HO4.out (fun k hk => by
      have := own_lt HO4.out hk
      rw [hk6 k (by omega) (by omega), hh])
  · refine ⟨HB4.out.trans ((HBW.out.mono (by have := HB4.out.size; omega)).trans ((Below.refl b0 W5).grown hgr (by have := HB4.out.size; omega) fun k hk => by cases hk; exact h5)), fun g hg ho => ?_, fun k h1 h2 => ?_⟩
    · have hbw : w.heap[bp]? = some (.cells #[.int .i64 I, .slice q N.gs.length cap, .map (some m), .bool N.full] 70 (0, 0)) := (HB1.out.block bp (by omega)).symm.trans HBP.out
      obtain ⟨g1, g2⟩ := ho.2 _ _ _ _ _ _ hbw
      obtain ⟨e1, e2⟩ := HAT2.out g (by omega) g2
      have e3 : w6.heap[g]? = w.heap[g]? := by
        rw [hk6 g (by omega) g1, hh, HG4.out g ho.1, e1, HB2.out.block g (by omega), HB1.out.block g hg]
      refine ⟨e3, ho.1, fun I' q1 n1 cap1 m1 f1 hb => ?_⟩
      rw [hk6 bp (by omega) (fun e => hmb e.symm), hh, HBP4.out] at hb
      injection hb with hb
      injection hb with hb _ _
      simp only [Array.mk.injEq, List.cons.injEq, Value.slice.injEq, Value.map.injEq, Option.some.injEq] at hb
      obtain ⟨_, ⟨rfl, rfl, rfl⟩, rfl, _⟩ := hb
      exact ⟨g1, e2⟩
    · rw [hk6 k (by omega) (by omega), hh]
      exact HK4.out k h1 h2
end Go.Proofs.Ytimjkgciakbolab
