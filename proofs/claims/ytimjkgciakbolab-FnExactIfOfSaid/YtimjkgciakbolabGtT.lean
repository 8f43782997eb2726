/- What the specification's l04And does with a net. No condition. -/
import Derived.Test.YtimjkgciakbolabGtS
import Derived.Test.YtimjkgciakbolabReg
import Derived.Laws.AppendOwn
namespace Go.Proofs.Ytimjkgciakbolab
open Go.ChangeShapes Go.WideShapes Go.ChangeAt Go.RowKit
/-- a net behind a pointer: its inputs, its gates, whether one found no room -/
def Nt (b0 bp : Nat) (I : Int) (N : Net) (w : World) : Prop := ∃ (q : Option Addr) (cap : Nat), w.heap[bp]? = some (.cells #[.int .i64 I, .slice q N.gs.length cap, .bool N.full] 76 (0, 0)) ∧ w.ownsRow b0 48 2 (.slice q N.gs.length cap) N.gs.length (GateR.all N.gs) ∧ b0 ≤ bp
theorem Nt.lt {b0 bp : Nat} {I : Int} {N : Net} {w : World} (h : Nt b0 bp I N w) : bp < w.heap.size := by
  obtain ⟨q, cap, h1, _⟩ := h
  exact (Array.getElem?_eq_some_iff.1 h1).1
theorem Nt.keep {b0 bp : Nat} {I : Int} {N : Net} {w w' : World} (h : Nt b0 bp I N w) (hb : Below w.heap.size w w') : Nt b0 bp I N w' := by
  have hlt := h.lt
  obtain ⟨q, cap, h1, h2, h3⟩ := h
  exact ⟨q, cap, (hb.block bp hlt).trans h1, own_keep h2 hb, h3⟩
theorem Nt.cells {b0 bp : Nat} {I : Int} {N : Net} {w : World} (h : Nt b0 bp I N w) : ∃ (q : Option Addr) (cap : Nat), (w.cell? ⟨bp, 0, none⟩ = some (.int .i64 I) ∧ w.cell? ⟨bp, 1, none⟩ = some (.slice q N.gs.length cap) ∧ w.cell? ⟨bp, 2, none⟩ = some (.bool N.full)) ∧ (w.frozen? ⟨bp, 1, none⟩ = false ∧ w.frozen? ⟨bp, 2, none⟩ = false) ∧ bp < w.heap.size ∧ w.ownsRow b0 48 2 (.slice q N.gs.length cap) N.gs.length (GateR.all N.gs) := by
  have hlt := h.lt
  obtain ⟨q, cap, h1, h2, h3⟩ := h
  exact ⟨q, cap, ⟨cell_of_row w bp 0 _ _ _ h1, cell_of_row w bp 1 _ _ _ h1, cell_of_row w bp 2 _ _ _ h1⟩, ⟨frozen_of_row w bp 1 _ _ h1, frozen_of_row w bp 2 _ _ h1⟩, hlt, h2⟩
/-- the gates lie elsewhere -/
theorem nt_row {b0 bp : Nat} {w : World} {cs : Array Value} {v : Value} {n : Nat} {xs : List Value} (h1 : w.heap[bp]? = some (.cells cs 76 (0, 0))) (h2 : w.ownsRow b0 48 2 v n xs) : ∀ k, v.ownBlock = some k → k ≠ bp := by
  rintro k hk rfl
  rcases h2.2 with ⟨rfl, _⟩ | ⟨g, cap, cur, rfl, _, hg, _⟩
  · cases hk
  · cases hk
    rw [h1] at hg
    injection hg with hg
    injection hg with _ hg
    exact absurd hg (by decide)
theorem Nt.setFull {b0 bp : Nat} {I : Int} {N : Net} {w : World} (h : Nt b0 bp I N w) : Nt b0 bp I ⟨N.gs, true⟩ (w.setCell ⟨bp, 2, none⟩ (.bool true)) := by
  obtain ⟨q, cap, h1, h2, h3⟩ := h
  have hr := nt_row h1 h2
  exact ⟨q, cap, heap_setCell_same w bp 2 _ _ _ h1, own_same h2 (fun k hk => heap_setCell_other _ _ _ _ (hr k (by simpa using hk))), h3⟩
/-- what a call leaves that makes a literal of a net -/
def MsEnd (b0 bp : Nat) (I : Int) (r : Net × Int) (w : World) (e : Ending) (w' : World) : Prop := e = .returned (.int .i64 r.2) ∧ Nt b0 bp I r.1 w' ∧ Below b0 w w'
theorem pos_at {g : GateR} : ∀ {L : List GateR} {t : Nat} (h : t < L.length), hasG g (L.take t) = false → g = L[t] → posG g L = t ∧ hasG g L = true
  | [], t, h, _, _ => absurd h (Nat.not_lt_zero _)
  | x :: L, 0, h, _, e => by
    have e : g = x := e
    unfold posG hasG
    rw [if_pos (eqG_iff.2 e), List.any_cons, eqG_iff.2 e]
    exact ⟨rfl, rfl⟩
  | x :: L, t + 1, h, h0, e => by
    rw [List.take_succ_cons] at h0
    unfold hasG at h0
    rw [List.any_cons, Bool.or_eq_false_iff] at h0
    obtain ⟨h1, h2⟩ := pos_at (L := L) (t := t) (by simpa using h) h0.2 (by simpa using e)
    refine ⟨by unfold posG; rw [if_neg (by rw [h0.1]; simp), h1], ?_⟩
    unfold hasG at h2 ⊢
    rw [List.any_cons, h2]; simp
set_option maxRecDepth 100000 in
set_option maxHeartbeats 1000000 in
theorem s_and (b0 bp : Nat) (I : Int) (N : Net) (x y : Int) (w : World) (hn : Nt b0 bp I N w) (ho : N.Ok I) (hx : LitN I N x) (hy : LitN I N y) :
    Calls Try.prog 38 #[.pointer (some ⟨bp, 0, none⟩), .int .i64 x, .int .i64 y] w (MsEnd b0 bp I (andN I N x y) w) := by
  have sx := hx.small ho
  have sy := hy.small ho
  obtain ⟨i0, hi0, hz0, hzs, hzb⟩ := info_parts zero_Gate
  have hml : maxLen = 9223372036854775807 := rfl
  have KV := Lib.hid (fun z (h : -9223372036854775807 ≤ z ∧ z ≤ 9223372036854775807) W => s_abs z h W)
  have HN := Lib.hid hn
  have hwb : b0 ≤ w.heap.size := by
    have := hn.lt
    obtain ⟨_, _, _, _, h3⟩ := hn
    omega
  obtain ⟨hI0, hI1, hl, _⟩ := ho
  obtain ⟨r, hr⟩ : ∃ r, andN I N x y = r := ⟨_, rfl⟩
  rw [hr]
  have HR := Lib.hid hr
  clear hn hx hy hr
  by_cases h1 : x = -1 ∨ y = -1 ∨ x = -y
  · have HP := Lib.hid (show r = (N, -1) by rw [← HR.out]; unfold andN; rw [if_pos h1])
    clear HR
    by_cases g1 : x = -1
    · have e1 : (x == -1) = true := by simpa using g1
      go_enter Try.func38, Try.ntmps38
      go_wp2
      go_ret
      exact ⟨by rw [HP.out] <;> rfl, by rw [HP.out]; exact HN.out, Below.refl _ _⟩
    · have e1 : (x == -1) = false := by simpa using g1
      by_cases g2 : y = -1
      · have e2 : (y == -1) = true := by simpa using g2
        go_enter Try.func38, Try.ntmps38
        go_wp2
        go_ret
        exact ⟨by rw [HP.out] <;> rfl, by rw [HP.out]; exact HN.out, Below.refl _ _⟩
      · have e2 : (y == -1) = false := by simpa using g2
        have e3 : (x == -y) = true := by rw [beq_iff_eq]; omega
        go_enter Try.func38, Try.ntmps38
        go_wp2
        go_ret
        exact ⟨by rw [HP.out] <;> rfl, by rw [HP.out]; exact HN.out, Below.refl _ _⟩
  · have e1 : (x == -1) = false := by rw [beq_eq_false_iff_ne]; omega
    have e2 : (y == -1) = false := by rw [beq_eq_false_iff_ne]; omega
    have e3 : (x == -y) = false := by rw [beq_eq_false_iff_ne]; omega
    by_cases h2 : x = 1
    · have HP := Lib.hid (show r = (N, y) by rw [← HR.out]; unfold andN; rw [if_neg h1, if_pos h2])
      have e4 : (x == 1) = true := by simpa using h2
      clear HR h1 h2
      go_enter Try.func38, Try.ntmps38
      go_wp2
      go_ret
      exact ⟨by rw [HP.out] <;> rfl, by rw [HP.out]; exact HN.out, Below.refl _ _⟩
    · have e4 : (x == 1) = false := by simpa using h2
      by_cases h3 : y = 1 ∨ x = y
      · have HP := Lib.hid (show r = (N, x) by rw [← HR.out]; unfold andN; rw [if_neg h1, if_neg h2, if_pos h3])
        clear HR
        by_cases g5 : y = 1
        · have e5 : (y == 1) = true := by simpa using g5
          clear h1 h2 h3 g5
          go_enter Try.func38, Try.ntmps38
          go_wp2
          go_ret
          exact ⟨by rw [HP.out] <;> rfl, by rw [HP.out]; exact HN.out, Below.refl _ _⟩
        · have e5 : (y == 1) = false := by simpa using g5
          have e6 : (x == y) = true := by rw [beq_iff_eq]; omega
          clear h1 h2 h3 g5
          go_enter Try.func38, Try.ntmps38
          go_wp2
          go_ret
          exact ⟨by rw [HP.out] <;> rfl, by rw [HP.out]; exact HN.out, Below.refl _ _⟩
      · have e5 : (y == 1) = false := by rw [beq_eq_false_iff_ne]; omega
        have e6 : (x == y) = false := by rw [beq_eq_false_iff_ne]; omega
        by_cases h4 : iabs y < iabs x
        · have HP := Lib.hid (show r = putN I N ⟨y, x⟩ by rw [← HR.out]; unfold andN; rw [if_neg h1, if_neg h2, if_neg h3, if_pos h4])
          have e7 : decide (iabs y < iabs x) = true := by simpa using h4
          clear HR h1 h2 h3
          have HBA := Lib.hid ((Below.refl w.heap.size w).alloc (Nat.le_refl _) (.cells #[.int .i64 y, .int .i64 x] 48))
          have HXA := Lib.hid (heap_alloc_new w (.cells #[.int .i64 y, .int .i64 x] 48))
          obtain ⟨W, hW⟩ : ∃ W, W = w.alloc (.cells #[.int .i64 y, .int .i64 x] 48) := ⟨_, rfl⟩
          have hsW : W.heap.size = w.heap.size + 1 := by rw [hW]; simp
          rw [← hW] at HBA HXA
          have HY := Lib.hid (below_two (B := w.heap.size + 1) HXA.out (by omega))
          have HNW := Lib.hid (HN.out.keep HBA.out)
          have hlt := HN.out.lt
          obtain ⟨q, cap, hraw, hown, hbb⟩ := HN.out
          have HRAW := Lib.hid hraw
          have c0 := cell_of_row w bp 0 _ _ _ hraw
          have c1 := cell_of_row w bp 1 _ _ _ hraw
          have c2 := cell_of_row w bp 2 _ _ _ hraw
          have HNE := Lib.hid (nt_row hraw hown)
          clear hraw
          have HOW := Lib.hid (own_keep hown HBA.out)
          have HROW : Hid (∀ k, Value.ownBlock (.slice q N.gs.length cap) = some k → b0 ≤ k ∧ k < w.heap.size) := Lib.hid (hown.lt)
          have HCW : Hid (∀ V, Below W.heap.size W V → V.cell? ⟨bp, 0, none⟩ = some (.int .i64 I) ∧ V.cell? ⟨bp, 1, none⟩ = some (.slice q N.gs.length cap) ∧ V.cell? ⟨bp, 2, none⟩ = some (.bool N.full)) := Lib.hid (fun V hV => by
            have hb := HBA.out.trans (hV.mono (by omega))
            exact ⟨(hb.cell (p := ⟨bp, 0, none⟩) hlt).trans c0, (hb.cell (p := ⟨bp, 1, none⟩) hlt).trans c1, (hb.cell (p := ⟨bp, 2, none⟩) hlt).trans c2⟩)
          have HR1 : Hid (∀ t, (h : t < N.gs.length) → ∃ b, q = some ⟨b, 0, none⟩ ∧ b < w.heap.size ∧ ∀ V, Below W.heap.size W V → V.cell? ⟨b, t * 2, none⟩ = some (.int .i64 N.gs[t].f0) ∧ V.cell? ⟨b, t * 2 + 1, none⟩ = some (.int .i64 N.gs[t].f1)) := Lib.hid (fun t h => by
            rcases hown.2 with ⟨hq, h0⟩ | ⟨g, cp, _, hq, _, hg, _⟩
            · omega
            · injection hq with e1 _ _
              have hgs := (Array.getElem?_eq_some_iff.1 hg).1
              refine ⟨g, e1, hgs, fun V hV => ?_⟩
              have ho := HOW.out
              rw [e1] at ho
              have hh := flat_nth GateR.cells 2 (fun _ => rfl) N.gs t h (own_range (own_keep ho hV))
              rw [Nat.zero_add] at hh
              exact ⟨hh 0 _ rfl, hh 1 _ rfl⟩)
          have hcap : N.gs.length ≤ cap ∧ cap ≤ 9223372036854775807 := by
            rcases hown.2 with ⟨hq, h0⟩ | ⟨g, cp, _, hq, _, _, h1, h2, _⟩
            · injection hq with _ _ e3
              exact ⟨by omega, by omega⟩
            · injection hq with _ _ e3
              subst e3
              exact ⟨h1, h2⟩
          have HGL := Lib.hid (show (GateR.all N.gs).length = N.gs.length * 2 from hown.1)
          clear hown
          go_enter Try.func38, Try.ntmps38
          go_wp2_with (go_at_call 32; refine (KV.out _ (by omega) _).mono ?_; rintro e w1 ⟨rfl, rfl⟩)
          rw [← hW]
          clear hW c0 c1 c2 KV h4 e1 e2 e3 e4 e5 e6 e7
          go_loopw [52] (fun i wr => ∃ t : Nat, t ≤ N.gs.length ∧ i = .int .i64 t ∧ hasG ⟨y, x⟩ (N.gs.take t) = false ∧ Below W.heap.size W wr) (fun i _ => N.gs.length - (intOf i).toNat)
          case atStart => exact ⟨0, Nat.zero_le _, rfl, rfl, Below.refl _ _⟩
          case round =>
            obtain ⟨t, ht, rfl, hno, hbq⟩ := hrel
            have HQ := Lib.hid hbq
            have hzq := hbq.size
            obtain ⟨y0, y1⟩ := HY.out wr (hbq.mono (by omega))
            obtain ⟨c0, c1, c2⟩ := HCW.out wr hbq
            have hlt2 : w.heap.size < wr.heap.size := by omega
            by_cases htj : t < N.gs.length
            · obtain ⟨b, rfl, hbs, hcells⟩ := HR1.out t htj
              obtain ⟨g0, g1⟩ := hcells wr hbq
              have HTA := Lib.hid (fun (h : (⟨y, x⟩ : GateR) = N.gs[t]) => pos_at htj hno h)
              have HTN := Lib.hid (fun (h : (⟨y, x⟩ : GateR) ≠ N.gs[t]) => has_take (L := N.gs) htj (Nat.le_refl _) hno (fun _ => h))
              generalize N.gs[t] = g at *
              obtain ⟨a2, d2⟩ := g
              simp only at g0 g1
              have hkt : decide ((t : Int) < (N.gs.length : Int)) = true := by simp; omega
              have hlt3 : b < wr.heap.size := by omega
              have hlt4 : bp < wr.heap.size := by omega
              clear hcells hbq hno
              by_cases he : y = a2
              · subst he
                by_cases he2 : x = d2
                · subst he2
                  obtain ⟨hp1, hp2⟩ := HTA.out rfl
                  have HF := Lib.hid (show r = (N, I + 2 + t) by rw [HP.out]; unfold putN lineG; rw [if_pos hp2, if_pos hp2, hp1])
                  clear HTA HTN hp1 hp2
                  go_wp2
                  go_ret
                  exact ⟨by rw [HF.out] <;> rfl, by rw [HF.out]; exact HNW.out.keep (HQ.out.alloc hzq _), (HBA.out.mono hwb).trans ((HQ.out.alloc hzq _).mono (by omega))⟩
                · have HN2 := Lib.hid (HTN.out (by simp; omega))
                  have hea : (x == d2) = false := by simpa using he2
                  clear HTA HTN
                  go_wp2
                  first
                    | (refine ⟨⟨t + 1, by omega, by go_num, HN2.out, HQ.out.alloc hzq _⟩, ?_⟩; simp [intOf]; omega)
                    | (go_roundw
                       case rel => exact ⟨t + 1, by omega, by go_num, HN2.out, HQ.out.alloc hzq _⟩
                       case measure => simp [intOf]; omega)
              · have HN2 := Lib.hid (HTN.out (by simp; omega))
                have hea : (y == a2) = false := by simpa using he
                clear HTA HTN
                go_wp2
                first
                  | (refine ⟨⟨t + 1, by omega, by go_num, HN2.out, HQ.out.alloc hzq _⟩, ?_⟩; simp [intOf]; omega)
                  | (go_roundw
                     case rel => exact ⟨t + 1, by omega, by go_num, HN2.out, HQ.out.alloc hzq _⟩
                     case measure => simp [intOf]; omega)
            · obtain rfl : t = N.gs.length := by omega
              rw [List.take_length] at hno
              have HNO := Lib.hid hno
              have hkt : decide ((N.gs.length : Int) < (N.gs.length : Int)) = false := by simp
              have HNR := Lib.hid (HNW.out.keep hbq)
              have HBR := Lib.hid (HBA.out.trans (hbq.mono (by omega)))
              obtain ⟨q9, cap9, _, ⟨f1, f2⟩, _, _⟩ := HNR.out.cells
              clear hno hbq
              by_cases hf : 360 ≤ N.gs.length
              · have HF := Lib.hid (show r = (⟨N.gs, true⟩, -1) by rw [HP.out]; unfold putN; rw [if_neg (by rw [HNO.out]; simp), if_pos hf])
                have hfe : decide ((360 : Int) ≤ (N.gs.length : Int)) = true := by simp; omega
                go_wp2
                go_ret
                exact ⟨by rw [HF.out] <;> rfl, by rw [HF.out]; exact HNR.out.setFull, (HBR.out.mono hwb).setCell hbb _⟩
              · have HF := Lib.hid (show r = (⟨N.gs ++ [⟨y, x⟩], N.full⟩, I + 2 + N.gs.length) by rw [HP.out]; unfold putN; rw [if_neg (by rw [HNO.out]; simp), if_neg hf])
                have hfe : decide ((360 : Int) ≤ (N.gs.length : Int)) = false := by simp; omega
                go_wp2
                have HC := Lib.hid (show wr.drew.cell? ⟨bp, 1, none⟩ = some (.slice q N.gs.length cap) ∧ wr.drew.cell? ⟨w.heap.size, 0, none⟩ = some (.int .i64 y) ∧ wr.drew.cell? ⟨w.heap.size, 1, none⟩ = some (.int .i64 x) from ⟨c1, y0, y1⟩)
                have HBPR : Hid (wr.heap[bp]? = some (.cells #[.int .i64 I, .slice q N.gs.length cap, .bool N.full] 76 (0, 0))) := Lib.hid ((HBR.out.block bp hlt).trans HRAW.out)
                have HXR : Hid (wr.heap[w.heap.size]? = some (.cells #[.int .i64 y, .int .i64 x] 48 (0, 0))) := Lib.hid ((HQ.out.block w.heap.size (by omega)).trans HXA.out)
                have HOR := Lib.hid (own_keep HOW.out HQ.out)
                clear c0 c1 c2 y0 y1 f1 f2
                refine region_s [12] (fun V => V.cell? ⟨bp, 1, none⟩ = some (.slice q N.gs.length cap) ∧ V.cell? ⟨w.heap.size, 0, none⟩ = some (.int .i64 y) ∧ V.cell? ⟨w.heap.size, 1, none⟩ = some (.int .i64 x)) (by kernel_rfl) ?_
                refine take_p (i := 0) (v := .pointer (some ⟨bp, 0, none⟩)) rfl (by kernel_rfl) (fun _ _ _ h => h) HC.out rfl (fun V => ?_) ?_
                · go_simp
                refine take_p (i := 1) (v := .pointer (some ⟨bp, 0, none⟩)) rfl (by kernel_rfl) (fun _ _ _ h => h) HC.out rfl (fun V => ?_) ?_
                · go_simp
                refine take_p (i := 2) (v := .pointer (some ⟨bp, 0, none⟩)) rfl (by kernel_rfl) (fun _ _ _ h => h) HC.out rfl (fun V => ?_) ?_
                · go_simp
                refine take_p (i := 3) (v := .pointer (some ⟨bp, 0, none⟩)) rfl (by kernel_rfl) (fun _ _ _ h => h) HC.out rfl (fun V => ?_) ?_
                · go_simp
                refine take_p (i := 4) (v := .pointer (some ⟨bp, 1, none⟩)) rfl (by kernel_rfl) (fun _ _ _ h => h) HC.out rfl (fun V => ?_) ?_
                · go_simp
                refine take_s (i := 5) (v := .slice q N.gs.length cap) rfl (by kernel_rfl) (fun _ _ _ h => h) HC.out rfl (fun V hV => ?_) ?_
                · obtain ⟨t1, t2, t3⟩ := hV
                  go_simp
                refine take_s (i := 6) (v := .agg #[.int .i64 y, .int .i64 x]) rfl (by kernel_rfl) (fun _ _ _ h => h) HC.out rfl (fun V hV => ?_) ?_
                · obtain ⟨t1, t2, t3⟩ := hV
                  go_simp
                refine one_s (i := 7) (by kernel_rfl) (op_list rfl ?_)
                go_wp2
                obtain ⟨V1, hV1⟩ : ∃ V1, V1 = (wr.alloc (.cells #[.int .i64 y, .int .i64 x] 48)).drew := ⟨_, rfl⟩
                have HB2 : Hid (Below wr.heap.size wr V1) := Lib.hid (by rw [hV1]; exact ((Below.refl wr.heap.size wr).alloc (Nat.le_refl _) _).drew)
                have HN2 : Hid (V1.heap[wr.heap.size]? = some (.cells #[.int .i64 y, .int .i64 x] 48 (0, 0))) := Lib.hid (by rw [hV1]; exact heap_alloc_new wr _)
                have hsV : V1.heap.size = wr.heap.size + 1 := by rw [hV1]; show (wr.alloc _).heap.size = _; simp
                rw [← hV1]
                clear hV1
                have HCV : Hid (V1.cell? ⟨bp, 1, none⟩ = some (.slice q N.gs.length cap) ∧ V1.cell? ⟨w.heap.size, 0, none⟩ = some (.int .i64 y) ∧ V1.cell? ⟨w.heap.size, 1, none⟩ = some (.int .i64 x)) := Lib.hid (by
                  have e1 := (HB2.out.block bp (by omega)).trans HBPR.out
                  have e2 := (HB2.out.block w.heap.size (by omega)).trans HXR.out
                  exact ⟨cell_of_row V1 _ 1 _ _ _ e1, cell_of_row V1 _ 0 _ _ _ e2, cell_of_row V1 _ 1 _ _ _ e2⟩)
                refine ⟨fun _ => HCV.out, ?_⟩
                refine one_s (i := 8) (by kernel_rfl) (op_list rfl ?_)
                refine wpList_append_own _ rfl _ _ 27 rfl b0 48 i0 (.agg #[.int .i64 0, .int .i64 0]) 2 16 Try.underlying27 hi0 hz0 hzs hzb rfl (by decide) _ _ _ rfl (own_keep HOR.out HB2.out) _ 1 1 [.int .i64 y, .int .i64 x] rfl rfl ?c1 ?c2 ?c3 ?c4 ?c5 ?_
                case c1 =>
                  intro i u hu
                  have hi := (List.getElem?_eq_some_iff.1 hu).1
                  rw [Addr.add_mid, Nat.zero_add, cell_of_row _ _ _ _ _ _ HN2.out]
                  simpa using hu
                case c2 => intro u hu; simp at hu; rcases hu with rfl | rfl <;> rfl
                case c3 => unfold maxLen; omega
                case c4 => omega
                case c5 => omega
                intro v' w2 hown2 hgrow _
                obtain ⟨q', c', rfl⟩ : ∃ q' c', v' = .slice q' (N.gs.length + 1) c' := by
                  rcases hown2.2 with ⟨_, h⟩ | ⟨g, cap, _, rfl, _⟩
                  · omega
                  · exact ⟨_, cap, rfl⟩
                have HBP2 : Hid (w2.heap[bp]? = some (.cells #[.int .i64 I, .slice q N.gs.length cap, .bool N.full] 76 (0, 0))) := Lib.hid (((hgrow.block bp (by omega) (fun e => HNE.out bp e.symm rfl)).trans (HB2.out.block bp (by omega))).trans HBPR.out)
                have HX2 : Hid (w2.heap[w.heap.size]? = some (.cells #[.int .i64 y, .int .i64 x] 48 (0, 0))) := Lib.hid (((hgrow.block w.heap.size (by omega) (fun e => by have := HROW.out _ e.symm; omega)).trans (HB2.out.block w.heap.size (by omega))).trans HXR.out)
                have HB3 : Hid (Below b0 w w2) := Lib.hid ((HBR.out.mono hwb).trans ((HB2.out.mono (by omega)).trans ((Below.refl b0 V1).grown hgrow (by omega) fun k hk => (HROW.out k hk).1)))
                have HO2 := Lib.hid hown2
                have HC2 : Hid (w2.cell? ⟨bp, 1, none⟩ = some (.slice q N.gs.length cap) ∧ w2.cell? ⟨w.heap.size, 0, none⟩ = some (.int .i64 y) ∧ w2.cell? ⟨w.heap.size, 1, none⟩ = some (.int .i64 x)) := Lib.hid ⟨cell_of_row w2 _ 1 _ _ _ HBP2.out, cell_of_row w2 _ 0 _ _ _ HX2.out, cell_of_row w2 _ 1 _ _ _ HX2.out⟩
                clear hown2 hgrow HC HCV
                go_wp2
                refine ⟨fun _ => HC2.out, ?_⟩
                refine one_s (i := 9) (by kernel_rfl) (op_list rfl ?_)
                go_wp2
                refine ⟨fun _ => HC2.out, ?_⟩
                refine one_s (i := 10) (by kernel_rfl) (op_list rfl ?_)
                go_wp2
                refine ⟨fun _ => HC2.out, ?_⟩
                refine one_s (i := 11) (by kernel_rfl) (op_list rfl ?_)
                go_wp2
                refine ⟨fun _ => HC2.out, ?_⟩
                refine one_s (i := 12) (by kernel_rfl) (op_list rfl ?_)
                have c1 : w2.cell? ⟨bp, 1, none⟩ = some (.slice q N.gs.length cap) := HC2.out.1
                have f1 : w2.frozen? ⟨bp, 1, none⟩ = false := frozen_of_row w2 _ 1 _ _ HBP2.out
                go_wp2
                refine ⟨late_s (by kernel_rfl), done_s (by kernel_rfl) ?_ _⟩
                clear c1 f1 HC2
                obtain ⟨W4, hW4⟩ : ∃ W4, W4 = w2.setCell ⟨bp, 1, none⟩ (.slice q' (N.gs.length + 1) c') := ⟨_, rfl⟩
                have HBP4 : Hid (W4.heap[bp]? = some (.cells #[.int .i64 I, .slice q' (N.gs.length + 1) c', .bool N.full] 76 (0, 0))) := Lib.hid (by rw [hW4]; exact heap_setCell_same w2 bp 1 _ _ _ HBP2.out)
                have HB4 : Hid (Below b0 w W4) := Lib.hid (by rw [hW4]; exact HB3.out.setCell hbb _)
                have HNT : Hid (Nt b0 bp I ⟨N.gs ++ [⟨y, x⟩], N.full⟩ W4) := Lib.hid (by
                  have hlen : (N.gs ++ [(⟨y, x⟩ : GateR)]).length = N.gs.length + 1 := by simp
                  have hr := nt_row HBP2.out HO2.out
                  refine ⟨q', c', by rw [hlen]; exact HBP4.out, ?_, hbb⟩
                  rw [hlen, show GateR.all (N.gs ++ [(⟨y, x⟩ : GateR)]) = GateR.all N.gs ++ [.int .i64 y, .int .i64 x] by unfold GateR.all; rw [List.flatMap_append]; rfl, hW4]
                  exact own_same HO2.out (fun k hk => heap_setCell_other _ _ _ _ (hr k (by simpa using hk))))
                have d0 : W4.cell? ⟨bp, 0, none⟩ = some (.int .i64 I) := cell_of_row W4 _ 0 _ _ _ HBP4.out
                have d1 : W4.cell? ⟨bp, 1, none⟩ = some (.slice q' (N.gs.length + 1) c') := cell_of_row W4 _ 1 _ _ _ HBP4.out
                go_wp2_with fail
                rw [← hW4]
                clear hW4
                go_quiet (fail)
                go_wp2
                go_ret
                have hz : (I : Int) + 1 + ((N.gs.length : Int) + 1) = I + 2 + N.gs.length := by omega
                refine ⟨?_, by rw [HF.out]; exact HNT.out.keep (below_drewN (Below.refl _ _) _), below_drewN HB4.out _⟩
                rw [HF.out]
                show _ = Ending.returned (.int .i64 (I + 2 + N.gs.length))
                rw [← hz]
                rfl
        · have HP := Lib.hid (show r = putN I N ⟨x, y⟩ by rw [← HR.out]; unfold andN; rw [if_neg h1, if_neg h2, if_neg h3, if_neg h4])
          have e7 : decide (iabs y < iabs x) = false := by simpa using h4
          clear HR h1 h2 h3
          have HBA := Lib.hid ((Below.refl w.heap.size w).alloc (Nat.le_refl _) (.cells #[.int .i64 x, .int .i64 y] 48))
          have HXA := Lib.hid (heap_alloc_new w (.cells #[.int .i64 x, .int .i64 y] 48))
          obtain ⟨W, hW⟩ : ∃ W, W = w.alloc (.cells #[.int .i64 x, .int .i64 y] 48) := ⟨_, rfl⟩
          have hsW : W.heap.size = w.heap.size + 1 := by rw [hW]; simp
          rw [← hW] at HBA HXA
          have HY := Lib.hid (below_two (B := w.heap.size + 1) HXA.out (by omega))
          have HNW := Lib.hid (HN.out.keep HBA.out)
          have hlt := HN.out.lt
          obtain ⟨q, cap, hraw, hown, hbb⟩ := HN.out
          have HRAW := Lib.hid hraw
          have c0 := cell_of_row w bp 0 _ _ _ hraw
          have c1 := cell_of_row w bp 1 _ _ _ hraw
          have c2 := cell_of_row w bp 2 _ _ _ hraw
          have HNE := Lib.hid (nt_row hraw hown)
          clear hraw
          have HOW := Lib.hid (own_keep hown HBA.out)
          have HROW : Hid (∀ k, Value.ownBlock (.slice q N.gs.length cap) = some k → b0 ≤ k ∧ k < w.heap.size) := Lib.hid (hown.lt)
          have HCW : Hid (∀ V, Below W.heap.size W V → V.cell? ⟨bp, 0, none⟩ = some (.int .i64 I) ∧ V.cell? ⟨bp, 1, none⟩ = some (.slice q N.gs.length cap) ∧ V.cell? ⟨bp, 2, none⟩ = some (.bool N.full)) := Lib.hid (fun V hV => by
            have hb := HBA.out.trans (hV.mono (by omega))
            exact ⟨(hb.cell (p := ⟨bp, 0, none⟩) hlt).trans c0, (hb.cell (p := ⟨bp, 1, none⟩) hlt).trans c1, (hb.cell (p := ⟨bp, 2, none⟩) hlt).trans c2⟩)
          have HR1 : Hid (∀ t, (h : t < N.gs.length) → ∃ b, q = some ⟨b, 0, none⟩ ∧ b < w.heap.size ∧ ∀ V, Below W.heap.size W V → V.cell? ⟨b, t * 2, none⟩ = some (.int .i64 N.gs[t].f0) ∧ V.cell? ⟨b, t * 2 + 1, none⟩ = some (.int .i64 N.gs[t].f1)) := Lib.hid (fun t h => by
            rcases hown.2 with ⟨hq, h0⟩ | ⟨g, cp, _, hq, _, hg, _⟩
            · omega
            · injection hq with e1 _ _
              have hgs := (Array.getElem?_eq_some_iff.1 hg).1
              refine ⟨g, e1, hgs, fun V hV => ?_⟩
              have ho := HOW.out
              rw [e1] at ho
              have hh := flat_nth GateR.cells 2 (fun _ => rfl) N.gs t h (own_range (own_keep ho hV))
              rw [Nat.zero_add] at hh
              exact ⟨hh 0 _ rfl, hh 1 _ rfl⟩)
          have hcap : N.gs.length ≤ cap ∧ cap ≤ 9223372036854775807 := by
            rcases hown.2 with ⟨hq, h0⟩ | ⟨g, cp, _, hq, _, _, h1, h2, _⟩
            · injection hq with _ _ e3
              exact ⟨by omega, by omega⟩
            · injection hq with _ _ e3
              subst e3
              exact ⟨h1, h2⟩
          have HGL := Lib.hid (show (GateR.all N.gs).length = N.gs.length * 2 from hown.1)
          clear hown
          go_enter Try.func38, Try.ntmps38
          go_wp2_with (go_at_call 32; refine (KV.out _ (by omega) _).mono ?_; rintro e w1 ⟨rfl, rfl⟩)
          rw [← hW]
          clear hW c0 c1 c2 KV h4 e1 e2 e3 e4 e5 e6 e7
          go_loopw [52] (fun i wr => ∃ t : Nat, t ≤ N.gs.length ∧ i = .int .i64 t ∧ hasG ⟨x, y⟩ (N.gs.take t) = false ∧ Below W.heap.size W wr) (fun i _ => N.gs.length - (intOf i).toNat)
          case atStart => exact ⟨0, Nat.zero_le _, rfl, rfl, Below.refl _ _⟩
          case round =>
            obtain ⟨t, ht, rfl, hno, hbq⟩ := hrel
            have HQ := Lib.hid hbq
            have hzq := hbq.size
            obtain ⟨y0, y1⟩ := HY.out wr (hbq.mono (by omega))
            obtain ⟨c0, c1, c2⟩ := HCW.out wr hbq
            have hlt2 : w.heap.size < wr.heap.size := by omega
            by_cases htj : t < N.gs.length
            · obtain ⟨b, rfl, hbs, hcells⟩ := HR1.out t htj
              obtain ⟨g0, g1⟩ := hcells wr hbq
              have HTA := Lib.hid (fun (h : (⟨x, y⟩ : GateR) = N.gs[t]) => pos_at htj hno h)
              have HTN := Lib.hid (fun (h : (⟨x, y⟩ : GateR) ≠ N.gs[t]) => has_take (L := N.gs) htj (Nat.le_refl _) hno (fun _ => h))
              generalize N.gs[t] = g at *
              obtain ⟨a2, d2⟩ := g
              simp only at g0 g1
              have hkt : decide ((t : Int) < (N.gs.length : Int)) = true := by simp; omega
              have hlt3 : b < wr.heap.size := by omega
              have hlt4 : bp < wr.heap.size := by omega
              clear hcells hbq hno
              by_cases he : x = a2
              · subst he
                by_cases he2 : y = d2
                · subst he2
                  obtain ⟨hp1, hp2⟩ := HTA.out rfl
                  have HF := Lib.hid (show r = (N, I + 2 + t) by rw [HP.out]; unfold putN lineG; rw [if_pos hp2, if_pos hp2, hp1])
                  clear HTA HTN hp1 hp2
                  go_wp2
                  go_ret
                  exact ⟨by rw [HF.out] <;> rfl, by rw [HF.out]; exact HNW.out.keep (HQ.out.alloc hzq _), (HBA.out.mono hwb).trans ((HQ.out.alloc hzq _).mono (by omega))⟩
                · have HN2 := Lib.hid (HTN.out (by simp; omega))
                  have hea : (y == d2) = false := by simpa using he2
                  clear HTA HTN
                  go_wp2
                  first
                    | (refine ⟨⟨t + 1, by omega, by go_num, HN2.out, HQ.out.alloc hzq _⟩, ?_⟩; simp [intOf]; omega)
                    | (go_roundw
                       case rel => exact ⟨t + 1, by omega, by go_num, HN2.out, HQ.out.alloc hzq _⟩
                       case measure => simp [intOf]; omega)
              · have HN2 := Lib.hid (HTN.out (by simp; omega))
                have hea : (x == a2) = false := by simpa using he
                clear HTA HTN
                go_wp2
                first
                  | (refine ⟨⟨t + 1, by omega, by go_num, HN2.out, HQ.out.alloc hzq _⟩, ?_⟩; simp [intOf]; omega)
                  | (go_roundw
                     case rel => exact ⟨t + 1, by omega, by go_num, HN2.out, HQ.out.alloc hzq _⟩
                     case measure => simp [intOf]; omega)
            · obtain rfl : t = N.gs.length := by omega
              rw [List.take_length] at hno
              have HNO := Lib.hid hno
              have hkt : decide ((N.gs.length : Int) < (N.gs.length : Int)) = false := by simp
              have HNR := Lib.hid (HNW.out.keep hbq)
              have HBR := Lib.hid (HBA.out.trans (hbq.mono (by omega)))
              obtain ⟨q9, cap9, _, ⟨f1, f2⟩, _, _⟩ := HNR.out.cells
              clear hno hbq
              by_cases hf : 360 ≤ N.gs.length
              · have HF := Lib.hid (show r = (⟨N.gs, true⟩, -1) by rw [HP.out]; unfold putN; rw [if_neg (by rw [HNO.out]; simp), if_pos hf])
                have hfe : decide ((360 : Int) ≤ (N.gs.length : Int)) = true := by simp; omega
                go_wp2
                go_ret
                exact ⟨by rw [HF.out] <;> rfl, by rw [HF.out]; exact HNR.out.setFull, (HBR.out.mono hwb).setCell hbb _⟩
              · have HF := Lib.hid (show r = (⟨N.gs ++ [⟨x, y⟩], N.full⟩, I + 2 + N.gs.length) by rw [HP.out]; unfold putN; rw [if_neg (by rw [HNO.out]; simp), if_neg hf])
                have hfe : decide ((360 : Int) ≤ (N.gs.length : Int)) = false := by simp; omega
                go_wp2
                have HC := Lib.hid (show wr.drew.cell? ⟨bp, 1, none⟩ = some (.slice q N.gs.length cap) ∧ wr.drew.cell? ⟨w.heap.size, 0, none⟩ = some (.int .i64 x) ∧ wr.drew.cell? ⟨w.heap.size, 1, none⟩ = some (.int .i64 y) from ⟨c1, y0, y1⟩)
                have HBPR : Hid (wr.heap[bp]? = some (.cells #[.int .i64 I, .slice q N.gs.length cap, .bool N.full] 76 (0, 0))) := Lib.hid ((HBR.out.block bp hlt).trans HRAW.out)
                have HXR : Hid (wr.heap[w.heap.size]? = some (.cells #[.int .i64 x, .int .i64 y] 48 (0, 0))) := Lib.hid ((HQ.out.block w.heap.size (by omega)).trans HXA.out)
                have HOR := Lib.hid (own_keep HOW.out HQ.out)
                clear c0 c1 c2 y0 y1 f1 f2
                refine region_s [12] (fun V => V.cell? ⟨bp, 1, none⟩ = some (.slice q N.gs.length cap) ∧ V.cell? ⟨w.heap.size, 0, none⟩ = some (.int .i64 x) ∧ V.cell? ⟨w.heap.size, 1, none⟩ = some (.int .i64 y)) (by kernel_rfl) ?_
                refine take_p (i := 0) (v := .pointer (some ⟨bp, 0, none⟩)) rfl (by kernel_rfl) (fun _ _ _ h => h) HC.out rfl (fun V => ?_) ?_
                · go_simp
                refine take_p (i := 1) (v := .pointer (some ⟨bp, 0, none⟩)) rfl (by kernel_rfl) (fun _ _ _ h => h) HC.out rfl (fun V => ?_) ?_
                · go_simp
                refine take_p (i := 2) (v := .pointer (some ⟨bp, 0, none⟩)) rfl (by kernel_rfl) (fun _ _ _ h => h) HC.out rfl (fun V => ?_) ?_
                · go_simp
                refine take_p (i := 3) (v := .pointer (some ⟨bp, 0, none⟩)) rfl (by kernel_rfl) (fun _ _ _ h => h) HC.out rfl (fun V => ?_) ?_
                · go_simp
                refine take_p (i := 4) (v := .pointer (some ⟨bp, 1, none⟩)) rfl (by kernel_rfl) (fun _ _ _ h => h) HC.out rfl (fun V => ?_) ?_
                · go_simp
                refine take_s (i := 5) (v := .slice q N.gs.length cap) rfl (by kernel_rfl) (fun _ _ _ h => h) HC.out rfl (fun V hV => ?_) ?_
                · obtain ⟨t1, t2, t3⟩ := hV
                  go_simp
                refine take_s (i := 6) (v := .agg #[.int .i64 x, .int .i64 y]) rfl (by kernel_rfl) (fun _ _ _ h => h) HC.out rfl (fun V hV => ?_) ?_
                · obtain ⟨t1, t2, t3⟩ := hV
                  go_simp
                refine one_s (i := 7) (by kernel_rfl) (op_list rfl ?_)
                go_wp2
                obtain ⟨V1, hV1⟩ : ∃ V1, V1 = (wr.alloc (.cells #[.int .i64 x, .int .i64 y] 48)).drew := ⟨_, rfl⟩
                have HB2 : Hid (Below wr.heap.size wr V1) := Lib.hid (by rw [hV1]; exact ((Below.refl wr.heap.size wr).alloc (Nat.le_refl _) _).drew)
                have HN2 : Hid (V1.heap[wr.heap.size]? = some (.cells #[.int .i64 x, .int .i64 y] 48 (0, 0))) := Lib.hid (by rw [hV1]; exact heap_alloc_new wr _)
                have hsV : V1.heap.size = wr.heap.size + 1 := by rw [hV1]; show (wr.alloc _).heap.size = _; simp
                rw [← hV1]
                clear hV1
                have HCV : Hid (V1.cell? ⟨bp, 1, none⟩ = some (.slice q N.gs.length cap) ∧ V1.cell? ⟨w.heap.size, 0, none⟩ = some (.int .i64 x) ∧ V1.cell? ⟨w.heap.size, 1, none⟩ = some (.int .i64 y)) := Lib.hid (by
                  have e1 := (HB2.out.block bp (by omega)).trans HBPR.out
                  have e2 := (HB2.out.block w.heap.size (by omega)).trans HXR.out
                  exact ⟨cell_of_row V1 _ 1 _ _ _ e1, cell_of_row V1 _ 0 _ _ _ e2, cell_of_row V1 _ 1 _ _ _ e2⟩)
                refine ⟨fun _ => HCV.out, ?_⟩
                refine one_s (i := 8) (by kernel_rfl) (op_list rfl ?_)
                refine wpList_append_own _ rfl _ _ 27 rfl b0 48 i0 (.agg #[.int .i64 0, .int .i64 0]) 2 16 Try.underlying27 hi0 hz0 hzs hzb rfl (by decide) _ _ _ rfl (own_keep HOR.out HB2.out) _ 1 1 [.int .i64 x, .int .i64 y] rfl rfl ?c1 ?c2 ?c3 ?c4 ?c5 ?_
                case c1 =>
                  intro i u hu
                  have hi := (List.getElem?_eq_some_iff.1 hu).1
                  rw [Addr.add_mid, Nat.zero_add, cell_of_row _ _ _ _ _ _ HN2.out]
                  simpa using hu
                case c2 => intro u hu; simp at hu; rcases hu with rfl | rfl <;> rfl
                case c3 => unfold maxLen; omega
                case c4 => omega
                case c5 => omega
                intro v' w2 hown2 hgrow _
                obtain ⟨q', c', rfl⟩ : ∃ q' c', v' = .slice q' (N.gs.length + 1) c' := by
                  rcases hown2.2 with ⟨_, h⟩ | ⟨g, cap, _, rfl, _⟩
                  · omega
                  · exact ⟨_, cap, rfl⟩
                have HBP2 : Hid (w2.heap[bp]? = some (.cells #[.int .i64 I, .slice q N.gs.length cap, .bool N.full] 76 (0, 0))) := Lib.hid (((hgrow.block bp (by omega) (fun e => HNE.out bp e.symm rfl)).trans (HB2.out.block bp (by omega))).trans HBPR.out)
                have HX2 : Hid (w2.heap[w.heap.size]? = some (.cells #[.int .i64 x, .int .i64 y] 48 (0, 0))) := Lib.hid (((hgrow.block w.heap.size (by omega) (fun e => by have := HROW.out _ e.symm; omega)).trans (HB2.out.block w.heap.size (by omega))).trans HXR.out)
                have HB3 : Hid (Below b0 w w2) := Lib.hid ((HBR.out.mono hwb).trans ((HB2.out.mono (by omega)).trans ((Below.refl b0 V1).grown hgrow (by omega) fun k hk => (HROW.out k hk).1)))
                have HO2 := Lib.hid hown2
                have HC2 : Hid (w2.cell? ⟨bp, 1, none⟩ = some (.slice q N.gs.length cap) ∧ w2.cell? ⟨w.heap.size, 0, none⟩ = some (.int .i64 x) ∧ w2.cell? ⟨w.heap.size, 1, none⟩ = some (.int .i64 y)) := Lib.hid ⟨cell_of_row w2 _ 1 _ _ _ HBP2.out, cell_of_row w2 _ 0 _ _ _ HX2.out, cell_of_row w2 _ 1 _ _ _ HX2.out⟩
                clear hown2 hgrow HC HCV
                go_wp2
                refine ⟨fun _ => HC2.out, ?_⟩
                refine one_s (i := 9) (by kernel_rfl) (op_list rfl ?_)
                go_wp2
                refine ⟨fun _ => HC2.out, ?_⟩
                refine one_s (i := 10) (by kernel_rfl) (op_list rfl ?_)
                go_wp2
                refine ⟨fun _ => HC2.out, ?_⟩
                refine one_s (i := 11) (by kernel_rfl) (op_list rfl ?_)
                go_wp2
                refine ⟨fun _ => HC2.out, ?_⟩
                refine one_s (i := 12) (by kernel_rfl) (op_list rfl ?_)
                have c1 : w2.cell? ⟨bp, 1, none⟩ = some (.slice q N.gs.length cap) := HC2.out.1
                have f1 : w2.frozen? ⟨bp, 1, none⟩ = false := frozen_of_row w2 _ 1 _ _ HBP2.out
                go_wp2
                refine ⟨late_s (by kernel_rfl), done_s (by kernel_rfl) ?_ _⟩
                clear c1 f1 HC2
                obtain ⟨W4, hW4⟩ : ∃ W4, W4 = w2.setCell ⟨bp, 1, none⟩ (.slice q' (N.gs.length + 1) c') := ⟨_, rfl⟩
                have HBP4 : Hid (W4.heap[bp]? = some (.cells #[.int .i64 I, .slice q' (N.gs.length + 1) c', .bool N.full] 76 (0, 0))) := Lib.hid (by rw [hW4]; exact heap_setCell_same w2 bp 1 _ _ _ HBP2.out)
                have HB4 : Hid (Below b0 w W4) := Lib.hid (by rw [hW4]; exact HB3.out.setCell hbb _)
                have HNT : Hid (Nt b0 bp I ⟨N.gs ++ [⟨x, y⟩], N.full⟩ W4) := Lib.hid (by
                  have hlen : (N.gs ++ [(⟨x, y⟩ : GateR)]).length = N.gs.length + 1 := by simp
                  have hr := nt_row HBP2.out HO2.out
                  refine ⟨q', c', by rw [hlen]; exact HBP4.out, ?_, hbb⟩
                  rw [hlen, show GateR.all (N.gs ++ [(⟨x, y⟩ : GateR)]) = GateR.all N.gs ++ [.int .i64 x, .int .i64 y] by unfold GateR.all; rw [List.flatMap_append]; rfl, hW4]
                  exact own_same HO2.out (fun k hk => heap_setCell_other _ _ _ _ (hr k (by simpa using hk))))
                have d0 : W4.cell? ⟨bp, 0, none⟩ = some (.int .i64 I) := cell_of_row W4 _ 0 _ _ _ HBP4.out
                have d1 : W4.cell? ⟨bp, 1, none⟩ = some (.slice q' (N.gs.length + 1) c') := cell_of_row W4 _ 1 _ _ _ HBP4.out
                go_wp2_with fail
                rw [← hW4]
                clear hW4
                go_quiet (fail)
                go_wp2
                go_ret
                have hz : (I : Int) + 1 + ((N.gs.length : Int) + 1) = I + 2 + N.gs.length := by omega
                refine ⟨?_, by rw [HF.out]; exact HNT.out.keep (below_drewN (Below.refl _ _) _), below_drewN HB4.out _⟩
                rw [HF.out]
                show _ = Ending.returned (.int .i64 (I + 2 + N.gs.length))
                rw [← hz]
                rfl
end Go.Proofs.Ytimjkgciakbolab
