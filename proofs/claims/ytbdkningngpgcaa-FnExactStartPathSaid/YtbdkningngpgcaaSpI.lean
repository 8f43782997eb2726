/- What the program's StartPath returns. No condition. -/
import Derived.Test.YtbdkningngpgcaaSpS
import Derived.Test.YtbdkningngpgcaaPrI
import Derived.Test.YtbdkningngpgcaaRep
import Derived.Test.YtbdkningngpgcaaMkPath
namespace Go.Proofs.Ytbdkningngpgcaa
open Go.ChangeShapes Go.WideShapes Go.ChangeAt Go.RowKit
theorem zc_row {w : World} {b : Nat} {v0 v1 v2 v3 v4 : Value} {T : TypeId} (h : w.heap[b]? = some (.cells #[v0, v1, v2, v3, v4] T (0, 0))) : w.cell? ⟨b, 0, none⟩ = some v0 ∧ w.cell? ⟨b, 1, none⟩ = some v1 ∧ w.cell? ⟨b, 2, none⟩ = some v2 ∧ w.cell? ⟨b, 3, none⟩ = some v3 ∧ w.cell? ⟨b, 4, none⟩ = some v4 :=
  ⟨cell_of_row w b 0 _ _ _ h, cell_of_row w b 1 _ _ _ h, cell_of_row w b 2 _ _ _ h, cell_of_row w b 3 _ _ _ h, cell_of_row w b 4 _ _ _ h⟩
theorem i_const1 (w n : Int) (h : wkB w n = true) (W : World) : Calls Try.prog 76 #[.int .i64 w, .int .i64 n] W fun e W' => e = .returned (.agg #[.int .i64 0, .int .i64 w, .int .i64 n, .string ByteArray.empty, .slice none 0 0]) ∧ Below W.heap.size W W' := by
  have K := Lib.hid (fun W => i_wk w n W)
  rw [h] at K
  clear h
  go_enter Try.func76, Try.ntmps76
  go_wp2_with (first | (go_at_call 84; refine (K.out _).mono ?_; rintro e w1 ⟨rfl, rfl⟩))
  refine bodyPost_ret (v := .agg #[.int .i64 0, .int .i64 w, .int .i64 n, .string ByteArray.empty, .slice none 0 0]) (by simp [results, Try.results76, go_sem]; rfl) rfl ⟨rfl, ?_⟩
  repeat (first | refine Below.setCell ?_ (by first | (simp; done) | (simp; omega)) _ | refine Below.alloc ?_ (by first | (simp; done) | (simp; omega)) _ | exact Below.refl _ _)
theorem wk_zero {vw : Int} (h1 : 2 ≤ vw) (h2 : vw ≤ 8) : wkB vw 0 = true := by
  have h : vw = 2 ∨ vw = 3 ∨ vw = 4 ∨ vw = 5 ∨ vw = 6 ∨ vw = 7 ∨ vw = 8 := by omega
  rcases h with rfl | rfl | rfl | rfl | rfl | rfl | rfl <;> decide
theorem i_rep (vw : Int) (n : Nat) (hn : n ≤ 1048576) (base : Nat) (i : Int) (hi : i = n) (W : World) (gb : Nat) (hg : W.heap[gb]? = some (.cells #[.int .i64 0, .int .i64 vw, .int .i64 0, .string ByteArray.empty, .slice none 0 0] 87 (0, 0))) (hb : base ≤ W.heap.size) :
    Calls Try.prog 77 #[.slice (some ⟨gb, 0, none⟩) 1 1, .int .i64 i] W fun e w' => ∃ q, e = .returned (.slice q n n) ∧ w'.ownsRow base 87 5 (.slice q n n) n (zcs vw n) ∧ Below W.heap.size W w' ∧ ∀ g ∈ (Value.slice q n n).ownBlock.toList, W.heap.size ≤ g ∧ g < w'.heap.size := by
  subst hi
  refine (i_repeat vw n gb W hn hg).mono ?_
  rintro e w' ⟨q, rfl, h1, h2⟩
  exact ⟨q, rfl, own_base h1 hb, h2, fun g hg => own_lt h1 hg⟩
set_option maxRecDepth 100000 in
set_option maxHeartbeats 8000000 in
theorem i_start (vw vm vi : Int) (L : List InsR) (s : Value) (w : World) (hs : Cs.Shows w 0 4 s L.length (InsR.all L)) (hok : ∀ r ∈ L, r.Ok) (hL : L.length ≤ maxLen) :
    Calls Try.prog 39 #[.agg #[.int .i64 vw, .int .i64 vm, .int .i64 vi, s]] w (SpEnd (spV vw vm vi L) w) := by
  have hml : maxLen = 9223372036854775807 := rfl
  have K1 := Lib.hid (fun W (hb : Below w.heap.size w W) => i_prog vw vm vi L s W (hs.below hb) hok hL)
  obtain ⟨_, q, cap, rfl, _⟩ := hs
  obtain ⟨b1, hb1⟩ : ∃ B, prB vw vm vi L = B := ⟨_, rfl⟩
  rw [hb1] at K1
  obtain ⟨V, hV⟩ : ∃ V, spV vw vm vi L = V := ⟨_, rfl⟩
  rw [hV]
  have HV := Lib.hid hV
  clear hV
  obtain ⟨v1, hv1⟩ : ∃ W, W = w.alloc (.cells #[.int .i64 vw, .int .i64 vm, .int .i64 vi, .slice q L.length cap] 30) := ⟨_, rfl⟩
  have hv1s : v1.heap.size = w.heap.size + 1 := by rw [hv1]; simp
  obtain ⟨w0, hw0⟩ : ∃ W, W = v1.alloc (.cells #[.int .i64 0, .slice none 0 0, .slice none 0 0, .slice none 0 0, .int .i64 0, .slice none 0 0, .int .i64 0, .int .i64 0, .slice none 0 0, .slice none 0 0] 58) := ⟨_, rfl⟩
  have k1 : Below v1.heap.size v1 w0 := by rw [hw0]; exact (Below.refl _ _).alloc (Nat.le_refl _) _
  have HB0 := Lib.hid (show Below w.heap.size w w0 by rw [hw0, hv1]; exact ((Below.refl _ _).alloc (Nat.le_refl _) _).alloc (by simp) _)
  have X0 := Lib.hid (show w0.heap[w.heap.size]? = some (.cells #[.int .i64 vw, .int .i64 vm, .int .i64 vi, .slice q L.length cap] 30 (0, 0)) from (k1.block w.heap.size (by omega)).trans (by rw [hv1]; exact heap_alloc_new _ _))
  have Z0 := Lib.hid (show w0.heap[w.heap.size + 1]? = some (.cells #[.int .i64 0, .slice none 0 0, .slice none 0 0, .slice none 0 0, .int .i64 0, .slice none 0 0, .int .i64 0, .int .i64 0, .slice none 0 0, .slice none 0 0] 58 (0, 0)) by rw [hw0, ← hv1s]; exact heap_alloc_new _ _)
  clear k1 hv1s
  rw [hv1] at hw0
  clear hv1
  obtain ⟨x0, x1, x2, x3⟩ := cell4_row X0.out
  obtain ⟨d0, d1, d2, d3, d4, d5, d6, d7, d8, d9⟩ := cell10_row Z0.out
  rw [hw0] at x0 x1 x2 x3 d0 d1 d2 d3 d4 d5 d6 d7 d8 d9
  go_enter Try.func39, Try.ntmps39
  go_wp2_with fail
  rw [← hw0] at x0 x1 x2 x3 d0 d1 d2 d3 d4 d5 d6 d7 d8 d9 ⊢
  clear hw0 x0 x1 x2 x3 d0 d1 d2 d3 d4 d5 d6 d7 d8 d9
  refine (K1.out _ HB0.out).mono ?_
  rintro e w1 ⟨rfl, hb⟩
  have HB1 := Lib.hid (HB0.out.trans (hb.mono HB0.out.size))
  have X1 := Lib.hid ((hb.block w.heap.size (row_len X0.out)).trans X0.out)
  have Z1 := Lib.hid ((hb.block (w.heap.size + 1) (row_len Z0.out)).trans Z0.out)
  have hs1 := Lib.hid HB1.out.size
  clear hb
  cases b1
  case false =>
    have hv : V = zeroPa := by rw [← HV.out]; unfold spV; rw [hb1]; rfl
    subst hv
    obtain ⟨d0, d1, d2, d3, d4, d5, d6, d7, d8, d9⟩ := cell10_row Z1.out
    obtain ⟨f0, f1, f2, f3, f4, f5, f6, f7, f8, f9⟩ := froz10_row Z1.out
    go_wp2
    obtain ⟨we, hwe⟩ : ∃ W9, W9 = ((((((((((w1.setCell ⟨w.heap.size + 1, 0, none⟩ (.int .i64 0)).setCell ⟨w.heap.size + 1, 1, none⟩ (.slice none 0 0)).setCell ⟨w.heap.size + 1, 2, none⟩ (.slice none 0 0)).setCell ⟨w.heap.size + 1, 3, none⟩ (.slice none 0 0)).setCell ⟨w.heap.size + 1, 4, none⟩ (.int .i64 0)).setCell ⟨w.heap.size + 1, 5, none⟩ (.slice none 0 0)).setCell ⟨w.heap.size + 1, 6, none⟩ (.int .i64 0)).setCell ⟨w.heap.size + 1, 7, none⟩ (.int .i64 0)).setCell ⟨w.heap.size + 1, 8, none⟩ (.slice none 0 0)).setCell ⟨w.heap.size + 1, 9, none⟩ (.slice none 0 0)) := ⟨_, rfl⟩
    have D2 := Lib.hid (show we.heap[w.heap.size + 1]? = some (.cells #[.int .i64 0, .slice none 0 0, .slice none 0 0, .slice none 0 0, .int .i64 0, .slice none 0 0, .int .i64 0, .int .i64 0, .slice none 0 0, .slice none 0 0] 58 (0, 0)) by rw [hwe]; exact set10_row Z1.out (.int .i64 0) (.slice none 0 0) (.slice none 0 0) (.slice none 0 0) (.int .i64 0) (.slice none 0 0) (.int .i64 0) (.int .i64 0) (.slice none 0 0) (.slice none 0 0))
    have BE := Lib.hid (show Below w.heap.size w we by rw [hwe]; exact set10_below HB1.out (by omega) (.int .i64 0) (.slice none 0 0) (.slice none 0 0) (.slice none 0 0) (.int .i64 0) (.slice none 0 0) (.int .i64 0) (.int .i64 0) (.slice none 0 0) (.slice none 0 0))
    rw [← hwe]
    clear hwe d0 d1 d2 d3 d4 d5 d6 d7 d8 d9 f0 f1 f2 f3 f4 f5 f6 f7 f8 f9
    obtain ⟨d0, d1, d2, d3, d4, d5, d6, d7, d8, d9⟩ := cell10_row D2.out
    refine bodyPost_ret (v := .agg #[.int .i64 0, .slice none 0 0, .slice none 0 0, .slice none 0 0, .int .i64 0, .slice none 0 0, .int .i64 0, .int .i64 0, .slice none 0 0, .slice none 0 0]) (by simp [results, Try.results39, go_sem, d0, d1, d2, d3, d4, d5, d6, d7, d8, d9]) rfl ?_
    exact sp_zero BE.out
  case true =>
    obtain ⟨⟨hw2, hw8, hm1, hm6, -, -, -, -, -⟩, -⟩ := pr_in hb1
    obtain ⟨vn, rfl⟩ : ∃ n : Nat, vm = n := ⟨vm.toNat, by omega⟩
    have hv : V = ⟨0, repF vw 4, repF vw vn, [], 0, .nil, 0, 0, .nil, []⟩ := by rw [← HV.out]; unfold spV; rw [hb1, Int.toNat_natCast]; rfl
    have HW := Lib.hid hv
    clear hv HV
    have KC := Lib.hid (fun W => i_const1 vw 0 (wk_zero hw2 hw8) W)
    have K4 := Lib.hid (fun W gb hg hb => i_rep vw 4 (by omega) w.heap.size 4 rfl W gb hg hb)
    have KN := Lib.hid (fun W gb hg hb => i_rep vw vn (by omega) w.heap.size vn rfl W gb hg hb)
    clear hw2 hw8
    obtain ⟨x0, x1, x2, x3⟩ := cell4_row X1.out
    go_wp2_with fail
    refine (KC.out _).mono ?_
    rintro e w2 ⟨rfl, hb⟩
    clear x0 x1 x2 x3
    have X2 := Lib.hid ((hb.block w.heap.size (row_len X1.out)).trans X1.out)
    have Z2 := Lib.hid ((hb.block (w.heap.size + 1) (row_len Z1.out)).trans Z1.out)
    have H2 := Lib.hid (HB1.out.trans (hb.mono HB1.out.size))
    clear hb
    obtain ⟨bz, hbz⟩ : ∃ g, g = w2.heap.size := ⟨_, rfl⟩
    obtain ⟨w3, hw3⟩ : ∃ W, W = w2.alloc (.cells #[.int .i64 0, .int .i64 vw, .int .i64 0, .string ByteArray.empty, .slice none 0 0] 87) := ⟨_, rfl⟩
    have hb3 : Below w2.heap.size w2 w3 := by rw [hw3]; exact (Below.refl _ _).alloc (Nat.le_refl _) _
    have T3 := Lib.hid (show w3.heap[bz]? = some (.cells #[.int .i64 0, .int .i64 vw, .int .i64 0, .string ByteArray.empty, .slice none 0 0] 87 (0, 0)) by rw [hw3, hbz]; exact heap_alloc_new _ _)
    have X3 := Lib.hid ((hb3.block w.heap.size (row_len X2.out)).trans X2.out)
    have Z3 := Lib.hid ((hb3.block (w.heap.size + 1) (row_len Z2.out)).trans Z2.out)
    have H3 := Lib.hid (H2.out.trans (hb3.mono H2.out.size))
    clear hb3
    go_wp2_with fail
    rw [← hw3, ← hbz]
    clear hw3 hbz
    obtain ⟨wd, hwd⟩ : ∃ W, W = w3.drew := ⟨_, rfl⟩
    have Td := Lib.hid (show wd.heap[bz]? = some (.cells #[.int .i64 0, .int .i64 vw, .int .i64 0, .string ByteArray.empty, .slice none 0 0] 87 (0, 0)) by rw [hwd]; exact T3.out)
    have Xd := Lib.hid (show wd.heap[w.heap.size]? = some (.cells #[.int .i64 vw, .int .i64 vn, .int .i64 vi, .slice q L.length cap] 30 (0, 0)) by rw [hwd]; exact X3.out)
    have Zd := Lib.hid (show wd.heap[w.heap.size + 1]? = some (.cells #[.int .i64 0, .slice none 0 0, .slice none 0 0, .slice none 0 0, .int .i64 0, .slice none 0 0, .int .i64 0, .int .i64 0, .slice none 0 0, .slice none 0 0] 58 (0, 0)) by rw [hwd]; exact Z3.out)
    have Hd := Lib.hid (show Below w.heap.size w wd by rw [hwd]; exact H3.out.drew)
    refine region_s [9] (fun V => V.heap[bz]? = some (.cells #[.int .i64 0, .int .i64 vw, .int .i64 0, .string ByteArray.empty, .slice none 0 0] 87 (0, 0)) ∧ V.heap[w.heap.size]? = some (.cells #[.int .i64 vw, .int .i64 vn, .int .i64 vi, .slice q L.length cap] 30 (0, 0))) (by kernel_rfl) ?_
    rw [← hwd]
    clear hwd
    have CH := Lib.hid (And.intro Td.out Xd.out)
    refine take_s (i := 0) (v := .agg #[.int .i64 0, .int .i64 vw, .int .i64 0, .string ByteArray.empty, .slice none 0 0]) rfl (by kernel_rfl) (fun _ _ _ h => h) CH.out rfl (fun V hV => ?_) ?_
    · obtain ⟨z0, z1, z2, z3, z4⟩ := zc_row hV.1
      go_simp
    refine take_s (i := 3) (v := .agg #[.int .i64 0, .int .i64 vw, .int .i64 0, .string ByteArray.empty, .slice none 0 0]) rfl (by kernel_rfl) (fun _ _ _ h => h) CH.out rfl (fun V hV => ?_) ?_
    · obtain ⟨z0, z1, z2, z3, z4⟩ := zc_row hV.1
      go_simp
    refine take_s (i := 5) (v := .pointer (some ⟨w.heap.size, 1, none⟩)) rfl (by kernel_rfl) (fun _ _ _ h => h) CH.out rfl (fun V hV => ?_) ?_
    · go_simp
    refine take_s (i := 6) (v := .int .i64 vn) rfl (by kernel_rfl) (fun _ _ _ h => h) CH.out rfl (fun V hV => ?_) ?_
    · obtain ⟨x0, x1, x2, x3⟩ := cell4_row hV.2
      go_simp
    refine two_s (i := 1) (k := 4) (by kernel_rfl) (op_list rfl ?_) (op_list rfl ?_)
    · skip
      obtain ⟨ga1, hga1⟩ : ∃ g, g = wd.heap.size := ⟨_, rfl⟩
      obtain ⟨w11, hw11⟩ : ∃ W, W = wd.alloc (.cells #[.int .i64 0, .int .i64 vw, .int .i64 0, .string ByteArray.empty, .slice none 0 0] 87) := ⟨_, rfl⟩
      have hb : Below wd.heap.size wd w11 := by rw [hw11]; exact (Below.refl _ _).alloc (Nat.le_refl _) _
      have A11 := Lib.hid (show w11.heap[ga1]? = some (.cells #[.int .i64 0, .int .i64 vw, .int .i64 0, .string ByteArray.empty, .slice none 0 0] 87 (0, 0)) by rw [hw11, hga1]; exact heap_alloc_new _ _)
      have T11 := Lib.hid ((hb.block _ (row_len Td.out)).trans Td.out)
      have X11 := Lib.hid ((hb.block _ (row_len Xd.out)).trans Xd.out)
      have Z11 := Lib.hid ((hb.block _ (row_len Zd.out)).trans Zd.out)
      have H11 := Lib.hid (Hd.out.trans (hb.mono Hd.out.size))
      clear hb
      go_wp2
      rw [← hw11, ← hga1]
      clear hw11 hga1
      refine ⟨fun _ => ⟨T11.out, X11.out⟩, ?_⟩
      refine two_s (i := 2) (k := 4) (by kernel_rfl) (op_list rfl ?_) (op_list rfl ?_)
      · skip
        go_wp2_with fail
        refine (K4.out _ _ A11.out H11.out.size).mono ?_
        rintro e w12 ⟨qr2, rfl, ho, hb, hlo⟩
        have R12 := Lib.hid ho
        have Jr2 := Lib.hid hlo
        clear ho hlo
        have T12 := Lib.hid ((hb.block _ (row_len T11.out)).trans T11.out)
        have X12 := Lib.hid ((hb.block _ (row_len X11.out)).trans X11.out)
        have Z12 := Lib.hid ((hb.block _ (row_len Z11.out)).trans Z11.out)
        have H12 := Lib.hid (H11.out.trans (hb.mono H11.out.size))
        have A12 := Lib.hid ((hb.block _ (row_len A11.out)).trans A11.out)
        clear hb
        go_wp2
        refine ⟨fun _ => ⟨T12.out, X12.out⟩, ?_⟩
        refine one_s (i := 4) (by kernel_rfl) (op_list rfl ?_)
        obtain ⟨gb3, hgb3⟩ : ∃ g, g = w12.heap.size := ⟨_, rfl⟩
        obtain ⟨w13, hw13⟩ : ∃ W, W = w12.alloc (.cells #[.int .i64 0, .int .i64 vw, .int .i64 0, .string ByteArray.empty, .slice none 0 0] 87) := ⟨_, rfl⟩
        have hb : Below w12.heap.size w12 w13 := by rw [hw13]; exact (Below.refl _ _).alloc (Nat.le_refl _) _
        have B13 := Lib.hid (show w13.heap[gb3]? = some (.cells #[.int .i64 0, .int .i64 vw, .int .i64 0, .string ByteArray.empty, .slice none 0 0] 87 (0, 0)) by rw [hw13, hgb3]; exact heap_alloc_new _ _)
        have T13 := Lib.hid ((hb.block _ (row_len T12.out)).trans T12.out)
        have X13 := Lib.hid ((hb.block _ (row_len X12.out)).trans X12.out)
        have Z13 := Lib.hid ((hb.block _ (row_len Z12.out)).trans Z12.out)
        have H13 := Lib.hid (H12.out.trans (hb.mono H12.out.size))
        have A13 := Lib.hid ((hb.block _ (row_len A12.out)).trans A12.out)
        have R13 := Lib.hid (own_keep R12.out hb)
        clear hb
        go_wp2
        rw [← hw13, ← hgb3]
        clear hw13 hgb3
        refine ⟨fun _ => ⟨T13.out, X13.out⟩, ?_⟩
        refine one_s (i := 7) (by kernel_rfl) (op_list rfl ?_)
        go_wp2_with fail
        refine (KN.out _ _ B13.out H13.out.size).mono ?_
        rintro e w14 ⟨qm4, rfl, ho, hb, hlo⟩
        have M14 := Lib.hid ho
        have Jm4 := Lib.hid hlo
        clear ho hlo
        have APx : Hid (∀ g ∈ (Value.slice qr2 4 4).ownBlock.toList, g ∉ (Value.slice qm4 vn vn).ownBlock.toList) := Lib.hid (fun g h1 h2 => by have h3 := (own_lt R13.out h1).2; have h4 := (Jm4.out g h2).1; omega)
        have T14 := Lib.hid ((hb.block _ (row_len T13.out)).trans T13.out)
        have X14 := Lib.hid ((hb.block _ (row_len X13.out)).trans X13.out)
        have Z14 := Lib.hid ((hb.block _ (row_len Z13.out)).trans Z13.out)
        have H14 := Lib.hid (H13.out.trans (hb.mono H13.out.size))
        have A14 := Lib.hid ((hb.block _ (row_len A13.out)).trans A13.out)
        have B14 := Lib.hid ((hb.block _ (row_len B13.out)).trans B13.out)
        have R14 := Lib.hid (own_keep R13.out hb)
        clear hb
        go_wp2
        refine ⟨fun _ => ⟨T14.out, X14.out⟩, ?_⟩
        refine one_s (i := 8) (by kernel_rfl) (op_list rfl ?_)
        go_wp2
        refine ⟨fun _ => ⟨T14.out, X14.out⟩, ?_⟩
        refine one_s (i := 9) (by kernel_rfl) (op_list rfl ?_)
        have hs2 := Lib.hid H14.out.size
        obtain ⟨d0, d1, d2, d3, d4, d5, d6, d7, d8, d9⟩ := cell10_row Z14.out
        obtain ⟨f0, f1, f2, f3, f4, f5, f6, f7, f8, f9⟩ := froz10_row Z14.out
        go_wp2
        obtain ⟨we, hwe⟩ : ∃ W9, W9 = ((((((((((w14.setCell ⟨w.heap.size + 1, 0, none⟩ (.int .i64 0)).setCell ⟨w.heap.size + 1, 1, none⟩ (.slice qr2 4 4)).setCell ⟨w.heap.size + 1, 2, none⟩ (.slice qm4 vn vn)).setCell ⟨w.heap.size + 1, 3, none⟩ (.slice none 0 0)).setCell ⟨w.heap.size + 1, 4, none⟩ (.int .i64 0)).setCell ⟨w.heap.size + 1, 5, none⟩ (.slice none 0 0)).setCell ⟨w.heap.size + 1, 6, none⟩ (.int .i64 0)).setCell ⟨w.heap.size + 1, 7, none⟩ (.int .i64 0)).setCell ⟨w.heap.size + 1, 8, none⟩ (.slice none 0 0)).setCell ⟨w.heap.size + 1, 9, none⟩ (.slice none 0 0)) := ⟨_, rfl⟩
        have D2 := Lib.hid (show we.heap[w.heap.size + 1]? = some (.cells #[.int .i64 0, .slice qr2 4 4, .slice qm4 vn vn, .slice none 0 0, .int .i64 0, .slice none 0 0, .int .i64 0, .int .i64 0, .slice none 0 0, .slice none 0 0] 58 (0, 0)) by rw [hwe]; exact set10_row Z14.out (.int .i64 0) (.slice qr2 4 4) (.slice qm4 vn vn) (.slice none 0 0) (.int .i64 0) (.slice none 0 0) (.int .i64 0) (.int .i64 0) (.slice none 0 0) (.slice none 0 0))
        have BE := Lib.hid (show Below w.heap.size w we by rw [hwe]; exact set10_below H14.out (by omega) (.int .i64 0) (.slice qr2 4 4) (.slice qm4 vn vn) (.slice none 0 0) (.int .i64 0) (.slice none 0 0) (.int .i64 0) (.int .i64 0) (.slice none 0 0) (.slice none 0 0))
        have hne : ∀ k, k ≠ w.heap.size + 1 → we.heap[k]? = w14.heap[k]? := fun k hk => by rw [hwe, heap_setCell_other _ _ _ _ hk, heap_setCell_other _ _ _ _ hk, heap_setCell_other _ _ _ _ hk, heap_setCell_other _ _ _ _ hk, heap_setCell_other _ _ _ _ hk, heap_setCell_other _ _ _ _ hk, heap_setCell_other _ _ _ _ hk, heap_setCell_other _ _ _ _ hk, heap_setCell_other _ _ _ _ hk, heap_setCell_other _ _ _ _ hk]
        have OR9 := Lib.hid (own_same R14.out (fun g hg => hne g (fun h => own_offZ (T := 58) (by decide) R14.out Z14.out (h ▸ hg))))
        have OM9 := Lib.hid (own_same M14.out (fun g hg => hne g (fun h => own_offZ (T := 58) (by decide) M14.out Z14.out (h ▸ hg))))
        clear hne
        skip
        rw [← hwe]
        clear hwe d0 d1 d2 d3 d4 d5 d6 d7 d8 d9 f0 f1 f2 f3 f4 f5 f6 f7 f8 f9
        refine ⟨late_s (by kernel_rfl), done_s (by kernel_rfl) ?_ _⟩
        obtain ⟨d0, d1, d2, d3, d4, d5, d6, d7, d8, d9⟩ := cell10_row D2.out
        go_wp2
        refine bodyPost_ret (v := .agg #[.int .i64 0, .slice qr2 4 4, .slice qm4 vn vn, .slice none 0 0, .int .i64 0, .slice none 0 0, .int .i64 0, .int .i64 0, .slice none 0 0, .slice none 0 0]) (by simp [results, Try.results39, go_sem, d0, d1, d2, d3, d4, d5, d6, d7, d8, d9]) rfl ?_
        rw [HW.out]
        exact sp_made BE.out OR9.out OM9.out APx.out
      · skip
        obtain ⟨gb5, hgb5⟩ : ∃ g, g = w11.heap.size := ⟨_, rfl⟩
        obtain ⟨w15, hw15⟩ : ∃ W, W = w11.alloc (.cells #[.int .i64 0, .int .i64 vw, .int .i64 0, .string ByteArray.empty, .slice none 0 0] 87) := ⟨_, rfl⟩
        have hb : Below w11.heap.size w11 w15 := by rw [hw15]; exact (Below.refl _ _).alloc (Nat.le_refl _) _
        have B15 := Lib.hid (show w15.heap[gb5]? = some (.cells #[.int .i64 0, .int .i64 vw, .int .i64 0, .string ByteArray.empty, .slice none 0 0] 87 (0, 0)) by rw [hw15, hgb5]; exact heap_alloc_new _ _)
        have T15 := Lib.hid ((hb.block _ (row_len T11.out)).trans T11.out)
        have X15 := Lib.hid ((hb.block _ (row_len X11.out)).trans X11.out)
        have Z15 := Lib.hid ((hb.block _ (row_len Z11.out)).trans Z11.out)
        have H15 := Lib.hid (H11.out.trans (hb.mono H11.out.size))
        have A15 := Lib.hid ((hb.block _ (row_len A11.out)).trans A11.out)
        clear hb
        go_wp2
        rw [← hw15, ← hgb5]
        clear hw15 hgb5
        refine ⟨fun _ => ⟨T15.out, X15.out⟩, ?_⟩
        refine one_s (i := 2) (by kernel_rfl) (op_list rfl ?_)
        go_wp2_with fail
        refine (K4.out _ _ A15.out H15.out.size).mono ?_
        rintro e w16 ⟨qr6, rfl, ho, hb, hlo⟩
        have R16 := Lib.hid ho
        have Jr6 := Lib.hid hlo
        clear ho hlo
        have T16 := Lib.hid ((hb.block _ (row_len T15.out)).trans T15.out)
        have X16 := Lib.hid ((hb.block _ (row_len X15.out)).trans X15.out)
        have Z16 := Lib.hid ((hb.block _ (row_len Z15.out)).trans Z15.out)
        have H16 := Lib.hid (H15.out.trans (hb.mono H15.out.size))
        have A16 := Lib.hid ((hb.block _ (row_len A15.out)).trans A15.out)
        have B16 := Lib.hid ((hb.block _ (row_len B15.out)).trans B15.out)
        clear hb
        go_wp2
        refine ⟨fun _ => ⟨T16.out, X16.out⟩, ?_⟩
        refine one_s (i := 7) (by kernel_rfl) (op_list rfl ?_)
        go_wp2_with fail
        refine (KN.out _ _ B16.out H16.out.size).mono ?_
        rintro e w17 ⟨qm7, rfl, ho, hb, hlo⟩
        have M17 := Lib.hid ho
        have Jm7 := Lib.hid hlo
        clear ho hlo
        have APx : Hid (∀ g ∈ (Value.slice qr6 4 4).ownBlock.toList, g ∉ (Value.slice qm7 vn vn).ownBlock.toList) := Lib.hid (fun g h1 h2 => by have h3 := (own_lt R16.out h1).2; have h4 := (Jm7.out g h2).1; omega)
        have T17 := Lib.hid ((hb.block _ (row_len T16.out)).trans T16.out)
        have X17 := Lib.hid ((hb.block _ (row_len X16.out)).trans X16.out)
        have Z17 := Lib.hid ((hb.block _ (row_len Z16.out)).trans Z16.out)
        have H17 := Lib.hid (H16.out.trans (hb.mono H16.out.size))
        have A17 := Lib.hid ((hb.block _ (row_len A16.out)).trans A16.out)
        have B17 := Lib.hid ((hb.block _ (row_len B16.out)).trans B16.out)
        have R17 := Lib.hid (own_keep R16.out hb)
        clear hb
        go_wp2
        refine ⟨fun _ => ⟨T17.out, X17.out⟩, ?_⟩
        refine one_s (i := 8) (by kernel_rfl) (op_list rfl ?_)
        go_wp2
        refine ⟨fun _ => ⟨T17.out, X17.out⟩, ?_⟩
        refine one_s (i := 9) (by kernel_rfl) (op_list rfl ?_)
        have hs2 := Lib.hid H17.out.size
        obtain ⟨d0, d1, d2, d3, d4, d5, d6, d7, d8, d9⟩ := cell10_row Z17.out
        obtain ⟨f0, f1, f2, f3, f4, f5, f6, f7, f8, f9⟩ := froz10_row Z17.out
        go_wp2
        obtain ⟨we, hwe⟩ : ∃ W9, W9 = ((((((((((w17.setCell ⟨w.heap.size + 1, 0, none⟩ (.int .i64 0)).setCell ⟨w.heap.size + 1, 1, none⟩ (.slice qr6 4 4)).setCell ⟨w.heap.size + 1, 2, none⟩ (.slice qm7 vn vn)).setCell ⟨w.heap.size + 1, 3, none⟩ (.slice none 0 0)).setCell ⟨w.heap.size + 1, 4, none⟩ (.int .i64 0)).setCell ⟨w.heap.size + 1, 5, none⟩ (.slice none 0 0)).setCell ⟨w.heap.size + 1, 6, none⟩ (.int .i64 0)).setCell ⟨w.heap.size + 1, 7, none⟩ (.int .i64 0)).setCell ⟨w.heap.size + 1, 8, none⟩ (.slice none 0 0)).setCell ⟨w.heap.size + 1, 9, none⟩ (.slice none 0 0)) := ⟨_, rfl⟩
        have D2 := Lib.hid (show we.heap[w.heap.size + 1]? = some (.cells #[.int .i64 0, .slice qr6 4 4, .slice qm7 vn vn, .slice none 0 0, .int .i64 0, .slice none 0 0, .int .i64 0, .int .i64 0, .slice none 0 0, .slice none 0 0] 58 (0, 0)) by rw [hwe]; exact set10_row Z17.out (.int .i64 0) (.slice qr6 4 4) (.slice qm7 vn vn) (.slice none 0 0) (.int .i64 0) (.slice none 0 0) (.int .i64 0) (.int .i64 0) (.slice none 0 0) (.slice none 0 0))
        have BE := Lib.hid (show Below w.heap.size w we by rw [hwe]; exact set10_below H17.out (by omega) (.int .i64 0) (.slice qr6 4 4) (.slice qm7 vn vn) (.slice none 0 0) (.int .i64 0) (.slice none 0 0) (.int .i64 0) (.int .i64 0) (.slice none 0 0) (.slice none 0 0))
        have hne : ∀ k, k ≠ w.heap.size + 1 → we.heap[k]? = w17.heap[k]? := fun k hk => by rw [hwe, heap_setCell_other _ _ _ _ hk, heap_setCell_other _ _ _ _ hk, heap_setCell_other _ _ _ _ hk, heap_setCell_other _ _ _ _ hk, heap_setCell_other _ _ _ _ hk, heap_setCell_other _ _ _ _ hk, heap_setCell_other _ _ _ _ hk, heap_setCell_other _ _ _ _ hk, heap_setCell_other _ _ _ _ hk, heap_setCell_other _ _ _ _ hk]
        have OR9 := Lib.hid (own_same R17.out (fun g hg => hne g (fun h => own_offZ (T := 58) (by decide) R17.out Z17.out (h ▸ hg))))
        have OM9 := Lib.hid (own_same M17.out (fun g hg => hne g (fun h => own_offZ (T := 58) (by decide) M17.out Z17.out (h ▸ hg))))
        clear hne
        skip
        rw [← hwe]
        clear hwe d0 d1 d2 d3 d4 d5 d6 d7 d8 d9 f0 f1 f2 f3 f4 f5 f6 f7 f8 f9
        refine ⟨late_s (by kernel_rfl), done_s (by kernel_rfl) ?_ _⟩
        obtain ⟨d0, d1, d2, d3, d4, d5, d6, d7, d8, d9⟩ := cell10_row D2.out
        go_wp2
        refine bodyPost_ret (v := .agg #[.int .i64 0, .slice qr6 4 4, .slice qm7 vn vn, .slice none 0 0, .int .i64 0, .slice none 0 0, .int .i64 0, .int .i64 0, .slice none 0 0, .slice none 0 0]) (by simp [results, Try.results39, go_sem, d0, d1, d2, d3, d4, d5, d6, d7, d8, d9]) rfl ?_
        rw [HW.out]
        exact sp_made BE.out OR9.out OM9.out APx.out
    · skip
      obtain ⟨gb8, hgb8⟩ : ∃ g, g = wd.heap.size := ⟨_, rfl⟩
      obtain ⟨w18, hw18⟩ : ∃ W, W = wd.alloc (.cells #[.int .i64 0, .int .i64 vw, .int .i64 0, .string ByteArray.empty, .slice none 0 0] 87) := ⟨_, rfl⟩
      have hb : Below wd.heap.size wd w18 := by rw [hw18]; exact (Below.refl _ _).alloc (Nat.le_refl _) _
      have B18 := Lib.hid (show w18.heap[gb8]? = some (.cells #[.int .i64 0, .int .i64 vw, .int .i64 0, .string ByteArray.empty, .slice none 0 0] 87 (0, 0)) by rw [hw18, hgb8]; exact heap_alloc_new _ _)
      have T18 := Lib.hid ((hb.block _ (row_len Td.out)).trans Td.out)
      have X18 := Lib.hid ((hb.block _ (row_len Xd.out)).trans Xd.out)
      have Z18 := Lib.hid ((hb.block _ (row_len Zd.out)).trans Zd.out)
      have H18 := Lib.hid (Hd.out.trans (hb.mono Hd.out.size))
      clear hb
      go_wp2
      rw [← hw18, ← hgb8]
      clear hw18 hgb8
      refine ⟨fun _ => ⟨T18.out, X18.out⟩, ?_⟩
      refine one_s (i := 1) (by kernel_rfl) (op_list rfl ?_)
      obtain ⟨ga9, hga9⟩ : ∃ g, g = w18.heap.size := ⟨_, rfl⟩
      obtain ⟨w19, hw19⟩ : ∃ W, W = w18.alloc (.cells #[.int .i64 0, .int .i64 vw, .int .i64 0, .string ByteArray.empty, .slice none 0 0] 87) := ⟨_, rfl⟩
      have hb : Below w18.heap.size w18 w19 := by rw [hw19]; exact (Below.refl _ _).alloc (Nat.le_refl _) _
      have A19 := Lib.hid (show w19.heap[ga9]? = some (.cells #[.int .i64 0, .int .i64 vw, .int .i64 0, .string ByteArray.empty, .slice none 0 0] 87 (0, 0)) by rw [hw19, hga9]; exact heap_alloc_new _ _)
      have T19 := Lib.hid ((hb.block _ (row_len T18.out)).trans T18.out)
      have X19 := Lib.hid ((hb.block _ (row_len X18.out)).trans X18.out)
      have Z19 := Lib.hid ((hb.block _ (row_len Z18.out)).trans Z18.out)
      have H19 := Lib.hid (H18.out.trans (hb.mono H18.out.size))
      have B19 := Lib.hid ((hb.block _ (row_len B18.out)).trans B18.out)
      clear hb
      go_wp2
      rw [← hw19, ← hga9]
      clear hw19 hga9
      refine ⟨fun _ => ⟨T19.out, X19.out⟩, ?_⟩
      refine one_s (i := 2) (by kernel_rfl) (op_list rfl ?_)
      go_wp2_with fail
      refine (K4.out _ _ A19.out H19.out.size).mono ?_
      rintro e w20 ⟨qr10, rfl, ho, hb, hlo⟩
      have R20 := Lib.hid ho
      have Jr10 := Lib.hid hlo
      clear ho hlo
      have T20 := Lib.hid ((hb.block _ (row_len T19.out)).trans T19.out)
      have X20 := Lib.hid ((hb.block _ (row_len X19.out)).trans X19.out)
      have Z20 := Lib.hid ((hb.block _ (row_len Z19.out)).trans Z19.out)
      have H20 := Lib.hid (H19.out.trans (hb.mono H19.out.size))
      have A20 := Lib.hid ((hb.block _ (row_len A19.out)).trans A19.out)
      have B20 := Lib.hid ((hb.block _ (row_len B19.out)).trans B19.out)
      clear hb
      go_wp2
      refine ⟨fun _ => ⟨T20.out, X20.out⟩, ?_⟩
      refine one_s (i := 7) (by kernel_rfl) (op_list rfl ?_)
      go_wp2_with fail
      refine (KN.out _ _ B20.out H20.out.size).mono ?_
      rintro e w21 ⟨qm11, rfl, ho, hb, hlo⟩
      have M21 := Lib.hid ho
      have Jm11 := Lib.hid hlo
      clear ho hlo
      have APx : Hid (∀ g ∈ (Value.slice qr10 4 4).ownBlock.toList, g ∉ (Value.slice qm11 vn vn).ownBlock.toList) := Lib.hid (fun g h1 h2 => by have h3 := (own_lt R20.out h1).2; have h4 := (Jm11.out g h2).1; omega)
      have T21 := Lib.hid ((hb.block _ (row_len T20.out)).trans T20.out)
      have X21 := Lib.hid ((hb.block _ (row_len X20.out)).trans X20.out)
      have Z21 := Lib.hid ((hb.block _ (row_len Z20.out)).trans Z20.out)
      have H21 := Lib.hid (H20.out.trans (hb.mono H20.out.size))
      have A21 := Lib.hid ((hb.block _ (row_len A20.out)).trans A20.out)
      have B21 := Lib.hid ((hb.block _ (row_len B20.out)).trans B20.out)
      have R21 := Lib.hid (own_keep R20.out hb)
      clear hb
      go_wp2
      refine ⟨fun _ => ⟨T21.out, X21.out⟩, ?_⟩
      refine one_s (i := 8) (by kernel_rfl) (op_list rfl ?_)
      go_wp2
      refine ⟨fun _ => ⟨T21.out, X21.out⟩, ?_⟩
      refine one_s (i := 9) (by kernel_rfl) (op_list rfl ?_)
      have hs2 := Lib.hid H21.out.size
      obtain ⟨d0, d1, d2, d3, d4, d5, d6, d7, d8, d9⟩ := cell10_row Z21.out
      obtain ⟨f0, f1, f2, f3, f4, f5, f6, f7, f8, f9⟩ := froz10_row Z21.out
      go_wp2
      obtain ⟨we, hwe⟩ : ∃ W9, W9 = ((((((((((w21.setCell ⟨w.heap.size + 1, 0, none⟩ (.int .i64 0)).setCell ⟨w.heap.size + 1, 1, none⟩ (.slice qr10 4 4)).setCell ⟨w.heap.size + 1, 2, none⟩ (.slice qm11 vn vn)).setCell ⟨w.heap.size + 1, 3, none⟩ (.slice none 0 0)).setCell ⟨w.heap.size + 1, 4, none⟩ (.int .i64 0)).setCell ⟨w.heap.size + 1, 5, none⟩ (.slice none 0 0)).setCell ⟨w.heap.size + 1, 6, none⟩ (.int .i64 0)).setCell ⟨w.heap.size + 1, 7, none⟩ (.int .i64 0)).setCell ⟨w.heap.size + 1, 8, none⟩ (.slice none 0 0)).setCell ⟨w.heap.size + 1, 9, none⟩ (.slice none 0 0)) := ⟨_, rfl⟩
      have D2 := Lib.hid (show we.heap[w.heap.size + 1]? = some (.cells #[.int .i64 0, .slice qr10 4 4, .slice qm11 vn vn, .slice none 0 0, .int .i64 0, .slice none 0 0, .int .i64 0, .int .i64 0, .slice none 0 0, .slice none 0 0] 58 (0, 0)) by rw [hwe]; exact set10_row Z21.out (.int .i64 0) (.slice qr10 4 4) (.slice qm11 vn vn) (.slice none 0 0) (.int .i64 0) (.slice none 0 0) (.int .i64 0) (.int .i64 0) (.slice none 0 0) (.slice none 0 0))
      have BE := Lib.hid (show Below w.heap.size w we by rw [hwe]; exact set10_below H21.out (by omega) (.int .i64 0) (.slice qr10 4 4) (.slice qm11 vn vn) (.slice none 0 0) (.int .i64 0) (.slice none 0 0) (.int .i64 0) (.int .i64 0) (.slice none 0 0) (.slice none 0 0))
      have hne : ∀ k, k ≠ w.heap.size + 1 → we.heap[k]? = w21.heap[k]? := fun k hk => by rw [hwe, heap_setCell_other _ _ _ _ hk, heap_setCell_other _ _ _ _ hk, heap_setCell_other _ _ _ _ hk, heap_setCell_other _ _ _ _ hk, heap_setCell_other _ _ _ _ hk, heap_setCell_other _ _ _ _ hk, heap_setCell_other _ _ _ _ hk, heap_setCell_other _ _ _ _ hk, heap_setCell_other _ _ _ _ hk, heap_setCell_other _ _ _ _ hk]
      have OR9 := Lib.hid (own_same R21.out (fun g hg => hne g (fun h => own_offZ (T := 58) (by decide) R21.out Z21.out (h ▸ hg))))
      have OM9 := Lib.hid (own_same M21.out (fun g hg => hne g (fun h => own_offZ (T := 58) (by decide) M21.out Z21.out (h ▸ hg))))
      clear hne
      skip
      rw [← hwe]
      clear hwe d0 d1 d2 d3 d4 d5 d6 d7 d8 d9 f0 f1 f2 f3 f4 f5 f6 f7 f8 f9
      refine ⟨late_s (by kernel_rfl), done_s (by kernel_rfl) ?_ _⟩
      obtain ⟨d0, d1, d2, d3, d4, d5, d6, d7, d8, d9⟩ := cell10_row D2.out
      go_wp2
      refine bodyPost_ret (v := .agg #[.int .i64 0, .slice qr10 4 4, .slice qm11 vn vn, .slice none 0 0, .int .i64 0, .slice none 0 0, .int .i64 0, .int .i64 0, .slice none 0 0, .slice none 0 0]) (by simp [results, Try.results39, go_sem, d0, d1, d2, d3, d4, d5, d6, d7, d8, d9]) rfl ?_
      rw [HW.out]
      exact sp_made BE.out OR9.out OM9.out APx.out
theorem sp_small (vw vm vi : Int) (L : List InsR) : ((spV vw vm vi L).R.nodes ≤ 2097152 ∧ (spV vw vm vi L).M.nodes ≤ 2097152 ∧ (spV vw vm vi L).S.length ≤ 2097152 ∧ (spV vw vm vi L).O.nodes ≤ 2097152 ∧ (spV vw vm vi L).C.nodes ≤ 2097152 ∧ (spV vw vm vi L).U.length ≤ 2097152) ∧ (spV vw vm vi L).marks ≤ 40 := by
  unfold spV PaR.marks
  cases hb : prB vw vm vi L
  · simp [zeroPa, Fo.nodes]
  · obtain ⟨⟨-, -, hm1, hm6, -, -, -, -, -⟩, -⟩ := pr_in hb
    simp only [if_true, repF_nodes, Fo.nodes, List.length_nil]
    omega
end Go.Proofs.Ytbdkningngpgcaa
