/- The marks that the laws have written into terms, read again: heldTermS and heldTerm. No condition. -/
import Derived.Test.YtbdkningngpgcaaMkT
namespace Go.Proofs.Ytbdkningngpgcaa
open Go.ChangeShapes Go.WideShapes Go.ChangeAt Go.RowKit
theorem Fo.mkF_at : ∀ (F : Fo) (j : Nat) {op wd n : Int} {nm : ByteArray} {kd : Fo} {k c : Nat}, F.At j op wd n nm kd → c = k + 4 * (F.take j).nodes → (F.mkF k).At j (c : Int) ((c : Int) + 1) ((c : Int) + 1 + 1) (mk (c + 3)) (kd.mkF (c + 4))
  | .nil, _, _, _, _, _, _, _, _, h, _ => h.elim
  | .cons _ _ _ _ _ r, 0, _, _, _, _, _, k, c, ⟨rfl, rfl, rfl, rfl, rfl⟩, hc => by
    rw [Fo.take_zero] at hc
    simp only [Fo.nodes, Nat.mul_zero, Nat.add_zero] at hc
    subst hc
    exact ⟨rfl, rfl, rfl, rfl, rfl⟩
  | .cons _ _ _ _ kd0 r, j + 1, _, _, _, _, _, k, c, h, hc => by
    refine Fo.mkF_at r j (k := k + 4 + 4 * kd0.nodes) h ?_
    simp only [Fo.take, Fo.nodes] at hc
    omega
def HeldC (F : Fo) : Prop := ∀ (v : Value) (k : Nat) (w : World), ((F.mkF k).cs 87).Is w 0 5 F.len v → 1 ≤ k → k + 4 * F.nodes ≤ 1000000000000 → Calls Try.prog 79 #[v, .int .i64 k] w fun e w' => e = .returned (.int .i64 ((k + 4 * F.nodes : Nat) : Int)) ∧ Below w.heap.size w w'
set_option maxRecDepth 100000 in
set_option maxHeartbeats 1000000 in
theorem held_loop (F : Fo) (hF : F.AllK HeldC) : HeldC F := by
  intro v k w hv h1 hk
  have hml : maxLen = 9223372036854775807 := rfl
  have hnl := F.len_le
  have hv0 : ((F.mkF k).cs 87).Is w 0 5 (F.mkF k).len v := by rw [Fo.mkF_len]; exact hv
  rcases Fo.is_cases hv0 with ⟨h0, q, cap, rfl⟩ | ⟨hpos, b, o, cap, ys, rfl, _, _, _, hbl, hvs, hr⟩
  · have hF0 : F = .nil := by
      rw [Fo.mkF_len] at h0
      cases F with
      | nil => rfl
      | cons op wd n nm kd r => simp [Fo.len] at h0
    subst hF0
    exact (hd0S _ _ _ _).mono fun e w' ⟨he, hw⟩ => by subst hw; exact ⟨he, Below.refl _ _⟩
  · have hln : F.len ≤ 1000000000000 := by omega
    have HI := Lib.hid (fun j (hj : j < (F.mkF k).len) => Fo.nth (F.mkF k) hvs hr j hj)
    have HK := Lib.hid hF
    have HS := Lib.hid (Fo.at_some F)
    have HT := Lib.hid (fun j op wd n nm kd (h : F.At j op wd n nm kd) => Fo.take_nodes h)
    rw [Fo.mkF_len] at HI
    rw [Fo.mkF_len] at hpos
    rw [Fo.mkF_len]
    have hend : Hid (k + 4 * (F.take F.len).nodes = k + 4 * F.nodes) := Lib.hid (by rw [Fo.take_all])
    clear hF hv hv0 hvs hr
    generalize hlen : F.len = n at *
    clear hlen
    go_enter Try.func79, Try.ntmps79
    go_wp2
    go_loopw [1, 5] (fun m i wr => ∃ (j c : Nat), j ≤ n ∧ i = .int .i64 j ∧ m = .int .i64 c ∧ c = k + 4 * (F.take j).nodes ∧ Below w.heap.size w wr) (fun _ i _ => n - (intOf i).toNat)
    case atStart => exact ⟨0, k, Nat.zero_le _, rfl, rfl, by rw [Fo.take_zero]; rfl, Below.refl _ _⟩
    case round =>
      obtain ⟨j, c, hj, rfl, rfl, hc, hb⟩ := hrel
      by_cases hjn : j < n
      · obtain ⟨op, wd, nn, nm, kd, hat⟩ := HS.out j hjn
        obtain ⟨ht1, ht2⟩ := HT.out _ _ _ _ _ _ hat
        have hck : c + 4 * kd.nodes + 4 ≤ 1000000000000 := by omega
        have hk1 := Fo.at_allK F j hat HK.out
        obtain ⟨op', wd', nn', nm', kd', sv, hat', his, hrr⟩ := HI.out j hjn
        obtain ⟨rfl, rfl, rfl, rfl, rfl⟩ := Fo.at_fun _ _ hat' (Fo.mkF_at F j hat hc)
        have hrr := rangeAt_below hb hrr
        have c0 : wr.cell? ⟨b, o + j * 5, none⟩ = some (.int .i64 (c : Int)) := hrr 0 _ rfl
        have c1 : wr.cell? ⟨b, o + j * 5 + 1, none⟩ = some (.int .i64 ((c : Int) + 1)) := hrr 1 _ rfl
        have c2 : wr.cell? ⟨b, o + j * 5 + 2, none⟩ = some (.int .i64 ((c : Int) + 1 + 1)) := hrr 2 _ rfl
        have c3 : wr.cell? ⟨b, o + j * 5 + 3, none⟩ = some (.string (mk (c + 3))) := hrr 3 _ rfl
        have c4 : wr.cell? ⟨b, o + j * 5 + 4, none⟩ = some sv := hrr 4 _ rfl
        have hbl2 : b < wr.heap.size := Nat.lt_of_lt_of_le hbl hb.size
        have SO := Lib.hid (fun W (hW : Below w.heap.size w W) => hk1 sv (c + 4) W (by rw [← Fo.mkF_len kd (c + 4)]; exact his.below hW) (by omega) (by omega))
        have HB := Lib.hid hb
        have HC := Lib.hid (show c + 4 + 4 * kd.nodes = k + 4 * (F.take (j + 1)).nodes by omega)
        have MT := Lib.hid (fun W => mark_text (c + 3) (by omega) (by omega) W)
        have hcast : ((c + 3 : Nat) : Int) = (c : Int) + 1 + 1 + 1 := by omega
        rw [hcast] at MT
        have hki : (j : Int) < (n : Int) := by omega
        clear hb hrr hat hat' his hk1 ht1 ht2 hc hcast
        go_wp2
        go_region_with (go_at_call 107; refine (MT.out _).mono ?_; rintro e w1 ⟨rfl, hb1⟩; have c3 : w1.cell? ⟨b, o + j * 5 + 3, none⟩ = some (.string (mk (c + 3))) := (hb1.cell (p := ⟨b, o + j * 5 + 3, none⟩) hbl2).trans c3; have c4 : w1.cell? ⟨b, o + j * 5 + 4, none⟩ = some sv := (hb1.cell (p := ⟨b, o + j * 5 + 4, none⟩) hbl2).trans c4; have HB1 := Lib.hid (HB.out.drew.trans (hb1.mono HB.out.drew.size)); clear hb1)
        all_goals
          go_wp2_with fail
          rw [show ((c : Int) + 1 + 1 + 1 + 1) = ((c + 4 : Nat) : Int) by omega]
          refine (SO.out _ HB1.out).mono ?_
          rintro e w2 ⟨rfl, hb2⟩
          have HB2 := Lib.hid (HB1.out.trans (hb2.mono HB1.out.size))
          clear hb2
          go_wp2
          go_roundw
          case rel => exact ⟨j + 1, c + 4 + 4 * kd.nodes, by omega, by go_num, by go_num, HC.out, HB2.out⟩
          case measure => simp [intOf]; omega
      · have ej : j = n := by omega
        have HB := Lib.hid hb
        have HC := Lib.hid hc
        clear hb hc
        go_wp2
        go_ret
        exact ⟨by rw [HC.out, ej, ← hend.out]; rfl, HB.out⟩
theorem held_any : ∀ F : Fo, HeldC F := Fo.every held_loop
end Go.Proofs.Ytbdkningngpgcaa
