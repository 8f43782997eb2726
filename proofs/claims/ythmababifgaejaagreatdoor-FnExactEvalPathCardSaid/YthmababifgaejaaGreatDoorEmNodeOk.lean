/- l02Node: nodes that pass the specification's first test. l02Node: variables, cuts and constants that pass the first test. l02Node: cuts that pass the first test. -/
import Derived.Test.YthmababifgaejaaGreatDoorEmGWk
import Derived.BigQuiet
namespace Go.Proofs.YthmababifgaejaaGreatDoor
open Go.ChangeShapes Go.WideShapes Go.ChangeAt Go.RowKit
/-- the specification's check of a node and of all below it -/
def NodeC (k : Fo) : Prop := ∀ (op wd n : Int) (nm : ByteArray) (s : Value) (w : World), (k.cs 64).Is w 0 5 k.len s → nm.size ≤ 1048576 → k.cost ≤ 1048576 →
  Calls Tryz.prog 105 #[.agg #[.int .i64 op, .int .i64 wd, .int .i64 n, .string nm, s]] w fun e w' => e = .returned (.bool (fitB op wd n nm k.ws && k.allB)) ∧ Below w.heap.size w w'
theorem drop_allB (F : Fo) (j : Nat) {op wd n : Int} {nm : ByteArray} {k : Fo} (h : F.At j op wd n nm k) : (F.drop j).allB = ((fitB op wd n nm k.ws && k.allB) && (F.drop (j + 1)).allB) := by
  rw [Fo.drop_at F j h]; rfl
theorem wd_range {wd : Int} (h : wdB wd = true) : 1 ≤ wd ∧ wd ≤ 16 := by
  rcases wd_cases wd with ⟨_, he⟩ | ⟨_, _, he⟩ | ⟨h1, h2, _⟩
  · rw [he] at h; cases h
  · rw [he] at h; cases h
  · exact ⟨h1, h2⟩
theorem allB_ws : ∀ (F : Fo), F.allB = true → ∀ x ∈ F.ws, 1 ≤ x ∧ x ≤ 16
  | .nil, _, x, h => by cases h
  | .cons op wd n nm k r, h, x, hx => by
    simp only [Fo.allB, Bool.and_eq_true] at h
    rcases List.mem_cons.1 hx with rfl | hx
    · have hf := h.1.1
      unfold fitB at hf
      simp only [Bool.and_eq_true] at hf
      exact wd_range hf.1.1.1.1
    · exact allB_ws r h.2 x hx
theorem in_true {a lo hi : Int} (h : lo ≤ a ∧ a ≤ hi) : (decide (lo ≤ a) && decide (a ≤ hi)) = true := by simp [h.1, h.2]
theorem in_false {a lo hi : Int} (h : a < lo ∨ hi < a) : (decide (lo ≤ a) && decide (a ≤ hi)) = false := by
  rcases h with h | h
  · rw [decide_eq_false (by omega : ¬ lo ≤ a), Bool.false_and]
  · rw [decide_eq_false (by omega : ¬ a ≤ hi), Bool.and_false]
theorem fit_mis {op wd n : Int} {nm : ByteArray} {l : List Int} (h : (l.length : Int) ≠ kc op) : fitB op wd n nm l = false := by
  unfold fitB; rw [decide_eq_false h]; simp
theorem fit_eq {op wd n : Int} {nm : ByteArray} {l : List Int} (hw : wdB wd = true) (h : (l.length : Int) = kc op) (hn : (decide (n = 0) || decide (op = 0) || decide (op = 19)) = true) (hnm : (nm.toList.isEmpty || decide (op = 22)) = true) :
    fitB op wd n nm l = if op = 0 then wkB wd n else if op = 22 then nmB nm else wfB op wd n l := by
  unfold fitB; rw [hw, decide_eq_true h, hn, hnm]; simp
theorem kc_0 : kc 0 = 0 := by decide
theorem kc_22 : kc 22 = 0 := by decide
theorem kc_17 : kc 17 = 3 := by decide
theorem kc_18 : kc 18 = 2 := by decide
theorem kc_un {op : Int} (h : op = 1 ∨ op = 2 ∨ op = 19 ∨ op = 20 ∨ op = 21) : kc op = 1 := by unfold kc; rw [if_neg (by omega), if_pos h]
theorem kc_bin {op : Int} (h : 3 ≤ op ∧ op ≤ 16) : kc op = 2 := by unfold kc; rw [if_neg (by omega), if_neg (by omega), if_neg (by omega), if_pos (by omega)]
theorem kc_none {op : Int} (h : op < 0 ∨ 22 < op) : kc op = -1 := by unfold kc; rw [if_neg (by omega), if_neg (by omega), if_neg (by omega), if_neg (by omega)]
theorem ws1 {l : List Int} {a : Int} (h : l.length = 1) (h0 : l[0]? = some a) : l = [a] := by
  match l, h, h0 with
  | [x], _, h0 => cases h0; rfl
theorem ws2 {l : List Int} {a b : Int} (h : l.length = 2) (h0 : l[0]? = some a) (h1 : l[1]? = some b) : l = [a, b] := by
  match l, h, h0, h1 with
  | [x, y], _, h0, h1 => cases h0; cases h1; rfl
theorem ws3 {l : List Int} {a b c : Int} (h : l.length = 3) (h0 : l[0]? = some a) (h1 : l[1]? = some b) (h2 : l[2]? = some c) : l = [a, b, c] := by
  match l, h, h0, h1, h2 with
  | [x, y, z], _, h0, h1, h2 => cases h0; cases h1; cases h2; rfl
set_option maxRecDepth 100000 in
set_option maxHeartbeats 8000000 in
theorem nd_g2 (wd n : Int) (s : Value) (F : Fo) (hF : F.AllK NodeC) (w : World) (his : (F.cs 64).Is w 0 5 F.len s) (hcost : F.cost ≤ 1048576) (hw : wdB wd = true) (hn0 : n ≠ 0) :
    Calls Tryz.prog 105 #[.agg #[.int .i64 0, .int .i64 wd, .int .i64 n, .string ⟨#[]⟩, s]] w fun e w' => e = .returned (.bool (fitB 0 wd n ⟨#[]⟩ F.ws && F.allB)) ∧ Below w.heap.size w w' := by
  have hml : maxLen = 9223372036854775807 := rfl
  have hFl := F.len_le
  have hFn := F.nodes_le
  have hFc := F.cost_eq
  have hwr := wd_range hw
  have HV := Lib.hid his
  obtain ⟨_, ⟨_, q, cap, rfl, _⟩, _⟩ := his
  obtain ⟨W1, hW1⟩ : ∃ W1, W1 = w.alloc (.cells #[.int .i64 0, .int .i64 wd, .int .i64 n, .string ⟨#[]⟩, .slice q F.len cap] 64) := ⟨_, rfl⟩
  have HBW : Hid (Below w.heap.size w W1) := Lib.hid (by rw [hW1]; exact (Below.refl _ _).alloc (Nat.le_refl _) _)
  have hsW : w.heap.size < W1.heap.size := by rw [hW1]; simp
  have X1 : Hid (Cell5 W1 w.heap.size (.int .i64 0) (.int .i64 wd) (.int .i64 n) (.string ⟨#[]⟩) (.slice q F.len cap)) := Lib.hid (by rw [hW1]; exact cell5_alloc _ _ _ _ _ _ _)
  have HI : Hid (∀ j, j < F.len → ∃ b o, q = some ⟨b, o, none⟩ ∧ b < w.heap.size ∧ ∃ op wd n nm k v, F.At j op wd n nm k ∧ F.ws[j]? = some wd ∧ (k.cs 64).Is w 0 5 k.len v ∧ w.rangeAt b (o + j * 5) [.int .i64 op, .int .i64 wd, .int .i64 n, .string nm, v]) := Lib.hid (fun j hj => by
    rcases Fo.is_cases HV.out with ⟨h0, _⟩ | ⟨hpos, b, o, cap', ys, hq, _, _, _, hbl, hvs, hr⟩
    · omega
    · injection hq with e1 e2 e3
      obtain ⟨op, wd, n, nm, k, v, h1, h2, h3⟩ := Fo.nth F hvs hr j hj
      obtain ⟨x, hx, cx⟩ := width_at hvs hr j hj
      have : w.cell? ⟨b, o + j * 5 + 1, none⟩ = some (.int .i64 wd) := h3 1 _ rfl
      rw [cx] at this
      cases this
      exact ⟨b, o, e1, hbl, op, _, n, nm, k, v, h1, hx, h2, h3⟩)
  have HK := Lib.hid hF
  have HD := Lib.hid F.drop_all
  have HD0 := Lib.hid F.drop_zero
  have HA := Lib.hid (allB_ws F)
  have KW := Lib.hid (fun W => s_wd wd W)
  rw [hw] at KW
  obtain ⟨rb, hrb⟩ : ∃ rb, (fitB 0 wd n ⟨#[]⟩ F.ws && F.allB) = rb := ⟨_, rfl⟩
  have HRB := Lib.hid hrb
  rw [hrb]
  clear hF hrb
  have hn_0 : ((n : Int) == 0) = false := by simpa using hn0
  have gn_0 : ((n : Int) != 0) = true := by simpa using hn0
  have KO := Lib.hid (fun W => s_wk wd n W)
  go_enter Tryz.func105, Tryz.ntmps105
  go_wp2_with (go_at_call 57; refine (KW.out _).mono ?_; rintro e w1 ⟨rfl, rfl⟩)
  rw [← hW1]
  go_loopw [43] (fun i wr => ∃ j : Nat, j ≤ F.len ∧ i = .int .i64 j ∧ (F.drop j).allB = F.allB ∧ Below W1.heap.size W1 wr) (fun i _ => F.len - (intOf i).toNat)
  case atStart => exact ⟨0, Nat.zero_le _, rfl, by rw [HD0.out], Below.refl _ _⟩
  case round =>
    clear hW1
    obtain ⟨j, hj, rfl, hab, hb⟩ := hrel
    have HB := Lib.hid hb
    have hsz := hb.size
    by_cases hjn : j < F.len
    · obtain ⟨b, o, rfl, hbl, op', wd', n', nm', k, v, hat, _, his, hrr⟩ := HI.out j hjn
      rw [drop_allB F j hat] at hab
      have hpd := Fo.at_paid F j hat
      have hk := Fo.at_allK F j hat HK.out
      have hbw := HBW.out.trans (hb.mono (by omega))
      have his := his.below hbw
      have hrr := rangeAt_below hbw hrr
      have HIS := Lib.hid his
      obtain ⟨_, ⟨_, q', cap2, rfl, _⟩, _⟩ := his
      have c0 : wr.cell? ⟨b, o + j * 5, none⟩ = some (.int .i64 op') := hrr 0 _ rfl
      have c1 : wr.cell? ⟨b, o + j * 5 + 1, none⟩ = some (.int .i64 wd') := hrr 1 _ rfl
      have c2 : wr.cell? ⟨b, o + j * 5 + 2, none⟩ = some (.int .i64 n') := hrr 2 _ rfl
      have c3 : wr.cell? ⟨b, o + j * 5 + 3, none⟩ = some (.string nm') := hrr 3 _ rfl
      have c4 : wr.cell? ⟨b, o + j * 5 + 4, none⟩ = some (.slice q' k.len cap2) := hrr 4 _ rfl
      have SO := Lib.hid (fun W (hW : Below wr.heap.size wr W) => hk op' wd' n' nm' _ W (HIS.out.below hW) (by omega) (by omega))
      have hki : (j : Int) < (F.len : Int) := by omega
      generalize hg : (fitB op' wd' n' nm' k.ws && k.allB) = kb at *
      have HAB := Lib.hid hab
      clear hb hrr hat hk hpd HI hbw hab hg
      cases kb with
      | false =>
        have hrb0 : Hid (rb = false) := Lib.hid (by rw [← HRB.out, ← HAB.out]; simp)
        go_wp2_with (go_at_call 105; refine (SO.out _ ((Below.refl _ _).alloc (Nat.le_refl _) _)).mono ?_; rintro e w3 ⟨rfl, hb3⟩)
        go_ret
        exact ⟨by rw [hrb0.out]; rfl, HBW.out.trans ((HB.out.trans (((Below.refl wr.heap.size wr).alloc (Nat.le_refl _) _ |>.trans (hb3.mono (by simp))).mono hsz)).mono (by omega))⟩
      | true =>
        go_wp2_with (go_at_call 105; refine (SO.out _ ((Below.refl _ _).alloc (Nat.le_refl _) _)).mono ?_; rintro e w3 ⟨rfl, hb3⟩)
        go_roundw
        case rel => exact ⟨j + 1, by omega, by go_num, by rw [← HAB.out]; simp, HB.out.trans (((Below.refl wr.heap.size wr).alloc (Nat.le_refl _) _ |>.trans (hb3.mono (by simp))).mono hsz)⟩
        case measure => simp [intOf]; omega
    · have ej : j = F.len := by omega
      have hall : F.allB = true := by rw [← hab, ej, HD.out]; rfl
      have HRF : Hid (rb = fitB 0 wd n ⟨#[]⟩ F.ws) := Lib.hid (by rw [← HRB.out, hall, Bool.and_true])
      have HWS := Lib.hid (HA.out hall)
      have hwl := F.ws_len
      have hnj : ¬ ((j : Int) < (F.len : Int)) := by omega
      have X2 := Lib.hid (X1.out.below hb)
      obtain ⟨x0, x1, x2, x3, x4⟩ := X2.out
      clear hb hab ej HRB HA HK HD HD0 hall
      obtain ⟨wk, hwk⟩ : ∃ wk, wk = wr := ⟨_, rfl⟩
      subst hwk
      go_wp2
      go_loopw [7] (fun i wq => ∃ (j : Nat) (a0 a1 a2 : Int), j ≤ F.len ∧ j ≤ 3 ∧ i = .int .i64 j ∧ wq.heap[wk.heap.size]? = some (.cells #[.int .i64 a0, .int .i64 a1, .int .i64 a2] 3 (0, 0)) ∧ Below W1.heap.size W1 wq ∧ (0 < j → F.ws[0]? = some a0) ∧ (1 < j → F.ws[1]? = some a1) ∧ (2 < j → F.ws[2]? = some a2)) (fun i _ => 3 - (intOf i).toNat)
      case atStart => exact ⟨0, 0, 0, 0, Nat.zero_le _, Nat.zero_le _, rfl, heap_alloc_new wk _, HB.out.alloc hsz _, fun h => by omega, fun h => by omega, fun h => by omega⟩
      case round =>
        clear x0 x1 x2 x3 x4 hj hnj
        obtain ⟨i, a0, a1, a2, hi, hi3, rfl, hrow, hbq, hx0, hx1, hx2⟩ := hrel
        obtain ⟨x0, x1, x2, x3, x4⟩ := X1.out.below hbq
        have y0 : wr.cell? ⟨wk.heap.size, 0, none⟩ = some (.int .i64 a0) := cell_of_row wr _ 0 _ _ _ hrow
        have y1 : wr.cell? ⟨wk.heap.size, 1, none⟩ = some (.int .i64 a1) := cell_of_row wr _ 1 _ _ _ hrow
        have y2 : wr.cell? ⟨wk.heap.size, 2, none⟩ = some (.int .i64 a2) := cell_of_row wr _ 2 _ _ _ hrow
        have z0 := frozen_of_row wr wk.heap.size 0 _ _ hrow
        have z1 := frozen_of_row wr wk.heap.size 1 _ _ hrow
        have z2 := frozen_of_row wr wk.heap.size 2 _ _ hrow
        have HQ := Lib.hid hbq
        have hbw := HBW.out.trans (hbq.mono (by omega))
        have FR := Lib.hid hbw
        have HROW := Lib.hid hrow
        clear hrow hbq
        by_cases hgo : i < F.len ∧ i < 3
        · obtain ⟨hin, hi4⟩ := hgo
          obtain ⟨b, o, rfl, hbl, op', wd', n', nm', k, v, hat, hws, his, hrr⟩ := HI.out i hin
          have hrr := rangeAt_below hbw hrr
          have c1 : wr.cell? ⟨b, o + i * 5 + 1, none⟩ = some (.int .i64 wd') := hrr 1 _ rfl
          have hin' : (i : Int) < (F.len : Int) := by omega
          clear hbw hrr his hat HI
          rcases (show i = 0 ∨ i = 1 ∨ i = 2 by omega) with rfl | rfl | rfl
          · have c1 : wr.cell? ⟨b, o + 1, none⟩ = some (.int .i64 wd') := by simpa using c1
            go_wp2
            go_roundw
            case rel => exact ⟨1, wd', a1, a2, by omega, by omega, by go_num, heap_setCell_same wr _ 0 _ _ _ HROW.out, HQ.out.setCell hsz _, fun _ => hws, fun h => by omega, fun h => by omega⟩
            case measure => simp [intOf]
          · have c1 : wr.cell? ⟨b, o + 5 + 1, none⟩ = some (.int .i64 wd') := by simpa using c1
            go_wp2
            go_roundw
            case rel => exact ⟨2, a0, wd', a2, by omega, by omega, by go_num, heap_setCell_same wr _ 1 _ _ _ HROW.out, HQ.out.setCell hsz _, fun _ => hx0 (by omega), fun _ => hws, fun h => by omega⟩
            case measure => simp [intOf]
          · have c1 : wr.cell? ⟨b, o + 10 + 1, none⟩ = some (.int .i64 wd') := by simpa using c1
            go_wp2
            go_roundw
            case rel => exact ⟨3, a0, a1, wd', by omega, by omega, by go_num, heap_setCell_same wr _ 2 _ _ _ HROW.out, HQ.out.setCell hsz _, fun _ => hx0 (by omega), fun _ => hx1 (by omega), fun _ => hws⟩
            case measure => simp [intOf]
        · clear hbw HI
          have hkc : kc 0 = 0 := kc_0
          by_cases hle : i = F.len
          · have hde : decide ((i : Int) < (F.len : Int)) = false := by simp; omega
            by_cases hkn : F.len = 0
            · have hkb : ((F.len : Int) == 0) = true := by rw [hkn]; rfl
              have hws : F.ws = [] := List.length_eq_zero_iff.1 (by omega)
              have hrr := HRF.out
              rw [hws, fit_eq hw (by rw [hkc]; rfl) (by simp) (by simp)] at hrr
              have hwi := HWS.out
              rw [hws] at hwi
              have RB : Hid (rb = wkB wd n) := Lib.hid (by rw [hrr]; rfl)
              clear hrr hwi hws
              go_wp2_with fail
              refine (KO.out _).mono ?_
              rintro e w1 ⟨rfl, rfl⟩
              go_wp2
              go_ret
              exact ⟨by rw [RB.out]; rfl, by first | exact FR.out | exact below_drewN FR.out _⟩
            · have hkb : ((F.len : Int) == 0) = false := by simp; omega
              have RB := Lib.hid (HRF.out.trans (fit_mis (by rw [hkc]; omega)))
              go_wp2
              go_ret
              exact ⟨by rw [RB.out]; rfl, by first | exact FR.out | exact below_drewN FR.out _⟩
          · have hde : decide ((i : Int) < 3) = false := by simp; omega
            have hdf : decide ((i : Int) < (F.len : Int)) = true := by simp; omega
            have hkb : ((F.len : Int) == 0) = false := by simp; omega
            have RB := Lib.hid (HRF.out.trans (fit_mis (by rw [hkc]; omega)))
            go_wp2
            go_ret
            exact ⟨by rw [RB.out]; rfl, by first | exact FR.out | exact below_drewN FR.out _⟩
end Go.Proofs.YthmababifgaejaaGreatDoor
namespace Go.Proofs.YthmababifgaejaaGreatDoor
open Go.ChangeShapes Go.WideShapes Go.ChangeAt Go.RowKit
set_option maxRecDepth 100000 in
set_option maxHeartbeats 8000000 in
theorem nd_g4 (wd : Int) (nm : ByteArray) (s : Value) (F : Fo) (hF : F.AllK NodeC) (w : World) (his : (F.cs 64).Is w 0 5 F.len s) (hsz : nm.size ≤ 1048576) (hcost : F.cost ≤ 1048576) (hw : wdB wd = true) (hnm : nm.toList.isEmpty = false) :
    Calls Tryz.prog 105 #[.agg #[.int .i64 22, .int .i64 wd, .int .i64 0, .string nm, s]] w fun e w' => e = .returned (.bool (fitB 22 wd 0 nm F.ws && F.allB)) ∧ Below w.heap.size w w' := by
  have hml : maxLen = 9223372036854775807 := rfl
  have hFl := F.len_le
  have hFn := F.nodes_le
  have hFc := F.cost_eq
  have hwr := wd_range hw
  have HV := Lib.hid his
  obtain ⟨_, ⟨_, q, cap, rfl, _⟩, _⟩ := his
  obtain ⟨W1, hW1⟩ : ∃ W1, W1 = w.alloc (.cells #[.int .i64 22, .int .i64 wd, .int .i64 0, .string nm, .slice q F.len cap] 64) := ⟨_, rfl⟩
  have HBW : Hid (Below w.heap.size w W1) := Lib.hid (by rw [hW1]; exact (Below.refl _ _).alloc (Nat.le_refl _) _)
  have hsW : w.heap.size < W1.heap.size := by rw [hW1]; simp
  have X1 : Hid (Cell5 W1 w.heap.size (.int .i64 22) (.int .i64 wd) (.int .i64 0) (.string nm) (.slice q F.len cap)) := Lib.hid (by rw [hW1]; exact cell5_alloc _ _ _ _ _ _ _)
  have HI : Hid (∀ j, j < F.len → ∃ b o, q = some ⟨b, o, none⟩ ∧ b < w.heap.size ∧ ∃ op wd n nm k v, F.At j op wd n nm k ∧ F.ws[j]? = some wd ∧ (k.cs 64).Is w 0 5 k.len v ∧ w.rangeAt b (o + j * 5) [.int .i64 op, .int .i64 wd, .int .i64 n, .string nm, v]) := Lib.hid (fun j hj => by
    rcases Fo.is_cases HV.out with ⟨h0, _⟩ | ⟨hpos, b, o, cap', ys, hq, _, _, _, hbl, hvs, hr⟩
    · omega
    · injection hq with e1 e2 e3
      obtain ⟨op, wd, n, nm, k, v, h1, h2, h3⟩ := Fo.nth F hvs hr j hj
      obtain ⟨x, hx, cx⟩ := width_at hvs hr j hj
      have : w.cell? ⟨b, o + j * 5 + 1, none⟩ = some (.int .i64 wd) := h3 1 _ rfl
      rw [cx] at this
      cases this
      exact ⟨b, o, e1, hbl, op, _, n, nm, k, v, h1, hx, h2, h3⟩)
  have HK := Lib.hid hF
  have HD := Lib.hid F.drop_all
  have HD0 := Lib.hid F.drop_zero
  have HA := Lib.hid (allB_ws F)
  have KW := Lib.hid (fun W => s_wd wd W)
  rw [hw] at KW
  obtain ⟨rb, hrb⟩ : ∃ rb, (fitB 22 wd 0 nm F.ws && F.allB) = rb := ⟨_, rfl⟩
  have HRB := Lib.hid hrb
  rw [hrb]
  clear hF hrb
  have hne : (!nm.toList.isEmpty) = true := by rw [hnm]; rfl
  have KO := Lib.hid (fun W => s_isName nm hsz W)
  go_enter Tryz.func105, Tryz.ntmps105
  go_wp2_with (go_at_call 57; refine (KW.out _).mono ?_; rintro e w1 ⟨rfl, rfl⟩)
  rw [← hW1]
  go_loopw [43] (fun i wr => ∃ j : Nat, j ≤ F.len ∧ i = .int .i64 j ∧ (F.drop j).allB = F.allB ∧ Below W1.heap.size W1 wr) (fun i _ => F.len - (intOf i).toNat)
  case atStart => exact ⟨0, Nat.zero_le _, rfl, by rw [HD0.out], Below.refl _ _⟩
  case round =>
    clear hW1
    obtain ⟨j, hj, rfl, hab, hb⟩ := hrel
    have HB := Lib.hid hb
    have hsz := hb.size
    by_cases hjn : j < F.len
    · obtain ⟨b, o, rfl, hbl, op', wd', n', nm', k, v, hat, _, his, hrr⟩ := HI.out j hjn
      rw [drop_allB F j hat] at hab
      have hpd := Fo.at_paid F j hat
      have hk := Fo.at_allK F j hat HK.out
      have hbw := HBW.out.trans (hb.mono (by omega))
      have his := his.below hbw
      have hrr := rangeAt_below hbw hrr
      have HIS := Lib.hid his
      obtain ⟨_, ⟨_, q', cap2, rfl, _⟩, _⟩ := his
      have c0 : wr.cell? ⟨b, o + j * 5, none⟩ = some (.int .i64 op') := hrr 0 _ rfl
      have c1 : wr.cell? ⟨b, o + j * 5 + 1, none⟩ = some (.int .i64 wd') := hrr 1 _ rfl
      have c2 : wr.cell? ⟨b, o + j * 5 + 2, none⟩ = some (.int .i64 n') := hrr 2 _ rfl
      have c3 : wr.cell? ⟨b, o + j * 5 + 3, none⟩ = some (.string nm') := hrr 3 _ rfl
      have c4 : wr.cell? ⟨b, o + j * 5 + 4, none⟩ = some (.slice q' k.len cap2) := hrr 4 _ rfl
      have SO := Lib.hid (fun W (hW : Below wr.heap.size wr W) => hk op' wd' n' nm' _ W (HIS.out.below hW) (by omega) (by omega))
      have hki : (j : Int) < (F.len : Int) := by omega
      generalize hg : (fitB op' wd' n' nm' k.ws && k.allB) = kb at *
      have HAB := Lib.hid hab
      clear hb hrr hat hk hpd HI hbw hab hg
      cases kb with
      | false =>
        have hrb0 : Hid (rb = false) := Lib.hid (by rw [← HRB.out, ← HAB.out]; simp)
        go_wp2_with (go_at_call 105; refine (SO.out _ ((Below.refl _ _).alloc (Nat.le_refl _) _)).mono ?_; rintro e w3 ⟨rfl, hb3⟩)
        go_ret
        exact ⟨by rw [hrb0.out]; rfl, HBW.out.trans ((HB.out.trans (((Below.refl wr.heap.size wr).alloc (Nat.le_refl _) _ |>.trans (hb3.mono (by simp))).mono hsz)).mono (by omega))⟩
      | true =>
        go_wp2_with (go_at_call 105; refine (SO.out _ ((Below.refl _ _).alloc (Nat.le_refl _) _)).mono ?_; rintro e w3 ⟨rfl, hb3⟩)
        go_roundw
        case rel => exact ⟨j + 1, by omega, by go_num, by rw [← HAB.out]; simp, HB.out.trans (((Below.refl wr.heap.size wr).alloc (Nat.le_refl _) _ |>.trans (hb3.mono (by simp))).mono hsz)⟩
        case measure => simp [intOf]; omega
    · have ej : j = F.len := by omega
      have hall : F.allB = true := by rw [← hab, ej, HD.out]; rfl
      have HRF : Hid (rb = fitB 22 wd 0 nm F.ws) := Lib.hid (by rw [← HRB.out, hall, Bool.and_true])
      have HWS := Lib.hid (HA.out hall)
      have hwl := F.ws_len
      have hnj : ¬ ((j : Int) < (F.len : Int)) := by omega
      have X2 := Lib.hid (X1.out.below hb)
      obtain ⟨x0, x1, x2, x3, x4⟩ := X2.out
      clear hb hab ej HRB HA HK HD HD0 hall
      obtain ⟨wk, hwk⟩ : ∃ wk, wk = wr := ⟨_, rfl⟩
      subst hwk
      go_wp2
      go_loopw [7] (fun i wq => ∃ (j : Nat) (a0 a1 a2 : Int), j ≤ F.len ∧ j ≤ 3 ∧ i = .int .i64 j ∧ wq.heap[wk.heap.size]? = some (.cells #[.int .i64 a0, .int .i64 a1, .int .i64 a2] 3 (0, 0)) ∧ Below W1.heap.size W1 wq ∧ (0 < j → F.ws[0]? = some a0) ∧ (1 < j → F.ws[1]? = some a1) ∧ (2 < j → F.ws[2]? = some a2)) (fun i _ => 3 - (intOf i).toNat)
      case atStart => exact ⟨0, 0, 0, 0, Nat.zero_le _, Nat.zero_le _, rfl, heap_alloc_new wk _, HB.out.alloc hsz _, fun h => by omega, fun h => by omega, fun h => by omega⟩
      case round =>
        clear x0 x1 x2 x3 x4 hj hnj
        obtain ⟨i, a0, a1, a2, hi, hi3, rfl, hrow, hbq, hx0, hx1, hx2⟩ := hrel
        obtain ⟨x0, x1, x2, x3, x4⟩ := X1.out.below hbq
        have y0 : wr.cell? ⟨wk.heap.size, 0, none⟩ = some (.int .i64 a0) := cell_of_row wr _ 0 _ _ _ hrow
        have y1 : wr.cell? ⟨wk.heap.size, 1, none⟩ = some (.int .i64 a1) := cell_of_row wr _ 1 _ _ _ hrow
        have y2 : wr.cell? ⟨wk.heap.size, 2, none⟩ = some (.int .i64 a2) := cell_of_row wr _ 2 _ _ _ hrow
        have z0 := frozen_of_row wr wk.heap.size 0 _ _ hrow
        have z1 := frozen_of_row wr wk.heap.size 1 _ _ hrow
        have z2 := frozen_of_row wr wk.heap.size 2 _ _ hrow
        have HQ := Lib.hid hbq
        have hbw := HBW.out.trans (hbq.mono (by omega))
        have FR := Lib.hid hbw
        have HROW := Lib.hid hrow
        clear hrow hbq
        by_cases hgo : i < F.len ∧ i < 3
        · obtain ⟨hin, hi4⟩ := hgo
          obtain ⟨b, o, rfl, hbl, op', wd', n', nm', k, v, hat, hws, his, hrr⟩ := HI.out i hin
          have hrr := rangeAt_below hbw hrr
          have c1 : wr.cell? ⟨b, o + i * 5 + 1, none⟩ = some (.int .i64 wd') := hrr 1 _ rfl
          have hin' : (i : Int) < (F.len : Int) := by omega
          clear hbw hrr his hat HI
          rcases (show i = 0 ∨ i = 1 ∨ i = 2 by omega) with rfl | rfl | rfl
          · have c1 : wr.cell? ⟨b, o + 1, none⟩ = some (.int .i64 wd') := by simpa using c1
            go_wp2
            go_roundw
            case rel => exact ⟨1, wd', a1, a2, by omega, by omega, by go_num, heap_setCell_same wr _ 0 _ _ _ HROW.out, HQ.out.setCell hsz _, fun _ => hws, fun h => by omega, fun h => by omega⟩
            case measure => simp [intOf]
          · have c1 : wr.cell? ⟨b, o + 5 + 1, none⟩ = some (.int .i64 wd') := by simpa using c1
            go_wp2
            go_roundw
            case rel => exact ⟨2, a0, wd', a2, by omega, by omega, by go_num, heap_setCell_same wr _ 1 _ _ _ HROW.out, HQ.out.setCell hsz _, fun _ => hx0 (by omega), fun _ => hws, fun h => by omega⟩
            case measure => simp [intOf]
          · have c1 : wr.cell? ⟨b, o + 10 + 1, none⟩ = some (.int .i64 wd') := by simpa using c1
            go_wp2
            go_roundw
            case rel => exact ⟨3, a0, a1, wd', by omega, by omega, by go_num, heap_setCell_same wr _ 2 _ _ _ HROW.out, HQ.out.setCell hsz _, fun _ => hx0 (by omega), fun _ => hx1 (by omega), fun _ => hws⟩
            case measure => simp [intOf]
        · clear hbw HI
          have hkc : kc 22 = 0 := kc_22
          by_cases hle : i = F.len
          · have hde : decide ((i : Int) < (F.len : Int)) = false := by simp; omega
            by_cases hkn : F.len = 0
            · have hkb : ((F.len : Int) == 0) = true := by rw [hkn]; rfl
              have hws : F.ws = [] := List.length_eq_zero_iff.1 (by omega)
              have hrr := HRF.out
              rw [hws, fit_eq hw (by rw [hkc]; rfl) (by simp) (by simp)] at hrr
              have hwi := HWS.out
              rw [hws] at hwi
              have RB : Hid (rb = nmB nm) := Lib.hid (by rw [hrr]; rfl)
              clear hrr hwi hws
              go_wp2_with fail
              refine (KO.out _).mono ?_
              rintro e w1 ⟨rfl, rfl⟩
              go_wp2
              go_ret
              exact ⟨by rw [RB.out]; rfl, by first | exact FR.out | exact below_drewN FR.out _⟩
            · have hkb : ((F.len : Int) == 0) = false := by simp; omega
              have RB := Lib.hid (HRF.out.trans (fit_mis (by rw [hkc]; omega)))
              go_wp2
              go_ret
              exact ⟨by rw [RB.out]; rfl, by first | exact FR.out | exact below_drewN FR.out _⟩
          · have hde : decide ((i : Int) < 3) = false := by simp; omega
            have hdf : decide ((i : Int) < (F.len : Int)) = true := by simp; omega
            have hkb : ((F.len : Int) == 0) = false := by simp; omega
            have RB := Lib.hid (HRF.out.trans (fit_mis (by rw [hkc]; omega)))
            go_wp2
            go_ret
            exact ⟨by rw [RB.out]; rfl, by first | exact FR.out | exact below_drewN FR.out _⟩
end Go.Proofs.YthmababifgaejaaGreatDoor
namespace Go.Proofs.YthmababifgaejaaGreatDoor
open Go.ChangeShapes Go.WideShapes Go.ChangeAt Go.RowKit
set_option maxRecDepth 100000 in
set_option maxHeartbeats 8000000 in
theorem nd_g3 (wd n : Int) (s : Value) (F : Fo) (hF : F.AllK NodeC) (w : World) (his : (F.cs 64).Is w 0 5 F.len s) (hcost : F.cost ≤ 1048576) (hw : wdB wd = true) (hn0 : n ≠ 0) :
    Calls Tryz.prog 105 #[.agg #[.int .i64 19, .int .i64 wd, .int .i64 n, .string ⟨#[]⟩, s]] w fun e w' => e = .returned (.bool (fitB 19 wd n ⟨#[]⟩ F.ws && F.allB)) ∧ Below w.heap.size w w' := by
  have hml : maxLen = 9223372036854775807 := rfl
  have hFl := F.len_le
  have hFn := F.nodes_le
  have hFc := F.cost_eq
  have hwr := wd_range hw
  have HV := Lib.hid his
  obtain ⟨_, ⟨_, q, cap, rfl, _⟩, _⟩ := his
  obtain ⟨W1, hW1⟩ : ∃ W1, W1 = w.alloc (.cells #[.int .i64 19, .int .i64 wd, .int .i64 n, .string ⟨#[]⟩, .slice q F.len cap] 64) := ⟨_, rfl⟩
  have HBW : Hid (Below w.heap.size w W1) := Lib.hid (by rw [hW1]; exact (Below.refl _ _).alloc (Nat.le_refl _) _)
  have hsW : w.heap.size < W1.heap.size := by rw [hW1]; simp
  have X1 : Hid (Cell5 W1 w.heap.size (.int .i64 19) (.int .i64 wd) (.int .i64 n) (.string ⟨#[]⟩) (.slice q F.len cap)) := Lib.hid (by rw [hW1]; exact cell5_alloc _ _ _ _ _ _ _)
  have HI : Hid (∀ j, j < F.len → ∃ b o, q = some ⟨b, o, none⟩ ∧ b < w.heap.size ∧ ∃ op wd n nm k v, F.At j op wd n nm k ∧ F.ws[j]? = some wd ∧ (k.cs 64).Is w 0 5 k.len v ∧ w.rangeAt b (o + j * 5) [.int .i64 op, .int .i64 wd, .int .i64 n, .string nm, v]) := Lib.hid (fun j hj => by
    rcases Fo.is_cases HV.out with ⟨h0, _⟩ | ⟨hpos, b, o, cap', ys, hq, _, _, _, hbl, hvs, hr⟩
    · omega
    · injection hq with e1 e2 e3
      obtain ⟨op, wd, n, nm, k, v, h1, h2, h3⟩ := Fo.nth F hvs hr j hj
      obtain ⟨x, hx, cx⟩ := width_at hvs hr j hj
      have : w.cell? ⟨b, o + j * 5 + 1, none⟩ = some (.int .i64 wd) := h3 1 _ rfl
      rw [cx] at this
      cases this
      exact ⟨b, o, e1, hbl, op, _, n, nm, k, v, h1, hx, h2, h3⟩)
  have HK := Lib.hid hF
  have HD := Lib.hid F.drop_all
  have HD0 := Lib.hid F.drop_zero
  have HA := Lib.hid (allB_ws F)
  have KW := Lib.hid (fun W => s_wd wd W)
  rw [hw] at KW
  obtain ⟨rb, hrb⟩ : ∃ rb, (fitB 19 wd n ⟨#[]⟩ F.ws && F.allB) = rb := ⟨_, rfl⟩
  have HRB := Lib.hid hrb
  rw [hrb]
  clear hF hrb
  have hn_0 : ((n : Int) == 0) = false := by simpa using hn0
  have gn_0 : ((n : Int) != 0) = true := by simpa using hn0
  go_enter Tryz.func105, Tryz.ntmps105
  go_wp2_with (go_at_call 57; refine (KW.out _).mono ?_; rintro e w1 ⟨rfl, rfl⟩)
  rw [← hW1]
  go_loopw [43] (fun i wr => ∃ j : Nat, j ≤ F.len ∧ i = .int .i64 j ∧ (F.drop j).allB = F.allB ∧ Below W1.heap.size W1 wr) (fun i _ => F.len - (intOf i).toNat)
  case atStart => exact ⟨0, Nat.zero_le _, rfl, by rw [HD0.out], Below.refl _ _⟩
  case round =>
    clear hW1
    obtain ⟨j, hj, rfl, hab, hb⟩ := hrel
    have HB := Lib.hid hb
    have hsz := hb.size
    by_cases hjn : j < F.len
    · obtain ⟨b, o, rfl, hbl, op', wd', n', nm', k, v, hat, _, his, hrr⟩ := HI.out j hjn
      rw [drop_allB F j hat] at hab
      have hpd := Fo.at_paid F j hat
      have hk := Fo.at_allK F j hat HK.out
      have hbw := HBW.out.trans (hb.mono (by omega))
      have his := his.below hbw
      have hrr := rangeAt_below hbw hrr
      have HIS := Lib.hid his
      obtain ⟨_, ⟨_, q', cap2, rfl, _⟩, _⟩ := his
      have c0 : wr.cell? ⟨b, o + j * 5, none⟩ = some (.int .i64 op') := hrr 0 _ rfl
      have c1 : wr.cell? ⟨b, o + j * 5 + 1, none⟩ = some (.int .i64 wd') := hrr 1 _ rfl
      have c2 : wr.cell? ⟨b, o + j * 5 + 2, none⟩ = some (.int .i64 n') := hrr 2 _ rfl
      have c3 : wr.cell? ⟨b, o + j * 5 + 3, none⟩ = some (.string nm') := hrr 3 _ rfl
      have c4 : wr.cell? ⟨b, o + j * 5 + 4, none⟩ = some (.slice q' k.len cap2) := hrr 4 _ rfl
      have SO := Lib.hid (fun W (hW : Below wr.heap.size wr W) => hk op' wd' n' nm' _ W (HIS.out.below hW) (by omega) (by omega))
      have hki : (j : Int) < (F.len : Int) := by omega
      generalize hg : (fitB op' wd' n' nm' k.ws && k.allB) = kb at *
      have HAB := Lib.hid hab
      clear hb hrr hat hk hpd HI hbw hab hg
      cases kb with
      | false =>
        have hrb0 : Hid (rb = false) := Lib.hid (by rw [← HRB.out, ← HAB.out]; simp)
        go_wp2_with (go_at_call 105; refine (SO.out _ ((Below.refl _ _).alloc (Nat.le_refl _) _)).mono ?_; rintro e w3 ⟨rfl, hb3⟩)
        go_ret
        exact ⟨by rw [hrb0.out]; rfl, HBW.out.trans ((HB.out.trans (((Below.refl wr.heap.size wr).alloc (Nat.le_refl _) _ |>.trans (hb3.mono (by simp))).mono hsz)).mono (by omega))⟩
      | true =>
        go_wp2_with (go_at_call 105; refine (SO.out _ ((Below.refl _ _).alloc (Nat.le_refl _) _)).mono ?_; rintro e w3 ⟨rfl, hb3⟩)
        go_roundw
        case rel => exact ⟨j + 1, by omega, by go_num, by rw [← HAB.out]; simp, HB.out.trans (((Below.refl wr.heap.size wr).alloc (Nat.le_refl _) _ |>.trans (hb3.mono (by simp))).mono hsz)⟩
        case measure => simp [intOf]; omega
    · have ej : j = F.len := by omega
      have hall : F.allB = true := by rw [← hab, ej, HD.out]; rfl
      have HRF : Hid (rb = fitB 19 wd n ⟨#[]⟩ F.ws) := Lib.hid (by rw [← HRB.out, hall, Bool.and_true])
      have HWS := Lib.hid (HA.out hall)
      have hwl := F.ws_len
      have hnj : ¬ ((j : Int) < (F.len : Int)) := by omega
      have X2 := Lib.hid (X1.out.below hb)
      obtain ⟨x0, x1, x2, x3, x4⟩ := X2.out
      clear hb hab ej HRB HA HK HD HD0 hall
      obtain ⟨wk, hwk⟩ : ∃ wk, wk = wr := ⟨_, rfl⟩
      subst hwk
      go_wp2
      go_loopw [7] (fun i wq => ∃ (j : Nat) (a0 a1 a2 : Int), j ≤ F.len ∧ j ≤ 3 ∧ i = .int .i64 j ∧ wq.heap[wk.heap.size]? = some (.cells #[.int .i64 a0, .int .i64 a1, .int .i64 a2] 3 (0, 0)) ∧ Below W1.heap.size W1 wq ∧ (0 < j → F.ws[0]? = some a0) ∧ (1 < j → F.ws[1]? = some a1) ∧ (2 < j → F.ws[2]? = some a2)) (fun i _ => 3 - (intOf i).toNat)
      case atStart => exact ⟨0, 0, 0, 0, Nat.zero_le _, Nat.zero_le _, rfl, heap_alloc_new wk _, HB.out.alloc hsz _, fun h => by omega, fun h => by omega, fun h => by omega⟩
      case round =>
        clear x0 x1 x2 x3 x4 hj hnj
        obtain ⟨i, a0, a1, a2, hi, hi3, rfl, hrow, hbq, hx0, hx1, hx2⟩ := hrel
        obtain ⟨x0, x1, x2, x3, x4⟩ := X1.out.below hbq
        have y0 : wr.cell? ⟨wk.heap.size, 0, none⟩ = some (.int .i64 a0) := cell_of_row wr _ 0 _ _ _ hrow
        have y1 : wr.cell? ⟨wk.heap.size, 1, none⟩ = some (.int .i64 a1) := cell_of_row wr _ 1 _ _ _ hrow
        have y2 : wr.cell? ⟨wk.heap.size, 2, none⟩ = some (.int .i64 a2) := cell_of_row wr _ 2 _ _ _ hrow
        have z0 := frozen_of_row wr wk.heap.size 0 _ _ hrow
        have z1 := frozen_of_row wr wk.heap.size 1 _ _ hrow
        have z2 := frozen_of_row wr wk.heap.size 2 _ _ hrow
        have HQ := Lib.hid hbq
        have hbw := HBW.out.trans (hbq.mono (by omega))
        have FR := Lib.hid hbw
        have HROW := Lib.hid hrow
        clear hrow hbq
        by_cases hgo : i < F.len ∧ i < 3
        · obtain ⟨hin, hi4⟩ := hgo
          obtain ⟨b, o, rfl, hbl, op', wd', n', nm', k, v, hat, hws, his, hrr⟩ := HI.out i hin
          have hrr := rangeAt_below hbw hrr
          have c1 : wr.cell? ⟨b, o + i * 5 + 1, none⟩ = some (.int .i64 wd') := hrr 1 _ rfl
          have hin' : (i : Int) < (F.len : Int) := by omega
          clear hbw hrr his hat HI
          rcases (show i = 0 ∨ i = 1 ∨ i = 2 by omega) with rfl | rfl | rfl
          · have c1 : wr.cell? ⟨b, o + 1, none⟩ = some (.int .i64 wd') := by simpa using c1
            go_wp2
            go_roundw
            case rel => exact ⟨1, wd', a1, a2, by omega, by omega, by go_num, heap_setCell_same wr _ 0 _ _ _ HROW.out, HQ.out.setCell hsz _, fun _ => hws, fun h => by omega, fun h => by omega⟩
            case measure => simp [intOf]
          · have c1 : wr.cell? ⟨b, o + 5 + 1, none⟩ = some (.int .i64 wd') := by simpa using c1
            go_wp2
            go_roundw
            case rel => exact ⟨2, a0, wd', a2, by omega, by omega, by go_num, heap_setCell_same wr _ 1 _ _ _ HROW.out, HQ.out.setCell hsz _, fun _ => hx0 (by omega), fun _ => hws, fun h => by omega⟩
            case measure => simp [intOf]
          · have c1 : wr.cell? ⟨b, o + 10 + 1, none⟩ = some (.int .i64 wd') := by simpa using c1
            go_wp2
            go_roundw
            case rel => exact ⟨3, a0, a1, wd', by omega, by omega, by go_num, heap_setCell_same wr _ 2 _ _ _ HROW.out, HQ.out.setCell hsz _, fun _ => hx0 (by omega), fun _ => hx1 (by omega), fun _ => hws⟩
            case measure => simp [intOf]
        · clear hbw HI
          have hkc : kc 19 = 1 := kc_un (by omega)
          have J1 := Lib.hid (s_in 19 1 2 false (in_false (by omega)))
          have J3 := Lib.hid (s_in 19 3 13 false (in_false (by omega)))
          have J14 := Lib.hid (s_in 19 14 16 false (in_false (by omega)))
          have J20 := Lib.hid (s_in 19 20 21 false (in_false (by omega)))
          by_cases hle : i = F.len
          · have hde : decide ((i : Int) < (F.len : Int)) = false := by simp; omega
            by_cases hkn : F.len = 1
            · have hkb : ((F.len : Int) == 1) = true := by rw [hkn]; rfl
              have hws : F.ws = [a0] := ws1 (by omega) (hx0 (by omega))
              have hrr := HRF.out
              rw [hws, fit_eq hw (by rw [hkc]; rfl) (by simp) (by simp)] at hrr
              have hwi := HWS.out
              rw [hws] at hwi
              obtain ⟨ha1, ha2⟩ := hwi a0 (by simp)
              by_cases hin : 0 ≤ n ∧ n ≤ 16
              · have JN := Lib.hid (s_in n 0 16 true (in_true hin))
                have hw1 : IntKind.i64.wrap (n + wd) = n + wd := IntWalk.i64_in _ (by omega)
                have RB : Hid (rb = decide (n + wd ≤ a0)) := Lib.hid (by
                  rw [hrr, if_neg (by omega), if_neg (by omega)]
                  show (decide (0 ≤ n) && decide (n ≤ wrap64 (a0 - wd))) = _
                  rw [show wrap64 (a0 - wd) = a0 - wd from IntWalk.wrap64_in _ (by omega), decide_eq_true hin.1, Bool.true_and]
                  exact decide_eq_decide.2 (by omega))
                clear hrr hwi hws
                go_wp2_with fail
                refine (J1.out _).mono ?_
                rintro e w1 ⟨rfl, rfl⟩
                go_wp2_with fail
                refine (J3.out _).mono ?_
                rintro e w1 ⟨rfl, rfl⟩
                go_wp2_with fail
                refine (J14.out _).mono ?_
                rintro e w1 ⟨rfl, rfl⟩
                go_wp2
                go_quiet ((go_at_call 57; exact quiet_eq (JN.out _)))
                go_wp2
                go_ret
                exact ⟨by rw [RB.out]; rfl, by first | exact FR.out | exact below_drewN FR.out _⟩
              · have JN := Lib.hid (s_in n 0 16 false (in_false (by omega)))
                have RB : Hid (rb = false) := Lib.hid (by
                  rw [hrr, if_neg (by omega), if_neg (by omega)]
                  show (decide (0 ≤ n) && decide (n ≤ wrap64 (a0 - wd))) = _
                  rw [show wrap64 (a0 - wd) = a0 - wd from IntWalk.wrap64_in _ (by omega)]
                  by_cases h0 : 0 ≤ n
                  · rw [decide_eq_false (by omega : ¬ n ≤ a0 - wd), Bool.and_false]
                  · rw [decide_eq_false h0, Bool.false_and])
                clear hrr hwi hws
                go_wp2_with fail
                refine (J1.out _).mono ?_
                rintro e w1 ⟨rfl, rfl⟩
                go_wp2_with fail
                refine (J3.out _).mono ?_
                rintro e w1 ⟨rfl, rfl⟩
                go_wp2_with fail
                refine (J14.out _).mono ?_
                rintro e w1 ⟨rfl, rfl⟩
                go_wp2
                go_quiet ((go_at_call 57; exact quiet_eq (JN.out _)))
                go_wp2
                go_ret
                exact ⟨by rw [RB.out]; rfl, by first | exact FR.out | exact below_drewN FR.out _⟩
            · have hkb : ((F.len : Int) == 1) = false := by simp; omega
              have RB := Lib.hid (HRF.out.trans (fit_mis (by rw [hkc]; omega)))
              go_wp2_with fail
              refine (J1.out _).mono ?_
              rintro e w1 ⟨rfl, rfl⟩
              go_wp2_with fail
              refine (J3.out _).mono ?_
              rintro e w1 ⟨rfl, rfl⟩
              go_wp2_with fail
              refine (J14.out _).mono ?_
              rintro e w1 ⟨rfl, rfl⟩
              go_wp2
              go_quiet (fail)
              go_wp2
              go_ret
              exact ⟨by rw [RB.out]; rfl, by first | exact FR.out | exact below_drewN FR.out _⟩
          · have hde : decide ((i : Int) < 3) = false := by simp; omega
            have hdf : decide ((i : Int) < (F.len : Int)) = true := by simp; omega
            have hkb : ((F.len : Int) == 1) = false := by simp; omega
            have RB := Lib.hid (HRF.out.trans (fit_mis (by rw [hkc]; omega)))
            go_wp2_with fail
            refine (J1.out _).mono ?_
            rintro e w1 ⟨rfl, rfl⟩
            go_wp2_with fail
            refine (J3.out _).mono ?_
            rintro e w1 ⟨rfl, rfl⟩
            go_wp2_with fail
            refine (J14.out _).mono ?_
            rintro e w1 ⟨rfl, rfl⟩
            go_wp2
            go_quiet (fail)
            go_wp2
            go_ret
            exact ⟨by rw [RB.out]; rfl, by first | exact FR.out | exact below_drewN FR.out _⟩
end Go.Proofs.YthmababifgaejaaGreatDoor
