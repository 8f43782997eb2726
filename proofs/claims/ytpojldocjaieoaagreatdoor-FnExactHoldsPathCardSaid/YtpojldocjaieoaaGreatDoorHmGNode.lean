/- l02Few: whether a term has few nodes, counted down behind a pointer. l02Node: nodes that the specification's first test refuses. l02Node: nodes that pass the specification's first test. l02Node: variables, cuts and constants that pass the first test. l02Node: cuts that pass the first test. -/
import Derived.Test.YtpojldocjaieoaaGreatDoorHmGWk
import Derived.Deep.RegionWith
import Derived.Deep.LoopGhost
import Derived.BigQuiet
namespace Go.Proofs.YtpojldocjaieoaaGreatDoor
open Go.ChangeShapes Go.WideShapes Go.ChangeAt Go.RowKit
/-- the counter's block -/
def Cnt (pb : Nat) (l : Int) (w : World) : Prop := w.heap[pb]? = some (.cells #[.int .i64 l] 3 (0, 0))
theorem Cnt.keep {pb : Nat} {l : Int} {w w' : World} (h : Cnt pb l w) (hb : Below w.heap.size w w') : Cnt pb l w' := by
  unfold Cnt at h ⊢
  rw [hb.block pb (Array.getElem?_eq_some_iff.1 h).1]; exact h
theorem Cnt.step {pb : Nat} {l l' : Int} {w : World} (h : Cnt pb l w) : Cnt pb l' (w.setCell ⟨pb, 0, none⟩ (.int .i64 l')) := heap_setCell_same w pb 0 _ _ _ h
/-- what a node with its kids leaves of a counter -/
def FewC (k : Fo) : Prop := ∀ (w0 : World) (op wd n : Int) (nm : ByteArray) (s : Value) (pb l : Nat) (w : World), (k.cs 69).Is w0 0 5 k.len s → Below w0.heap.size w0 w → Cnt pb l w → w0.heap.size ≤ pb → l ≤ 240 →
  Calls Tryz.prog 90 #[.agg #[.int .i64 op, .int .i64 wd, .int .i64 n, .string nm, s], .pointer (some ⟨pb, 0, none⟩)] w fun e w' => e = .returned (.bool (decide (1 + k.nodes ≤ l))) ∧ Below w0.heap.size w0 w' ∧ Cnt pb (left l (1 + k.nodes)) w' ∧ Apart [pb] w w'
set_option maxRecDepth 100000 in
set_option maxHeartbeats 4000000 in
theorem few_loop (F : Fo) (hF : F.AllK FewC) : FewC F := by
  intro w0 op0 wd0 n0 nm0 v pb l w hv hb0 hst hpb hl
  have hml : maxLen = 9223372036854775807 := rfl
  have hFl : F.len ≤ F.nodes := F.len_le
  have HV := Lib.hid hv
  obtain ⟨_, ⟨_, q, cap, rfl, _⟩, _⟩ := hv
  have hsz0 := hb0.size
  have hbs : pb < w.heap.size := (Array.getElem?_eq_some_iff.1 hst).1
  have f0 : w.cell? ⟨pb, 0, none⟩ = some (.int .i64 l) := cell_of_row w pb 0 _ _ _ hst
  have z0 : w.frozen? ⟨pb, 0, none⟩ = false := frozen_of_row w pb 0 _ _ hst
  have hwr : IntKind.i64.wrap ((l : Int) - 1) = (l : Int) - 1 := IntWalk.i64_in _ (by omega)
  obtain ⟨W1, hW1⟩ : ∃ W1, W1 = (w.setCell ⟨pb, 0, none⟩ (.int .i64 ((l : Int) - 1))).alloc (.cells #[.int .i64 op0, .int .i64 wd0, .int .i64 n0, .string nm0, .slice q F.len cap] 69) := ⟨_, rfl⟩
  have hss : (w.setCell ⟨pb, 0, none⟩ (.int .i64 ((l : Int) - 1))).heap.size = w.heap.size := by simp [World.setCell]
  have HS1 : Hid (Cnt pb ((l : Int) - 1) W1) := Lib.hid (by rw [hW1]; exact hst.step.keep ((Below.refl _ _).alloc (Nat.le_refl _) _))
  have HB1 : Hid (Below w0.heap.size w0 W1) := Lib.hid (by rw [hW1]; exact (hb0.setCell hpb _).alloc (by rw [hss]; exact hsz0) _)
  have X1 : Hid (W1.heap[w.heap.size]? = some (.cells #[.int .i64 op0, .int .i64 wd0, .int .i64 n0, .string nm0, .slice q F.len cap] 69 (0, 0))) := Lib.hid (by
    rw [hW1, ← hss]
    exact heap_alloc_new _ _)
  have A1 : Hid (Apart [pb] w W1) := Lib.hid (by rw [hW1]; exact ((Apart.refl _ _).setCell (by simp) _).trans (Apart.of_below ((Below.refl _ _).alloc (Nat.le_refl _) _)))
  have hwW : w.heap.size < W1.heap.size := by rw [hW1]; simp [World.setCell]
  clear hst hb0
  go_enter Tryz.func90, Tryz.ntmps90
  go_wp2_with fail
  rw [← hW1]
  have HI : Hid (∀ j, j < F.len → ∃ b o cap', q = some ⟨b, o, none⟩ ∧ b < w0.heap.size ∧ ∃ op wd n nm k v, F.At j op wd n nm k ∧ (k.cs 69).Is w0 0 5 k.len v ∧ w0.rangeAt b (o + j * 5) [.int .i64 op, .int .i64 wd, .int .i64 n, .string nm, v] ∧ cap' = cap) := Lib.hid (fun j hj => by
    rcases Fo.is_cases HV.out with ⟨h0, _⟩ | ⟨hpos, b, o, cap', ys, hq, _, _, _, hbl, hvs, hr⟩
    · omega
    · injection hq with e1 e2 e3
      exact ⟨b, o, cap', e1, hbl, by
        obtain ⟨op, wd, n, nm, k, v, h1, h2, h3⟩ := Fo.nth F hvs hr j hj
        exact ⟨op, wd, n, nm, k, v, h1, h2, h3, e3.symm⟩⟩)
  have HK := Lib.hid hF
  have HD := Lib.hid F.drop_all
  have HD0 := Lib.hid F.drop_zero
  have HR : Hid (∃ x : Int, Cnt pb x W1 ∧ ((∃ m : Nat, x = m ∧ m + 1 + F.nodes = l + (F.drop 0).nodes ∧ m ≤ 240) ∨ (x = -1 ∧ l < 1 + F.nodes))) := Lib.hid ⟨_, HS1.out, by
    rw [HD0.out]
    by_cases h : l = 0
    · exact .inr ⟨by omega, by omega⟩
    · exact .inl ⟨l - 1, by omega, by omega, by omega⟩⟩
  have hend0 : ∀ m : Nat, m + 1 + F.nodes = l + (F.drop F.len).nodes → left l (1 + F.nodes) = m ∧ decide (1 + F.nodes ≤ l) = true := fun m h => by
    rw [HD.out] at h
    simp only [Fo.nodes, Nat.add_zero] at h
    refine ⟨by unfold left; rw [if_pos (by omega)]; omega, decide_eq_true (by omega)⟩
  have HE0 := Lib.hid hend0
  have HE1 : Hid (l < 1 + F.nodes → left l (1 + F.nodes) = -1 ∧ decide (1 + F.nodes ≤ l) = false) := Lib.hid (fun h => ⟨by unfold left; rw [if_neg (by omega)], decide_eq_false (by omega)⟩)
  clear hF hend0 hW1 hss HS1
  go_loopw [5] (fun i wr => ∃ (j : Nat) (x : Int), j ≤ F.len ∧ i = .int .i64 j ∧ Cnt pb x wr ∧ Below w0.heap.size w0 wr ∧ wr.heap[w.heap.size]? = some (.cells #[.int .i64 op0, .int .i64 wd0, .int .i64 n0, .string nm0, .slice q F.len cap] 69 (0, 0)) ∧ Apart [pb] w wr ∧ ((∃ m : Nat, x = m ∧ m + 1 + F.nodes = l + (F.drop j).nodes ∧ m ≤ 240) ∨ (x = -1 ∧ l < 1 + F.nodes))) (fun i _ => F.len - (intOf i).toNat)
  case atStart => obtain ⟨x, h1, h2⟩ := HR.out; exact ⟨0, x, Nat.zero_le _, rfl, h1, HB1.out, X1.out, A1.out, h2⟩
  case round =>
    clear HR HB1 X1 A1
    obtain ⟨j, x, hj, rfl, hcn, hb, hx5, hap, hor⟩ := hrel
    have y0 : wr.cell? ⟨pb, 0, none⟩ = some (.int .i64 x) := cell_of_row wr pb 0 _ _ _ hcn
    have HX := Lib.hid hx5
    have x4 : wr.cell? ⟨w.heap.size, 4, none⟩ = some (.slice q F.len cap) := cell_of_row wr _ 4 _ _ _ hx5
    have HA := Lib.hid hap
    clear hx5 hap
    have HB := Lib.hid hb
    have HC := Lib.hid hcn
    have hsz := hb.size
    rcases hor with ⟨m, rfl, hm, hm2⟩ | ⟨rfl, hm⟩
    · by_cases hjn : j < F.len
      · obtain ⟨b, o, _, rfl, hbl, op, wd, n, nm, k, v, hat, his, hrr, _⟩ := HI.out j hjn
        obtain ⟨hn1, hn2⟩ := Fo.at_nodes F j hat
        have hk := Fo.at_allK F j hat HK.out
        have HIS := Lib.hid his
        obtain ⟨_, ⟨_, q', cap2, rfl, _⟩, _⟩ := his
        have hrr := rangeAt_below hb hrr
        have c0 : wr.cell? ⟨b, o + j * 5, none⟩ = some (.int .i64 op) := hrr 0 _ rfl
        have c1 : wr.cell? ⟨b, o + j * 5 + 1, none⟩ = some (.int .i64 wd) := hrr 1 _ rfl
        have c2 : wr.cell? ⟨b, o + j * 5 + 2, none⟩ = some (.int .i64 n) := hrr 2 _ rfl
        have c3 : wr.cell? ⟨b, o + j * 5 + 3, none⟩ = some (.string nm) := hrr 3 _ rfl
        have c4 : wr.cell? ⟨b, o + j * 5 + 4, none⟩ = some (.slice q' k.len cap2) := hrr 4 _ rfl
        have SO := Lib.hid (hk w0 op wd n nm _ pb m wr HIS.out hb hcn hpb hm2)
        have hki : (j : Int) < (F.len : Int) := by omega
        have hm0 : decide ((0 : Int) ≤ (m : Int)) = true := by simp
        have HM := Lib.hid (And.intro hm hn1)
        clear hb hcn hrr hat hk hn1 hm hn2 HIS HI HV
        go_wp2_with (go_at_call 90; refine SO.out.mono ?_; rintro e w3 ⟨rfl, hb3, hc3, ha3⟩)
        have HX3 := Lib.hid ((ha3.block w.heap.size (by have := (Array.getElem?_eq_some_iff.1 HX.out).1; exact this) (by simp; omega)).trans HX.out)
        go_roundw
        case rel =>
          refine ⟨j + 1, _, by omega, by go_num, hc3, hb3, HX3.out, HA.out.trans ha3, ?_⟩
          obtain ⟨h1, h2⟩ := HM.out
          unfold left
          by_cases h : 1 + k.nodes ≤ m
          · rw [if_pos h]; exact .inl ⟨m - (1 + k.nodes), by omega, by omega, by omega⟩
          · rw [if_neg h]; exact .inr ⟨rfl, by omega⟩
        case measure => simp [intOf]; omega
      · have ej : j = F.len := by omega
        subst ej
        obtain ⟨h1, h2⟩ := HE0.out m hm
        have H12 := Lib.hid (And.intro h1 h2)
        clear h1 h2
        have hnj : decide ((F.len : Int) < (F.len : Int)) = false := by simp
        have hm0 : decide ((0 : Int) ≤ (m : Int)) = true := by simp
        clear hb hcn hm HI HV
        go_wp2
        go_ret
        exact ⟨by rw [H12.out.2]; rfl, HB.out, by rw [H12.out.1]; exact HC.out, HA.out⟩
    · obtain ⟨h1, h2⟩ := HE1.out hm
      have H12 := Lib.hid (And.intro h1 h2)
      clear h1 h2
      clear hb hcn hm HI HV
      by_cases hjn : j < F.len
      · have hki : decide ((j : Int) < (F.len : Int)) = true := by simp; omega
        go_wp2
        go_ret
        exact ⟨by rw [H12.out.2]; rfl, HB.out, by rw [H12.out.1]; exact HC.out, HA.out⟩
      · have hki : decide ((j : Int) < (F.len : Int)) = false := by simp; omega
        go_wp2
        go_ret
        exact ⟨by rw [H12.out.2]; rfl, HB.out, by rw [H12.out.1]; exact HC.out, HA.out⟩
theorem few_any : ∀ F : Fo, FewC F := Fo.every few_loop
end Go.Proofs.YtpojldocjaieoaaGreatDoor
namespace Go.Proofs.YtpojldocjaieoaaGreatDoor
open Go.ChangeShapes Go.WideShapes Go.ChangeAt Go.RowKit
theorem s_in (a lo hi : Int) (b : Bool) (h : (decide (lo ≤ a) && decide (a ≤ hi)) = b) (W : World) : Calls Tryz.prog 46 #[.int .i64 a, .int .i64 lo, .int .i64 hi] W fun e W' => e = .returned (.bool b) ∧ W = W' := by
  subst h
  by_cases h1 : lo ≤ a
  · have e1 : decide (lo ≤ a) = true := decide_eq_true h1
    by_cases h2 : a ≤ hi
    · have e2 : decide (a ≤ hi) = true := decide_eq_true h2
      rw [e1, e2]
      go_enter Tryz.func46, Tryz.ntmps46
      go_wp2
      go_ret
      exact ⟨rfl, rfl⟩
    · have e2 : decide (a ≤ hi) = false := decide_eq_false h2
      rw [e1, e2]
      go_enter Tryz.func46, Tryz.ntmps46
      go_wp2
      go_ret
      exact ⟨rfl, rfl⟩
  · have e1 : decide (lo ≤ a) = false := decide_eq_false h1
    rw [e1, Bool.false_and]
    go_enter Tryz.func46, Tryz.ntmps46
    go_wp2
    go_ret
    exact ⟨rfl, rfl⟩
set_option maxRecDepth 100000 in
set_option maxHeartbeats 2000000 in
theorem nd_bad_w (op wd n : Int) (nm : ByteArray) (s : Value) (k : Fo) (w : World) (his : (k.cs 69).Is w 0 5 k.len s) (hw : wdB wd = false) :
    Calls Tryz.prog 91 #[.agg #[.int .i64 op, .int .i64 wd, .int .i64 n, .string nm, s]] w fun e w' => e = .returned (.bool (false)) ∧ Below w.heap.size w w' := by
  obtain ⟨_, ⟨_, q, cap, rfl, _⟩, _⟩ := his
  have KW := Lib.hid (fun W => s_wd wd W)
  rw [hw] at KW
  go_enter Tryz.func91, Tryz.ntmps91
  go_wp2_with (go_at_call 46; refine (KW.out _).mono ?_; rintro e w1 ⟨rfl, rfl⟩)
  go_ret
  exact ⟨rfl, (Below.refl _ _).alloc (Nat.le_refl _) _⟩
set_option maxRecDepth 100000 in
set_option maxHeartbeats 2000000 in
theorem nd_bad_nm (op wd n : Int) (nm : ByteArray) (s : Value) (k : Fo) (w : World) (his : (k.cs 69).Is w 0 5 k.len s) (hw : wdB wd = true) (hnm : nm.toList.isEmpty = false) (hop22 : op ≠ 22) :
    Calls Tryz.prog 91 #[.agg #[.int .i64 op, .int .i64 wd, .int .i64 n, .string nm, s]] w fun e w' => e = .returned (.bool (false)) ∧ Below w.heap.size w w' := by
  obtain ⟨_, ⟨_, q, cap, rfl, _⟩, _⟩ := his
  have KW := Lib.hid (fun W => s_wd wd W)
  rw [hw] at KW
  have hne : (!nm.toList.isEmpty) = true := by rw [hnm]; rfl
  have hop_22 : ((op : Int) == 22) = false := by simpa using hop22
  have gop_22 : ((op : Int) != 22) = true := by simpa using hop22
  go_enter Tryz.func91, Tryz.ntmps91
  go_wp2_with (go_at_call 46; refine (KW.out _).mono ?_; rintro e w1 ⟨rfl, rfl⟩)
  go_ret
  exact ⟨rfl, (Below.refl _ _).alloc (Nat.le_refl _) _⟩
set_option maxRecDepth 100000 in
set_option maxHeartbeats 2000000 in
theorem nd_bad_n (op wd n : Int) (s : Value) (k : Fo) (w : World) (his : (k.cs 69).Is w 0 5 k.len s) (hw : wdB wd = true) (hn0 : n ≠ 0) (hop0 : op ≠ 0) (hop19 : op ≠ 19) :
    Calls Tryz.prog 91 #[.agg #[.int .i64 op, .int .i64 wd, .int .i64 n, .string ⟨#[]⟩, s]] w fun e w' => e = .returned (.bool (false)) ∧ Below w.heap.size w w' := by
  obtain ⟨_, ⟨_, q, cap, rfl, _⟩, _⟩ := his
  have KW := Lib.hid (fun W => s_wd wd W)
  rw [hw] at KW
  have hn_0 : ((n : Int) == 0) = false := by simpa using hn0
  have gn_0 : ((n : Int) != 0) = true := by simpa using hn0
  have hop_0 : ((op : Int) == 0) = false := by simpa using hop0
  have gop_0 : ((op : Int) != 0) = true := by simpa using hop0
  have hop_19 : ((op : Int) == 19) = false := by simpa using hop19
  have gop_19 : ((op : Int) != 19) = true := by simpa using hop19
  go_enter Tryz.func91, Tryz.ntmps91
  go_wp2_with (go_at_call 46; refine (KW.out _).mono ?_; rintro e w1 ⟨rfl, rfl⟩)
  go_ret
  exact ⟨rfl, (Below.refl _ _).alloc (Nat.le_refl _) _⟩
set_option maxRecDepth 100000 in
set_option maxHeartbeats 2000000 in
theorem nd_bad_n2 (wd n : Int) (nm : ByteArray) (s : Value) (k : Fo) (w : World) (his : (k.cs 69).Is w 0 5 k.len s) (hw : wdB wd = true) (hnm : nm.toList.isEmpty = false) (hn0 : n ≠ 0) :
    Calls Tryz.prog 91 #[.agg #[.int .i64 22, .int .i64 wd, .int .i64 n, .string nm, s]] w fun e w' => e = .returned (.bool (false)) ∧ Below w.heap.size w w' := by
  obtain ⟨_, ⟨_, q, cap, rfl, _⟩, _⟩ := his
  have KW := Lib.hid (fun W => s_wd wd W)
  rw [hw] at KW
  have hne : (!nm.toList.isEmpty) = true := by rw [hnm]; rfl
  have hn_0 : ((n : Int) == 0) = false := by simpa using hn0
  have gn_0 : ((n : Int) != 0) = true := by simpa using hn0
  go_enter Tryz.func91, Tryz.ntmps91
  go_wp2_with (go_at_call 46; refine (KW.out _).mono ?_; rintro e w1 ⟨rfl, rfl⟩)
  go_ret
  exact ⟨rfl, (Below.refl _ _).alloc (Nat.le_refl _) _⟩
end Go.Proofs.YtpojldocjaieoaaGreatDoor
namespace Go.Proofs.YtpojldocjaieoaaGreatDoor
open Go.ChangeShapes Go.WideShapes Go.ChangeAt Go.RowKit
/-- the specification's check of a node and of all below it -/
def NodeC (k : Fo) : Prop := ∀ (op wd n : Int) (nm : ByteArray) (s : Value) (w : World), (k.cs 69).Is w 0 5 k.len s → nm.size ≤ 1048576 → k.cost ≤ 1048576 →
  Calls Tryz.prog 91 #[.agg #[.int .i64 op, .int .i64 wd, .int .i64 n, .string nm, s]] w fun e w' => e = .returned (.bool (fitB op wd n nm k.ws && k.allB)) ∧ Below w.heap.size w w'
theorem drop_allB (F : Fo) (j : Nat) {op wd n : Int} {nm : ByteArray} {k : Fo} (h : F.At j op wd n nm k) : (F.drop j).allB = ((fitB op wd n nm k.ws && k.allB) && (F.drop (j + 1)).allB) := by
  rw [Fo.drop_at F j h]; rfl
theorem wd_range {wd : Int} (h : wdB wd = true) : 1 ≤ wd ∧ wd ≤ 16 := by
  rcases wd_cases wd with ⟨_, he⟩ | ⟨_, _, he⟩ | ⟨h1, h2, _⟩
  · rw [he] at h; cases h
  · rw [he] at h; cases h
  · exact ⟨h1, h2⟩
theorem allB_ws : ∀ (F : Fo), F.allB = true → ∀ x ∈ F.ws, 1 ≤ x ∧ x ≤ 16
  | .nil, _, x, h => by cases h
  | .cons op wd n nm k r, h, x, hx => by
    simp only [Fo.allB, Bool.and_eq_true] at h
    rcases List.mem_cons.1 hx with rfl | hx
    · have hf := h.1.1
      unfold fitB at hf
      simp only [Bool.and_eq_true] at hf
      exact wd_range hf.1.1.1.1
    · exact allB_ws r h.2 x hx
theorem in_true {a lo hi : Int} (h : lo ≤ a ∧ a ≤ hi) : (decide (lo ≤ a) && decide (a ≤ hi)) = true := by simp [h.1, h.2]
theorem in_false {a lo hi : Int} (h : a < lo ∨ hi < a) : (decide (lo ≤ a) && decide (a ≤ hi)) = false := by
  rcases h with h | h
  · rw [decide_eq_false (by omega : ¬ lo ≤ a), Bool.false_and]
  · rw [decide_eq_false (by omega : ¬ a ≤ hi), Bool.and_false]
theorem fit_mis {op wd n : Int} {nm : ByteArray} {l : List Int} (h : (l.length : Int) ≠ kc op) : fitB op wd n nm l = false := by
  unfold fitB; rw [decide_eq_false h]; simp
theorem fit_eq {op wd n : Int} {nm : ByteArray} {l : List Int} (hw : wdB wd = true) (h : (l.length : Int) = kc op) (hn : (decide (n = 0) || decide (op = 0) || decide (op = 19)) = true) (hnm : (nm.toList.isEmpty || decide (op = 22)) = true) :
    fitB op wd n nm l = if op = 0 then wkB wd n else if op = 22 then nmB nm else wfB op wd n l := by
  unfold fitB; rw [hw, decide_eq_true h, hn, hnm]; simp
theorem kc_0 : kc 0 = 0 := by decide
theorem kc_22 : kc 22 = 0 := by decide
theorem kc_17 : kc 17 = 3 := by decide
theorem kc_18 : kc 18 = 2 := by decide
theorem kc_un {op : Int} (h : op = 1 ∨ op = 2 ∨ op = 19 ∨ op = 20 ∨ op = 21) : kc op = 1 := by unfold kc; rw [if_neg (by omega), if_pos h]
theorem kc_bin {op : Int} (h : 3 ≤ op ∧ op ≤ 16) : kc op = 2 := by unfold kc; rw [if_neg (by omega), if_neg (by omega), if_neg (by omega), if_pos (by omega)]
theorem kc_none {op : Int} (h : op < 0 ∨ 22 < op) : kc op = -1 := by unfold kc; rw [if_neg (by omega), if_neg (by omega), if_neg (by omega), if_neg (by omega)]
theorem ws1 {l : List Int} {a : Int} (h : l.length = 1) (h0 : l[0]? = some a) : l = [a] := by
  match l, h, h0 with
  | [x], _, h0 => cases h0; rfl
theorem ws2 {l : List Int} {a b : Int} (h : l.length = 2) (h0 : l[0]? = some a) (h1 : l[1]? = some b) : l = [a, b] := by
  match l, h, h0, h1 with
  | [x, y], _, h0, h1 => cases h0; cases h1; rfl
theorem ws3 {l : List Int} {a b c : Int} (h : l.length = 3) (h0 : l[0]? = some a) (h1 : l[1]? = some b) (h2 : l[2]? = some c) : l = [a, b, c] := by
  match l, h, h0, h1, h2 with
  | [x, y, z], _, h0, h1, h2 => cases h0; cases h1; cases h2; rfl
set_option maxRecDepth 100000 in
set_option maxHeartbeats 8000000 in
theorem nd_g2 (wd n : Int) (s : Value) (F : Fo) (hF : F.AllK NodeC) (w : World) (his : (F.cs 69).Is w 0 5 F.len s) (hcost : F.cost ≤ 1048576) (hw : wdB wd = true) (hn0 : n ≠ 0) :
    Calls Tryz.prog 91 #[.agg #[.int .i64 0, .int .i64 wd, .int .i64 n, .string ⟨#[]⟩, s]] w fun e w' => e = .returned (.bool (fitB 0 wd n ⟨#[]⟩ F.ws && F.allB)) ∧ Below w.heap.size w w' := by
  have hml : maxLen = 9223372036854775807 := rfl
  have hFl := F.len_le
  have hFn := F.nodes_le
  have hFc := F.cost_eq
  have hwr := wd_range hw
  have HV := Lib.hid his
  obtain ⟨_, ⟨_, q, cap, rfl, _⟩, _⟩ := his
  obtain ⟨W1, hW1⟩ : ∃ W1, W1 = w.alloc (.cells #[.int .i64 0, .int .i64 wd, .int .i64 n, .string ⟨#[]⟩, .slice q F.len cap] 69) := ⟨_, rfl⟩
  have HBW : Hid (Below w.heap.size w W1) := Lib.hid (by rw [hW1]; exact (Below.refl _ _).alloc (Nat.le_refl _) _)
  have hsW : w.heap.size < W1.heap.size := by rw [hW1]; simp
  have X1 : Hid (Cell5 W1 w.heap.size (.int .i64 0) (.int .i64 wd) (.int .i64 n) (.string ⟨#[]⟩) (.slice q F.len cap)) := Lib.hid (by rw [hW1]; exact cell5_alloc _ _ _ _ _ _ _)
  have HI : Hid (∀ j, j < F.len → ∃ b o, q = some ⟨b, o, none⟩ ∧ b < w.heap.size ∧ ∃ op wd n nm k v, F.At j op wd n nm k ∧ F.ws[j]? = some wd ∧ (k.cs 69).Is w 0 5 k.len v ∧ w.rangeAt b (o + j * 5) [.int .i64 op, .int .i64 wd, .int .i64 n, .string nm, v]) := Lib.hid (fun j hj => by
    rcases Fo.is_cases HV.out with ⟨h0, _⟩ | ⟨hpos, b, o, cap', ys, hq, _, _, _, hbl, hvs, hr⟩
    · omega
    · injection hq with e1 e2 e3
      obtain ⟨op, wd, n, nm, k, v, h1, h2, h3⟩ := Fo.nth F hvs hr j hj
      obtain ⟨x, hx, cx⟩ := width_at hvs hr j hj
      have : w.cell? ⟨b, o + j * 5 + 1, none⟩ = some (.int .i64 wd) := h3 1 _ rfl
      rw [cx] at this
      cases this
      exact ⟨b, o, e1, hbl, op, _, n, nm, k, v, h1, hx, h2, h3⟩)
  have HK := Lib.hid hF
  have HD := Lib.hid F.drop_all
  have HD0 := Lib.hid F.drop_zero
  have HA := Lib.hid (allB_ws F)
  have KW := Lib.hid (fun W => s_wd wd W)
  rw [hw] at KW
  obtain ⟨rb, hrb⟩ : ∃ rb, (fitB 0 wd n ⟨#[]⟩ F.ws && F.allB) = rb := ⟨_, rfl⟩
  have HRB := Lib.hid hrb
  rw [hrb]
  clear hF hrb
  have hn_0 : ((n : Int) == 0) = false := by simpa using hn0
  have gn_0 : ((n : Int) != 0) = true := by simpa using hn0
  have KO := Lib.hid (fun W => s_wk wd n W)
  go_enter Tryz.func91, Tryz.ntmps91
  go_wp2_with (go_at_call 46; refine (KW.out _).mono ?_; rintro e w1 ⟨rfl, rfl⟩)
  rw [← hW1]
  go_loopw [43] (fun i wr => ∃ j : Nat, j ≤ F.len ∧ i = .int .i64 j ∧ (F.drop j).allB = F.allB ∧ Below W1.heap.size W1 wr) (fun i _ => F.len - (intOf i).toNat)
  case atStart => exact ⟨0, Nat.zero_le _, rfl, by rw [HD0.out], Below.refl _ _⟩
  case round =>
    clear hW1
    obtain ⟨j, hj, rfl, hab, hb⟩ := hrel
    have HB := Lib.hid hb
    have hsz := hb.size
    by_cases hjn : j < F.len
    · obtain ⟨b, o, rfl, hbl, op', wd', n', nm', k, v, hat, _, his, hrr⟩ := HI.out j hjn
      rw [drop_allB F j hat] at hab
      have hpd := Fo.at_paid F j hat
      have hk := Fo.at_allK F j hat HK.out
      have hbw := HBW.out.trans (hb.mono (by omega))
      have his := his.below hbw
      have hrr := rangeAt_below hbw hrr
      have HIS := Lib.hid his
      obtain ⟨_, ⟨_, q', cap2, rfl, _⟩, _⟩ := his
      have c0 : wr.cell? ⟨b, o + j * 5, none⟩ = some (.int .i64 op') := hrr 0 _ rfl
      have c1 : wr.cell? ⟨b, o + j * 5 + 1, none⟩ = some (.int .i64 wd') := hrr 1 _ rfl
      have c2 : wr.cell? ⟨b, o + j * 5 + 2, none⟩ = some (.int .i64 n') := hrr 2 _ rfl
      have c3 : wr.cell? ⟨b, o + j * 5 + 3, none⟩ = some (.string nm') := hrr 3 _ rfl
      have c4 : wr.cell? ⟨b, o + j * 5 + 4, none⟩ = some (.slice q' k.len cap2) := hrr 4 _ rfl
      have SO := Lib.hid (fun W (hW : Below wr.heap.size wr W) => hk op' wd' n' nm' _ W (HIS.out.below hW) (by omega) (by omega))
      have hki : (j : Int) < (F.len : Int) := by omega
      generalize hg : (fitB op' wd' n' nm' k.ws && k.allB) = kb at *
      have HAB := Lib.hid hab
      clear hb hrr hat hk hpd HI hbw hab hg
      cases kb with
      | false =>
        have hrb0 : Hid (rb = false) := Lib.hid (by rw [← HRB.out, ← HAB.out]; simp)
        go_wp2_with (go_at_call 91; refine (SO.out _ ((Below.refl _ _).alloc (Nat.le_refl _) _)).mono ?_; rintro e w3 ⟨rfl, hb3⟩)
        go_ret
        exact ⟨by rw [hrb0.out]; rfl, HBW.out.trans ((HB.out.trans (((Below.refl wr.heap.size wr).alloc (Nat.le_refl _) _ |>.trans (hb3.mono (by simp))).mono hsz)).mono (by omega))⟩
      | true =>
        go_wp2_with (go_at_call 91; refine (SO.out _ ((Below.refl _ _).alloc (Nat.le_refl _) _)).mono ?_; rintro e w3 ⟨rfl, hb3⟩)
        go_roundw
        case rel => exact ⟨j + 1, by omega, by go_num, by rw [← HAB.out]; simp, HB.out.trans (((Below.refl wr.heap.size wr).alloc (Nat.le_refl _) _ |>.trans (hb3.mono (by simp))).mono hsz)⟩
        case measure => simp [intOf]; omega
    · have ej : j = F.len := by omega
      have hall : F.allB = true := by rw [← hab, ej, HD.out]; rfl
      have HRF : Hid (rb = fitB 0 wd n ⟨#[]⟩ F.ws) := Lib.hid (by rw [← HRB.out, hall, Bool.and_true])
      have HWS := Lib.hid (HA.out hall)
      have hwl := F.ws_len
      have hnj : ¬ ((j : Int) < (F.len : Int)) := by omega
      have X2 := Lib.hid (X1.out.below hb)
      obtain ⟨x0, x1, x2, x3, x4⟩ := X2.out
      clear hb hab ej HRB HA HK HD HD0 hall
      obtain ⟨wk, hwk⟩ : ∃ wk, wk = wr := ⟨_, rfl⟩
      subst hwk
      go_wp2
      go_loopw [7] (fun i wq => ∃ (j : Nat) (a0 a1 a2 : Int), j ≤ F.len ∧ j ≤ 3 ∧ i = .int .i64 j ∧ wq.heap[wk.heap.size]? = some (.cells #[.int .i64 a0, .int .i64 a1, .int .i64 a2] 3 (0, 0)) ∧ Below W1.heap.size W1 wq ∧ (0 < j → F.ws[0]? = some a0) ∧ (1 < j → F.ws[1]? = some a1) ∧ (2 < j → F.ws[2]? = some a2)) (fun i _ => 3 - (intOf i).toNat)
      case atStart => exact ⟨0, 0, 0, 0, Nat.zero_le _, Nat.zero_le _, rfl, heap_alloc_new wk _, HB.out.alloc hsz _, fun h => by omega, fun h => by omega, fun h => by omega⟩
      case round =>
        clear x0 x1 x2 x3 x4 hj hnj
        obtain ⟨i, a0, a1, a2, hi, hi3, rfl, hrow, hbq, hx0, hx1, hx2⟩ := hrel
        obtain ⟨x0, x1, x2, x3, x4⟩ := X1.out.below hbq
        have y0 : wr.cell? ⟨wk.heap.size, 0, none⟩ = some (.int .i64 a0) := cell_of_row wr _ 0 _ _ _ hrow
        have y1 : wr.cell? ⟨wk.heap.size, 1, none⟩ = some (.int .i64 a1) := cell_of_row wr _ 1 _ _ _ hrow
        have y2 : wr.cell? ⟨wk.heap.size, 2, none⟩ = some (.int .i64 a2) := cell_of_row wr _ 2 _ _ _ hrow
        have z0 := frozen_of_row wr wk.heap.size 0 _ _ hrow
        have z1 := frozen_of_row wr wk.heap.size 1 _ _ hrow
        have z2 := frozen_of_row wr wk.heap.size 2 _ _ hrow
        have HQ := Lib.hid hbq
        have hbw := HBW.out.trans (hbq.mono (by omega))
        have FR := Lib.hid hbw
        have HROW := Lib.hid hrow
        clear hrow hbq
        by_cases hgo : i < F.len ∧ i < 3
        · obtain ⟨hin, hi4⟩ := hgo
          obtain ⟨b, o, rfl, hbl, op', wd', n', nm', k, v, hat, hws, his, hrr⟩ := HI.out i hin
          have hrr := rangeAt_below hbw hrr
          have c1 : wr.cell? ⟨b, o + i * 5 + 1, none⟩ = some (.int .i64 wd') := hrr 1 _ rfl
          have hin' : (i : Int) < (F.len : Int) := by omega
          clear hbw hrr his hat HI
          rcases (show i = 0 ∨ i = 1 ∨ i = 2 by omega) with rfl | rfl | rfl
          · have c1 : wr.cell? ⟨b, o + 1, none⟩ = some (.int .i64 wd') := by simpa using c1
            go_wp2
            go_roundw
            case rel => exact ⟨1, wd', a1, a2, by omega, by omega, by go_num, heap_setCell_same wr _ 0 _ _ _ HROW.out, HQ.out.setCell hsz _, fun _ => hws, fun h => by omega, fun h => by omega⟩
            case measure => simp [intOf]
          · have c1 : wr.cell? ⟨b, o + 5 + 1, none⟩ = some (.int .i64 wd') := by simpa using c1
            go_wp2
            go_roundw
            case rel => exact ⟨2, a0, wd', a2, by omega, by omega, by go_num, heap_setCell_same wr _ 1 _ _ _ HROW.out, HQ.out.setCell hsz _, fun _ => hx0 (by omega), fun _ => hws, fun h => by omega⟩
            case measure => simp [intOf]
          · have c1 : wr.cell? ⟨b, o + 10 + 1, none⟩ = some (.int .i64 wd') := by simpa using c1
            go_wp2
            go_roundw
            case rel => exact ⟨3, a0, a1, wd', by omega, by omega, by go_num, heap_setCell_same wr _ 2 _ _ _ HROW.out, HQ.out.setCell hsz _, fun _ => hx0 (by omega), fun _ => hx1 (by omega), fun _ => hws⟩
            case measure => simp [intOf]
        · clear hbw HI
          have hkc : kc 0 = 0 := kc_0
          by_cases hle : i = F.len
          · have hde : decide ((i : Int) < (F.len : Int)) = false := by simp; omega
            by_cases hkn : F.len = 0
            · have hkb : ((F.len : Int) == 0) = true := by rw [hkn]; rfl
              have hws : F.ws = [] := List.length_eq_zero_iff.1 (by omega)
              have hrr := HRF.out
              rw [hws, fit_eq hw (by rw [hkc]; rfl) (by simp) (by simp)] at hrr
              have hwi := HWS.out
              rw [hws] at hwi
              have RB : Hid (rb = wkB wd n) := Lib.hid (by rw [hrr]; rfl)
              clear hrr hwi hws
              go_wp2_with fail
              refine (KO.out _).mono ?_
              rintro e w1 ⟨rfl, rfl⟩
              go_wp2
              go_ret
              exact ⟨by rw [RB.out]; rfl, by first | exact FR.out | exact below_drewN FR.out _⟩
            · have hkb : ((F.len : Int) == 0) = false := by simp; omega
              have RB := Lib.hid (HRF.out.trans (fit_mis (by rw [hkc]; omega)))
              go_wp2
              go_ret
              exact ⟨by rw [RB.out]; rfl, by first | exact FR.out | exact below_drewN FR.out _⟩
          · have hde : decide ((i : Int) < 3) = false := by simp; omega
            have hdf : decide ((i : Int) < (F.len : Int)) = true := by simp; omega
            have hkb : ((F.len : Int) == 0) = false := by simp; omega
            have RB := Lib.hid (HRF.out.trans (fit_mis (by rw [hkc]; omega)))
            go_wp2
            go_ret
            exact ⟨by rw [RB.out]; rfl, by first | exact FR.out | exact below_drewN FR.out _⟩
end Go.Proofs.YtpojldocjaieoaaGreatDoor
namespace Go.Proofs.YtpojldocjaieoaaGreatDoor
open Go.ChangeShapes Go.WideShapes Go.ChangeAt Go.RowKit
set_option maxRecDepth 100000 in
set_option maxHeartbeats 8000000 in
theorem nd_g4 (wd : Int) (nm : ByteArray) (s : Value) (F : Fo) (hF : F.AllK NodeC) (w : World) (his : (F.cs 69).Is w 0 5 F.len s) (hsz : nm.size ≤ 1048576) (hcost : F.cost ≤ 1048576) (hw : wdB wd = true) (hnm : nm.toList.isEmpty = false) :
    Calls Tryz.prog 91 #[.agg #[.int .i64 22, .int .i64 wd, .int .i64 0, .string nm, s]] w fun e w' => e = .returned (.bool (fitB 22 wd 0 nm F.ws && F.allB)) ∧ Below w.heap.size w w' := by
  have hml : maxLen = 9223372036854775807 := rfl
  have hFl := F.len_le
  have hFn := F.nodes_le
  have hFc := F.cost_eq
  have hwr := wd_range hw
  have HV := Lib.hid his
  obtain ⟨_, ⟨_, q, cap, rfl, _⟩, _⟩ := his
  obtain ⟨W1, hW1⟩ : ∃ W1, W1 = w.alloc (.cells #[.int .i64 22, .int .i64 wd, .int .i64 0, .string nm, .slice q F.len cap] 69) := ⟨_, rfl⟩
  have HBW : Hid (Below w.heap.size w W1) := Lib.hid (by rw [hW1]; exact (Below.refl _ _).alloc (Nat.le_refl _) _)
  have hsW : w.heap.size < W1.heap.size := by rw [hW1]; simp
  have X1 : Hid (Cell5 W1 w.heap.size (.int .i64 22) (.int .i64 wd) (.int .i64 0) (.string nm) (.slice q F.len cap)) := Lib.hid (by rw [hW1]; exact cell5_alloc _ _ _ _ _ _ _)
  have HI : Hid (∀ j, j < F.len → ∃ b o, q = some ⟨b, o, none⟩ ∧ b < w.heap.size ∧ ∃ op wd n nm k v, F.At j op wd n nm k ∧ F.ws[j]? = some wd ∧ (k.cs 69).Is w 0 5 k.len v ∧ w.rangeAt b (o + j * 5) [.int .i64 op, .int .i64 wd, .int .i64 n, .string nm, v]) := Lib.hid (fun j hj => by
    rcases Fo.is_cases HV.out with ⟨h0, _⟩ | ⟨hpos, b, o, cap', ys, hq, _, _, _, hbl, hvs, hr⟩
    · omega
    · injection hq with e1 e2 e3
      obtain ⟨op, wd, n, nm, k, v, h1, h2, h3⟩ := Fo.nth F hvs hr j hj
      obtain ⟨x, hx, cx⟩ := width_at hvs hr j hj
      have : w.cell? ⟨b, o + j * 5 + 1, none⟩ = some (.int .i64 wd) := h3 1 _ rfl
      rw [cx] at this
      cases this
      exact ⟨b, o, e1, hbl, op, _, n, nm, k, v, h1, hx, h2, h3⟩)
  have HK := Lib.hid hF
  have HD := Lib.hid F.drop_all
  have HD0 := Lib.hid F.drop_zero
  have HA := Lib.hid (allB_ws F)
  have KW := Lib.hid (fun W => s_wd wd W)
  rw [hw] at KW
  obtain ⟨rb, hrb⟩ : ∃ rb, (fitB 22 wd 0 nm F.ws && F.allB) = rb := ⟨_, rfl⟩
  have HRB := Lib.hid hrb
  rw [hrb]
  clear hF hrb
  have hne : (!nm.toList.isEmpty) = true := by rw [hnm]; rfl
  have KO := Lib.hid (fun W => s_isName nm hsz W)
  go_enter Tryz.func91, Tryz.ntmps91
  go_wp2_with (go_at_call 46; refine (KW.out _).mono ?_; rintro e w1 ⟨rfl, rfl⟩)
  rw [← hW1]
  go_loopw [43] (fun i wr => ∃ j : Nat, j ≤ F.len ∧ i = .int .i64 j ∧ (F.drop j).allB = F.allB ∧ Below W1.heap.size W1 wr) (fun i _ => F.len - (intOf i).toNat)
  case atStart => exact ⟨0, Nat.zero_le _, rfl, by rw [HD0.out], Below.refl _ _⟩
  case round =>
    clear hW1
    obtain ⟨j, hj, rfl, hab, hb⟩ := hrel
    have HB := Lib.hid hb
    have hsz := hb.size
    by_cases hjn : j < F.len
    · obtain ⟨b, o, rfl, hbl, op', wd', n', nm', k, v, hat, _, his, hrr⟩ := HI.out j hjn
      rw [drop_allB F j hat] at hab
      have hpd := Fo.at_paid F j hat
      have hk := Fo.at_allK F j hat HK.out
      have hbw := HBW.out.trans (hb.mono (by omega))
      have his := his.below hbw
      have hrr := rangeAt_below hbw hrr
      have HIS := Lib.hid his
      obtain ⟨_, ⟨_, q', cap2, rfl, _⟩, _⟩ := his
      have c0 : wr.cell? ⟨b, o + j * 5, none⟩ = some (.int .i64 op') := hrr 0 _ rfl
      have c1 : wr.cell? ⟨b, o + j * 5 + 1, none⟩ = some (.int .i64 wd') := hrr 1 _ rfl
      have c2 : wr.cell? ⟨b, o + j * 5 + 2, none⟩ = some (.int .i64 n') := hrr 2 _ rfl
      have c3 : wr.cell? ⟨b, o + j * 5 + 3, none⟩ = some (.string nm') := hrr 3 _ rfl
      have c4 : wr.cell? ⟨b, o + j * 5 + 4, none⟩ = some (.slice q' k.len cap2) := hrr 4 _ rfl
      have SO := Lib.hid (fun W (hW : Below wr.heap.size wr W) => hk op' wd' n' nm' _ W (HIS.out.below hW) (by omega) (by omega))
      have hki : (j : Int) < (F.len : Int) := by omega
      generalize hg : (fitB op' wd' n' nm' k.ws && k.allB) = kb at *
      have HAB := Lib.hid hab
      clear hb hrr hat hk hpd HI hbw hab hg
      cases kb with
      | false =>
        have hrb0 : Hid (rb = false) := Lib.hid (by rw [← HRB.out, ← HAB.out]; simp)
        go_wp2_with (go_at_call 91; refine (SO.out _ ((Below.refl _ _).alloc (Nat.le_refl _) _)).mono ?_; rintro e w3 ⟨rfl, hb3⟩)
        go_ret
        exact ⟨by rw [hrb0.out]; rfl, HBW.out.trans ((HB.out.trans (((Below.refl wr.heap.size wr).alloc (Nat.le_refl _) _ |>.trans (hb3.mono (by simp))).mono hsz)).mono (by omega))⟩
      | true =>
        go_wp2_with (go_at_call 91; refine (SO.out _ ((Below.refl _ _).alloc (Nat.le_refl _) _)).mono ?_; rintro e w3 ⟨rfl, hb3⟩)
        go_roundw
        case rel => exact ⟨j + 1, by omega, by go_num, by rw [← HAB.out]; simp, HB.out.trans (((Below.refl wr.heap.size wr).alloc (Nat.le_refl _) _ |>.trans (hb3.mono (by simp))).mono hsz)⟩
        case measure => simp [intOf]; omega
    · have ej : j = F.len := by omega
      have hall : F.allB = true := by rw [← hab, ej, HD.out]; rfl
      have HRF : Hid (rb = fitB 22 wd 0 nm F.ws) := Lib.hid (by rw [← HRB.out, hall, Bool.and_true])
      have HWS := Lib.hid (HA.out hall)
      have hwl := F.ws_len
      have hnj : ¬ ((j : Int) < (F.len : Int)) := by omega
      have X2 := Lib.hid (X1.out.below hb)
      obtain ⟨x0, x1, x2, x3, x4⟩ := X2.out
      clear hb hab ej HRB HA HK HD HD0 hall
      obtain ⟨wk, hwk⟩ : ∃ wk, wk = wr := ⟨_, rfl⟩
      subst hwk
      go_wp2
      go_loopw [7] (fun i wq => ∃ (j : Nat) (a0 a1 a2 : Int), j ≤ F.len ∧ j ≤ 3 ∧ i = .int .i64 j ∧ wq.heap[wk.heap.size]? = some (.cells #[.int .i64 a0, .int .i64 a1, .int .i64 a2] 3 (0, 0)) ∧ Below W1.heap.size W1 wq ∧ (0 < j → F.ws[0]? = some a0) ∧ (1 < j → F.ws[1]? = some a1) ∧ (2 < j → F.ws[2]? = some a2)) (fun i _ => 3 - (intOf i).toNat)
      case atStart => exact ⟨0, 0, 0, 0, Nat.zero_le _, Nat.zero_le _, rfl, heap_alloc_new wk _, HB.out.alloc hsz _, fun h => by omega, fun h => by omega, fun h => by omega⟩
      case round =>
        clear x0 x1 x2 x3 x4 hj hnj
        obtain ⟨i, a0, a1, a2, hi, hi3, rfl, hrow, hbq, hx0, hx1, hx2⟩ := hrel
        obtain ⟨x0, x1, x2, x3, x4⟩ := X1.out.below hbq
        have y0 : wr.cell? ⟨wk.heap.size, 0, none⟩ = some (.int .i64 a0) := cell_of_row wr _ 0 _ _ _ hrow
        have y1 : wr.cell? ⟨wk.heap.size, 1, none⟩ = some (.int .i64 a1) := cell_of_row wr _ 1 _ _ _ hrow
        have y2 : wr.cell? ⟨wk.heap.size, 2, none⟩ = some (.int .i64 a2) := cell_of_row wr _ 2 _ _ _ hrow
        have z0 := frozen_of_row wr wk.heap.size 0 _ _ hrow
        have z1 := frozen_of_row wr wk.heap.size 1 _ _ hrow
        have z2 := frozen_of_row wr wk.heap.size 2 _ _ hrow
        have HQ := Lib.hid hbq
        have hbw := HBW.out.trans (hbq.mono (by omega))
        have FR := Lib.hid hbw
        have HROW := Lib.hid hrow
        clear hrow hbq
        by_cases hgo : i < F.len ∧ i < 3
        · obtain ⟨hin, hi4⟩ := hgo
          obtain ⟨b, o, rfl, hbl, op', wd', n', nm', k, v, hat, hws, his, hrr⟩ := HI.out i hin
          have hrr := rangeAt_below hbw hrr
          have c1 : wr.cell? ⟨b, o + i * 5 + 1, none⟩ = some (.int .i64 wd') := hrr 1 _ rfl
          have hin' : (i : Int) < (F.len : Int) := by omega
          clear hbw hrr his hat HI
          rcases (show i = 0 ∨ i = 1 ∨ i = 2 by omega) with rfl | rfl | rfl
          · have c1 : wr.cell? ⟨b, o + 1, none⟩ = some (.int .i64 wd') := by simpa using c1
            go_wp2
            go_roundw
            case rel => exact ⟨1, wd', a1, a2, by omega, by omega, by go_num, heap_setCell_same wr _ 0 _ _ _ HROW.out, HQ.out.setCell hsz _, fun _ => hws, fun h => by omega, fun h => by omega⟩
            case measure => simp [intOf]
          · have c1 : wr.cell? ⟨b, o + 5 + 1, none⟩ = some (.int .i64 wd') := by simpa using c1
            go_wp2
            go_roundw
            case rel => exact ⟨2, a0, wd', a2, by omega, by omega, by go_num, heap_setCell_same wr _ 1 _ _ _ HROW.out, HQ.out.setCell hsz _, fun _ => hx0 (by omega), fun _ => hws, fun h => by omega⟩
            case measure => simp [intOf]
          · have c1 : wr.cell? ⟨b, o + 10 + 1, none⟩ = some (.int .i64 wd') := by simpa using c1
            go_wp2
            go_roundw
            case rel => exact ⟨3, a0, a1, wd', by omega, by omega, by go_num, heap_setCell_same wr _ 2 _ _ _ HROW.out, HQ.out.setCell hsz _, fun _ => hx0 (by omega), fun _ => hx1 (by omega), fun _ => hws⟩
            case measure => simp [intOf]
        · clear hbw HI
          have hkc : kc 22 = 0 := kc_22
          by_cases hle : i = F.len
          · have hde : decide ((i : Int) < (F.len : Int)) = false := by simp; omega
            by_cases hkn : F.len = 0
            · have hkb : ((F.len : Int) == 0) = true := by rw [hkn]; rfl
              have hws : F.ws = [] := List.length_eq_zero_iff.1 (by omega)
              have hrr := HRF.out
              rw [hws, fit_eq hw (by rw [hkc]; rfl) (by simp) (by simp)] at hrr
              have hwi := HWS.out
              rw [hws] at hwi
              have RB : Hid (rb = nmB nm) := Lib.hid (by rw [hrr]; rfl)
              clear hrr hwi hws
              go_wp2_with fail
              refine (KO.out _).mono ?_
              rintro e w1 ⟨rfl, rfl⟩
              go_wp2
              go_ret
              exact ⟨by rw [RB.out]; rfl, by first | exact FR.out | exact below_drewN FR.out _⟩
            · have hkb : ((F.len : Int) == 0) = false := by simp; omega
              have RB := Lib.hid (HRF.out.trans (fit_mis (by rw [hkc]; omega)))
              go_wp2
              go_ret
              exact ⟨by rw [RB.out]; rfl, by first | exact FR.out | exact below_drewN FR.out _⟩
          · have hde : decide ((i : Int) < 3) = false := by simp; omega
            have hdf : decide ((i : Int) < (F.len : Int)) = true := by simp; omega
            have hkb : ((F.len : Int) == 0) = false := by simp; omega
            have RB := Lib.hid (HRF.out.trans (fit_mis (by rw [hkc]; omega)))
            go_wp2
            go_ret
            exact ⟨by rw [RB.out]; rfl, by first | exact FR.out | exact below_drewN FR.out _⟩
end Go.Proofs.YtpojldocjaieoaaGreatDoor
namespace Go.Proofs.YtpojldocjaieoaaGreatDoor
open Go.ChangeShapes Go.WideShapes Go.ChangeAt Go.RowKit
set_option maxRecDepth 100000 in
set_option maxHeartbeats 8000000 in
theorem nd_g3 (wd n : Int) (s : Value) (F : Fo) (hF : F.AllK NodeC) (w : World) (his : (F.cs 69).Is w 0 5 F.len s) (hcost : F.cost ≤ 1048576) (hw : wdB wd = true) (hn0 : n ≠ 0) :
    Calls Tryz.prog 91 #[.agg #[.int .i64 19, .int .i64 wd, .int .i64 n, .string ⟨#[]⟩, s]] w fun e w' => e = .returned (.bool (fitB 19 wd n ⟨#[]⟩ F.ws && F.allB)) ∧ Below w.heap.size w w' := by
  have hml : maxLen = 9223372036854775807 := rfl
  have hFl := F.len_le
  have hFn := F.nodes_le
  have hFc := F.cost_eq
  have hwr := wd_range hw
  have HV := Lib.hid his
  obtain ⟨_, ⟨_, q, cap, rfl, _⟩, _⟩ := his
  obtain ⟨W1, hW1⟩ : ∃ W1, W1 = w.alloc (.cells #[.int .i64 19, .int .i64 wd, .int .i64 n, .string ⟨#[]⟩, .slice q F.len cap] 69) := ⟨_, rfl⟩
  have HBW : Hid (Below w.heap.size w W1) := Lib.hid (by rw [hW1]; exact (Below.refl _ _).alloc (Nat.le_refl _) _)
  have hsW : w.heap.size < W1.heap.size := by rw [hW1]; simp
  have X1 : Hid (Cell5 W1 w.heap.size (.int .i64 19) (.int .i64 wd) (.int .i64 n) (.string ⟨#[]⟩) (.slice q F.len cap)) := Lib.hid (by rw [hW1]; exact cell5_alloc _ _ _ _ _ _ _)
  have HI : Hid (∀ j, j < F.len → ∃ b o, q = some ⟨b, o, none⟩ ∧ b < w.heap.size ∧ ∃ op wd n nm k v, F.At j op wd n nm k ∧ F.ws[j]? = some wd ∧ (k.cs 69).Is w 0 5 k.len v ∧ w.rangeAt b (o + j * 5) [.int .i64 op, .int .i64 wd, .int .i64 n, .string nm, v]) := Lib.hid (fun j hj => by
    rcases Fo.is_cases HV.out with ⟨h0, _⟩ | ⟨hpos, b, o, cap', ys, hq, _, _, _, hbl, hvs, hr⟩
    · omega
    · injection hq with e1 e2 e3
      obtain ⟨op, wd, n, nm, k, v, h1, h2, h3⟩ := Fo.nth F hvs hr j hj
      obtain ⟨x, hx, cx⟩ := width_at hvs hr j hj
      have : w.cell? ⟨b, o + j * 5 + 1, none⟩ = some (.int .i64 wd) := h3 1 _ rfl
      rw [cx] at this
      cases this
      exact ⟨b, o, e1, hbl, op, _, n, nm, k, v, h1, hx, h2, h3⟩)
  have HK := Lib.hid hF
  have HD := Lib.hid F.drop_all
  have HD0 := Lib.hid F.drop_zero
  have HA := Lib.hid (allB_ws F)
  have KW := Lib.hid (fun W => s_wd wd W)
  rw [hw] at KW
  obtain ⟨rb, hrb⟩ : ∃ rb, (fitB 19 wd n ⟨#[]⟩ F.ws && F.allB) = rb := ⟨_, rfl⟩
  have HRB := Lib.hid hrb
  rw [hrb]
  clear hF hrb
  have hn_0 : ((n : Int) == 0) = false := by simpa using hn0
  have gn_0 : ((n : Int) != 0) = true := by simpa using hn0
  go_enter Tryz.func91, Tryz.ntmps91
  go_wp2_with (go_at_call 46; refine (KW.out _).mono ?_; rintro e w1 ⟨rfl, rfl⟩)
  rw [← hW1]
  go_loopw [43] (fun i wr => ∃ j : Nat, j ≤ F.len ∧ i = .int .i64 j ∧ (F.drop j).allB = F.allB ∧ Below W1.heap.size W1 wr) (fun i _ => F.len - (intOf i).toNat)
  case atStart => exact ⟨0, Nat.zero_le _, rfl, by rw [HD0.out], Below.refl _ _⟩
  case round =>
    clear hW1
    obtain ⟨j, hj, rfl, hab, hb⟩ := hrel
    have HB := Lib.hid hb
    have hsz := hb.size
    by_cases hjn : j < F.len
    · obtain ⟨b, o, rfl, hbl, op', wd', n', nm', k, v, hat, _, his, hrr⟩ := HI.out j hjn
      rw [drop_allB F j hat] at hab
      have hpd := Fo.at_paid F j hat
      have hk := Fo.at_allK F j hat HK.out
      have hbw := HBW.out.trans (hb.mono (by omega))
      have his := his.below hbw
      have hrr := rangeAt_below hbw hrr
      have HIS := Lib.hid his
      obtain ⟨_, ⟨_, q', cap2, rfl, _⟩, _⟩ := his
      have c0 : wr.cell? ⟨b, o + j * 5, none⟩ = some (.int .i64 op') := hrr 0 _ rfl
      have c1 : wr.cell? ⟨b, o + j * 5 + 1, none⟩ = some (.int .i64 wd') := hrr 1 _ rfl
      have c2 : wr.cell? ⟨b, o + j * 5 + 2, none⟩ = some (.int .i64 n') := hrr 2 _ rfl
      have c3 : wr.cell? ⟨b, o + j * 5 + 3, none⟩ = some (.string nm') := hrr 3 _ rfl
      have c4 : wr.cell? ⟨b, o + j * 5 + 4, none⟩ = some (.slice q' k.len cap2) := hrr 4 _ rfl
      have SO := Lib.hid (fun W (hW : Below wr.heap.size wr W) => hk op' wd' n' nm' _ W (HIS.out.below hW) (by omega) (by omega))
      have hki : (j : Int) < (F.len : Int) := by omega
      generalize hg : (fitB op' wd' n' nm' k.ws && k.allB) = kb at *
      have HAB := Lib.hid hab
      clear hb hrr hat hk hpd HI hbw hab hg
      cases kb with
      | false =>
        have hrb0 : Hid (rb = false) := Lib.hid (by rw [← HRB.out, ← HAB.out]; simp)
        go_wp2_with (go_at_call 91; refine (SO.out _ ((Below.refl _ _).alloc (Nat.le_refl _) _)).mono ?_; rintro e w3 ⟨rfl, hb3⟩)
        go_ret
        exact ⟨by rw [hrb0.out]; rfl, HBW.out.trans ((HB.out.trans (((Below.refl wr.heap.size wr).alloc (Nat.le_refl _) _ |>.trans (hb3.mono (by simp))).mono hsz)).mono (by omega))⟩
      | true =>
        go_wp2_with (go_at_call 91; refine (SO.out _ ((Below.refl _ _).alloc (Nat.le_refl _) _)).mono ?_; rintro e w3 ⟨rfl, hb3⟩)
        go_roundw
        case rel => exact ⟨j + 1, by omega, by go_num, by rw [← HAB.out]; simp, HB.out.trans (((Below.refl wr.heap.size wr).alloc (Nat.le_refl _) _ |>.trans (hb3.mono (by simp))).mono hsz)⟩
        case measure => simp [intOf]; omega
    · have ej : j = F.len := by omega
      have hall : F.allB = true := by rw [← hab, ej, HD.out]; rfl
      have HRF : Hid (rb = fitB 19 wd n ⟨#[]⟩ F.ws) := Lib.hid (by rw [← HRB.out, hall, Bool.and_true])
      have HWS := Lib.hid (HA.out hall)
      have hwl := F.ws_len
      have hnj : ¬ ((j : Int) < (F.len : Int)) := by omega
      have X2 := Lib.hid (X1.out.below hb)
      obtain ⟨x0, x1, x2, x3, x4⟩ := X2.out
      clear hb hab ej HRB HA HK HD HD0 hall
      obtain ⟨wk, hwk⟩ : ∃ wk, wk = wr := ⟨_, rfl⟩
      subst hwk
      go_wp2
      go_loopw [7] (fun i wq => ∃ (j : Nat) (a0 a1 a2 : Int), j ≤ F.len ∧ j ≤ 3 ∧ i = .int .i64 j ∧ wq.heap[wk.heap.size]? = some (.cells #[.int .i64 a0, .int .i64 a1, .int .i64 a2] 3 (0, 0)) ∧ Below W1.heap.size W1 wq ∧ (0 < j → F.ws[0]? = some a0) ∧ (1 < j → F.ws[1]? = some a1) ∧ (2 < j → F.ws[2]? = some a2)) (fun i _ => 3 - (intOf i).toNat)
      case atStart => exact ⟨0, 0, 0, 0, Nat.zero_le _, Nat.zero_le _, rfl, heap_alloc_new wk _, HB.out.alloc hsz _, fun h => by omega, fun h => by omega, fun h => by omega⟩
      case round =>
        clear x0 x1 x2 x3 x4 hj hnj
        obtain ⟨i, a0, a1, a2, hi, hi3, rfl, hrow, hbq, hx0, hx1, hx2⟩ := hrel
        obtain ⟨x0, x1, x2, x3, x4⟩ := X1.out.below hbq
        have y0 : wr.cell? ⟨wk.heap.size, 0, none⟩ = some (.int .i64 a0) := cell_of_row wr _ 0 _ _ _ hrow
        have y1 : wr.cell? ⟨wk.heap.size, 1, none⟩ = some (.int .i64 a1) := cell_of_row wr _ 1 _ _ _ hrow
        have y2 : wr.cell? ⟨wk.heap.size, 2, none⟩ = some (.int .i64 a2) := cell_of_row wr _ 2 _ _ _ hrow
        have z0 := frozen_of_row wr wk.heap.size 0 _ _ hrow
        have z1 := frozen_of_row wr wk.heap.size 1 _ _ hrow
        have z2 := frozen_of_row wr wk.heap.size 2 _ _ hrow
        have HQ := Lib.hid hbq
        have hbw := HBW.out.trans (hbq.mono (by omega))
        have FR := Lib.hid hbw
        have HROW := Lib.hid hrow
        clear hrow hbq
        by_cases hgo : i < F.len ∧ i < 3
        · obtain ⟨hin, hi4⟩ := hgo
          obtain ⟨b, o, rfl, hbl, op', wd', n', nm', k, v, hat, hws, his, hrr⟩ := HI.out i hin
          have hrr := rangeAt_below hbw hrr
          have c1 : wr.cell? ⟨b, o + i * 5 + 1, none⟩ = some (.int .i64 wd') := hrr 1 _ rfl
          have hin' : (i : Int) < (F.len : Int) := by omega
          clear hbw hrr his hat HI
          rcases (show i = 0 ∨ i = 1 ∨ i = 2 by omega) with rfl | rfl | rfl
          · have c1 : wr.cell? ⟨b, o + 1, none⟩ = some (.int .i64 wd') := by simpa using c1
            go_wp2
            go_roundw
            case rel => exact ⟨1, wd', a1, a2, by omega, by omega, by go_num, heap_setCell_same wr _ 0 _ _ _ HROW.out, HQ.out.setCell hsz _, fun _ => hws, fun h => by omega, fun h => by omega⟩
            case measure => simp [intOf]
          · have c1 : wr.cell? ⟨b, o + 5 + 1, none⟩ = some (.int .i64 wd') := by simpa using c1
            go_wp2
            go_roundw
            case rel => exact ⟨2, a0, wd', a2, by omega, by omega, by go_num, heap_setCell_same wr _ 1 _ _ _ HROW.out, HQ.out.setCell hsz _, fun _ => hx0 (by omega), fun _ => hws, fun h => by omega⟩
            case measure => simp [intOf]
          · have c1 : wr.cell? ⟨b, o + 10 + 1, none⟩ = some (.int .i64 wd') := by simpa using c1
            go_wp2
            go_roundw
            case rel => exact ⟨3, a0, a1, wd', by omega, by omega, by go_num, heap_setCell_same wr _ 2 _ _ _ HROW.out, HQ.out.setCell hsz _, fun _ => hx0 (by omega), fun _ => hx1 (by omega), fun _ => hws⟩
            case measure => simp [intOf]
        · clear hbw HI
          have hkc : kc 19 = 1 := kc_un (by omega)
          have J1 := Lib.hid (s_in 19 1 2 false (in_false (by omega)))
          have J3 := Lib.hid (s_in 19 3 13 false (in_false (by omega)))
          have J14 := Lib.hid (s_in 19 14 16 false (in_false (by omega)))
          have J20 := Lib.hid (s_in 19 20 21 false (in_false (by omega)))
          by_cases hle : i = F.len
          · have hde : decide ((i : Int) < (F.len : Int)) = false := by simp; omega
            by_cases hkn : F.len = 1
            · have hkb : ((F.len : Int) == 1) = true := by rw [hkn]; rfl
              have hws : F.ws = [a0] := ws1 (by omega) (hx0 (by omega))
              have hrr := HRF.out
              rw [hws, fit_eq hw (by rw [hkc]; rfl) (by simp) (by simp)] at hrr
              have hwi := HWS.out
              rw [hws] at hwi
              obtain ⟨ha1, ha2⟩ := hwi a0 (by simp)
              by_cases hin : 0 ≤ n ∧ n ≤ 16
              · have JN := Lib.hid (s_in n 0 16 true (in_true hin))
                have hw1 : IntKind.i64.wrap (n + wd) = n + wd := IntWalk.i64_in _ (by omega)
                have RB : Hid (rb = decide (n + wd ≤ a0)) := Lib.hid (by
                  rw [hrr, if_neg (by omega), if_neg (by omega)]
                  show (decide (0 ≤ n) && decide (n ≤ wrap64 (a0 - wd))) = _
                  rw [show wrap64 (a0 - wd) = a0 - wd from IntWalk.wrap64_in _ (by omega), decide_eq_true hin.1, Bool.true_and]
                  exact decide_eq_decide.2 (by omega))
                clear hrr hwi hws
                go_wp2_with fail
                refine (J1.out _).mono ?_
                rintro e w1 ⟨rfl, rfl⟩
                go_wp2_with fail
                refine (J3.out _).mono ?_
                rintro e w1 ⟨rfl, rfl⟩
                go_wp2_with fail
                refine (J14.out _).mono ?_
                rintro e w1 ⟨rfl, rfl⟩
                go_wp2
                go_quiet ((go_at_call 46; exact quiet_eq (JN.out _)))
                go_wp2
                go_ret
                exact ⟨by rw [RB.out]; rfl, by first | exact FR.out | exact below_drewN FR.out _⟩
              · have JN := Lib.hid (s_in n 0 16 false (in_false (by omega)))
                have RB : Hid (rb = false) := Lib.hid (by
                  rw [hrr, if_neg (by omega), if_neg (by omega)]
                  show (decide (0 ≤ n) && decide (n ≤ wrap64 (a0 - wd))) = _
                  rw [show wrap64 (a0 - wd) = a0 - wd from IntWalk.wrap64_in _ (by omega)]
                  by_cases h0 : 0 ≤ n
                  · rw [decide_eq_false (by omega : ¬ n ≤ a0 - wd), Bool.and_false]
                  · rw [decide_eq_false h0, Bool.false_and])
                clear hrr hwi hws
                go_wp2_with fail
                refine (J1.out _).mono ?_
                rintro e w1 ⟨rfl, rfl⟩
                go_wp2_with fail
                refine (J3.out _).mono ?_
                rintro e w1 ⟨rfl, rfl⟩
                go_wp2_with fail
                refine (J14.out _).mono ?_
                rintro e w1 ⟨rfl, rfl⟩
                go_wp2
                go_quiet ((go_at_call 46; exact quiet_eq (JN.out _)))
                go_wp2
                go_ret
                exact ⟨by rw [RB.out]; rfl, by first | exact FR.out | exact below_drewN FR.out _⟩
            · have hkb : ((F.len : Int) == 1) = false := by simp; omega
              have RB := Lib.hid (HRF.out.trans (fit_mis (by rw [hkc]; omega)))
              go_wp2_with fail
              refine (J1.out _).mono ?_
              rintro e w1 ⟨rfl, rfl⟩
              go_wp2_with fail
              refine (J3.out _).mono ?_
              rintro e w1 ⟨rfl, rfl⟩
              go_wp2_with fail
              refine (J14.out _).mono ?_
              rintro e w1 ⟨rfl, rfl⟩
              go_wp2
              go_quiet (fail)
              go_wp2
              go_ret
              exact ⟨by rw [RB.out]; rfl, by first | exact FR.out | exact below_drewN FR.out _⟩
          · have hde : decide ((i : Int) < 3) = false := by simp; omega
            have hdf : decide ((i : Int) < (F.len : Int)) = true := by simp; omega
            have hkb : ((F.len : Int) == 1) = false := by simp; omega
            have RB := Lib.hid (HRF.out.trans (fit_mis (by rw [hkc]; omega)))
            go_wp2_with fail
            refine (J1.out _).mono ?_
            rintro e w1 ⟨rfl, rfl⟩
            go_wp2_with fail
            refine (J3.out _).mono ?_
            rintro e w1 ⟨rfl, rfl⟩
            go_wp2_with fail
            refine (J14.out _).mono ?_
            rintro e w1 ⟨rfl, rfl⟩
            go_wp2
            go_quiet (fail)
            go_wp2
            go_ret
            exact ⟨by rw [RB.out]; rfl, by first | exact FR.out | exact below_drewN FR.out _⟩
end Go.Proofs.YtpojldocjaieoaaGreatDoor
