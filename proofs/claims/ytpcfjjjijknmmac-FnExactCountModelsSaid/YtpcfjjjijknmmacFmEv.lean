/- What EvalFormula, isModel and their model return. No condition. -/
import Derived.Test.YtpcfjjjijknmmacFmOk
import Derived.Test.YtpcfjjjijknmmacPlBool
import Derived.Deep.RegionWith
namespace Go.Proofs.Ytpcfjjjijknmmac
open Go.ChangeShapes Go.WideShapes Go.ChangeAt Go.RowKit
/-- the truth value of a literal's variable, where it lies -/
theorem lit_at {x n : Int} {M : List Bool} (h0 : x ≠ 0) (h1 : -n ≤ x) (h2 : x ≤ n) (hM : (M.length : Int) = n) : 1 ≤ iabs x ∧ iabs x ≤ n ∧ ∃ h : (iabs x - 1).toNat < M.length, litT M x = (M[(iabs x - 1).toNat] == decide (0 < x)) := by
  have ha : 1 ≤ iabs x ∧ iabs x ≤ n := by unfold iabs; split <;> omega
  refine ⟨ha.1, ha.2, by omega, ?_⟩
  unfold litT
  rw [List.getElem?_eq_getElem (by omega)]
  rfl
set_option maxRecDepth 100000 in
set_option maxHeartbeats 1000000 in
theorem i_lit {x n : Int} {M : List Bool} (h0 : x ≠ 0) (h1 : -n ≤ x) (h2 : x ≤ n) (hn : n ≤ 400) (hM : (M.length : Int) = n) (b o cap B : Nat) (w : World) (hB : w.cell? ⟨B, 0, none⟩ = some (.slice (some ⟨b, o, none⟩) M.length cap)) (hr : w.rangeAt b o (BoolL.all M)) :
    Calls Try.prog 80 #[.int .i64 x, .pointer (some ⟨B, 0, none⟩)] w fun e w' => e = .returned (.bool (litT M x)) ∧ Below w.heap.size w w' := by
  obtain ⟨ha1, ha2, hlt, hlit⟩ := lit_at h0 h1 h2 hM
  have c0 := BoolL.nth M _ hlt hr
  have KV := Lib.hid (fun W => i_varof x (by omega) W)
  rw [hlit]
  generalize M[(iabs x - 1).toNat] = bx at *
  clear hlit hr
  generalize hax : iabs x = ax at *
  obtain ⟨a, ha⟩ : ∃ a : Nat, (ax - 1).toNat = a := ⟨_, rfl⟩
  rw [ha] at c0 hlt
  have hwr : IntKind.i64.wrap (ax - 1) = (a : Int) := by rw [IntKind.wrap_i64]; omega
  have hi1 : (a : Int) < (M.length : Int) := by omega
  have hi0 : 0 ≤ (a : Int) := by omega
  clear ha ha1 ha2
  by_cases hs : 0 < x
  · have hd : decide (0 < x) = true := by simpa using hs
    rw [hd]
    clear hax
    go_enter Try.func80, Try.ntmps80
    go_wp2
    go_region_with (go_at_call 81; refine (KV.out _).mono ?_; rintro e w1 ⟨rfl, rfl⟩)
    all_goals
      go_wp2
      go_ret
      exact ⟨by cases bx <;> rfl, (Below.refl _ _).drew⟩
  · have hd : decide (0 < x) = false := by simpa using hs
    rw [hd]
    clear hax
    go_enter Try.func80, Try.ntmps80
    go_wp2
    go_region_with (go_at_call 81; refine (KV.out _).mono ?_; rintro e w1 ⟨rfl, rfl⟩)
    all_goals
      go_wp2
      go_ret
      exact ⟨by cases bx <;> rfl, (Below.refl _ _).drew⟩
def IxRes (a : Bool) (r : Int) : Prop := (a = true ∧ 0 ≤ r) ∨ (a = false ∧ r = -1)
set_option maxRecDepth 100000 in
set_option maxHeartbeats 1000000 in
theorem i_index (p : Int → Bool) (l : List Int) (v : Value) (B : Nat) (w : World) (hl : l.length ≤ 1048577) (hv : Cs.Shows w 0 1 v l.length (IntL.all l))
    (hp : ∀ x ∈ l, ∀ W, Below w.heap.size w W → Calls Try.prog 80 #[.int .i64 x, .pointer (some ⟨B, 0, none⟩)] W fun e w' => e = .returned (.bool (p x)) ∧ Below W.heap.size W w') :
    Calls Try.prog 108 #[v, .func (.func 80) #[] #[.pointer (some ⟨B, 0, none⟩)]] w fun e w' => ∃ r : Int, e = .returned (.int .i64 r) ∧ IxRes (l.any p) r ∧ Below w.heap.size w w' := by
  rcases Cs.shows_cases hv with ⟨h0, q, cap, rfl⟩ | ⟨hpos, b, o, cap, rfl, _, _, hbl, hr⟩
  · have hL : l = [] := List.length_eq_zero_iff.1 h0
    subst hL
    clear hv hl h0 hp
    go_enter Try.func108, Try.ntmps108
    go_wp2
    refine wp_loop_rounds 1 ?_
    rw [rounds_succ]
    go_wp2
    go_ret
    exact ⟨_, rfl, .inr ⟨rfl, rfl⟩, Below.refl _ _⟩
  · have HR := Lib.hid (fun (wr : World) (hb : Below w.heap.size w wr) j (h : j < l.length) => IntL.nth l j h (rangeAt_below hb hr))
    have HX := Lib.hid (fun j (h : j < l.length) => any_at p l j h)
    have HP := Lib.hid (fun j (h : j < l.length) => hp l[j] (List.getElem_mem h))
    clear hv hr hp
    go_enter Try.func108, Try.ntmps108
    go_wp2
    go_loopw [8] (fun i wr => ∃ (j : Nat), j ≤ l.length ∧ i = .int .i64 j ∧ (l.drop j).any p = l.any p ∧ Below w.heap.size w wr) (fun i _ => l.length - (intOf i).toNat)
    case atStart => exact ⟨0, Nat.zero_le _, rfl, rfl, Below.refl _ _⟩
    case round =>
      obtain ⟨j, hj, rfl, hrest, hb⟩ := hrel
      by_cases hjn : j < l.length
      · have c0 := HR.out wr hb j hjn
        have hx := HX.out j hjn
        have hp1 := HP.out j hjn
        generalize l[j] = x at *
        rw [hrest] at hx
        have KP := Lib.hid (hp1 wr hb)
        have HB := Lib.hid hb
        have HQ := Lib.hid hx
        have hki : (j : Int) < (l.length : Int) := by omega
        clear hb hrest hx hp1
        by_cases g : p x = true
        · have HF := Lib.hid (show l.any p = true by rw [HQ.out, g]; rfl)
          rw [g] at KP
          clear g
          go_wp2_with fail
          refine KP.out.mono ?_
          rintro e w1 ⟨rfl, hb1⟩
          have HB1 := Lib.hid (HB.out.trans (hb1.mono HB.out.size))
          clear hb1
          go_wp2
          go_ret
          exact ⟨_, rfl, .inl ⟨HF.out, by omega⟩, HB1.out⟩
        · have g : p x = false := by simpa using g
          have HT := Lib.hid (show (l.drop (j + 1)).any p = l.any p by rw [HQ.out, g]; rfl)
          rw [g] at KP
          clear g
          go_wp2_with fail
          refine KP.out.mono ?_
          rintro e w1 ⟨rfl, hb1⟩
          have HB1 := Lib.hid (HB.out.trans (hb1.mono HB.out.size))
          clear hb1
          go_wp2
          go_roundw
          case rel => exact ⟨j + 1, by omega, by go_num, HT.out, HB1.out⟩
          case measure => simp [intOf]; omega
      · have HB := Lib.hid hb
        have hnj : ¬ ((j : Int) < (l.length : Int)) := by omega
        have HF := Lib.hid (show l.any p = false by rw [← hrest, List.drop_of_length_le (by omega)]; rfl)
        clear hb hrest
        go_wp2
        go_ret
        exact ⟨_, rfl, .inr ⟨HF.out, rfl⟩, HB.out⟩
set_option maxRecDepth 100000 in
theorem i_contains (p : Int → Bool) (l : List Int) (v : Value) (B : Nat) (w : World) (hl : l.length ≤ 1048577) (hv : Cs.Shows w 0 1 v l.length (IntL.all l))
    (hp : ∀ x ∈ l, ∀ W, Below w.heap.size w W → Calls Try.prog 80 #[.int .i64 x, .pointer (some ⟨B, 0, none⟩)] W fun e w' => e = .returned (.bool (p x)) ∧ Below W.heap.size W w') :
    Calls Try.prog 79 #[v, .func (.func 80) #[] #[.pointer (some ⟨B, 0, none⟩)]] w fun e w' => e = .returned (.bool (l.any p)) ∧ Below w.heap.size w w' := by
  have KI := Lib.hid (i_index p l v B w hl hv hp)
  obtain ⟨_, q, cap, rfl, _⟩ := hv
  clear hp
  go_enter Try.func79, Try.ntmps79
  go_wp2_with fail
  refine KI.out.mono ?_
  rintro e w1 ⟨r, rfl, hr, hb1⟩
  have HB1 := Lib.hid hb1
  clear hb1
  rcases hr with ⟨h1, h2⟩ | ⟨h1, rfl⟩
  all_goals
    have HF := Lib.hid h1
    clear h1
    go_wp2
    go_ret
    exact ⟨by rw [HF.out] <;> rfl, HB1.out⟩
def LitsIn (n : Int) (L : List (List Int)) : Prop := ∀ l ∈ L, ∀ x ∈ l, x ≠ 0 ∧ -n ≤ x ∧ x ≤ n
theorem lits_in {n : Int} {L : List (List Int)} (h : fmB n L = true) : LitsIn n L := fun l hl => lits_of ((fm_of h).2.2.2 l hl)
set_option maxRecDepth 100000 in
set_option maxHeartbeats 1000000 in
theorem i_model (n : Int) (hn : n ≤ 400) (L : List (List Int)) (M : List Bool) (v m : Value) (w : World) (hv : (Cs.rows IntSS.c L).Is w 0 1 L.length v) (hm : Cs.Shows w 0 1 m M.length (BoolL.all M)) (hc : IntSS.costs L ≤ 1048576) (hin : LitsIn n L) (hM : (M.length : Int) = n) :
    Calls Try.prog 46 #[.agg #[.int .i64 n, v], m] w fun e w' => e = .returned (.bool (mdB L M)) ∧ Below w.heap.size w w' := by
  have hll := IntSS.len_le L
  unfold mdB
  have HM := Lib.hid hm
  have hmr : ∀ x l, l ∈ L → x ∈ l → ∃ b o cap, m = .slice (some ⟨b, o, none⟩) M.length cap ∧ w.rangeAt b o (BoolL.all M) := by
    intro x l hl hx
    have := hin l hl x hx
    rcases Cs.shows_cases hm with ⟨h0, _⟩ | ⟨_, b, o, cap, h, _, _, _, hr⟩
    · omega
    · exact ⟨b, o, cap, h, hr⟩
  have KC := Lib.hid (fun (B : Nat) (w0 : World) (h0 : Below w.heap.size w w0) (hB : w0.cell? ⟨B, 0, none⟩ = some m) l (hl : l ∈ L) (x : Int) (hx : x ∈ l) W (hW : Below w0.heap.size w0 W) =>
    show Calls Try.prog 80 #[.int .i64 x, .pointer (some ⟨B, 0, none⟩)] W (fun e w' => e = .returned (.bool (litT M x)) ∧ Below W.heap.size W w') from by
      obtain ⟨b, o, cap, rfl, hr⟩ := hmr x l hl hx
      have hxx := hin l hl x hx
      exact i_lit hxx.1 hxx.2.1 hxx.2.2 hn hM b o cap B W (by rw [hW.cell (p := ⟨B, 0, none⟩) (World.block_lt_of_cell? w0 _ hB)]; exact hB) (rangeAt_below (h0.trans (hW.mono h0.size)) hr))
  obtain ⟨_, qm, cm, rfl, _⟩ := hm
  clear hin hmr
  rcases IntSS.cases hv with ⟨hL, q, cap, rfl⟩ | ⟨hpos, b, o, cap, rfl, _, _, hbl, hr⟩
  · subst hL
    clear hv hll
    go_enter Try.func46, Try.ntmps46
    go_wp2
    refine wp_loop_rounds 1 ?_
    rw [rounds_succ]
    go_wp2
    go_ret
    exact ⟨rfl, ((Below.refl _ _).alloc (Nat.le_refl _) _).alloc (by simp) _⟩
  · have HR := Lib.hid hr
    have HX := Lib.hid (fun j (h : j < L.length) => all_at (fun l => l.any (litT M)) L j h)
    have HCO := Lib.hid (fun j h => IntSS.cost_lt L j h)
    have HME := Lib.hid (fun j (h : j < L.length) => List.getElem_mem h)
    clear hv hr
    go_enter Try.func46, Try.ntmps46
    go_wp2
    go_loopw [10] (fun i wr => ∃ (j : Nat), j ≤ L.length ∧ i = .int .i64 j ∧ (L.drop j).all (fun l => l.any (litT M)) = L.all (fun l => l.any (litT M)) ∧ Below w.heap.size w wr ∧ wr.cell? ⟨w.heap.size + 1, 0, none⟩ = some (.slice qm M.length cm)) (fun i _ => L.length - (intOf i).toNat)
    case atStart => exact ⟨0, Nat.zero_le _, rfl, rfl, ((Below.refl _ _).alloc (Nat.le_refl _) _).alloc (by simp) _, by simp [go_sem]⟩
    case round =>
      obtain ⟨j, hj, rfl, hrest, hb, hcell⟩ := hrel
      by_cases hjn : j < L.length
      · obtain ⟨qe, me, cpe, hme, c0, hsh⟩ := HR.out wr hb j hjn
        have hx := HX.out j hjn
        have hco := HCO.out j hjn
        have KL := Lib.hid (i_contains (litT M) L[j] (.slice qe me cpe) (w.heap.size + 1) wr (by omega) hsh (fun x hx' W hW => KC.out (w.heap.size + 1) wr hb hcell L[j] (HME.out j hjn) x hx' W hW))
        generalize L[j] = l at *
        rw [hrest] at hx
        have HB := Lib.hid hb
        have HQ := Lib.hid hx
        have HCL := Lib.hid hcell
        have hki : (j : Int) < (L.length : Int) := by omega
        clear hb hrest hx hsh hcell
        by_cases gc : l.any (litT M) = true
        · have HT := Lib.hid (show (L.drop (j + 1)).all (fun l => l.any (litT M)) = L.all (fun l => l.any (litT M)) by rw [HQ.out, gc]; rfl)
          rw [gc] at KL
          clear gc
          go_wp2_with fail
          refine KL.out.mono ?_
          rintro e w1 ⟨rfl, hb1⟩
          have HB1 := Lib.hid (HB.out.trans (hb1.mono HB.out.size))
          have HC1 := Lib.hid ((hb1.cell (p := ⟨w.heap.size + 1, 0, none⟩) (World.block_lt_of_cell? wr _ HCL.out)).trans HCL.out)
          clear hb1
          go_wp2
          go_roundw
          case rel => exact ⟨j + 1, by omega, by go_num, HT.out, HB1.out, HC1.out⟩
          case measure => simp [intOf]; omega
        · have gc : l.any (litT M) = false := by simpa using gc
          have HF := Lib.hid (show L.all (fun l => l.any (litT M)) = false by rw [HQ.out, gc]; rfl)
          rw [gc] at KL
          clear gc
          go_wp2_with fail
          refine KL.out.mono ?_
          rintro e w1 ⟨rfl, hb1⟩
          have HB1 := Lib.hid (HB.out.trans (hb1.mono HB.out.size))
          clear hb1
          go_wp2
          go_ret
          exact ⟨by rw [HF.out] <;> rfl, HB1.out⟩
      · have HB := Lib.hid hb
        have hnj : ¬ ((j : Int) < (L.length : Int)) := by omega
        have HF := Lib.hid (show L.all (fun l => l.any (litT M)) = true by rw [← hrest, List.drop_of_length_le (by omega)]; rfl)
        clear hb hrest hcell
        go_wp2
        go_ret
        exact ⟨by rw [HF.out] <;> rfl, HB.out⟩
end Go.Proofs.Ytpcfjjjijknmmac
