/- How many models a formula has: what CountModels and its model return. No condition. -/
import Derived.Test.YtpcfjjjijknmmacFmEvS
import Derived.Deep.LoopGhost
namespace Go.Proofs.Ytpcfjjjijknmmac
open Go.ChangeShapes Go.WideShapes Go.ChangeAt Go.RowKit
/-- a bit of a number -/
def bt (k i : Int) : Bool := bits .and .i64 (k / 2 ^ i.toNat) 1 == 1
/-- the truth values that a number's bits say, from bit 0 on -/
def rowM (m k : Nat) : List Bool := (List.range m).map fun i : Nat => bt k i
theorem rowM_len (m k : Nat) : (rowM m k).length = m := by simp [rowM]
theorem rowM_take {m k i : Nat} (h : i < m) : (rowM m k).take (i + 1) = (rowM m k).take i ++ [bt k i] := by
  rw [List.take_succ_eq_append_getElem (by rw [rowM_len]; exact h)]
  simp [rowM]
theorem rowM_all (m k : Nat) : (rowM m k).take m = rowM m k := List.take_of_length_le (by rw [rowM_len]; exact Nat.le_refl _)
/-- the models among the first numbers -/
def cntM (L : List (List Int)) (m : Nat) : Nat → Nat
  | 0 => 0
  | k + 1 => cntM L m k + (if mdB L (rowM m k) = true then 1 else 0)
theorem cntM_le (L : List (List Int)) (m : Nat) : ∀ k, cntM L m k ≤ k
  | 0 => Nat.le_refl _
  | k + 1 => by have := cntM_le L m k; unfold cntM; split <;> omega
/-- what CountModels returns -/
def cmB (n : Int) (L : List (List Int)) : Int := if fmB n L = true ∧ n ≤ 12 then (cntM L n.toNat (2 ^ n.toNat) : Nat) else -1
theorem pow12 (m : Nat) (h : m ≤ 12) : 1 ≤ 2 ^ m ∧ 2 ^ m ≤ 4096 := by
  have h1 : 0 < 2 ^ m := Nat.pow_pos (by decide)
  have h2 := Nat.pow_le_pow_right (n := 2) (by decide) h
  exact ⟨h1, h2⟩
theorem cells_set (A : List Bool) (x y : Bool) (B : List Bool) (j : Nat) (h : A.length = j) : (BoolL.all (A ++ x :: B)).set j (.bool y) = BoolL.all (A ++ y :: B) := by
  rw [BoolL.all_app, BoolL.all_app, List.set_append_right _ _ (by rw [BoolL.all_len]; omega), BoolL.all_len, h, Nat.sub_self]
  rfl
theorem infoB : (Try.prog.info? 4).map (fun i => (i.zero, i.size, i.bytes)) = some (some (.bool false), 1, 1) := zero_Bool
set_option maxRecDepth 100000 in
theorem s_shut (n : Int) (L : List (List Int)) (v : Value) (w : World) (hv : (Cs.rows IntSS.c L).Is w 0 1 L.length v) (hok : (-9223372036854775808 ≤ n ∧ n ≤ 9223372036854775807) ∧ IntSS.Ok L ∧ L.length ≤ maxLen) (hc : IntSS.costs L ≤ 1048576) (h : ¬ (fmB n L = true ∧ n ≤ 12)) :
    Calls Try.prog 12 #[.agg #[.int .i64 n, v]] w fun e w' => e = .returned (.int .i64 (-1)) ∧ Below w.heap.size w w' := by
  have KF := Lib.hid (fun W (hb : Below w.heap.size w W) => s_fmok n L v W (hv.below hb) hok hc)
  obtain ⟨_, ⟨_, q, cap, rfl, _⟩, _⟩ := hv
  by_cases hf : fmB n L = true
  · have hn : 12 < n := by
      by_cases h12 : n ≤ 12
      · exact absurd ⟨hf, h12⟩ h
      · omega
    rw [hf] at KF
    clear h hf
    go_enter Try.func12, Try.ntmps12
    go_wp2_with fail
    refine (KF.out _ ((Below.refl _ _).alloc (Nat.le_refl _) _)).mono ?_
    rintro e w1 ⟨rfl, hb1⟩
    have B1 := Lib.hid (((Below.refl w.heap.size w).alloc (Nat.le_refl _) (.cells #[.int .i64 n, .slice q L.length cap] 27)).trans (hb1.mono (by simp)))
    obtain ⟨x0, x1⟩ := (cell2_alloc w 27 _ _).below hb1
    clear hb1
    go_wp2
    go_ret
    exact ⟨rfl, B1.out⟩
  · have hf : fmB n L = false := by simpa using hf
    rw [hf] at KF
    clear h hf
    go_enter Try.func12, Try.ntmps12
    go_wp2_with fail
    refine (KF.out _ ((Below.refl _ _).alloc (Nat.le_refl _) _)).mono ?_
    rintro e w1 ⟨rfl, hb1⟩
    have B1 := Lib.hid (((Below.refl w.heap.size w).alloc (Nat.le_refl _) (.cells #[.int .i64 n, .slice q L.length cap] 27)).trans (hb1.mono (by simp)))
    clear hb1
    go_wp2
    go_ret
    exact ⟨rfl, B1.out⟩
set_option maxRecDepth 100000 in
set_option maxHeartbeats 4000000 in
theorem s_cnt (n : Int) (L : List (List Int)) (v : Value) (w : World) (hv : (Cs.rows IntSS.c L).Is w 0 1 L.length v) (hok : (-9223372036854775808 ≤ n ∧ n ≤ 9223372036854775807) ∧ IntSS.Ok L ∧ L.length ≤ maxLen) (hc : IntSS.costs L ≤ 1048576) (hf : fmB n L = true) (h12 : n ≤ 12) :
    Calls Try.prog 12 #[.agg #[.int .i64 n, v]] w fun e w' => e = .returned (.int .i64 (cntM L n.toNat (2 ^ n.toNat) : Nat)) ∧ Below w.heap.size w w' := by
  obtain ⟨m, rfl⟩ : ∃ m : Nat, n = (m : Int) := ⟨n.toNat, by have := (fm_of hf).1; omega⟩
  rw [Int.toNat_natCast]
  have hm : m ≤ 12 := by omega
  obtain ⟨hp1, hp2⟩ := pow12 m hm
  have KF := Lib.hid (fun W (hb : Below w.heap.size w W) => s_fmok (m : Int) L v W (hv.below hb) hok hc)
  rw [hf] at KF
  have KE := Lib.hid (fun k (M : List Bool) (hM : M = rowM m k) (u : Value) (W : World) (hb : Below w.heap.size w W) (hu : Cs.Shows W 0 1 u M.length (BoolL.all M)) => show Calls Try.prog 42 #[.agg #[.int .i64 (m : Int), v], u] W (fun e w' => e = .returned (.bool (mdB L (rowM m k))) ∧ Below W.heap.size W w') from by
    have hl : M.length = m := by rw [hM, rowM_len]
    have := s_fmev (m : Int) L M v u W (hv.below hb) hu hok hc (by omega)
    rwa [ev_t hf (by omega), hM] at this)
  obtain ⟨_, ⟨_, q, cap, rfl, _⟩, _⟩ := hv
  have hshl : wrap64 ((2 : Int) ^ m) = ((2 ^ m : Nat) : Int) := by rw [show (2 : Int) ^ m = ((2 ^ m : Nat) : Int) by simp, IntWalk.wrap64_in _ ⟨by omega, by omega⟩]
  generalize 2 ^ m = N at *
  clear hf hok hc
  go_enter Try.func12, Try.ntmps12
  go_wp2_with fail
  refine (KF.out _ ((Below.refl _ _).alloc (Nat.le_refl _) _)).mono ?_
  rintro e w1 ⟨rfl, hb1⟩
  have B1 := Lib.hid (((Below.refl w.heap.size w).alloc (Nat.le_refl _) (.cells #[.int .i64 (m : Int), .slice q L.length cap] 27)).trans (hb1.mono (by simp)))
  have X1 := Lib.hid ((cell2_alloc w 27 (.int .i64 (m : Int)) (.slice q L.length cap)).below hb1)
  clear hb1
  obtain ⟨x0, x1⟩ := X1.out
  go_wp2
  clear x0 x1
  go_loopw [3, 4] (fun c i wr => ∃ (k t : Nat), k ≤ N ∧ i = .int .i64 k ∧ c = .int .i64 t ∧ t = cntM L m k ∧ t ≤ k ∧ Below w.heap.size w wr ∧ Cell2 wr w.heap.size (.int .i64 (m : Int)) (.slice q L.length cap)) (fun _ i _ => N - (intOf i).toNat)
  case atStart => exact ⟨0, 0, Nat.zero_le _, rfl, rfl, rfl, Nat.le_refl _, B1.out, X1.out⟩
  case round =>
    obtain ⟨k, t, hk, rfl, rfl, ht, htk, hb, hx⟩ := hrel
    have HX := Lib.hid hx
    have HB := Lib.hid hb
    obtain ⟨x0, x1⟩ := hx
    by_cases hkn : k < N
    · have hki : (k : Int) < (N : Int) := by omega
      go_wp2
      have HW0 : Hid (Below w.heap.size w (wr.alloc (.cells #[] 4))) := Lib.hid (HB.out.alloc HB.out.size _)
      have HX0 : Hid (Cell2 (wr.alloc (.cells #[] 4)) w.heap.size (.int .i64 (m : Int)) (.slice q L.length cap)) := Lib.hid (HX.out.below ((Below.refl _ _).alloc (Nat.le_refl _) _))
      have hbs : w.heap.size + 1 ≤ wr.heap.size := World.block_lt_of_cell? wr _ x0
      have HO0 : Hid ((wr.alloc (.cells #[] 4)).ownsRow (w.heap.size + 1) 4 1 (.slice (some ⟨wr.heap.size, 0, none⟩) 0 0) 0 (BoolL.all ((rowM m k).take 0))) := Lib.hid (by
        have := World.ownsRow_lit (base := w.heap.size + 1) (e := 4) (size := 1) wr #[] 0 hbs (by decide) rfl
        simpa [BoolL.all] using this)
      have HTT := Lib.hid (And.intro ht htk)
      clear ht htk hb x0 x1 hbs hshl
      go_loopw [5, 6] (fun u i wq => ∃ (i0 : Nat), i0 ≤ m ∧ i = .int .i64 i0 ∧ wq.ownsRow (w.heap.size + 1) 4 1 u i0 (BoolL.all ((rowM m k).take i0)) ∧ Below w.heap.size w wq ∧ Cell2 wq w.heap.size (.int .i64 (m : Int)) (.slice q L.length cap)) (fun _ i _ => m - (intOf i).toNat)
      case atStart => exact ⟨0, Nat.zero_le _, rfl, HO0.out, HW0.out, HX0.out⟩
      case round =>
        obtain ⟨i0, hi0, rfl, ho, hb, hx⟩ := hrel
        have HO := Lib.hid ho
        have HB2 := Lib.hid hb
        have HX2 := Lib.hid hx
        obtain ⟨x0, x1⟩ := hx
        have hbs : w.heap.size + 1 ≤ wr.heap.size := World.block_lt_of_cell? _ _ x0
        clear ho hb
        by_cases hin : i0 < m
        · have hii : (i0 : Int) < (m : Int) := by omega
          have HTK := Lib.hid (rowM_take (k := k) hin)
          go_wp2_with (at_builtin; refine wpList_append_one rfl (.tmp 29) (.tmp 35) 63 rfl (w.heap.size + 1) 4 (.bool false) 1 1 Try.underlying63 infoB rfl (by decide) _ i0 _ rfl HO.out [.bool (bt k i0)] _ rfl rfl rfl ?c1 (by omega) (by omega) ?c2 ?_)
          case c1 => intro u hu; simp at hu; subst hu; rfl
          case c2 => exact hbs
          intro v' w3 hown3 hb3 _
          have HO3 := Lib.hid (show w3.ownsRow (w.heap.size + 1) 4 1 v' (i0 + 1) (BoolL.all ((rowM m k).take (i0 + 1))) by rw [HTK.out, BoolL.all_app]; exact hown3)
          have HB3 := Lib.hid (HB2.out.trans (hb3.mono (by omega)))
          have HX3 := Lib.hid (show Cell2 w3 w.heap.size (.int .i64 (m : Int)) (.slice q L.length cap) from ⟨(hb3.cell (p := ⟨w.heap.size, 0, none⟩) (Nat.lt_succ_self _)).trans HX2.out.1, (hb3.cell (p := ⟨w.heap.size, 1, none⟩) (Nat.lt_succ_self _)).trans HX2.out.2⟩)
          clear hown3 hb3
          go_wp2
          go_roundw
          case rel => exact ⟨i0 + 1, by omega, by go_num, HO3.out, HB3.out, HX3.out⟩
          case measure => simp [intOf]; omega
        · have hni : ¬ ((i0 : Int) < (m : Int)) := by omega
          have ei : i0 = m := by omega
          have HS := Lib.hid (show Cs.Shows wr 0 1 u5 (rowM m k).length (BoolL.all (rowM m k)) by
            have := (Cs.shows_of_owns HO.out).down (Nat.zero_le _)
            rw [ei, rowM_all] at this
            rw [rowM_len]
            exact this)
          by_cases g : mdB L (rowM m k) = true
          · have KE1 := Lib.hid (KE.out k (rowM m k) rfl u5 wr HB2.out HS.out)
            rw [g] at KE1
            have HT1 := Lib.hid (show t + 1 = cntM L m (k + 1) by unfold cntM; rw [if_pos g, ← HTT.out.1])
            have ht1 := HTT.out.2
            clear g
            go_wp2_with fail
            refine KE1.out.mono ?_
            rintro e w3 ⟨rfl, hb3⟩
            have HB3 := Lib.hid (HB2.out.trans (hb3.mono HB2.out.size))
            have HX3 := Lib.hid (HX2.out.below hb3)
            clear hb3
            go_wp2
            go_roundw
            case rel => exact ⟨k + 1, t + 1, by omega, by go_num, by go_num, HT1.out, by omega, HB3.out, HX3.out⟩
            case measure => simp [intOf]; omega
          · have g' : mdB L (rowM m k) = false := by simpa using g
            have KE1 := Lib.hid (KE.out k (rowM m k) rfl u5 wr HB2.out HS.out)
            rw [g'] at KE1
            have HT1 := Lib.hid (show t = cntM L m (k + 1) by unfold cntM; rw [if_neg g, ← HTT.out.1]; rfl)
            have ht1 := HTT.out.2
            clear g g'
            go_wp2_with fail
            refine KE1.out.mono ?_
            rintro e w3 ⟨rfl, hb3⟩
            have HB3 := Lib.hid (HB2.out.trans (hb3.mono HB2.out.size))
            have HX3 := Lib.hid (HX2.out.below hb3)
            clear hb3
            go_wp2
            go_roundw
            case rel => exact ⟨k + 1, t, by omega, by go_num, rfl, HT1.out, by omega, HB3.out, HX3.out⟩
            case measure => simp [intOf]; omega
    · have hnk : ¬ ((k : Int) < (N : Int)) := by omega
      have ek : k = N := by omega
      have HT := Lib.hid ht
      clear ht hb
      go_wp2
      go_ret
      exact ⟨by rw [HT.out, ek] <;> rfl, HB.out⟩
end Go.Proofs.Ytpcfjjjijknmmac
