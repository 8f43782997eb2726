/- Decimal digits, and the byte that becomes a string. No condition. What FormatInt and its model return, for every int: the decimal numeral. Also: small lemmas on worlds that the other laws of this seat use. -/
import Derived.Test.YtpojldocjaieoaaGreatDoorRows
import Derived.WalkKit
import Derived.ProofKit
import Derived.OpenShut
import Derived.ShutString
import Derived.Handy
import Derived.Lib.Hide
import Derived.Lib.Strings
import Derived.Lib.ItoaNum
import Derived.WalkLawsBesides
import Derived.Below
import Derived.IntWalk
import Derived.Deep.RegionWith
import Derived.Test.YtpojldocjaieoaaGreatDoorHmGHvM
import Derived.ChangeSame
import Derived.MakeChecks
import Derived.Stop.LaidErr
import Derived.LaidMore
import Derived.Stop.Joined
import Derived.Lib.LaidTab
import Derived.Lib.AppendIntMem
import Derived.Lib.ItoaMem
namespace Go.Proofs.YtpojldocjaieoaaGreatDoor
open Go.ChangeShapes Go.WideShapes Go.ChangeAt Go.RowKit
theorem conv1 (w : World) (c : UInt8) (n : Int) (hn : (c.toNat : Int) = n) : (convert 107 9 (.slice (some ⟨w.heap.size, 0, none⟩) 1 1)).run Tryz.prog (w.alloc (.cells #[.int .u8 n] 5)) = .ok (.string ⟨#[c]⟩) (w.alloc (.cells #[.int .u8 n] 5)) :=
  run_convert_bytes_back (w.alloc (.cells #[.int .u8 n] 5)) 107 9 5 ⟨w.heap.size, 0, none⟩ 1 [c] Tryz.underlying107 Tryz.underlying5 Tryz.underlying9 (fun j hj => by
    have : j = 0 := by simpa using hj
    subst this
    rw [← hn]
    exact World.cell?_alloc_at _ _ _ 0 rfl)

theorem nDigits_le : ∀ (d n : Nat), n < 10 ^ (d + 1) → Lib.nDigits n ≤ d + 1
  | 0, n, h => by rw [Lib.nDigits_small (by simpa using h)]; exact Nat.le_refl _
  | d + 1, n, h => by
    by_cases h9 : n < 10
    · rw [Lib.nDigits_small h9]; omega
    · have := nDigits_le d (n / 10) (by rw [Nat.pow_succ] at h; omega)
      rw [Lib.nDigits, dif_neg h9]; omega
theorem dec_len (n : Nat) (h : n ≤ 9223372036854775808) : (Lib.decDigits n).length ≤ 20 := by
  rw [Lib.decDigits_length]
  exact nDigits_le 19 n (by omega)
theorem cat1 (x : UInt8) (acc : List UInt8) : (⟨#[x]⟩ : ByteArray) ++ ⟨acc.toArray⟩ = ⟨(x :: acc).toArray⟩ := by
  rw [ByteArray.ext_iff]
  simp
theorem digit_of (k : Nat) : ∃ c : UInt8, (c.toNat : Int) = 48 + (k : Int) % 10 ∧ (9 < k → Lib.decDigits k = Lib.decDigits (k / 10) ++ [c]) ∧ (k ≤ 9 → Lib.decDigits k = [c]) := by
  refine ⟨UInt8.ofNat (48 + k % 10), by simp; omega, fun h => ?_, fun h => ?_⟩
  · rw [Lib.decDigits, dif_neg (by omega)]
  · rw [Lib.decDigits_one (by omega), Nat.mod_eq_of_lt (by omega)]
end Go.Proofs.YtpojldocjaieoaaGreatDoor
namespace Go.Proofs.YtpojldocjaieoaaGreatDoor
open Go.ChangeShapes Go.WideShapes Go.ChangeAt Go.RowKit

set_option maxRecDepth 100000 in
theorem s_pos (n : Nat) (hmax : n ≤ 9223372036854775807) (w : World) : Calls Tryz.prog 50 #[.int .i64 n] w fun e w' => e = .returned (.string ⟨(Lib.decDigits n).toArray⟩) ∧ Below w.heap.size w w' := by
  have HL := Lib.hid (dec_len n (by omega))
  go_enter Tryz.func50, Tryz.ntmps50
  go_wp2
  go_loopw [0, 3] (fun a s wr => ∃ (k : Nat) (acc : List UInt8), k ≤ n ∧ a = .int .i64 k ∧ s = .string ⟨acc.toArray⟩ ∧ Lib.decDigits n = Lib.decDigits k ++ acc ∧ Below w.heap.size w wr) (fun a _ _ => (intOf a).toNat)
  case atStart => exact ⟨n, [], Nat.le_refl _, rfl, rfl, by simp, Below.refl _ _⟩
  case round =>
    obtain ⟨k, acc, hk, rfl, rfl, hd, hb⟩ := hrel
    have hsz := hb.size
    have hal : acc.length ≤ 20 := by
      have := HL.out
      rw [hd, List.length_append] at this
      omega
    obtain ⟨c, hc1, hc2, hc3⟩ := digit_of k
    have HC1 := Lib.hid hc1
    have HC2 := Lib.hid hc2
    have HC3 := Lib.hid hc3
    have HD := Lib.hid hd
    have HB := Lib.hid hb
    clear hd hb hc1 hc2 hc3
    by_cases h9 : 9 < k
    · have hcv := fun (w : World) => conv1 w c (48 + (k : Int) % 10) HC1.out
      go_wp2
      go_roundw
      case rel =>
        refine ⟨k / 10, c :: acc, by omega, by simp, by rw [cat1], ?_, HB.out.alloc hsz _⟩
        rw [HD.out, HC2.out h9]; simp
      case measure => simp [intOf]; omega
    · have h9' : (k : Int) ≤ 9 := by omega
      have hcv := fun (w : World) => conv1 w c (48 + (k : Int)) (by rw [HC1.out]; omega)
      clear h9
      go_wp2
      go_ret
      refine ⟨?_, HB.out.alloc hsz _⟩
      rw [HD.out, HC3.out (by omega)]
      show Ending.returned (.string _) = _
      rw [cat1]; rfl
theorem tdiv_neg (u : Nat) : Int.tdiv (-(u : Int)) 10 = -((u / 10 : Nat) : Int) := by
  rw [Int.neg_tdiv, Int.ofNat_tdiv]; rfl
theorem tmod_neg (u : Nat) : Int.tmod (-(u : Int)) 10 = -((u % 10 : Nat) : Int) := by
  rw [Int.neg_tmod]; rfl
set_option maxRecDepth 100000 in
theorem s_neg1 (n : Int) (u : Nat) (hn : n = -(u : Int)) (h1 : 1 ≤ u) (h2 : u ≤ 9) (w : World) : Calls Tryz.prog 50 #[.int .i64 n] w fun e w' => e = .returned (.string ⟨(45 :: Lib.decDigits u).toArray⟩) ∧ Below w.heap.size w w' := by
  have hq : Int.tdiv n 10 = 0 := by rw [hn, tdiv_neg]; omega
  obtain ⟨c, hc1, hc2, hc3⟩ := digit_of u
  have e3 := hc3 (by omega)
  have hcv := fun (w : World) => conv1 w c (48 - n) (by rw [hc1, hn]; omega)
  have HE := Lib.hid e3
  have b1 : n < 0 := by omega
  have b2 : -9 ≤ n := by omega
  clear hc1 hc2 hc3 hn e3
  go_enter Tryz.func50, Tryz.ntmps50
  go_wp2
  go_ret
  rw [HE.out]
  refine ⟨?_, (Below.refl _ _).alloc (Nat.le_refl _) _⟩
  show Ending.returned (.string _) = _
  rfl
theorem conv2 (c : UInt8) (n : Int) (hn : (c.toNat : Int) = n) (w : World) (b : Nat) (hc : w.cell? ⟨b, 0, none⟩ = some (.int .u8 n)) : (convert 107 9 (.slice (some ⟨b, 0, none⟩) 1 1)).run Tryz.prog w = .ok (.string ⟨#[c]⟩) w :=
  run_convert_bytes_back w 107 9 5 ⟨b, 0, none⟩ 1 [c] Tryz.underlying107 Tryz.underlying5 Tryz.underlying9 (fun j hj => by
    have : j = 0 := by simpa using hj
    subst this
    show _ = some (Value.int .u8 (c.toNat : Int))
    rw [hn]
    exact hc)
theorem fcell {W w1 : World} (hb : Below W.heap.size W w1) : ∀ b o, b < W.heap.size → w1.cell? ⟨b, o, none⟩ = W.cell? ⟨b, o, none⟩ := fun b o h => hb.cell (p := ⟨b, o, none⟩) h
set_option maxRecDepth 100000 in
set_option maxHeartbeats 1000000 in
theorem s_neg2 (n m r : Int) (x : ByteArray) (c : UInt8) (hx : x.size ≤ 100) (hc : (c.toNat : Int) = 48 - r) (hq : Int.tdiv n 10 = m) (hr : Int.tmod n 10 = r) (b1 : n ≤ -10) (b2 : -9223372036854775808 ≤ n) (b3 : m ≤ -1) (b4 : -922337203685477581 ≤ m) (b5 : -9 ≤ r) (b6 : r ≤ 0)
    (ih : ∀ W, Calls Tryz.prog 50 #[.int .i64 m] W fun e w' => e = .returned (.string x) ∧ Below W.heap.size W w') (w : World) : Calls Tryz.prog 50 #[.int .i64 n] w fun e w' => e = .returned (.string (x ++ ⟨#[c]⟩)) ∧ Below w.heap.size w w' := by
  have hz : (m == 0) = false := by simp; omega
  have hcv := conv2 c (48 - r) hc
  have IH := Lib.hid ih
  clear ih hc
  go_enter Tryz.func50, Tryz.ntmps50
  go_wp2
  have hw1 : IntKind.i64.wrap m = m := IntWalk.i64_in _ (by omega)
  have hw2 : IntKind.i64.wrap r = r := IntWalk.i64_in _ (by omega)
  have hw3 : IntKind.i64.wrap (48 - r) = 48 - r := IntWalk.i64_in _ (by omega)
  have hw4 : IntKind.u8.wrap (48 - r) = 48 - r := IntWalk.u8_in _ (by omega)
  go_region_with (go_at_call 50; refine (IH.out _).mono ?_; rintro e w' ⟨rfl, hb⟩; have hcl := fcell hb; have hsz := hb.size)
  all_goals go_wp2
  all_goals go_ret
  all_goals first
    | exact ⟨rfl, ((Below.refl w.heap.size w).drew.trans hb).alloc hsz _⟩
    | exact ⟨rfl, ((Below.refl w.heap.size w).drew.alloc (Nat.le_refl _) _).trans (hb.mono (by simp))⟩
    | trace_state


theorem s_neg : ∀ (u : Nat), 1 ≤ u → u ≤ 9223372036854775808 → ∀ w, Calls Tryz.prog 50 #[.int .i64 (-(u : Int))] w fun e w' => e = .returned (.string ⟨(45 :: Lib.decDigits u).toArray⟩) ∧ Below w.heap.size w w' := by
  intro u
  induction u using Nat.strongRecOn with
  | ind u ih =>
    intro h1 h2 w
    by_cases h9 : u ≤ 9
    · exact s_neg1 _ u rfl h1 h9 w
    · obtain ⟨c, hc1, hc2, _⟩ := digit_of u
      have hl := dec_len (u / 10) (by omega)
      have := s_neg2 (-(u : Int)) (-((u / 10 : Nat) : Int)) (-((u % 10 : Nat) : Int)) ⟨(45 :: Lib.decDigits (u / 10)).toArray⟩ c
        (by show (45 :: Lib.decDigits (u / 10)).toArray.size ≤ 100; simp; omega) (by rw [hc1]; omega) (tdiv_neg u) (tmod_neg u) (by omega) (by omega) (by omega) (by omega) (by omega) (by omega)
        (ih (u / 10) (by omega) (by omega) (by omega)) w
      refine this.mono fun e w' ⟨he, hw⟩ => ⟨?_, hw⟩
      rw [he, hc2 (by omega)]
      have : (⟨(45 :: Lib.decDigits (u / 10)).toArray⟩ : ByteArray) ++ ⟨#[c]⟩ = ⟨(45 :: (Lib.decDigits (u / 10) ++ [c])).toArray⟩ := by
        rw [ByteArray.ext_iff]; simp
      rw [this]
theorem s_fmt (n : Int) (h0 : -9223372036854775808 ≤ n) (h1 : n ≤ 9223372036854775807) (w : World) : Calls Tryz.prog 50 #[.int .i64 n] w fun e w' => e = .returned (.string ⟨(Lib.itoa n).toArray⟩) ∧ Below w.heap.size w w' := by
  by_cases h : n < 0
  · obtain ⟨u, rfl⟩ : ∃ u : Nat, n = -(u : Int) := ⟨n.natAbs, by omega⟩
    rw [Lib.itoa_neg u (by omega)]
    exact s_neg u (by omega) (by omega) w
  · obtain ⟨u, rfl⟩ : ∃ u : Nat, n = u := ⟨n.toNat, by omega⟩
    rw [Lib.itoa_nonneg]
    exact s_pos u (by omega) w
theorem i_fmt (n : Int) (h0 : -9223372036854775808 ≤ n) (h1 : n ≤ 9223372036854775807) (w : World) (htab : Lib.TabIs Tryz.prog w "internal/strconv.uint64pow10" .u64 Lib.pow10Tab) : Calls Tryz.prog 80 #[.int .i64 n] w fun e w' => e = .returned (.string ⟨(Lib.itoa n).toArray⟩) ∧ Below w.heap.size w w' := by
  have HT := Lib.hid htab
  clear htab
  go_enter Tryz.func80, Tryz.ntmps80
  go_wp2_with (go_at_call 104; refine (Tryz.strconv_Itoa n h0 h1 _ HT.out).mono ?_; rintro e w' ⟨rfl, k, os, rfl⟩)
  go_ret
  exact ⟨rfl, Lib.below_grow _ _ (Nat.le_refl _) _ _⟩

/-- a variable reads behind a call as before it, where nothing below the heap's end has changed -/
theorem var_below {P : Program} {W W' : World} (hb : Below W.heap.size W W') {n : String} {cs : Array Value} (h : W.var? P n = some cs) : W'.var? P n = some cs := by
  unfold World.var? at h ⊢
  cases hg : P.globalNamed n with
  | none => rw [hg] at h; cases h
  | some g =>
    rw [hg] at h
    simp only [Option.bind_some] at h ⊢
    have hlt : g < W.heap.size := by
      rcases Nat.lt_or_ge g W.heap.size with h' | h'
      · exact h'
      · rw [Array.getElem?_eq_none h'] at h; cases h
    rw [hb.block g hlt]
    exact h
/-- the last step of a law over one argument whose world behind the call has only new blocks -/
theorem post_ends {H : Type} {enc : TypeId × Value → H} {P : Program} {f : Func} {s : ChangeSpec} {apart fresh handsOn again : Bool} {W W' : World} {args : Array Value} {v : Value} {ds gs : List (DataW H)} {before pa pv : List MemPlace}
    (hW : DataW.Whole enc P f.params.toList s.vars apart W args.toList ds gs before)
    (hres : ∀ (b : Nat) (sp : Nat → Bool) (hd : Bool), DataW.TrodAll enc P W' b sp hd f.resultTypes.toList (v.resultList f.resultTypes.size) (s.fn H (ds ++ gs)).results [])
    (hargs : ∀ sp : Nat → Bool, (∀ p ∈ before, sp p.block = true) → DataW.TrodAll enc P W' 0 sp true f.params.toList args.toList (s.fn H (ds ++ gs)).args pa)
    (hvars : ∀ sp : Nat → Bool, (∀ p ∈ before, sp p.block = true) → DataW.TrodVars enc P W' sp s.vars (s.fn H (ds ++ gs)).vars pv)
    (hps : before = pa ++ pv) (hb : Below W.heap.size W W') (hag : again = false) :
    s.post enc P f apart fresh handsOn again W args v W' := by
  have hold : ∀ p ∈ before, (fun b => decide (b < W.heap.size)) p.block = true := fun p hp => by simpa using hW.lt p hp
  refine ⟨ds, gs, before, [], pa, pv, hW, hres _ _ _, hargs _ hold, hvars _ hold, World.keptBut_mono (fun p hp => ⟨hp, ?_⟩) (hb.frame (· ∈ before)), fun h => ?_⟩
  · rw [hps, List.mem_append] at hp
    exact Or.inr hp
  · rw [hag] at h; cases h
end Go.Proofs.YtpojldocjaieoaaGreatDoor
