/- What FormatInt and its model return, for every int: the decimal numeral. Also: small lemmas on worlds that the other laws of this seat use. How long a numeral is. No condition. A region in whatever order: its first operations read alone, the next ones come one after the other, the last ones read alone again. No condition. -/
import Derived.Test.YthmababifgaejaaGreatDoorRows
import Derived.Test.YthmababifgaejaaGreatDoorEmGHvM
import Derived.ChangeSame
import Derived.MakeChecks
import Derived.Stop.LaidErr
import Derived.LaidMore
import Derived.Stop.Joined
import Derived.Lib.LaidTab
import Derived.Lib.AppendIntMem
import Derived.WalkKit
import Derived.ProofKit
import Derived.OpenShut
import Derived.ShutString
import Derived.Handy
import Derived.Lib.Hide
import Derived.Lib.Strings
import Derived.Lib.ItoaNum
import Derived.Lib.ItoaMem
import Derived.WalkLawsBesides
import Derived.Below
import Derived.IntWalk
import Derived.Deep.RegionWith
import Derived.Test.YthmababifgaejaaGreatDoorEmGStO
import Derived.StillTail
import Derived.StillTailTactics
namespace Go.Proofs.YthmababifgaejaaGreatDoor
open Go.ChangeShapes Go.WideShapes Go.ChangeAt Go.RowKit

set_option maxRecDepth 100000 in
theorem s_pos (n : Nat) (hmax : n ≤ 9223372036854775807) (w : World) : Calls Tryz.prog 41 #[.int .i64 n] w fun e w' => e = .returned (.string ⟨(Lib.decDigits n).toArray⟩) ∧ Below w.heap.size w w' := by
  have HL := Lib.hid (dec_len n (by omega))
  go_enter Tryz.func41, Tryz.ntmps41
  go_wp2
  go_loopw [0, 3] (fun a s wr => ∃ (k : Nat) (acc : List UInt8), k ≤ n ∧ a = .int .i64 k ∧ s = .string ⟨acc.toArray⟩ ∧ Lib.decDigits n = Lib.decDigits k ++ acc ∧ Below w.heap.size w wr) (fun a _ _ => (intOf a).toNat)
  case atStart => exact ⟨n, [], Nat.le_refl _, rfl, rfl, by simp, Below.refl _ _⟩
  case round =>
    obtain ⟨k, acc, hk, rfl, rfl, hd, hb⟩ := hrel
    have hsz := hb.size
    have hal : acc.length ≤ 20 := by
      have := HL.out
      rw [hd, List.length_append] at this
      omega
    obtain ⟨c, hc1, hc2, hc3⟩ := digit_of k
    have HC1 := Lib.hid hc1
    have HC2 := Lib.hid hc2
    have HC3 := Lib.hid hc3
    have HD := Lib.hid hd
    have HB := Lib.hid hb
    clear hd hb hc1 hc2 hc3
    by_cases h9 : 9 < k
    · have hcv := fun (w : World) => conv1 w c (48 + (k : Int) % 10) HC1.out
      go_wp2
      go_roundw
      case rel =>
        refine ⟨k / 10, c :: acc, by omega, by simp, by rw [cat1], ?_, HB.out.alloc hsz _⟩
        rw [HD.out, HC2.out h9]; simp
      case measure => simp [intOf]; omega
    · have h9' : (k : Int) ≤ 9 := by omega
      have hcv := fun (w : World) => conv1 w c (48 + (k : Int)) (by rw [HC1.out]; omega)
      clear h9
      go_wp2
      go_ret
      refine ⟨?_, HB.out.alloc hsz _⟩
      rw [HD.out, HC3.out (by omega)]
      show Ending.returned (.string _) = _
      rw [cat1]; rfl
theorem tdiv_neg (u : Nat) : Int.tdiv (-(u : Int)) 10 = -((u / 10 : Nat) : Int) := by
  rw [Int.neg_tdiv, Int.ofNat_tdiv]; rfl
theorem tmod_neg (u : Nat) : Int.tmod (-(u : Int)) 10 = -((u % 10 : Nat) : Int) := by
  rw [Int.neg_tmod]; rfl
set_option maxRecDepth 100000 in
theorem s_neg1 (n : Int) (u : Nat) (hn : n = -(u : Int)) (h1 : 1 ≤ u) (h2 : u ≤ 9) (w : World) : Calls Tryz.prog 41 #[.int .i64 n] w fun e w' => e = .returned (.string ⟨(45 :: Lib.decDigits u).toArray⟩) ∧ Below w.heap.size w w' := by
  have hq : Int.tdiv n 10 = 0 := by rw [hn, tdiv_neg]; omega
  obtain ⟨c, hc1, hc2, hc3⟩ := digit_of u
  have e3 := hc3 (by omega)
  have hcv := fun (w : World) => conv1 w c (48 - n) (by rw [hc1, hn]; omega)
  have HE := Lib.hid e3
  have b1 : n < 0 := by omega
  have b2 : -9 ≤ n := by omega
  clear hc1 hc2 hc3 hn e3
  go_enter Tryz.func41, Tryz.ntmps41
  go_wp2
  go_ret
  rw [HE.out]
  refine ⟨?_, (Below.refl _ _).alloc (Nat.le_refl _) _⟩
  show Ending.returned (.string _) = _
  rfl
theorem conv2 (c : UInt8) (n : Int) (hn : (c.toNat : Int) = n) (w : World) (b : Nat) (hc : w.cell? ⟨b, 0, none⟩ = some (.int .u8 n)) : (convert 97 9 (.slice (some ⟨b, 0, none⟩) 1 1)).run Tryz.prog w = .ok (.string ⟨#[c]⟩) w :=
  run_convert_bytes_back w 97 9 5 ⟨b, 0, none⟩ 1 [c] Tryz.underlying97 Tryz.underlying5 Tryz.underlying9 (fun j hj => by
    have : j = 0 := by simpa using hj
    subst this
    show _ = some (Value.int .u8 (c.toNat : Int))
    rw [hn]
    exact hc)
theorem fcell {W w1 : World} (hb : Below W.heap.size W w1) : ∀ b o, b < W.heap.size → w1.cell? ⟨b, o, none⟩ = W.cell? ⟨b, o, none⟩ := fun b o h => hb.cell (p := ⟨b, o, none⟩) h
set_option maxRecDepth 100000 in
set_option maxHeartbeats 1000000 in
theorem s_neg2 (n m r : Int) (x : ByteArray) (c : UInt8) (hx : x.size ≤ 100) (hc : (c.toNat : Int) = 48 - r) (hq : Int.tdiv n 10 = m) (hr : Int.tmod n 10 = r) (b1 : n ≤ -10) (b2 : -9223372036854775808 ≤ n) (b3 : m ≤ -1) (b4 : -922337203685477581 ≤ m) (b5 : -9 ≤ r) (b6 : r ≤ 0)
    (ih : ∀ W, Calls Tryz.prog 41 #[.int .i64 m] W fun e w' => e = .returned (.string x) ∧ Below W.heap.size W w') (w : World) : Calls Tryz.prog 41 #[.int .i64 n] w fun e w' => e = .returned (.string (x ++ ⟨#[c]⟩)) ∧ Below w.heap.size w w' := by
  have hz : (m == 0) = false := by simp; omega
  have hcv := conv2 c (48 - r) hc
  have IH := Lib.hid ih
  clear ih hc
  go_enter Tryz.func41, Tryz.ntmps41
  go_wp2
  have hw1 : IntKind.i64.wrap m = m := IntWalk.i64_in _ (by omega)
  have hw2 : IntKind.i64.wrap r = r := IntWalk.i64_in _ (by omega)
  have hw3 : IntKind.i64.wrap (48 - r) = 48 - r := IntWalk.i64_in _ (by omega)
  have hw4 : IntKind.u8.wrap (48 - r) = 48 - r := IntWalk.u8_in _ (by omega)
  go_region_with (go_at_call 41; refine (IH.out _).mono ?_; rintro e w' ⟨rfl, hb⟩; have hcl := fcell hb; have hsz := hb.size)
  all_goals go_wp2
  all_goals go_ret
  all_goals first
    | exact ⟨rfl, ((Below.refl w.heap.size w).drew.trans hb).alloc hsz _⟩
    | exact ⟨rfl, ((Below.refl w.heap.size w).drew.alloc (Nat.le_refl _) _).trans (hb.mono (by simp))⟩
    | trace_state


theorem s_neg : ∀ (u : Nat), 1 ≤ u → u ≤ 9223372036854775808 → ∀ w, Calls Tryz.prog 41 #[.int .i64 (-(u : Int))] w fun e w' => e = .returned (.string ⟨(45 :: Lib.decDigits u).toArray⟩) ∧ Below w.heap.size w w' := by
  intro u
  induction u using Nat.strongRecOn with
  | ind u ih =>
    intro h1 h2 w
    by_cases h9 : u ≤ 9
    · exact s_neg1 _ u rfl h1 h9 w
    · obtain ⟨c, hc1, hc2, _⟩ := digit_of u
      have hl := dec_len (u / 10) (by omega)
      have := s_neg2 (-(u : Int)) (-((u / 10 : Nat) : Int)) (-((u % 10 : Nat) : Int)) ⟨(45 :: Lib.decDigits (u / 10)).toArray⟩ c
        (by show (45 :: Lib.decDigits (u / 10)).toArray.size ≤ 100; simp; omega) (by rw [hc1]; omega) (tdiv_neg u) (tmod_neg u) (by omega) (by omega) (by omega) (by omega) (by omega) (by omega)
        (ih (u / 10) (by omega) (by omega) (by omega)) w
      refine this.mono fun e w' ⟨he, hw⟩ => ⟨?_, hw⟩
      rw [he, hc2 (by omega)]
      have : (⟨(45 :: Lib.decDigits (u / 10)).toArray⟩ : ByteArray) ++ ⟨#[c]⟩ = ⟨(45 :: (Lib.decDigits (u / 10) ++ [c])).toArray⟩ := by
        rw [ByteArray.ext_iff]; simp
      rw [this]
theorem s_fmt (n : Int) (h0 : -9223372036854775808 ≤ n) (h1 : n ≤ 9223372036854775807) (w : World) : Calls Tryz.prog 41 #[.int .i64 n] w fun e w' => e = .returned (.string ⟨(Lib.itoa n).toArray⟩) ∧ Below w.heap.size w w' := by
  by_cases h : n < 0
  · obtain ⟨u, rfl⟩ : ∃ u : Nat, n = -(u : Int) := ⟨n.natAbs, by omega⟩
    rw [Lib.itoa_neg u (by omega)]
    exact s_neg u (by omega) (by omega) w
  · obtain ⟨u, rfl⟩ : ∃ u : Nat, n = u := ⟨n.toNat, by omega⟩
    rw [Lib.itoa_nonneg]
    exact s_pos u (by omega) w
theorem i_fmt (n : Int) (h0 : -9223372036854775808 ≤ n) (h1 : n ≤ 9223372036854775807) (w : World) (htab : Lib.TabIs Tryz.prog w "internal/strconv.uint64pow10" .u64 Lib.pow10Tab) : Calls Tryz.prog 68 #[.int .i64 n] w fun e w' => e = .returned (.string ⟨(Lib.itoa n).toArray⟩) ∧ Below w.heap.size w w' := by
  have HT := Lib.hid htab
  clear htab
  go_enter Tryz.func68, Tryz.ntmps68
  go_wp2_with (go_at_call 93; refine (Tryz.strconv_Itoa n h0 h1 _ HT.out).mono ?_; rintro e w' ⟨rfl, k, os, rfl⟩)
  go_ret
  exact ⟨rfl, Lib.below_grow _ _ (Nat.le_refl _) _ _⟩

/-- a variable reads behind a call as before it, where nothing below the heap's end has changed -/
theorem var_below {P : Program} {W W' : World} (hb : Below W.heap.size W W') {n : String} {cs : Array Value} (h : W.var? P n = some cs) : W'.var? P n = some cs := by
  unfold World.var? at h ⊢
  cases hg : P.globalNamed n with
  | none => rw [hg] at h; cases h
  | some g =>
    rw [hg] at h
    simp only [Option.bind_some] at h ⊢
    have hlt : g < W.heap.size := by
      rcases Nat.lt_or_ge g W.heap.size with h' | h'
      · exact h'
      · rw [Array.getElem?_eq_none h'] at h; cases h
    rw [hb.block g hlt]
    exact h
/-- the last step of a law over one argument whose world behind the call has only new blocks -/
theorem post_ends {H : Type} {enc : TypeId × Value → H} {P : Program} {f : Func} {s : ChangeSpec} {apart fresh handsOn again : Bool} {W W' : World} {args : Array Value} {v : Value} {ds gs : List (DataW H)} {before pa pv : List MemPlace}
    (hW : DataW.Whole enc P f.params.toList s.vars apart W args.toList ds gs before)
    (hres : ∀ (b : Nat) (sp : Nat → Bool) (hd : Bool), DataW.TrodAll enc P W' b sp hd f.resultTypes.toList (v.resultList f.resultTypes.size) (s.fn H (ds ++ gs)).results [])
    (hargs : ∀ sp : Nat → Bool, (∀ p ∈ before, sp p.block = true) → DataW.TrodAll enc P W' 0 sp true f.params.toList args.toList (s.fn H (ds ++ gs)).args pa)
    (hvars : ∀ sp : Nat → Bool, (∀ p ∈ before, sp p.block = true) → DataW.TrodVars enc P W' sp s.vars (s.fn H (ds ++ gs)).vars pv)
    (hps : before = pa ++ pv) (hb : Below W.heap.size W W') (hag : again = false) :
    s.post enc P f apart fresh handsOn again W args v W' := by
  have hold : ∀ p ∈ before, (fun b => decide (b < W.heap.size)) p.block = true := fun p hp => by simpa using hW.lt p hp
  refine ⟨ds, gs, before, [], pa, pv, hW, hres _ _ _, hargs _ hold, hvars _ hold, World.keptBut_mono (fun p hp => ⟨hp, ?_⟩) (hb.frame (· ∈ before)), fun h => ?_⟩
  · rw [hps, List.mem_append] at hp
    exact Or.inr hp
  · rw [hag] at h; cases h
end Go.Proofs.YthmababifgaejaaGreatDoor
namespace Go.Proofs.YthmababifgaejaaGreatDoor
open Go.ChangeShapes Go.WideShapes Go.ChangeAt Go.RowKit
theorem itB_sz (n : Int) (h0 : -9223372036854775808 ≤ n) (h1 : n ≤ 9223372036854775807) : (itB n).size ≤ 21 := by
  have h : (itB n).size = (Lib.itoa n).length := by simp [itB, ByteArray.size]
  rw [h]
  unfold Lib.itoa
  split
  · have := dec_len n.natAbs (by omega)
    simp; omega
  · have := dec_len n.toNat (by omega)
    omega
end Go.Proofs.YthmababifgaejaaGreatDoor
namespace Go.Proofs.YthmababifgaejaaGreatDoor
open Go.ChangeShapes Go.WideShapes
/-- behind the operations in the middle: what is left reads alone -/
def MidPost (P : Program) (ops : Array Oper) (Q : Exit → Act → World → Prop) (tail : List Oper) : Exit → Act → World → Prop
  | .normal, a, w => wpStill P ops w (fun a' => Q .normal a' w) tail a
  | e, a, w => Q e a w
theorem mid_out {P : Program} {ops : Array Oper} {Q : Exit → Act → World → Prop} {tail : List Oper} (e : Exit) (a : Act) (w : World) (h : e ≠ .normal) (hq : MidPost P ops Q tail e a w) : Q e a w := by
  cases e <;> first | exact absurd rfl h | exact hq
theorem wp_post {P : Program} {o : Oper} {a : Act} {w : World} {K : Act → World → Prop} {Q Q' : Exit → Act → World → Prop} (h : ∀ e a w, e ≠ .normal → Q' e a w → Q e a w) (hh : o.wp P a w K Q') : o.wp P a w K Q := by
  unfold Oper.wp at *
  generalize (execOp a.eval o).run P w = r at *
  cases r with
  | ok n w' =>
    cases n <;> simp only [Oper.upon] at hh ⊢
    case enter f args =>
      refine hh.mono fun e w'' he => ?_
      cases e with
      | returned v => exact he
      | panicked c => exact h _ _ _ (by intro e; cases e) he
      | outgrown => obtain ⟨a', w3, h3⟩ := he; exact ⟨a', w3, h _ _ _ (by intro e; cases e) h3⟩
    all_goals exact hh
  | halt x w' =>
    cases x <;> simp only [Oper.upon] at hh ⊢
    exact h _ _ _ (by intro e; cases e) hh
theorem lets_post {Q Q' : Exit → Act → World → Prop} (h : ∀ e a w, e ≠ .normal → Q' e a w → Q e a w) (hh : LetsOut Q') : LetsOut Q := by
  obtain ⟨a, w, h1⟩ := hh
  exact ⟨a, w, h _ _ _ (by intro e; cases e) h1⟩
def midB (md : Region.Mode) (ops : Array Oper) (t : Nat) : Nat → Nat → Array Bool → Bool
  | 0, k, listed => Region.lexFrom md ops t k listed
  | g + 1, k, listed => decide (Region.ready md ops listed = [k]) && midB md ops t g (k + 1) (listed.setIfInBounds k true)
theorem any_of_mid {P : Program} {md : Region.Mode} {ops : Array Oper} {Q : Exit → Act → World → Prop} (hsel : Region.noSelect ops = true) (tail : List Oper) : ∀ (l : List Oper) (k : Nat) (listed : Array Bool) (a : Act) (w : World),
    (∀ j, j < l.length → l[j]? = ops[k + j]?) → (∀ j, tail[j]? = ops[k + l.length + j]?) → midB md ops tail.length l.length k listed = true → wpList P ops (MidPost P ops Q tail) l a w → wpAny P md ops Q (l.length + tail.length) listed a w
  | [], k, listed, a, w, _, ht, hB, h => by
    have := wpAnyS_lex (P := P) (md := md) (w := w) (Q := fun a' => Q .normal a' w) hsel tail k listed a (fun j => by simpa using ht j) hB h
    rw [List.length_nil, Nat.zero_add]
    exact wpAny_of_still (fun _ h => h) _ _ _ this
  | o :: l, k, listed, a, w, hl, ht, hB, h => by
    have h0 : ops[k]? = some o := by simpa using (hl 0 (by simp)).symm
    simp only [List.length_cons, midB, Bool.and_eq_true, decide_eq_true_eq] at hB
    rw [List.length_cons, show l.length + 1 + tail.length = (l.length + tail.length) + 1 by omega]
    refine ⟨fun h1 => (by rw [hB.1] at h1; cases h1), fun i hi => ?_⟩
    rw [hB.1] at hi
    obtain rfl : i = k := by simpa using hi
    have hw : wpOp P ops Q i (wpList P ops (MidPost P ops Q tail) l) a w := by
      unfold wpOp
      simp only [h0]
      unfold wpList at h
      split at h
      · rename_i hwt
        rw [if_pos hwt]
        rcases h with h | ⟨h1, h2⟩
        · exact .inl (wp_post mid_out h)
        · exact .inr ⟨h1, lets_post mid_out h2⟩
      · rename_i hwt
        rw [if_neg hwt]; exact h
    refine wpOp_mono (fun a' w' h' => any_of_mid hsel tail l (i + 1) _ a' w' (fun j hj => ?_) (fun j => ?_) hB.2 h') hw
    · have := hl (j + 1) (by simp; omega)
      simpa [Nat.add_assoc, Nat.add_comm 1 j] using this
    · have := ht j
      rw [List.length_cons] at this
      rw [this]; congr 1; omega
/-- each of the first n operations is waited for, and what comes behind the n-th one waits for one of those from it on -/
def lateB (md : Region.Mode) (ops : Array Oper) (n : Nat) : Bool := Region.sinkB md ops n && (List.range ops.size).all fun t => decide (t ≤ n) || (List.range t).any fun j => decide (n ≤ j) && Region.waitsFor md ops t j
theorem late_head {md : Region.Mode} {ops : Array Oper} {n : Nat} {listed : Array Bool} (hB : Region.sinkB md ops n = true) (hn : n < ops.size) (inv : HeadInv md ops n listed) (hr : n ∈ Region.ready md ops listed) : ∀ (d i : Nat), n - i = d → i < n → listed.getD i false = true := by
  intro d
  induction d using Nat.strongRecOn with
  | _ d ih =>
    intro i hd hi
    obtain ⟨j, hj, hj2⟩ := List.any_eq_true.1 (List.all_eq_true.1 hB i (List.mem_range.2 hi))
    simp only [Bool.and_eq_true, decide_eq_true_eq] at hj2
    obtain ⟨oj, hoj, e, he, hb, hon⟩ := Region.waitsFor_spec hj2.2
    have hjn := List.mem_range.1 hj
    by_cases hjt : j = n
    · subst hjt
      obtain ⟨_, ot, hot, hall⟩ := mem_ready.1 hr
      obtain rfl : oj = ot := Option.some.inj (hoj.symm.trans hot)
      rw [← hon]; exact hall e he hb
    · have hl := ih (n - j) (by omega) j rfl (by omega)
      rw [← hon]; exact inv.closed j oj hoj hl e he hb
theorem late_spec {md : Region.Mode} {ops : Array Oper} {n : Nat} {listed : Array Bool} (hB : lateB md ops n = true) (hn : n < ops.size) (inv : HeadInv md ops n listed) {i : Nat} (hi : i < n) (hun : listed.getD i true = false) {t : Nat} (ht : n ≤ t) : t ∉ Region.ready md ops listed := by
  unfold lateB at hB
  rw [Bool.and_eq_true] at hB
  intro hr
  by_cases htn : t = n
  · subst htn
    have h1 := late_head hB.1 hn inv hr _ i rfl hi
    rw [getD_both hun] at h1; cases h1
  · obtain ⟨_, ot, hot, hall⟩ := mem_ready.1 hr
    have hts : t < ops.size := (Array.getElem?_eq_some_iff.1 hot).1
    have h1 := List.all_eq_true.1 hB.2 t (List.mem_range.2 hts)
    simp only [Bool.or_eq_true, decide_eq_true_eq] at h1
    rcases h1 with h1 | h1
    · omega
    · obtain ⟨j, hj, hj2⟩ := List.any_eq_true.1 h1
      simp only [Bool.and_eq_true, decide_eq_true_eq] at hj2
      obtain ⟨o', ho', e, he, hb, hon⟩ := Region.waitsFor_spec hj2.2
      obtain rfl : o' = ot := Option.some.inj (ho'.symm.trans hot)
      have h2 := hall e he hb
      have hjt := List.mem_range.1 hj
      rw [hon, getD_both (inv.tail j hj2.1 (by omega))] at h2
      cases h2
/-- an operation of the head that can come first may come first -/
theorem head_first {P : Program} {md : Region.Mode} {ops : Array Oper} {w : World} {n i : Nat} {oi : Oper} {v : Value} {L : Array Bool → Act → Prop} (hi : ops[i]? = some oi) (hsel : Region.noSelect ops = true) (hB : lateB md ops n = true) (hn : n < ops.size) (hin : i < n)
    (hdone : ∀ listed a, L listed a → ∀ j ∈ Region.ready md ops listed, n ≤ j) : ∀ (f : Nat) (listed : Array Bool) (a : Act), HeadInv md ops n listed →
      (∀ j oj, ops[j]? = some oj → j ≠ i → listed.getD j true = false → (∀ e ∈ oj.after, Region.binds md e = true → e.on ≠ i) → oi.apart ops oj = true) →
      i ∈ Region.ready md ops listed → YieldsAt P ops w oi v a → wpAnyL P md ops w n L f (listed.setIfInBounds i true) (a.put oi.dst v) → wpAnyL P md ops w n L (f + 1) listed a := by
  have hs := Region.noSelect_spec hsel
  intro f
  induction f with
  | zero =>
    intro listed a inv _ hr hy H
    have hun := (mem_ready.1 hr).1
    refine ⟨fun h => (by rw [h] at hr; cases hr), fun j hj => ?_⟩
    have hjn : j < n := Nat.lt_of_not_le fun h => late_spec hB hn inv hin hun h hj
    refine ⟨hjn, ?_⟩
    by_cases hji : j = i
    · subst hji; exact hy.stOp hi H
    · have := hdone _ _ H j (ready_mono hj hji); omega
  | succ f ih =>
    intro listed a inv hfree hr hy H
    have hun := (mem_ready.1 hr).1
    refine ⟨fun h => (by rw [h] at hr; cases hr), fun j hj => ?_⟩
    have hjn : j < n := Nat.lt_of_not_le fun h => late_spec hB hn inv hin hun h hj
    refine ⟨hjn, ?_⟩
    by_cases hji : j = i
    · subst hji; exact hy.stOp hi H
    · have h1 := (H.2 j (ready_mono hj hji)).2
      obtain ⟨hjun, oj, hoj, hall⟩ := mem_ready.1 hj
      have hnot : ∀ e ∈ oj.after, Region.binds md e = true → e.on ≠ i := fun e he hb heq => by
        have h3 := hall e he hb
        rw [heq, getD_both hun] at h3; cases h3
      have h2 := stOp_put hoj (hfree j oj hoj hji hjun hnot) (fun cs b => hs i oi cs b hi) (fun cs b => hs j oj cs b hoj) hy h1
      refine stOp_mono (fun a' h3 => ih (listed.setIfInBounds j true) a' (inv.set hj hjn) (fun k ok hk hki hunk hno => ?_) (ready_mono hr (Ne.symm hji)) h3.1 ?_) h2
      · refine hfree k ok hk hki ?_ hno
        by_cases hjk : j = k
        · subst hjk; exact hjun
        · rw [getD_set_ne true hjk] at hunk; exact hunk
      · rw [Array.setIfInBounds_comm _ _ hji]; exact h3.2
def headB (md : Region.Mode) (ops : Array Oper) (t m : Nat) : Nat → Nat → Array Bool → Bool
  | 0, k, listed => midB md ops t m k listed
  | f + 1, k, listed => (Region.ready md ops listed).contains k && Region.free md ops listed k && headB md ops t m f (k + 1) (listed.setIfInBounds k true)
theorem head_lex {P : Program} {md : Region.Mode} {ops : Array Oper} {w : World} {n t m : Nat} {Lq : Act → Prop} (hsel : Region.noSelect ops = true) (hB : lateB md ops n = true) (hn : n < ops.size) (hm : 0 < m) :
    ∀ (l : List Oper) (k : Nat) (listed : Array Bool) (a : Act), (∀ j, j < l.length → l[j]? = ops[k + j]?) → k + l.length = n → HeadInv md ops n listed → headB md ops t m l.length k listed = true → wpStill P ops w Lq l a →
    wpAnyL P md ops w n (fun listed' a' => midB md ops t m n listed' = true ∧ Lq a') l.length listed a
  | [], k, listed, a, _, hk, _, hb, h => by
    obtain rfl : k = n := by simpa using hk
    exact ⟨by simpa [headB] using hb, h⟩
  | o :: l, k, listed, a, hl, hk, inv, hb, h => by
    have h0 : ops[k]? = some o := by simpa using (hl 0 (by simp)).symm
    simp only [List.length_cons, headB, Bool.and_eq_true] at hb
    obtain ⟨⟨hr, hf⟩, hb'⟩ := hb
    have hkn : k < n := by simp only [List.length_cons] at hk; omega
    have hr' : k ∈ Region.ready md ops listed := by simpa using hr
    have hst : stOp P ops w k (wpStill P ops w Lq l) a := by unfold stOp; simp only [h0]; exact h
    obtain ⟨v, hy, hK⟩ := yieldsAt_of_stOp h0 hst
    refine head_first h0 hsel hB hn hkn (fun listed' a' hL j hj => ?_) l.length listed a inv (Region.free_spec h0 hf) hr' hy
      (head_lex hsel hB hn hm l (k + 1) _ _ (fun j hj => by have := hl (j + 1) (by simp; omega); simpa [Nat.add_assoc, Nat.add_comm 1 j] using this) (by simp only [List.length_cons] at hk; omega) (inv.set hr' hkn) hb' hK)
    obtain ⟨m', rfl⟩ : ∃ m', m = m' + 1 := ⟨m - 1, by omega⟩
    have hL1 := hL.1
    simp only [midB, Bool.and_eq_true, decide_eq_true_eq] at hL1
    rw [hL1.1] at hj
    have : j = n := by simpa using hj
    omega
def regionB (ops : Array Oper) (n m : Nat) : Bool := Region.noSelect ops && decide (n < ops.size) && decide (0 < m) && decide (n + m ≤ ops.size) && lateB .any ops n && headB .any ops (ops.size - (n + m)) m n 0 (Array.replicate ops.size false)
theorem wp_region_mid {P : Program} {id : Nat} {Q : Exit → Act → World → Prop} {a : Act} {w : World} {l : List Oper} (n m : Nat) (hm : P.follows .mixedOrders = true) (hB : regionB l.toArray n m = true)
    (h : wpStill P l.toArray { w with drawn := w.drawn + 1 } (fun a' => wpList P l.toArray (MidPost P l.toArray Q (l.drop (n + m))) ((l.drop n).take m) a' { w with drawn := w.drawn + 1 }) (l.take n) a) : (Code.region id l.toArray true).wp P Q a w := by
  simp only [regionB, Bool.and_eq_true, decide_eq_true_eq] at hB
  obtain ⟨⟨⟨⟨⟨hsel, hn⟩, h0⟩, hnm⟩, hl⟩, hh⟩ := hB
  have hn' : n < l.length := by simpa using hn
  have hnm' : n + m ≤ l.length := by simpa using hnm
  have htl : (l.take n).length = n := by simp; omega
  have hmd : ((l.drop n).take m).length = m := by simp; omega
  have hdl : (l.drop (n + m)).length = l.toArray.size - (n + m) := by simp
  have inv0 : HeadInv .any l.toArray n (Array.replicate l.toArray.size false) :=
    ⟨by simp, fun j oj _ hl => (by rw [getD_replicate_false] at hl; cases hl), fun t _ ht => getD_in (by simpa using ht) (getD_replicate_false _ _)⟩
  have H := head_lex (md := .any) (m := m) (t := l.toArray.size - (n + m)) hsel hl hn h0 (l.take n) 0 _ a (fun j hj => by
    have hj' : j < n := by rw [htl] at hj; exact hj
    simp [hj']) (by simpa using htl) inv0 (by rw [htl]; exact hh) h
  refine wp_region_any hm ?_
  have := wpAny_of_head (Q' := Q) (g := m + (l.toArray.size - (n + m))) (fun listed a' hL => by
    have := any_of_mid (md := .any) (Q := Q) hsel (l.drop (n + m)) ((l.drop n).take m) n listed a' { w with drawn := w.drawn + 1 } (fun j hj => by
      rw [hmd] at hj
      rw [List.getElem?_take_of_lt hj, List.getElem?_drop]; simp) (fun j => by
      rw [hmd, List.getElem?_drop]; simp) (by rw [hdl, hmd]; exact hL.1) hL.2
    rwa [hdl, hmd] at this) _ _ _ H
  rw [htl, show n + (m + (l.toArray.size - (n + m))) = l.toArray.size by omega] at this
  exact this
end Go.Proofs.YthmababifgaejaaGreatDoor
