/- Values as rows of three cells. No condition.  strings.Compare; the order of strings. searchValue: where a name stands among values in the order of their names. slices.Insert of one value into a row that a call has made itself. -/
import Derived.Test.YthmababifgaejaaGreatDoorRows
import Derived.Test.YthmababifgaejaaGreatDoorEmGCs
import Derived.WalkKit
import Derived.ProofKit
import Derived.OpenShut
import Derived.Handy
import Derived.Lib.Hide
import Derived.Below
import Derived.IntWalk
import Derived.WalkLawsBesides
import Derived.Deep.QuietTactic
import Derived.BigQuiet
import Derived.OwnWalk
import Derived.Laws.OwnMore
import Derived.Deep.OwnRows
import Derived.Deep.MidRow
import Derived.WalkSmall
import Derived.StillTailTactics
import Derived.KernelRfl
import Derived.Outline
import Derived.Lib.Bytealg
import Derived.Lib.Strings
import Derived.Laws.Externs
import Derived.Lib.Walk
import Derived.Deep.LoopGhost
import Derived.Lib.AppendZerosOnto
import Derived.Lib.Overlaps
import Derived.Deep.RegionLaw
import Derived.BigRegion
namespace Go.Proofs.YthmababifgaejaaGreatDoor
open Go.ChangeShapes Go.WideShapes Go.ChangeAt Go.RowKit
structure ValueR where
  f0 : ByteArray
  f1 : Int
  f2 : Int
namespace ValueR
def cells (r : ValueR) : List Value := [.string r.f0, .int .i64 r.f1, .int .i64 r.f2]
def Ok (r : ValueR) : Prop := r.f0.size ≤ maxLen ∧ (-9223372036854775808 ≤ r.f1 ∧ r.f1 ≤ 9223372036854775807) ∧ (-9223372036854775808 ≤ r.f2 ∧ r.f2 ≤ 9223372036854775807)
def cost (r : ValueR) : Nat := r.f0.size
theorem len (r : ValueR) : r.cells.length = 3 := rfl
/-- the cells of a list -/
def all (L : List ValueR) : List Value := L.flatMap cells
def costs (L : List ValueR) : Nat := (L.map fun r => 1 + r.cost).sum
theorem costs_take (L : List ValueR) (j : Nat) (h : j < L.length) : costs (L.take (j + 1)) = costs (L.take j) + (1 + L[j].cost) := by
  unfold costs
  rw [List.take_succ_eq_append_getElem h, List.map_append, List.sum_append]
  simp
theorem len_le (L : List ValueR) : L.length ≤ costs L := by
  unfold costs
  induction L with
  | nil => simp
  | cons r L ih => simp only [List.map_cons, List.sum_cons, List.length_cons]; omega
theorem costs_le (L : List ValueR) (j : Nat) : costs (L.take j) + (L.length - j) ≤ costs L := by
  have h : costs L = costs (L.take j) + costs (L.drop j) := by
    unfold costs
    rw [← List.sum_append, ← List.map_append, List.take_append_drop]
  have h2 := len_le (L.drop j)
  rw [List.length_drop] at h2
  omega
theorem cost_lt (L : List ValueR) (j : Nat) (h : j < L.length) : L[j].cost < costs L := by
  have h1 := costs_take L j h
  have h2 := costs_le L (j + 1)
  omega
end ValueR
open ValueR (all costs)
theorem zero_Value : (Tryz.prog.info? 79).map (fun i => (i.zero, i.size, i.bytes)) = some (some (.agg #[.string ByteArray.empty, .int .i64 0, .int .i64 0]), 3, 32) := by kernel_rfl
end Go.Proofs.YthmababifgaejaaGreatDoor
namespace Go.Proofs.YthmababifgaejaaGreatDoor
open Go.ChangeShapes Go.WideShapes Go.ChangeAt Go.RowKit
theorem less_irrefl : ∀ a : List UInt8, Op.bytesLess a a = false
  | [] => rfl
  | x :: a => by simp [Op.bytesLess, less_irrefl a]
theorem less_trans : ∀ a b c : List UInt8, Op.bytesLess a b = true → Op.bytesLess b c = true → Op.bytesLess a c = true
  | _, [], _, h, _ => by simp [Op.bytesLess] at h
  | _, _ :: _, [], _, h => by simp [Op.bytesLess] at h
  | [], _ :: _, _ :: _, _, _ => rfl
  | x :: a, y :: b, z :: c, h1, h2 => by
    simp only [Op.bytesLess, Bool.or_eq_true, Bool.and_eq_true, decide_eq_true_eq, beq_iff_eq] at h1 h2 ⊢
    rcases h1 with h1 | ⟨rfl, h1⟩
    · rcases h2 with h2 | ⟨rfl, _⟩
      · exact .inl (UInt8.lt_trans h1 h2)
      · exact .inl h1
    · rcases h2 with h2 | ⟨rfl, h2⟩
      · exact .inl h2
      · exact .inr ⟨rfl, less_trans a b c h1 h2⟩
theorem less_total : ∀ a b : List UInt8, Op.bytesLess a b = false → a ≠ b → Op.bytesLess b a = true
  | [], [], _, h => absurd rfl h
  | _ :: _, [], _, _ => rfl
  | [], _ :: _, h, _ => by simp [Op.bytesLess] at h
  | x :: a, y :: b, h, hne => by
    simp only [Op.bytesLess, Bool.or_eq_false_iff, Bool.and_eq_false_iff, decide_eq_false_iff_not, beq_eq_false_iff_ne] at h
    simp only [Op.bytesLess, Bool.or_eq_true, Bool.and_eq_true, decide_eq_true_eq, beq_iff_eq]
    by_cases e : x = y
    · subst e
      rcases h.2 with h2 | h2
      · exact absurd rfl h2
      · exact .inr ⟨rfl, less_total a b h2 (fun e => hne (by rw [e]))⟩
    · left
      have := h.1
      rcases Nat.lt_trichotomy x.toNat y.toNat with h3 | h3 | h3
      · exact absurd (UInt8.lt_iff_toNat_lt.2 h3) this
      · exact absurd (UInt8.toNat_inj.1 h3) e
      · exact UInt8.lt_iff_toNat_lt.2 h3
/-- what Compare says -/
theorem cmp_less : ∀ a b : List UInt8, Op.bytesLess a b = true → Lib.compareBytes a b = -1
  | _, [], h => by simp [Op.bytesLess] at h
  | [], _ :: _, _ => by simp [Lib.compareBytes]
  | x :: a, y :: b, h => by
    simp only [Op.bytesLess, Bool.or_eq_true, Bool.and_eq_true, decide_eq_true_eq, beq_iff_eq] at h
    unfold Lib.compareBytes
    rcases h with h | ⟨rfl, h⟩
    · rw [if_pos h]
    · rw [if_neg (UInt8.lt_irrefl x), if_neg (UInt8.lt_irrefl x)]
      exact cmp_less a b h
theorem cmp_same : ∀ a : List UInt8, Lib.compareBytes a a = 0
  | [] => by simp [Lib.compareBytes]
  | x :: a => by
    unfold Lib.compareBytes
    rw [if_neg (UInt8.lt_irrefl x), if_neg (UInt8.lt_irrefl x)]
    exact cmp_same a
theorem cmp_more : ∀ a b : List UInt8, Op.bytesLess b a = true → Lib.compareBytes a b = 1
  | [], _, h => by simp [Op.bytesLess] at h
  | _ :: _, [], _ => by simp [Lib.compareBytes]
  | x :: a, y :: b, h => by
    simp only [Op.bytesLess, Bool.or_eq_true, Bool.and_eq_true, decide_eq_true_eq, beq_iff_eq] at h
    unfold Lib.compareBytes
    rcases h with h | ⟨rfl, h⟩
    · rw [if_neg (fun h' => UInt8.lt_irrefl x (UInt8.lt_trans h' h)), if_pos h]
    · rw [if_neg (UInt8.lt_irrefl _), if_neg (UInt8.lt_irrefl _)]
      exact cmp_more a b h
theorem ba_ext {a b : ByteArray} (h : a.toList = b.toList) : a = b := by
  rw [Lib.toList_data, Lib.toList_data] at h
  cases a; cases b
  simp at h
  rw [h]
/-- the order as Compare gives it -/
def cmpS (a b : ByteArray) : Int := Lib.compareBytes a.data.toList b.data.toList
theorem cmp_cases (a b : ByteArray) : (Op.bytesLess a.toList b.toList = true ∧ cmpS a b = -1 ∧ a ≠ b) ∨ (a = b ∧ cmpS a b = 0 ∧ Op.bytesLess a.toList b.toList = false) ∨ (Op.bytesLess b.toList a.toList = true ∧ cmpS a b = 1 ∧ a ≠ b ∧ Op.bytesLess a.toList b.toList = false) := by
  unfold cmpS
  rw [← Lib.toList_data, ← Lib.toList_data]
  cases h : Op.bytesLess a.toList b.toList with
  | true => exact .inl ⟨rfl, cmp_less _ _ h, fun e => by rw [e, less_irrefl] at h; cases h⟩
  | false =>
    by_cases e : a = b
    · subst e; exact .inr (.inl ⟨rfl, cmp_same _, rfl⟩)
    · have := less_total _ _ h (fun e' => e (ba_ext e'))
      exact .inr (.inr ⟨this, cmp_more _ _ this, e, rfl⟩)
set_option maxRecDepth 100000 in
theorem cmp_string (a b : ByteArray) (w : World) : Calls Tryz.prog 71 #[.string a, .string b] w fun e w' => e = .returned (.int .i64 (cmpS a b)) ∧ w = w' := by
  have hx : Calls Tryz.prog 94 #[.string a, .string b] w fun e w' => e = .returned (.int .i64 (cmpS a b)) ∧ w = w' := by
    go_enter Tryz.func94, Tryz.ntmps94
    go_wp2
    rw [run_callFunc_extern Tryz.func115 (by kernel_rfl) (by kernel_rfl) (by kernel_rfl) (e := Extern.BytealgCompare.compare) (by kernel_rfl), Lib.run_compareString]
    simp only [Result.andThen]
    rw [Oper.upon_value]
    go_wp2
    go_ret
    exact ⟨rfl, rfl⟩
  go_enter Tryz.func71, Tryz.ntmps71
  go_wp2_with (go_at_call 94; refine hx.mono ?_; rintro e w' ⟨rfl, rfl⟩)
  go_ret
  exact ⟨rfl, rfl⟩
end Go.Proofs.YthmababifgaejaaGreatDoor
namespace Go.Proofs.YthmababifgaejaaGreatDoor
open Go.ChangeShapes Go.WideShapes Go.ChangeAt Go.RowKit
open ValueR (all costs)
def Asc (V : List ValueR) : Prop := V.Pairwise fun a b => Op.bytesLess a.f0.toList b.f0.toList = true
/-- how many stand before a name -/
def pos : List ValueR → ByteArray → Nat
  | [], _ => 0
  | r :: V, nm => if Op.bytesLess r.f0.toList nm.toList = true then pos V nm + 1 else 0
theorem pos_le : ∀ (V : List ValueR) (nm : ByteArray), pos V nm ≤ V.length
  | [], _ => Nat.le_refl _
  | r :: V, nm => by unfold pos; split <;> simp [pos_le V nm]
theorem pos_before : ∀ (V : List ValueR) (nm : ByteArray) (i : Nat) (r : ValueR), i < pos V nm → V[i]? = some r → Op.bytesLess r.f0.toList nm.toList = true
  | [], _, _, _, h, _ => absurd h (Nat.not_lt_zero _)
  | r :: V, nm, i, x, h, hx => by
    unfold pos at h
    split at h
    · rename_i hr
      cases i with
      | zero => cases hx; exact hr
      | succ i => exact pos_before V nm i x (by omega) hx
    · exact absurd h (Nat.not_lt_zero _)
theorem pos_at : ∀ (V : List ValueR) (nm : ByteArray) (r : ValueR), V[pos V nm]? = some r → Op.bytesLess r.f0.toList nm.toList = false
  | [], _, _, h => by simp [pos] at h
  | x :: V, nm, r, h => by
    unfold pos at h
    split at h
    · exact pos_at V nm r (by simpa using h)
    · rename_i hx
      cases h
      simpa using hx
theorem pos_is : ∀ (V : List ValueR) (nm : ByteArray) (i : Nat), (∀ t r, t < i → V[t]? = some r → Op.bytesLess r.f0.toList nm.toList = true) → i ≤ V.length → (∀ r, V[i]? = some r → Op.bytesLess r.f0.toList nm.toList = false) → pos V nm = i
  | [], _, i, _, h, _ => by simp at h; simp [pos, h]
  | x :: V, nm, 0, _, _, h => by
    unfold pos
    rw [if_neg (by rw [h x rfl]; simp)]
  | x :: V, nm, i + 1, h1, h2, h3 => by
    unfold pos
    rw [if_pos (h1 0 x (by omega) rfl), pos_is V nm i (fun t r ht hr => h1 (t + 1) r (by omega) hr) (by simpa using h2) h3]
/-- is the name there -/
def isAt (V : List ValueR) (nm : ByteArray) : Bool := match V[pos V nm]? with
  | some r => decide (r.f0 = nm)
  | none => false
theorem asc_mono {V : List ValueR} (h : Asc V) (nm : ByteArray) (a b : Nat) (ra rb : ValueR) (hab : a ≤ b) (ha : V[a]? = some ra) (hb : V[b]? = some rb) (hl : Op.bytesLess rb.f0.toList nm.toList = true) : Op.bytesLess ra.f0.toList nm.toList = true := by
  by_cases e : a = b
  · subst e; rw [ha] at hb; cases hb; exact hl
  · have hla := (List.getElem?_eq_some_iff.1 ha)
    have hlb := (List.getElem?_eq_some_iff.1 hb)
    have := (List.pairwise_iff_getElem.1 h) a b hla.1 hlb.1 (by omega)
    rw [hla.2, hlb.2] at this
    exact less_trans _ _ _ this hl
set_option maxRecDepth 100000 in
theorem cmp_closure (r : ValueR) (nm : ByteArray) (w : World) : Calls Tryz.prog 70 #[.agg #[.string r.f0, .int .i64 r.f1, .int .i64 r.f2], .string nm] w fun e w' => e = .returned (.int .i64 (cmpS r.f0 nm)) ∧ Below w.heap.size w w' := by
  go_enter Tryz.func70, Tryz.ntmps70
  go_wp2_with (go_at_call 71; refine (cmp_string _ _ _).mono ?_; rintro e w1 ⟨rfl, rfl⟩)
  go_ret
  exact ⟨rfl, (Below.refl _ _).alloc (Nat.le_refl _) _⟩
/-- the search between two rounds -/
def Mid (V : List ValueR) (nm : ByteArray) (lo hi : Nat) : Prop := (∀ t r, t < lo → V[t]? = some r → Op.bytesLess r.f0.toList nm.toList = true) ∧ (∀ t r, hi ≤ t → V[t]? = some r → Op.bytesLess r.f0.toList nm.toList = false)
set_option maxRecDepth 100000 in
set_option maxHeartbeats 4000000 in
theorem bin_search (V : List ValueR) (v : Value) (nm : ByteArray) (w : World) (hv : Cs.Shows w 0 3 v V.length (all V)) (hn : V.length ≤ 1048576) (hasc : Asc V) :
    Calls Tryz.prog 69 #[v, .string nm, .func (.func 70) #[] #[]] w fun e w' => e = .returned (.tuple #[.int .i64 (pos V nm : Nat), .bool (isAt V nm)]) ∧ Below w.heap.size w w' := by
  have HV := Lib.hid hv
  rcases Cs.shows_cases hv with ⟨h0, q, cap, rfl⟩ | ⟨hpos, b, o, cap, rfl, _, _, hbl, hr⟩
  · have hV : V = [] := List.length_eq_zero_iff.1 h0
    subst hV
    clear hv HV hn hasc h0
    go_enter Tryz.func69, Tryz.ntmps69
    go_wp2
    refine wp_loop_rounds 1 ?_
    rw [rounds_succ]
    go_wp2
    go_ret2
    exact ⟨rfl, Below.refl _ _⟩
  · have HR := Lib.hid hr
    have HM := Lib.hid (fun a b ra rb => asc_mono hasc nm a b ra rb)
    have HI := Lib.hid (fun i => pos_is V nm i)
    clear hr hv HV hasc
    go_enter Tryz.func69, Tryz.ntmps69
    go_wp2
    go_loopg [9, 10] V.length (fun kx s9 s10 wr => ∃ lo hi : Nat, s9 = .int .i64 lo ∧ s10 = .int .i64 hi ∧ lo ≤ hi ∧ hi ≤ V.length ∧ hi - lo ≤ kx ∧ Mid V nm lo hi ∧ Below w.heap.size w wr)
    case atStart => exact ⟨0, V.length, rfl, rfl, Nat.zero_le _, Nat.le_refl _, by omega, ⟨fun t r ht => absurd ht (Nat.not_lt_zero _), fun t r ht hr => by rw [List.getElem?_eq_none ht] at hr; cases hr⟩, Below.refl _ _⟩
    case round =>
      obtain ⟨lo, hi, rfl, rfl, hlh, hin, hg, hmid, hb⟩ := hrel
      have MI := Lib.hid hmid
      clear hmid
      by_cases hlt : lo < hi
      · have hm : (lo + hi) / 2 < V.length := by omega
        have hrr := rangeAt_below hb (flat_nth ValueR.cells 3 (fun r => rfl) V ((lo + hi) / 2) hm HR.out)
        have HX := Lib.hid (List.getElem?_eq_getElem hm)
        generalize V[(lo + hi) / 2] = r at *
        have c0 : wr.cell? ⟨b, o + (lo + hi) / 2 * 3, none⟩ = some (.string r.f0) := hrr 0 _ rfl
        have c1 : wr.cell? ⟨b, o + (lo + hi) / 2 * 3 + 1, none⟩ = some (.int .i64 r.f1) := hrr 1 _ rfl
        have c2 : wr.cell? ⟨b, o + (lo + hi) / 2 * 3 + 2, none⟩ = some (.int .i64 r.f2) := hrr 2 _ rfl
        have HB := Lib.hid hb
        have KC := Lib.hid (fun W => cmp_closure r nm W)
        clear hb hrr
        have hcc : (Op.bytesLess r.f0.toList nm.toList = true ∧ cmpS r.f0 nm < 0) ∨ (Op.bytesLess r.f0.toList nm.toList = false ∧ 0 ≤ cmpS r.f0 nm) := by
          rcases cmp_cases r.f0 nm with ⟨hl, hc, _⟩ | ⟨_, hc, hl⟩ | ⟨_, hc, _, hl⟩
          · exact .inl ⟨hl, by omega⟩
          · exact .inr ⟨hl, by omega⟩
          · exact .inr ⟨hl, by omega⟩
        generalize cmpS r.f0 nm = c at *
        rcases hcc with ⟨hl, hc⟩ | ⟨hl, hc⟩
        all_goals
          have HL := Lib.hid hl
          clear hl
        · go_wp2_with (go_at_call 70; refine (KC.out _).mono ?_; rintro e w1 ⟨rfl, hb1⟩)
          go_roundg (hi - ((lo + hi) / 2 + 1))
          case measure => omega
          case rel =>
            refine ⟨(lo + hi) / 2 + 1, hi, by rw [show ((lo : Int) + (hi : Int)) / 2 + 1 = (((lo + hi) / 2 + 1 : Nat) : Int) by omega], rfl, by omega, hin, Nat.le_refl _, ⟨fun t r' ht hr' => HM.out t ((lo + hi) / 2) r' r (by omega) hr' HX.out HL.out, MI.out.2⟩, HB.out.trans (hb1.mono HB.out.size)⟩
        · go_wp2_with (go_at_call 70; refine (KC.out _).mono ?_; rintro e w1 ⟨rfl, hb1⟩)
          go_roundg ((lo + hi) / 2 - lo)
          case measure => omega
          case rel =>
            exact ⟨lo, (lo + hi) / 2, rfl, by rw [show ((lo : Int) + (hi : Int)) / 2 = (((lo + hi) / 2 : Nat) : Int) by omega], by omega, by omega, Nat.le_refl _, ⟨MI.out.1, fun t r' ht hr' => by
              cases hq : Op.bytesLess r'.f0.toList nm.toList with
              | false => rfl
              | true => have := HM.out ((lo + hi) / 2) t r r' ht HX.out hr' hq; rw [HL.out] at this; cases this⟩, HB.out.trans (hb1.mono HB.out.size)⟩
      · obtain rfl : hi = lo := by omega
        have HB := Lib.hid hb
        have hp : pos V nm = hi := HI.out hi MI.out.1 hin (fun r hr => MI.out.2 hi r (Nat.le_refl _) hr)
        have HP := Lib.hid hp
        clear hb hp
        by_cases hn1 : hi < V.length
        · have hrr := rangeAt_below HB.out (flat_nth ValueR.cells 3 (fun r => rfl) V hi hn1 HR.out)
          have HX := Lib.hid (List.getElem?_eq_getElem hn1)
          generalize V[hi] = r at *
          have c0 : wr.cell? ⟨b, o + hi * 3, none⟩ = some (.string r.f0) := hrr 0 _ rfl
          have c1 : wr.cell? ⟨b, o + hi * 3 + 1, none⟩ = some (.int .i64 r.f1) := hrr 1 _ rfl
          have c2 : wr.cell? ⟨b, o + hi * 3 + 2, none⟩ = some (.int .i64 r.f2) := hrr 2 _ rfl
          have KC := Lib.hid (fun W => cmp_closure r nm W)
          have hcc : (isAt V nm = true ∧ cmpS r.f0 nm = 0) ∨ (isAt V nm = false ∧ cmpS r.f0 nm ≠ 0) := by
            unfold isAt
            rw [HP.out, HX.out]
            rcases cmp_cases r.f0 nm with ⟨_, hc, he⟩ | ⟨he, hc, _⟩ | ⟨_, hc, he, _⟩
            · exact .inr ⟨decide_eq_false he, by omega⟩
            · exact .inl ⟨decide_eq_true he, hc⟩
            · exact .inr ⟨decide_eq_false he, by omega⟩
          clear hrr
          rcases hcc with ⟨hi1, hc⟩ | ⟨hi1, hc⟩
          · rw [hc] at KC
            have HA := Lib.hid hi1
            clear hi1 hc
            go_wp2_with (go_at_call 70; refine (KC.out _).mono ?_; rintro e w1 ⟨rfl, hb1⟩)
            go_ret2
            exact ⟨by rw [HP.out, HA.out]; rfl, HB.out.trans (hb1.mono HB.out.size)⟩
          · generalize cmpS r.f0 nm = c at *
            have HA := Lib.hid hi1
            have hc0 : ((c : Int) == 0) = false := by simpa using hc
            clear hi1 hc
            go_wp2_with (go_at_call 70; refine (KC.out _).mono ?_; rintro e w1 ⟨rfl, hb1⟩)
            go_ret2
            exact ⟨by rw [HP.out, HA.out]; rfl, HB.out.trans (hb1.mono HB.out.size)⟩
        · have ea : isAt V nm = false := by
            unfold isAt
            rw [HP.out, List.getElem?_eq_none (by omega)]
          have HA := Lib.hid ea
          have hnx : decide ((hi : Int) < (V.length : Int)) = false := by simp; omega
          clear ea
          go_wp2
          go_ret2
          exact ⟨by rw [HP.out, HA.out]; rfl, HB.out⟩
end Go.Proofs.YthmababifgaejaaGreatDoor
namespace Go.Proofs.YthmababifgaejaaGreatDoor
open Go.ChangeShapes Go.WideShapes Go.ChangeAt Go.RowKit
open ValueR (all costs)
/-- 'copy' of elements of several cells, all of which are read before anything is written -/
theorem run_copy_z {P : Program} (w : World) (dT sT ty elem : TypeId) (b o dLen dCap : Nat) (a : Addr) (sLen sCap z n : Nat) (cs : List Value) (hu : P.underlying dT = some (.slice elem)) (hs : (P.info? elem).map (·.size) = some z)
    (hm : Nat.min sLen dLen = n) (hn : cs.length = n * z) (hsrc : ∀ j v, cs[j]? = some v → w.cell? (a.add j) = some v) (ht : w.there b o cs.length) (h1 : ∀ v ∈ cs, v.oneCell' = true) :
    (Builtin.copy_ #[dT, sT] ty #[.slice (some ⟨b, o, none⟩) dLen dCap, .slice (some a) sLen sCap]).run P w = .ok (goInt n) (w.setCells b o cs) := by
  have hst := run_storeCells_cells (P := P) b o cs 0 w (fun j hj => (ht j hj).1) (fun j hj => (ht j hj).2) h1
  have hf := run_firstCells_some (P := P) w z n a sLen sCap cs hn hsrc
  cases hq : P.info? elem with
  | none => simp [hq] at hs
  | some i =>
    have hi : i.size = z := by simpa [hq] using hs
    simp [Builtin.copy_, run_underlying hu, Builtin.lenOf, sizeOf, typeInfo, hq, hi, hm, hf, hst]
theorem wpList_builtin_run {P : Program} (w : World) {ops : Array Oper} {rest : List Oper} {o : Oper} {a : Act} {Q : Exit → Act → World → Prop} (hgd : o.guard = none) (d s : Operand) (t t' : TypeId)
    (ho : o.op = .call { callee := .builtin .copy, args := #[d, s], argTypes := #[t, t'] }) {v u v' : Value} {w' : World} (hd : a.eval d = v) (hs : a.eval s = u)
    (hr : (Builtin.copy_ #[t, t'] o.type #[v, u]).run P w = .ok v' w') (h : wpList P ops Q rest (a.put o.dst v') w') : wpList P ops Q (o :: rest) a w := by
  refine wpList_plain hgd fun K hK => ?_
  unfold Oper.wp execOp
  simp only [ho, resolve, invoke, builtin, Sem.run_bind, Sem.run_pure, Result.andThen_ok, List.map_toArray, List.map_cons, List.map_nil, hd, hs, hr]
  exact hK _ _ h
theorem oneV : ∀ (V : List ValueR), ∀ u ∈ all V, u.oneCell' = true := fun V u hu => by
  obtain ⟨r, _, hr⟩ := List.mem_flatMap.1 hu
  simp [ValueR.cells] at hr
  rcases hr with rfl | rfl | rfl <;> rfl
theorem all_len (V : List ValueR) : (all V).length = V.length * 3 := by
  unfold all
  induction V with
  | nil => rfl
  | cons r V ih => rw [List.flatMap_cons, List.length_append, ih, ValueR.len, List.length_cons]; omega
theorem all_take (V : List ValueR) (i : Nat) (h : i ≤ V.length) : all (V.take i) = (all V).take (i * 3) := by
  have e : all V = all (V.take i) ++ all (V.drop i) := by unfold all; rw [← List.flatMap_append, List.take_append_drop]
  rw [e]
  exact (List.take_left' (by rw [all_len, List.length_take]; congr 1; omega)).symm
theorem all_drop (V : List ValueR) (i : Nat) (h : i ≤ V.length) : all (V.drop i) = (all V).drop (i * 3) := by
  have e : all V = all (V.take i) ++ all (V.drop i) := by unfold all; rw [← List.flatMap_append, List.take_append_drop]
  rw [e]
  exact (List.drop_left' (by rw [all_len, List.length_take]; congr 1; omega)).symm
/-- what an insertion leaves -/
def InsEnd (V : List ValueR) (i : Nat) (r : ValueR) (base : Nat) (vv : Value) (w : World) (e : Ending) (w' : World) : Prop := ∃ v', e = .returned v' ∧ w'.ownsRow base 79 3 v' (V.length + 1) (all (V.take i ++ r :: V.drop i)) ∧ Below base w w' ∧ Apart vv.ownBlock.toList w w'
set_option maxRecDepth 100000 in
set_option maxHeartbeats 4000000 in
theorem insert_end (V : List ValueR) (r : ValueR) (base g0 : Nat) (vv : Value) (w : World) (hn : V.length ≤ 1048576) (ho : w.ownsRow base 79 3 vv V.length (all V)) (hbase : base ≤ w.heap.size)
    (hr : w.rangeAt g0 0 r.cells) :
    Calls Tryz.prog 144 #[vv, .int .i64 (V.length : Nat), .slice (some ⟨g0, 0, none⟩) 1 1] w (InsEnd V V.length r base vv w) := by
  obtain ⟨i0, hi, hz0, hz1, hz2⟩ := info_parts zero_Value
  have HO := Lib.hid ho
  have HR := Lib.hid hr
  unfold InsEnd
  obtain ⟨q, cap, rfl, hcap⟩ : ∃ q cap, vv = .slice q V.length cap ∧ V.length ≤ cap := by
    rcases ho.2 with ⟨rfl, h⟩ | ⟨g, cap, _, rfl, _, _, h, _⟩
    · exact ⟨none, 0, by rw [h], by omega⟩
    · exact ⟨_, cap, rfl, h⟩
  clear ho hr
  have HE := Lib.hid (show all (V.take V.length ++ r :: V.drop V.length) = all V ++ r.cells by rw [List.take_length, List.drop_length]; unfold all; rw [List.flatMap_append]; rfl)
  generalize hL : V.length = n at *
  rcases Nat.lt_or_ge n cap with hcn | hcn
  · have hcn1 : ¬ (cap = n) := by omega
    go_enter Tryz.func144, Tryz.ntmps144
    go_wp2_with (at_builtin; refine wpList_append_own _ rfl _ _ 56 rfl base 79 i0 (.agg #[.string ByteArray.empty, .int .i64 0, .int .i64 0]) 3 32 Tryz.underlying56 hi hz0 hz1 hz2 rfl (by decide) _ n (all V) rfl HO.out ⟨g0, 0, none⟩ 1 1 r.cells rfl rfl ?c1 ?c2 ?c3 ?c4 ?c5 ?_)
    case c1 => exact fun j u hu => by rw [Addr.add_mid]; exact HR.out j u hu
    case c2 => exact fun u hu => by simp [ValueR.cells] at hu; rcases hu with rfl | rfl | rfl <;> rfl
    case c3 => unfold maxLen; omega
    case c4 => omega
    case c5 => exact hbase
    intro v' w2 hown2 hgrow _
    have R1 := Lib.hid hown2
    have R2 := Lib.hid ((Below.refl base w).grown hgrow hbase (fun q hq => ((HO.out.lt q hq).1)))
    have R3 := Lib.hid (show Apart (Value.slice q n cap).ownBlock.toList w w2 from ⟨hgrow.os, hgrow.tape, hgrow.output, hgrow.size, fun k hk hn => hgrow.block k hk (fun e => hn (by rw [← e]; simp))⟩)
    clear hown2 hgrow
    go_wp2
    go_ret
    exact ⟨v', rfl, by rw [HE.out]; exact R1.out, R2.out, R3.out⟩
  · obtain rfl : cap = n := by omega
    clear hcn hcap
    go_enter Tryz.func144, Tryz.ntmps144
    go_wp2_with (at_builtin; refine wpList_append_own _ rfl _ _ 56 rfl base 79 i0 (.agg #[.string ByteArray.empty, .int .i64 0, .int .i64 0]) 3 32 Tryz.underlying56 hi hz0 hz1 hz2 rfl (by decide) _ cap (all V) rfl HO.out ⟨g0, 0, none⟩ 1 1 r.cells rfl rfl ?d1 ?d2 ?d3 ?d4 ?d5 ?_)
    case d1 => exact fun j u hu => by rw [Addr.add_mid]; exact HR.out j u hu
    case d2 => exact fun u hu => by simp [ValueR.cells] at hu; rcases hu with rfl | rfl | rfl <;> rfl
    case d3 => unfold maxLen; omega
    case d4 => omega
    case d5 => exact hbase
    intro v' w2 hown2 hgrow _
    have R1 := Lib.hid hown2
    have R2 := Lib.hid ((Below.refl base w).grown hgrow hbase (fun q hq => ((HO.out.lt q hq).1)))
    have R3 := Lib.hid (show Apart (Value.slice q cap cap).ownBlock.toList w w2 from ⟨hgrow.os, hgrow.tape, hgrow.output, hgrow.size, fun k hk hn => hgrow.block k hk (fun e => hn (by rw [← e]; simp))⟩)
    clear hown2 hgrow
    go_wp2
    go_ret
    exact ⟨v', rfl, by rw [HE.out]; exact R1.out, R2.out, R3.out⟩
theorem own_more {w : World} {B : Nat} {e : TypeId} {g n cap z : Nat} {xs : List Value} (h : w.ownsRow B e z (.slice (some ⟨g, 0, none⟩) n cap) n xs) (hm : n + 1 ≤ cap) : ∃ ys, ys.length = z ∧ w.ownsRow B e z (.slice (some ⟨g, 0, none⟩) (n + 1) cap) (n + 1) (xs ++ ys) := by
  have hl := h.1
  rcases h.2 with ⟨h', _⟩ | ⟨g', cap', cur, h', h2, h3, h4, h5, h6, h7⟩
  · cases h'
  · cases h'
    have hz : (n + 1) * z ≤ cap * z := Nat.mul_le_mul_right z hm
    have hn : (n + 1) * z = n * z + z := by rw [Nat.succ_mul]
    have hcz : n * z + z ≤ cur.size := by rw [h6, ← hn]; exact hz
    clear hz
    have hmz : min z (cur.size - n * z) = z := Nat.min_eq_left (Nat.le_sub_of_add_le (by rw [Nat.add_comm]; exact hcz))
    have hq : ((cur.toList.drop (n * z)).take z).length = z := by
      rw [List.length_take, List.length_drop, show cur.toList.length = cur.size from Array.length_toList]
      exact hmz
    refine ⟨(cur.toList.drop (n * z)).take z, hq, ?_, .inr ⟨g, cap, cur, rfl, h2, h3, hm, h5, h6, ?_⟩⟩
    · rw [List.length_append, hq, hl, hn]
    · rw [← h7, hn, List.take_add]
theorem put_two (A c D Z : List Value) (hc : Z.length = c.length + D.length) : putAt (putAt (A ++ Z) A.length c) (A.length + c.length) D = A ++ c ++ D := by
  have e0 : (Z.drop c.length).drop D.length = [] := List.drop_of_length_le (by rw [List.length_drop]; omega)
  have h1 := putAt_mid c A Z (by omega)
  have h2 := putAt_mid D (A ++ c) (Z.drop c.length) (by rw [List.length_drop]; omega)
  rw [List.length_append, e0, List.append_nil] at h2
  rw [h1, h2]
theorem put_two' (A c D Z : List Value) (hc : Z.length = c.length + D.length) : putAt (putAt (A ++ Z) (A.length + c.length) D) A.length c = A ++ c ++ D := by
  have hz : (Z.take c.length).length = c.length := by rw [List.length_take]; omega
  have e0 : (Z.drop c.length).drop D.length = [] := List.drop_of_length_le (by rw [List.length_drop]; omega)
  have h1 := putAt_mid D (A ++ Z.take c.length) (Z.drop c.length) (by rw [List.length_drop]; omega)
  rw [List.length_append, hz, e0, List.append_nil, List.append_assoc, List.take_append_drop, List.append_assoc] at h1
  have h2 := putAt_mid c A (Z.take c.length ++ D) (by rw [List.length_append, hz]; omega)
  rw [h1, h2, List.drop_left' hz]
theorem draw_cells (b : Nat) : ∀ (vs : List Value) (o : Nat) (w : World), (w.setCells b o vs).drew = w.drew.setCells b o vs
  | [], _, _ => rfl
  | _ :: r, o, _ => (draw_cells b r (o + 1) _).trans rfl
theorem os_setCells (g : Nat) : ∀ (vs : List Value) (o : Nat) (w : World), (w.setCells g o vs).os = w.os
  | [], _, _ => rfl
  | _ :: vs, o, _ => (os_setCells g vs (o + 1) _).trans rfl
theorem tape_setCells (g : Nat) : ∀ (vs : List Value) (o : Nat) (w : World), (w.setCells g o vs).tape = w.tape
  | [], _, _ => rfl
  | _ :: vs, o, _ => (tape_setCells g vs (o + 1) _).trans rfl
theorem output_setCells (g : Nat) : ∀ (vs : List Value) (o : Nat) (w : World), (w.setCells g o vs).output = w.output
  | [], _, _ => rfl
  | _ :: vs, o, _ => (output_setCells g vs (o + 1) _).trans rfl
theorem there_own {w : World} {base : Nat} {e : TypeId} {g n cap z : Nat} {xs : List Value} (h : w.ownsRow base e z (.slice (some ⟨g, 0, none⟩) n cap) n xs) (o m : Nat) (hm : o + m ≤ n * z) {w' : World} (hc : ∀ x, w'.cell? x = w.cell? x) (hf : ∀ x, w'.frozen? x = w.frozen? x) : w'.there g o m := fun j hj => by
  have := own_there h o m hm j hj
  rw [hc, hf]; exact this
set_option maxRecDepth 100000 in
set_option maxHeartbeats 4000000 in
theorem insert_shift (V : List ValueR) (r : ValueR) (base g0 g n cap i : Nat) (w : World) (hL : V.length = n) (hn : n ≤ 1048576) (hin : i < n) (hroom : n + 1 ≤ cap) (hcap : cap ≤ 9223372036854775807) (ho : w.ownsRow base 79 3 (.slice (some ⟨g, 0, none⟩) n cap) n (all V))
    (hr : w.heap[g0]? = some (.cells r.cells.toArray 79 (0, 0))) (hne : g0 ≠ g) :
    Calls Tryz.prog 144 #[.slice (some ⟨g, 0, none⟩) n cap, .int .i64 (i : Nat), .slice (some ⟨g0, 0, none⟩) 1 1] w (InsEnd V i r base (.slice (some ⟨g, 0, none⟩) n cap) w) := by
  have HO := Lib.hid ho
  have HR := Lib.hid hr
  unfold InsEnd
  have hz1 : ((i : Int) == (n : Int)) = false := by simp; omega
  have hb1 : ¬ (cap = i) := by omega
  have hb2 : ¬ (cap = i + 1) := by omega
  have hz2 : decide ((cap : Int) < (n : Int) + 1) = false := by simp; omega
  obtain ⟨ys, hyl, hom⟩ := own_more ho hroom
  have HM := Lib.hid hom
  obtain ⟨cur, hcur, hcs⟩ : ∃ cur, w.heap[g]? = some (.cells cur 79 (0, 0)) ∧ cur.size = cap * 3 := by
    rcases ho.2 with ⟨h, _⟩ | ⟨g', cap', cur, h, _, h3, _, _, h6, _⟩
    · cases h
    · cases h; exact ⟨cur, h3, h6⟩
  have hA := all_take V i (by omega)
  have hD := all_drop V i (by omega)
  have hAl := all_len (V.take i)
  have hDl := all_len (V.drop i)
  rw [List.length_take] at hAl
  rw [List.length_drop] at hDl
  have hmin : min i V.length = i := by omega
  rw [hmin] at hAl
  have hAV : all V = all (V.take i) ++ all (V.drop i) := by unfold all; rw [← List.flatMap_append, List.take_append_drop]
  have HE := Lib.hid (show all (V.take i ++ r :: V.drop i) = all (V.take i) ++ r.cells ++ all (V.drop i) by unfold all; rw [List.flatMap_append, List.flatMap_cons, List.append_assoc])
  generalize hAg : all (V.take i) = A at *
  generalize hDg : all (V.drop i) = D at *
  have hov : (callFunc 150 #[.slice (some ⟨g0, 0, none⟩) 1 1, .slice (some ⟨g, (i + 1) * 3, none⟩) (n - i) (cap - (i + 1))]).run Tryz.prog w = .ok (.value (.bool false)) w := by
    rw [run_callFunc_extern Tryz.func150 (by kernel_rfl) (by kernel_rfl) (by kernel_rfl) (e := Extern.SlicesOverlaps.overlaps #[56, 56] #[4]) (by kernel_rfl),
      Lib.run_overlaps_apart w 56 4 79 Tryz.underlying56 3 (fun _ => by kernel_rfl) ⟨g0, 0, none⟩ ⟨g, (i + 1) * 3, none⟩ 1 1 (n - i) (cap - (i + 1)) hne 79 79 3 (cap * 3) (by simp [World.shape?, hr, ValueR.cells]) (by simp [World.shape?, hcur, hcs]) (by omega) (frozen_of_row w g0 0 _ _ hr) (frozen_of_row w g0 3 _ _ hr)]
    rfl
  have hsz3 : (Tryz.prog.info? 79).map (·.size) = some 3 := by kernel_rfl
  have hcp1 : ∀ (W : World), (∀ x, W.cell? x = w.cell? x) → (∀ x, W.frozen? x = w.frozen? x) → ∀ ty dc sc, (Builtin.copy_ #[56, 56] ty #[.slice (some ⟨g, (i + 1) * 3, none⟩) (n - i) dc, .slice (some ⟨g, i * 3, none⟩) (n + 1 - i) sc]).run Tryz.prog W = .ok (goInt ((n - i : Nat) : Int)) (W.setCells g ((i + 1) * 3) D) := fun W hc hf ty dc sc =>
    run_copy_z W _ _ ty 79 g ((i + 1) * 3) (n - i) dc ⟨g, i * 3, none⟩ (n + 1 - i) sc 3 (n - i) D Tryz.underlying56 hsz3 (by simp only [Nat.min_def]; split <;> omega) (by omega)
      (fun j u hj => by
        have hjl := (List.getElem?_eq_some_iff.1 hj).1
        rw [Addr.add_mid, hc, HO.out.cellAt (i * 3 + j) (by omega), hAV, List.getElem?_append_right (by omega), hAl, Nat.add_sub_cancel_left]
        exact hj)
      (there_own HM.out _ _ (by omega) hc hf) (fun u hu => oneV V u (by rw [hAV]; exact List.mem_append_right _ hu))
  have hcv : r.cells.length = 3 := rfl
  have hcp2 : ∀ (W : World), (∀ x, W.cell? x = (w.setCells g ((i + 1) * 3) D).cell? x) → (∀ x, W.frozen? x = (w.setCells g ((i + 1) * 3) D).frozen? x) → ∀ ty dc, (Builtin.copy_ #[56, 56] ty #[.slice (some ⟨g, i * 3, none⟩) (n + 1 - i) dc, .slice (some ⟨g0, 0, none⟩) 1 1]).run Tryz.prog W = .ok (goInt ((1 : Nat) : Int)) (W.setCells g (i * 3) r.cells) := fun W hc hf ty dc =>
    run_copy_z W _ _ ty 79 g (i * 3) (n + 1 - i) dc ⟨g0, 0, none⟩ 1 1 3 1 r.cells Tryz.underlying56 hsz3 (by simp only [Nat.min_def]; split <;> omega) rfl
      (fun j u hj => by
        rw [Addr.add_mid, hc, World.cell?_setCells_out _ _ _ _ _ (fun h _ => absurd h hne), Nat.zero_add, cell_of_row w g0 j _ _ _ hr]
        simpa using hj)
      (there_own (own_put D ((i + 1) * 3) w _ HM.out) _ _ (by omega) hc hf) (fun u hu => by simp [ValueR.cells] at hu; rcases hu with rfl | rfl | rfl <;> rfl)
  have HV := Lib.hid hAV
  have HL3 := Lib.hid (And.intro hAl (And.intro hDl hyl))
  have hwi : IntKind.i64.wrap ((i : Int) + 1) = (i : Int) + 1 := IntWalk.i64_in _ (by omega)
  have hii : (0 : Int) ≤ (i : Int) + 1 := by omega
  have hin1 : (i : Int) + 1 ≤ (n : Int) + 1 := by omega
  have hin2 : i + 1 ≤ n + 1 := by omega
  clear ho hr hom hyl hcur hcs hA hD hAl hDl hmin hAV hAg hDg
  go_enter Tryz.func144, Tryz.ntmps144
  go_wp2_with (simp only [hov])
  have hc1 := hcp1 w.drew (fun _ => rfl) (fun _ => rfl)
  go_region
  clear hc1 hcp1 hov hwi
  have hc2 := hcp2 (w.drew.setCells g ((i + 1) * 3) D) (fun x => by rw [← draw_cells]; rfl) (fun x => by rw [← draw_cells]; rfl)
  go_wp2
  go_ret
  have hput : putAt (putAt (all V ++ ys) ((i + 1) * 3) D) (i * 3) r.cells = A ++ r.cells ++ D := by
    obtain ⟨h1, h2, h3⟩ := HL3.out
    rw [HV.out, List.append_assoc, show (i + 1) * 3 = A.length + r.cells.length by rw [h1, ValueR.len]; omega, ← h1]
    exact put_two' A r.cells D (D ++ ys) (by rw [List.length_append, h3, ValueR.len]; omega)
  have hown := own_put r.cells (i * 3) _ _ (own_put D ((i + 1) * 3) w.drew _ HM.out.drew)
  rw [hput] at hown
  have hgb := (HO.out.lt g rfl).1
  exact ⟨_, rfl, by rw [HE.out, hL]; exact hown, below_setCells hgb _ _ (below_setCells hgb _ _ (Below.refl _ _).drew), ⟨by rw [os_setCells, os_setCells]; rfl, by rw [tape_setCells, tape_setCells]; rfl, by rw [output_setCells, output_setCells]; rfl, by rw [size_setCells, size_setCells]; exact Nat.le_refl _, fun k _ hn => by
    have hk : k ≠ g := fun e => hn (by simp [Value.ownBlock, e])
    rw [heap_setCells _ _ _ _ _ hk, heap_setCells _ _ _ _ _ hk]; rfl⟩⟩
set_option maxRecDepth 100000 in
set_option maxHeartbeats 4000000 in
theorem insert_grow (V : List ValueR) (r : ValueR) (base g0 g n i : Nat) (w : World) (hL : V.length = n) (hn : n ≤ 1048576) (hin : i < n) (ho : w.ownsRow base 79 3 (.slice (some ⟨g, 0, none⟩) n n) n (all V)) (hbase : base ≤ w.heap.size)
    (hr : w.heap[g0]? = some (.cells r.cells.toArray 79 (0, 0))) :
    Calls Tryz.prog 144 #[.slice (some ⟨g, 0, none⟩) n n, .int .i64 (i : Nat), .slice (some ⟨g0, 0, none⟩) 1 1] w (InsEnd V i r base (.slice (some ⟨g, 0, none⟩) n n) w) := by
  obtain ⟨i0, hi0, hz0, hzs, hzb⟩ := info_parts zero_Value
  have HO := Lib.hid ho
  unfold InsEnd
  have hz1 : ((i : Int) == (n : Int)) = false := by simp; omega
  have hb1 : ¬ (n = i) := by omega
  have hz2 : decide ((n : Int) < (n : Int) + 1) = true := by simp; omega
  have hgw := (ho.lt g rfl).2
  have hg0w : g0 < w.heap.size := (Array.getElem?_eq_some_iff.1 hr).1
  have hAl := all_len (V.take i)
  have hDl := all_len (V.drop i)
  rw [List.length_take] at hAl
  rw [List.length_drop] at hDl
  have hmin : min i V.length = i := by omega
  rw [hmin] at hAl
  have hAV : all V = all (V.take i) ++ all (V.drop i) := by unfold all; rw [← List.flatMap_append, List.take_append_drop]
  have HE := Lib.hid (show all (V.take i ++ r :: V.drop i) = all (V.take i) ++ r.cells ++ all (V.drop i) by unfold all; rw [List.flatMap_append, List.flatMap_cons, List.append_assoc])
  generalize hAg : all (V.take i) = A at *
  generalize hDg : all (V.drop i) = D at *
  have hsz3 : (Tryz.prog.info? 79).map (·.size) = some 3 := by kernel_rfl
  have hold : (Builtin.firstCells i0.size i (.slice (some ⟨g, 0, none⟩) i n)).run Tryz.prog w.drew = .ok A.toArray w.drew := by
    rw [hzs]
    exact run_firstCells_some w.drew 3 i ⟨g, 0, none⟩ i n A hAl (fun j u hj => by
      have hjl := (List.getElem?_eq_some_iff.1 hj).1
      rw [Addr.add_mid, Nat.zero_add, show w.drew.cell? ⟨g, j, none⟩ = w.cell? ⟨g, j, none⟩ from rfl, HO.out.cellAt j (by omega), hAV, List.getElem?_append_left hjl]
      exact hj)
  obtain ⟨C, hC⟩ : ∃ C, C = grownCap w (n + 1) n 79 := ⟨_, rfl⟩
  obtain ⟨ROW, hROW⟩ : ∃ ROW : Array Value, ROW = A.toArray ++ Builtin.zeroCells (Value.agg #[.string ByteArray.empty, .int .i64 0, .int .i64 0]).cells (n + 1 - i) ++ Builtin.zeroCells (Value.agg #[.string ByteArray.empty, .int .i64 0, .int .i64 0]).cells (C - (n + 1)) := ⟨_, rfl⟩
  obtain ⟨W1, hW1⟩ : ∃ W1, W1 = w.drew.alloc (.cells ROW 79) := ⟨_, rfl⟩
  have hik : i + (n + 1 - i) = n + 1 := by omega
  have hCn : n + 1 ≤ C := by rw [hC]; exact grownCap_ge w _ _ _
  have hCm : C ≤ maxLen := by rw [hC]; exact grownCap_le_maxLen w (n + 1) n _ (by unfold maxLen; omega)
  have hrz : ∀ ty, (Builtin.append_ #[56, 3] ty #[.slice (some ⟨g, 0, none⟩) i n, .int .i64 ((n : Int) + 1 - (i : Int))]).run Tryz.prog w = .ok (.slice (some ⟨w.heap.size, 0, none⟩) (n + 1) C) W1 := fun ty => by
    have h := Lib.run_append_grow_zeros w 56 3 ty 79 i0 _ .i64 .i64 Tryz.underlying56 Tryz.underlying3 hi0 hz0 (some ⟨g, 0, none⟩) i n A hold (n + 1 - i) (by omega) (by omega) (by omega) (by omega) (by rw [hzb]; omega) (by rw [hzb, hik]; exact growslice_fits (by omega) (by omega))
    rw [hik, ← hC, ← hROW, ← hW1] at h
    rw [show (n : Int) + 1 - (i : Int) = ((n + 1 - i : Nat) : Int) by omega]
    exact h
  have hRs : ROW.size = C * 3 := by
    rw [hROW]
    simp [Builtin.zeroCells, Value.cells]
    omega
  have hRA : ROW.toList.take (i * 3) = A := by
    rw [hROW]
    simp [hAl]
  have hown1 : W1.ownsRow base 79 3 (.slice (some ⟨w.heap.size, 0, none⟩) (n + 1) C) (n + 1) (ROW.toList.take ((n + 1) * 3)) := by
    refine ⟨by rw [List.length_take, Array.length_toList, hRs]; omega, .inr ⟨w.heap.size, C, ROW, rfl, hbase, ?_, hCn, hCm, hRs, rfl⟩⟩
    rw [hW1]
    exact heap_alloc_new w.drew _
  have HW1 := Lib.hid hown1
  have hbel : Below w.heap.size w W1 := by rw [hW1]; exact (Below.refl _ _).drew.alloc (Nat.le_refl _) _
  have hold1 : ∀ b j, b < w.heap.size → W1.cell? ⟨b, j, none⟩ = w.cell? ⟨b, j, none⟩ := fun b j h => hbel.cell (p := ⟨b, j, none⟩) h
  have hcv : r.cells.length = 3 := rfl
  have hcpA : ∀ ty dc, (Builtin.copy_ #[56, 56] ty #[.slice (some ⟨w.heap.size, i * 3, none⟩) (n + 1 - i) dc, .slice (some ⟨g0, 0, none⟩) 1 1]).run Tryz.prog W1 = .ok (goInt ((1 : Nat) : Int)) (W1.setCells w.heap.size (i * 3) r.cells) := fun ty dc =>
    run_copy_z W1 _ _ ty 79 w.heap.size (i * 3) (n + 1 - i) dc ⟨g0, 0, none⟩ 1 1 3 1 r.cells Tryz.underlying56 hsz3 (by simp only [Nat.min_def]; split <;> omega) rfl
      (fun j u hj => by
        rw [Addr.add_mid, Nat.zero_add, hold1 g0 j hg0w, cell_of_row w g0 j _ _ _ hr]
        simpa using hj)
      (own_there HW1.out _ _ (by omega)) (fun u hu => by simp [ValueR.cells] at hu; rcases hu with rfl | rfl | rfl <;> rfl)
  have hcpB : ∀ ty dc sc, (Builtin.copy_ #[56, 56] ty #[.slice (some ⟨w.heap.size, (i + 1) * 3, none⟩) (n - i) dc, .slice (some ⟨g, i * 3, none⟩) (n - i) sc]).run Tryz.prog (W1.setCells w.heap.size (i * 3) r.cells).drew = .ok (goInt ((n - i : Nat) : Int)) ((W1.setCells w.heap.size (i * 3) r.cells).drew.setCells w.heap.size ((i + 1) * 3) D) := fun ty dc sc =>
    run_copy_z _ _ _ ty 79 w.heap.size ((i + 1) * 3) (n - i) dc ⟨g, i * 3, none⟩ (n - i) sc 3 (n - i) D Tryz.underlying56 hsz3 (by simp only [Nat.min_def]; split <;> omega) (by omega)
      (fun j u hj => by
        have hjl := (List.getElem?_eq_some_iff.1 hj).1
        rw [Addr.add_mid, show (W1.setCells w.heap.size (i * 3) r.cells).drew.cell? ⟨g, i * 3 + j, none⟩ = (W1.setCells w.heap.size (i * 3) r.cells).cell? ⟨g, i * 3 + j, none⟩ from rfl, World.cell?_setCells_out _ _ _ _ _ (fun h _ => absurd h (by show g ≠ w.heap.size; omega)), hold1 g _ hgw, HO.out.cellAt (i * 3 + j) (by omega), hAV, List.getElem?_append_right (by omega), hAl, Nat.add_sub_cancel_left]
        exact hj)
      (there_own (own_put r.cells (i * 3) W1 _ HW1.out) _ _ (by omega) (fun _ => rfl) (fun _ => rfl)) (fun u hu => oneV V u (by rw [hAV]; exact List.mem_append_right _ hu))
  have HL3 := Lib.hid (And.intro hAl (And.intro hDl (And.intro hRA hRs)))
  have HB := Lib.hid hbel
  have hwi : IntKind.i64.wrap ((i : Int) + 1) = (i : Int) + 1 := IntWalk.i64_in _ (by omega)
  have hii : (0 : Int) ≤ (i : Int) + 1 := by omega
  have hin1 : (i : Int) + 1 ≤ (n : Int) + 1 := by omega
  have hin2 : i + 1 ≤ n + 1 := by omega
  have hCi : ¬ (C = i) := by omega
  have hCi1 : ¬ (C = i + 1) := by omega
  have hCm1 : C ≤ 9223372036854775807 := hCm
  clear ho hr hAl hDl hmin hAV hAg hDg hold hC hROW hW1 hik hRs hRA hown1 hbel hold1 hi0 hz0 hzs hzb
  go_enter Tryz.func144, Tryz.ntmps144
  go_wp2_with (at_builtin; refine Lib.wpList_append_run _ rfl (.tmp 34) (.tmp 39) 56 3 rfl _ _ rfl rfl _ _ (hrz _) ?_)
  go_region
  clear hcpA hcpB hrz hwi
  go_wp2
  go_ret
  have hput : putAt (putAt (ROW.toList.take ((n + 1) * 3)) (i * 3) r.cells) ((i + 1) * 3) D = A ++ r.cells ++ D := by
    obtain ⟨h1, h2, h3, h4⟩ := HL3.out
    have e : ROW.toList.take ((n + 1) * 3) = A ++ (ROW.toList.take ((n + 1) * 3)).drop (i * 3) := by
      have := List.take_append_drop (i * 3) (ROW.toList.take ((n + 1) * 3))
      rw [List.take_take, show min (i * 3) ((n + 1) * 3) = i * 3 by omega, h3] at this
      exact this.symm
    rw [e, show (i + 1) * 3 = A.length + r.cells.length by rw [h1, ValueR.len]; omega, ← h1]
    exact put_two A r.cells D _ (by rw [List.length_drop, List.length_take, Array.length_toList, h4, ValueR.len]; omega)
  have hown := own_put D ((i + 1) * 3) _ _ (own_put r.cells (i * 3) _ _ HW1.out).drew
  rw [hput] at hown
  have hb2 := below_setCells (Nat.le_refl w.heap.size) D ((i + 1) * 3) (below_setCells (Nat.le_refl w.heap.size) r.cells (i * 3) HB.out).drew
  exact ⟨_, rfl, by rw [HE.out, hL]; exact hown, hb2.mono hbase, Apart.of_below hb2⟩
end Go.Proofs.YthmababifgaejaaGreatDoor
