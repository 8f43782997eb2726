/- searchValue: where a name stands among values in the order of their names. -/
import Derived.Test.YtkgdmamafemniaaDoorVaR
import Derived.Test.YtkgdmamafemniaaDoorCmp
import Derived.Deep.LoopGhost
namespace Go.Proofs.YtkgdmamafemniaaDoor
open Go.ChangeShapes Go.WideShapes Go.ChangeAt Go.RowKit
open ValueR (all costs)
def Asc (V : List ValueR) : Prop := V.Pairwise fun a b => Op.bytesLess a.f0.toList b.f0.toList = true
/-- how many stand before a name -/
def pos : List ValueR → ByteArray → Nat
  | [], _ => 0
  | r :: V, nm => if Op.bytesLess r.f0.toList nm.toList = true then pos V nm + 1 else 0
theorem pos_le : ∀ (V : List ValueR) (nm : ByteArray), pos V nm ≤ V.length
  | [], _ => Nat.le_refl _
  | r :: V, nm => by unfold pos; split <;> simp [pos_le V nm]
theorem pos_before : ∀ (V : List ValueR) (nm : ByteArray) (i : Nat) (r : ValueR), i < pos V nm → V[i]? = some r → Op.bytesLess r.f0.toList nm.toList = true
  | [], _, _, _, h, _ => absurd h (Nat.not_lt_zero _)
  | r :: V, nm, i, x, h, hx => by
    unfold pos at h
    split at h
    · rename_i hr
      cases i with
      | zero => cases hx; exact hr
      | succ i => exact pos_before V nm i x (by omega) hx
    · exact absurd h (Nat.not_lt_zero _)
theorem pos_at : ∀ (V : List ValueR) (nm : ByteArray) (r : ValueR), V[pos V nm]? = some r → Op.bytesLess r.f0.toList nm.toList = false
  | [], _, _, h => by simp [pos] at h
  | x :: V, nm, r, h => by
    unfold pos at h
    split at h
    · exact pos_at V nm r (by simpa using h)
    · rename_i hx
      cases h
      simpa using hx
theorem pos_is : ∀ (V : List ValueR) (nm : ByteArray) (i : Nat), (∀ t r, t < i → V[t]? = some r → Op.bytesLess r.f0.toList nm.toList = true) → i ≤ V.length → (∀ r, V[i]? = some r → Op.bytesLess r.f0.toList nm.toList = false) → pos V nm = i
  | [], _, i, _, h, _ => by simp at h; simp [pos, h]
  | x :: V, nm, 0, _, _, h => by
    unfold pos
    rw [if_neg (by rw [h x rfl]; simp)]
  | x :: V, nm, i + 1, h1, h2, h3 => by
    unfold pos
    rw [if_pos (h1 0 x (by omega) rfl), pos_is V nm i (fun t r ht hr => h1 (t + 1) r (by omega) hr) (by simpa using h2) h3]
/-- is the name there -/
def isAt (V : List ValueR) (nm : ByteArray) : Bool := match V[pos V nm]? with
  | some r => decide (r.f0 = nm)
  | none => false
theorem asc_mono {V : List ValueR} (h : Asc V) (nm : ByteArray) (a b : Nat) (ra rb : ValueR) (hab : a ≤ b) (ha : V[a]? = some ra) (hb : V[b]? = some rb) (hl : Op.bytesLess rb.f0.toList nm.toList = true) : Op.bytesLess ra.f0.toList nm.toList = true := by
  by_cases e : a = b
  · subst e; rw [ha] at hb; cases hb; exact hl
  · have hla := (List.getElem?_eq_some_iff.1 ha)
    have hlb := (List.getElem?_eq_some_iff.1 hb)
    have := (List.pairwise_iff_getElem.1 h) a b hla.1 hlb.1 (by omega)
    rw [hla.2, hlb.2] at this
    exact less_trans _ _ _ this hl
set_option maxRecDepth 100000 in
theorem cmp_closure (r : ValueR) (nm : ByteArray) (w : World) : Calls Tryd.prog 83 #[.agg #[.string r.f0, .int .i64 r.f1, .int .i64 r.f2], .string nm] w fun e w' => e = .returned (.int .i64 (cmpS r.f0 nm)) ∧ Below w.heap.size w w' := by
  go_enter Tryd.func83, Tryd.ntmps83
  go_wp2_with (go_at_call 84; refine (cmp_string _ _ _).mono ?_; rintro e w1 ⟨rfl, rfl⟩)
  go_ret
  exact ⟨rfl, (Below.refl _ _).alloc (Nat.le_refl _) _⟩
/-- the search between two rounds -/
def Mid (V : List ValueR) (nm : ByteArray) (lo hi : Nat) : Prop := (∀ t r, t < lo → V[t]? = some r → Op.bytesLess r.f0.toList nm.toList = true) ∧ (∀ t r, hi ≤ t → V[t]? = some r → Op.bytesLess r.f0.toList nm.toList = false)
set_option maxRecDepth 100000 in
set_option maxHeartbeats 4000000 in
theorem bin_search (V : List ValueR) (v : Value) (nm : ByteArray) (w : World) (hv : Cs.Shows w 0 3 v V.length (all V)) (hn : V.length ≤ 1048576) (hasc : Asc V) :
    Calls Tryd.prog 82 #[v, .string nm, .func (.func 83) #[] #[]] w fun e w' => e = .returned (.tuple #[.int .i64 (pos V nm : Nat), .bool (isAt V nm)]) ∧ Below w.heap.size w w' := by
  have HV := Lib.hid hv
  rcases Cs.shows_cases hv with ⟨h0, q, cap, rfl⟩ | ⟨hpos, b, o, cap, rfl, _, _, hbl, hr⟩
  · have hV : V = [] := List.length_eq_zero_iff.1 h0
    subst hV
    clear hv HV hn hasc h0
    go_enter Tryd.func82, Tryd.ntmps82
    go_wp2
    refine wp_loop_rounds 1 ?_
    rw [rounds_succ]
    go_wp2
    go_ret2
    exact ⟨rfl, Below.refl _ _⟩
  · have HR := Lib.hid hr
    have HM := Lib.hid (fun a b ra rb => asc_mono hasc nm a b ra rb)
    have HI := Lib.hid (fun i => pos_is V nm i)
    clear hr hv HV hasc
    go_enter Tryd.func82, Tryd.ntmps82
    go_wp2
    go_loopg [9, 10] V.length (fun kx s9 s10 wr => ∃ lo hi : Nat, s9 = .int .i64 lo ∧ s10 = .int .i64 hi ∧ lo ≤ hi ∧ hi ≤ V.length ∧ hi - lo ≤ kx ∧ Mid V nm lo hi ∧ Below w.heap.size w wr)
    case atStart => exact ⟨0, V.length, rfl, rfl, Nat.zero_le _, Nat.le_refl _, by omega, ⟨fun t r ht => absurd ht (Nat.not_lt_zero _), fun t r ht hr => by rw [List.getElem?_eq_none ht] at hr; cases hr⟩, Below.refl _ _⟩
    case round =>
      obtain ⟨lo, hi, rfl, rfl, hlh, hin, hg, hmid, hb⟩ := hrel
      have MI := Lib.hid hmid
      clear hmid
      by_cases hlt : lo < hi
      · have hm : (lo + hi) / 2 < V.length := by omega
        have hrr := rangeAt_below hb (flat_nth ValueR.cells 3 (fun r => rfl) V ((lo + hi) / 2) hm HR.out)
        have HX := Lib.hid (List.getElem?_eq_getElem hm)
        generalize V[(lo + hi) / 2] = r at *
        have c0 : wr.cell? ⟨b, o + (lo + hi) / 2 * 3, none⟩ = some (.string r.f0) := hrr 0 _ rfl
        have c1 : wr.cell? ⟨b, o + (lo + hi) / 2 * 3 + 1, none⟩ = some (.int .i64 r.f1) := hrr 1 _ rfl
        have c2 : wr.cell? ⟨b, o + (lo + hi) / 2 * 3 + 2, none⟩ = some (.int .i64 r.f2) := hrr 2 _ rfl
        have HB := Lib.hid hb
        have KC := Lib.hid (fun W => cmp_closure r nm W)
        clear hb hrr
        have hcc : (Op.bytesLess r.f0.toList nm.toList = true ∧ cmpS r.f0 nm < 0) ∨ (Op.bytesLess r.f0.toList nm.toList = false ∧ 0 ≤ cmpS r.f0 nm) := by
          rcases cmp_cases r.f0 nm with ⟨hl, hc, _⟩ | ⟨_, hc, hl⟩ | ⟨_, hc, _, hl⟩
          · exact .inl ⟨hl, by omega⟩
          · exact .inr ⟨hl, by omega⟩
          · exact .inr ⟨hl, by omega⟩
        generalize cmpS r.f0 nm = c at *
        rcases hcc with ⟨hl, hc⟩ | ⟨hl, hc⟩
        all_goals
          have HL := Lib.hid hl
          clear hl
        · go_wp2_with (go_at_call 83; refine (KC.out _).mono ?_; rintro e w1 ⟨rfl, hb1⟩)
          go_roundg (hi - ((lo + hi) / 2 + 1))
          case measure => omega
          case rel =>
            refine ⟨(lo + hi) / 2 + 1, hi, by rw [show ((lo : Int) + (hi : Int)) / 2 + 1 = (((lo + hi) / 2 + 1 : Nat) : Int) by omega], rfl, by omega, hin, Nat.le_refl _, ⟨fun t r' ht hr' => HM.out t ((lo + hi) / 2) r' r (by omega) hr' HX.out HL.out, MI.out.2⟩, HB.out.trans (hb1.mono HB.out.size)⟩
        · go_wp2_with (go_at_call 83; refine (KC.out _).mono ?_; rintro e w1 ⟨rfl, hb1⟩)
          go_roundg ((lo + hi) / 2 - lo)
          case measure => omega
          case rel =>
            exact ⟨lo, (lo + hi) / 2, rfl, by rw [show ((lo : Int) + (hi : Int)) / 2 = (((lo + hi) / 2 : Nat) : Int) by omega], by omega, by omega, Nat.le_refl _, ⟨MI.out.1, fun t r' ht hr' => by
              cases hq : Op.bytesLess r'.f0.toList nm.toList with
              | false => rfl
              | true => have := HM.out ((lo + hi) / 2) t r r' ht HX.out hr' hq; rw [HL.out] at this; cases this⟩, HB.out.trans (hb1.mono HB.out.size)⟩
      · obtain rfl : hi = lo := by omega
        have HB := Lib.hid hb
        have hp : pos V nm = hi := HI.out hi MI.out.1 hin (fun r hr => MI.out.2 hi r (Nat.le_refl _) hr)
        have HP := Lib.hid hp
        clear hb hp
        by_cases hn1 : hi < V.length
        · have hrr := rangeAt_below HB.out (flat_nth ValueR.cells 3 (fun r => rfl) V hi hn1 HR.out)
          have HX := Lib.hid (List.getElem?_eq_getElem hn1)
          generalize V[hi] = r at *
          have c0 : wr.cell? ⟨b, o + hi * 3, none⟩ = some (.string r.f0) := hrr 0 _ rfl
          have c1 : wr.cell? ⟨b, o + hi * 3 + 1, none⟩ = some (.int .i64 r.f1) := hrr 1 _ rfl
          have c2 : wr.cell? ⟨b, o + hi * 3 + 2, none⟩ = some (.int .i64 r.f2) := hrr 2 _ rfl
          have KC := Lib.hid (fun W => cmp_closure r nm W)
          have hcc : (isAt V nm = true ∧ cmpS r.f0 nm = 0) ∨ (isAt V nm = false ∧ cmpS r.f0 nm ≠ 0) := by
            unfold isAt
            rw [HP.out, HX.out]
            rcases cmp_cases r.f0 nm with ⟨_, hc, he⟩ | ⟨he, hc, _⟩ | ⟨_, hc, he, _⟩
            · exact .inr ⟨decide_eq_false he, by omega⟩
            · exact .inl ⟨decide_eq_true he, hc⟩
            · exact .inr ⟨decide_eq_false he, by omega⟩
          clear hrr
          rcases hcc with ⟨hi1, hc⟩ | ⟨hi1, hc⟩
          · rw [hc] at KC
            have HA := Lib.hid hi1
            clear hi1 hc
            go_wp2_with (go_at_call 83; refine (KC.out _).mono ?_; rintro e w1 ⟨rfl, hb1⟩)
            go_ret2
            exact ⟨by rw [HP.out, HA.out]; rfl, HB.out.trans (hb1.mono HB.out.size)⟩
          · generalize cmpS r.f0 nm = c at *
            have HA := Lib.hid hi1
            have hc0 : ((c : Int) == 0) = false := by simpa using hc
            clear hi1 hc
            go_wp2_with (go_at_call 83; refine (KC.out _).mono ?_; rintro e w1 ⟨rfl, hb1⟩)
            go_ret2
            exact ⟨by rw [HP.out, HA.out]; rfl, HB.out.trans (hb1.mono HB.out.size)⟩
        · have ea : isAt V nm = false := by
            unfold isAt
            rw [HP.out, List.getElem?_eq_none (by omega)]
          have HA := Lib.hid ea
          have hnx : decide ((hi : Int) < (V.length : Int)) = false := by simp; omega
          clear ea
          go_wp2
          go_ret2
          exact ⟨by rw [HP.out, HA.out]; rfl, HB.out⟩
end Go.Proofs.YtkgdmamafemniaaDoor
