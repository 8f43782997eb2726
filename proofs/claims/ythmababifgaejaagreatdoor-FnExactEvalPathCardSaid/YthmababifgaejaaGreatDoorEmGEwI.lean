/- What the program's mapped returns with the closure of EvalPath, which notes whether all words are known. No condition. What the program's stateOf returns with the closure of EvalPath. No condition. What the program's inputValues returns, where the table lies. -/
import Derived.Test.YthmababifgaejaaGreatDoorEmGStO
import Derived.Test.YthmababifgaejaaGreatDoorEmEvR
import Derived.Test.YthmababifgaejaaGreatDoorEmGReg
import Derived.Test.YthmababifgaejaaGreatDoorEmSof
import Derived.Test.YthmababifgaejaaGreatDoorEmGHvM
import Derived.Test.YthmababifgaejaaGreatDoorEmGFmt
namespace Go.Proofs.YthmababifgaejaaGreatDoor
open Go.ChangeShapes Go.WideShapes Go.ChangeAt Go.RowKit
open ValueR (all costs)
/-- the words of terms, 0 where there is none -/
def wds (V : List ValueR) : Fo → List Int
  | .nil => []
  | .cons op wd n nm k r => (evOne V op wd n nm k).getD 0 :: wds V r
/-- all have one -/
def knB (V : List ValueR) : Fo → Bool
  | .nil => true
  | .cons op wd n nm k r => (evOne V op wd n nm k).isSome && knB V r
theorem wds_len (V : List ValueR) : ∀ F : Fo, (wds V F).length = F.len
  | .nil => rfl
  | .cons _ _ _ _ _ r => by simp [wds, Fo.len, wds_len V r]
theorem evs_kn (V : List ValueR) : ∀ F : Fo, (F.evs V).isSome = knB V F
  | .nil => rfl
  | .cons op wd n nm k r => by
    rw [evs_cons]
    have h := evs_kn V r
    cases hx : evOne V op wd n nm k with
    | none => simp [knB, hx]
    | some y => cases hr : r.evs V <;> simp_all [knB]
theorem evs_wds (V : List ValueR) : ∀ F : Fo, knB V F = true → (F.evs V).getD [] = wds V F
  | .nil, _ => rfl
  | .cons op wd n nm k r, h => by
    rw [evs_cons]
    cases hx : evOne V op wd n nm k with
    | none => simp [knB, hx] at h
    | some y =>
      have hr : knB V r = true := by simpa [knB, hx] using h
      have h2 := evs_wds V r hr
      have h3 := evs_kn V r
      rw [hr] at h3
      obtain ⟨xs, hxs⟩ := Option.isSome_iff_exists.1 h3
      rw [hxs] at h2
      simp only [Option.getD_some] at h2
      simp [wds, hx, hxs, h2]
theorem wds_take : ∀ (V : List ValueR) (F : Fo) (j : Nat) {op wd n : Int} {nm : ByteArray} {k : Fo}, F.At j op wd n nm k → wds V (F.take (j + 1)) = wds V (F.take j) ++ [(evOne V op wd n nm k).getD 0]
  | _, .nil, _, _, _, _, _, _, h => h.elim
  | _, .cons _ _ _ _ _ _, 0, _, _, _, _, _, ⟨rfl, rfl, rfl, rfl, rfl⟩ => by simp [Fo.take, Fo.take_zero, wds]
  | V, .cons _ _ _ _ _ r, j + 1, _, _, _, _, _, h => by
    simp only [Fo.take, wds]
    rw [wds_take V r j h]
    rfl
theorem kn_take : ∀ (V : List ValueR) (F : Fo) (j : Nat) {op wd n : Int} {nm : ByteArray} {k : Fo}, F.At j op wd n nm k → knB V (F.take (j + 1)) = (knB V (F.take j) && (evOne V op wd n nm k).isSome)
  | _, .nil, _, _, _, _, _, _, h => h.elim
  | _, .cons _ _ _ _ _ _, 0, _, _, _, _, _, ⟨rfl, rfl, rfl, rfl, rfl⟩ => by simp [Fo.take, Fo.take_zero, knB]
  | V, .cons _ _ _ _ _ r, j + 1, _, _, _, _, _, h => by
    simp only [Fo.take, knB]
    rw [kn_take V r j h, ← Bool.and_assoc]
theorem cell_oth (w : World) {a b : Addr} (v : Value) (h : b.block ≠ a.block) : (w.setCell a v).cell? b = w.cell? b := by
  rw [World.cell?_setCell_other]
  intro e
  exact h (by rw [e])
/-- the two variables that the closure captures: the values, and whether all words were known -/
def CapAt (w : World) (pv pk : Nat) (qv : Option Addr) (n cv : Nat) (kn : Bool) : Prop := w.cell? ⟨pv, 0, none⟩ = some (.slice qv n cv) ∧ w.heap[pk]? = some (.cells #[.bool kn] 4 (0, 0))
theorem CapAt.below {w w' : World} {pv pk : Nat} {qv : Option Addr} {n cv : Nat} {kn : Bool} (h : CapAt w pv pk qv n cv kn) (hb : Below w.heap.size w w') : CapAt w' pv pk qv n cv kn :=
  ⟨(hb.cell (p := ⟨pv, 0, none⟩) (World.block_lt_of_cell? _ _ h.1)).trans h.1, (hb.block pk (Array.getElem?_eq_some_iff.1 h.2).1).trans h.2⟩
set_option maxRecDepth 100000 in
set_option maxHeartbeats 4000000 in
theorem i_clo (V : List ValueR) (hV : VlOk V) (op wd n : Int) (nm : ByteArray) (k : Fo) (hT : tkB op wd n nm k = true) (hn : k.nodes ≤ 1048576) (qv : Option Addr) (cv pv pk : Nat) (kn : Bool) (s : Value) (wa w : World) (hba : Below wa.heap.size wa w) (his : (k.cs 64).Is wa 0 5 k.len s) (hvv : Cs.Shows wa 0 3 (.slice qv V.length cv) V.length (all V)) (_hpv : wa.heap.size ≤ pv) (_hpk : wa.heap.size ≤ pk) (hne : pv ≠ pk) (hcap : CapAt w pv pk qv V.length cv kn) :
    Calls Tryz.prog 31 #[.agg #[.int .i64 op, .int .i64 wd, .int .i64 n, .string nm, s], .pointer (some ⟨pv, 0, none⟩), .pointer (some ⟨pk, 0, none⟩)] w fun e w' => e = .returned (.int .i64 ((evOne V op wd n nm k).getD 0)) ∧ Apart [pk] w w' ∧ CapAt w' pv pk qv V.length cv (kn && (evOne V op wd n nm k).isSome) := by
  have hml : maxLen = 9223372036854775807 := rfl
  obtain ⟨hf1, hf2⟩ := tk_ok hT
  have KE := Lib.hid (fun W (hb : Below wa.heap.size wa W) => i_eval_any V hV k op wd n nm s (.slice qv V.length cv) W (his.below hb) (hvv.below hb) hf1 hf2 hn)
  obtain ⟨_, ⟨_, sq, sc, rfl, _⟩, _⟩ := his
  have hws := hba.size
  have hplt : pk < w.heap.size := (Array.getElem?_eq_some_iff.1 hcap.2).1
  have hvlt : pv < w.heap.size := World.block_lt_of_cell? _ _ hcap.1
  obtain ⟨w0, hw0⟩ : ∃ w0, w0 = w.alloc (.cells #[.int .i64 op, .int .i64 wd, .int .i64 n, .string nm, .slice sq k.len sc] 64) := ⟨_, rfl⟩
  have k0 : Below w.heap.size w w0 := by rw [hw0]; exact (Below.refl _ _).alloc (Nat.le_refl _) _
  have HB0 := Lib.hid (hba.trans (k0.mono hws))
  have C0 := Lib.hid (hcap.below k0)
  have X0 := Lib.hid (show Cell5 w0 w.heap.size (.int .i64 op) (.int .i64 wd) (.int .i64 n) (.string nm) (.slice sq k.len sc) by rw [hw0]; exact cell5_alloc w 64 _ _ _ _ _)
  have A0 := Lib.hid (Apart.of_below (bs := [pk]) k0)
  have hs0 : w.heap.size ≤ w0.heap.size := k0.size
  clear k0 hvv hcap hT hf1 hf2
  obtain ⟨x0, x1, x2, x3, x4⟩ := X0.out
  have c0 := C0.out.1
  rw [hw0] at x0 x1 x2 x3 x4 c0
  go_enter Tryz.func31, Tryz.ntmps31
  go_wp2_with fail
  rw [← hw0]
  clear hw0 x0 x1 x2 x3 x4 c0
  refine (KE.out _ HB0.out).mono ?_
  rintro e w1 ⟨rfl, hb⟩
  have A1 := Lib.hid (A0.out.trans (Apart.of_below hb))
  have C1 := Lib.hid (C0.out.below hb)
  have hlt1 : pk < w1.heap.size := by have := hb.size; omega
  clear hb
  obtain ⟨c0, r1⟩ := C1.out
  have c1 := cell_of_row w1 pk 0 _ _ _ r1
  have f1 := frozen_of_row w1 pk 0 _ _ r1
  have HS := Lib.hid (fun b : Bool => show CapAt (w1.setCell ⟨pk, 0, none⟩ (.bool b)) pv pk qv V.length cv b from ⟨(cell_oth w1 (a := ⟨pk, 0, none⟩) (b := ⟨pv, 0, none⟩) (.bool b) hne).trans c0, heap_setCell_same w1 pk 0 _ _ _ r1⟩)
  have HA := Lib.hid (fun b : Bool => A1.out.setCell (p := ⟨pk, 0, none⟩) (List.mem_singleton.2 rfl) (.bool b))
  cases hev : evOne V op wd n nm k with
  | none =>
    have hr0 : evV none = .tuple #[.int .i64 0, .bool false] := rfl
    rw [hr0]
    cases kn
    case false =>
      go_wp2
      go_ret
      exact ⟨by rw [hev] <;> rfl, HA.out _, by rw [hev]; exact HS.out _⟩
    case true =>
      go_wp2
      go_ret
      exact ⟨by rw [hev] <;> rfl, HA.out _, by rw [hev]; exact HS.out _⟩
  | some y =>
    have hr0 : evV (some y) = .tuple #[.int .i64 y, .bool true] := rfl
    rw [hr0]
    cases kn
    case false =>
      go_wp2
      go_ret
      exact ⟨by rw [hev] <;> rfl, HA.out _, by rw [hev]; exact HS.out _⟩
    case true =>
      go_wp2
      go_ret
      exact ⟨by rw [hev] <;> rfl, HA.out _, by rw [hev]; exact HS.out _⟩
/-- the words that are made, the first ones -/
def EwRel (V : List ValueR) (F : Fo) (w : World) (n : Nat) (pv pk : Nat) (qv : Option Addr) (cv : Nat) (kn : Bool) (j : Nat) (wr : World) : Prop := ∃ cur, wr.ownsRow w.heap.size 3 1 (.slice (some ⟨w.heap.size, 0, none⟩) n n) n cur ∧ cur.take j = IntL.all (wds V (F.take j)) ∧ Apart [pk] w wr ∧ CapAt wr pv pk qv V.length cv (kn && knB V (F.take j))
set_option maxRecDepth 100000 in
set_option maxHeartbeats 4000000 in
theorem i_mapE (V : List ValueR) (hV : VlOk V) (F : Fo) (wd : Int) (hF : tmB F wd = true) (v : Value) (qv : Option Addr) (cv pv pk : Nat) (kn : Bool) (wa w : World) (hba : Below wa.heap.size wa w) (hv : (F.cs 64).Is wa 0 5 F.len v) (hvv : Cs.Shows wa 0 3 (.slice qv V.length cv) V.length (all V)) (hc : F.cost ≤ 1048576) (hpv : wa.heap.size ≤ pv) (hpk : wa.heap.size ≤ pk) (hne : pv ≠ pk) (hcap : CapAt w pv pk qv V.length cv kn) :
    Calls Tryz.prog 49 #[v, .func (.func 31) #[] #[.pointer (some ⟨pv, 0, none⟩), .pointer (some ⟨pk, 0, none⟩)]] w fun e w' => Apart [pk] w w' ∧ CapAt w' pv pk qv V.length cv (kn && knB V F) ∧ ∃ q c, e = .returned (.slice q F.len c) ∧ w'.ownsRow w.heap.size 3 1 (.slice q F.len c) F.len (IntL.all (wds V F)) := by
  have hml : maxLen = 9223372036854775807 := rfl
  have hFn := F.nodes_le
  have hFl := F.len_le
  have hws := hba.size
  have hplt : pk < w.heap.size := (Array.getElem?_eq_some_iff.1 hcap.2).1
  obtain ⟨i9, hi9, hz9, hzs9, hzb9⟩ := info_parts zero_Int
  have HC := Lib.hid hcap
  rcases Fo.is_cases hv with ⟨h0, q, cap, rfl⟩ | ⟨hpos, b, o, cap, ys, rfl, hc1, hc2, _, hbl, hvs, hr⟩
  · have hF0 : F = .nil := by cases F with | nil => rfl | cons => simp [Fo.len] at h0
    subst hF0
    clear hv h0 hc hFn hFl hF hvv hcap
    go_enter Tryz.func49, Tryz.ntmps49
    go_wp2
    go_ret
    exact ⟨Apart.refl _ _, by simpa [knB] using HC.out, none, 0, rfl, World.ownsRow_nil _ _ _ _⟩
  · have HI := Lib.hid (fun j (hj : j < F.len) => Fo.nth F hvs hr j hj)
    have HTM := Lib.hid (fun j op wd' n nm k (h : F.At j op wd' n nm k) => (tm_at hF j h).2)
    have HND := Lib.hid (fun j op wd n nm k (h : F.At j op wd n nm k) => (Fo.at_nodes F j h).2)
    have HVV := Lib.hid hvv
    have HBA := Lib.hid hba
    have hn0 : ((F.len : Int) == 0) = false := by simp; omega
    have hn1 : ¬ ((F.len : Int) = 0) := by omega
    clear hv hvs hr hF hvv hba hcap
    go_enter Tryz.func49, Tryz.ntmps49
    go_wp2_with (refine wpList_make_full _ rfl _ _ 26 rfl w.heap.size 3 i9 (.int .i64 0) 1 Tryz.underlying26 hi9 hz9 hzs9 .i64 .i64 _ _ F.len rfl rfl rfl rfl (by rw [hzb9]; omega) (by omega) (Nat.le_refl _) ?_; intro w1 hown hgrow; have hb1 := (Below.refl w.heap.size w).grown hgrow (Nat.le_refl _) (fun k e => by cases e); have HO := Lib.hid hown; have HB1 := Lib.hid hb1; clear hown hgrow hb1)
    go_loopw [16] (fun i wr => ∃ j : Nat, j ≤ F.len ∧ i = .int .i64 j ∧ EwRel V F w F.len pv pk qv cv kn j wr) (fun i _ => F.len - (intOf i).toNat)
    case atStart => exact ⟨0, Nat.zero_le _, rfl, _, HO.out, by rw [Fo.take_zero]; simp [IntL.all, wds], Apart.of_below HB1.out, by rw [Fo.take_zero]; simpa [knB] using HC.out.below HB1.out⟩
    case round =>
      obtain ⟨j, hj, rfl, hrel⟩ := hrel
      obtain ⟨cur, ho, hcu, ha, hcp⟩ := hrel
      have hwl := (own_lt ho (g := w.heap.size) (by simp [Value.ownBlock])).2
      have hsr := ha.size
      have HA := Lib.hid ha
      have HO2 := Lib.hid ho
      have HCU := Lib.hid hcu
      have HCP := Lib.hid hcp
      have HB := Lib.hid (HBA.out.trans (ha.below hws (fun g hg => by rw [List.mem_singleton.1 hg]; exact hpk)))
      clear ho ha hcu hcp
      by_cases hjn : j < F.len
      · obtain ⟨op, wd', n, nm, k, sv, hat, his, hrr⟩ := HI.out j hjn
        have hT := HTM.out _ _ _ _ _ _ hat
        have hnd := HND.out _ _ _ _ _ _ hat
        have HW := Lib.hid (wds_take V F j hat)
        have HK := Lib.hid (kn_take V F j hat)
        have hrr := rangeAt_below HB.out hrr
        have c0 : wr.cell? ⟨b, o + j * 5, none⟩ = some (.int .i64 op) := hrr 0 _ rfl
        have c1 : wr.cell? ⟨b, o + j * 5 + 1, none⟩ = some (.int .i64 wd') := hrr 1 _ rfl
        have c2 : wr.cell? ⟨b, o + j * 5 + 2, none⟩ = some (.int .i64 n) := hrr 2 _ rfl
        have c3 : wr.cell? ⟨b, o + j * 5 + 3, none⟩ = some (.string nm) := hrr 3 _ rfl
        have c4 : wr.cell? ⟨b, o + j * 5 + 4, none⟩ = some sv := hrr 4 _ rfl
        have hji : (j : Int) < (F.len : Int) := by omega
        have hbw : b < wr.heap.size := by omega
        have KC := Lib.hid (fun W kn (hb : Below wa.heap.size wa W) hcp => i_clo V hV op wd' n nm k hT (by omega) qv cv pv pk kn sv wa W hb his HVV.out hpv hpk hne hcp)
        obtain ⟨_, ⟨_, sq, sc, rfl, _⟩, _⟩ := his
        clear hat hrr hT
        obtain ⟨w1, hw1⟩ : ∃ W, W = wr.alloc (.cells #[.int .i64 op, .int .i64 wd', .int .i64 n, .string nm, .slice sq k.len sc] 64) := ⟨_, rfl⟩
        have hb1 : Below wr.heap.size wr w1 := by rw [hw1]; exact (Below.refl _ _).alloc (Nat.le_refl _) _
        have KC2 := Lib.hid (KC.out w1 _ (HB.out.trans (hb1.mono (Nat.le_trans hws hsr))) (HCP.out.below hb1))
        have A1 := Lib.hid (HA.out.trans (Apart.of_below (bs := [pk]) hb1))
        have O1 := Lib.hid (own_keep HO2.out hb1)
        clear hb1 KC
        go_wp2_with fail
        rw [← hw1]
        clear hw1 c0 c1 c2 c3 c4
        refine KC2.out.mono ?_
        rintro e w2 ⟨rfl, hap, hcp⟩
        have CP2 := Lib.hid hcp
        have A2 := Lib.hid (A1.out.trans hap)
        have O2 := Lib.hid (own_same O1.out (fun g hg => hap.block g (own_lt O1.out hg).2 (fun hm => by have := (own_lt O1.out hg).1; have := List.mem_singleton.1 hm; omega)))
        clear hap hcp
        obtain ⟨y, hy⟩ : ∃ y, (evOne V op wd' n nm k).getD 0 = y := ⟨_, rfl⟩
        rw [hy] at HW ⊢
        clear hy
        have hcl := O2.out.1
        obtain ⟨old, hold⟩ : ∃ old, w2.cell? ⟨w.heap.size, j, none⟩ = some old := ⟨cur[j]'(by omega), by
          rw [O2.out.cellAt j (by omega)]; exact List.getElem?_eq_getElem (by omega)⟩
        have hfz := O2.out.frozenAt j
        have hpw : pk ≠ w.heap.size := by omega
        have hvlt : pv < w2.heap.size := World.block_lt_of_cell? _ _ CP2.out.1
        have hpvw : pv ≠ w.heap.size := by
          have h9 : pv < w.heap.size := World.block_lt_of_cell? _ _ HC.out.1
          omega
        have HS := Lib.hid (show EwRel V F w F.len pv pk qv cv kn (j + 1) (w2.setCell ⟨w.heap.size, j, none⟩ (.int .i64 y)) from by
          refine ⟨_, own_put [.int .i64 y] j w2 cur O2.out, ?_, Apart.above A2.out (p := ⟨w.heap.size, j, none⟩) (Nat.le_refl _) _, ?_⟩
          · rw [putAt_take cur j [.int .i64 y] (j + 1) rfl (by omega), HCU.out, HW.out, IntL.all_app]
            rfl
          · rw [HK.out, ← Bool.and_assoc]
            exact ⟨(cell_oth w2 (a := ⟨w.heap.size, j, none⟩) (b := ⟨pv, 0, none⟩) _ hpvw).trans CP2.out.1, (heap_setCell_other w2 ⟨w.heap.size, j, none⟩ pk _ hpw).trans CP2.out.2⟩)
        clear hcl
        go_wp2
        go_roundw
        case rel => exact ⟨j + 1, by omega, by go_num, HS.out⟩
        case measure => simp [intOf]; omega
      · have ej : j = F.len := by omega
        have hnj : ¬ ((j : Int) < (F.len : Int)) := by omega
        subst ej
        go_wp2
        go_ret
        have hcu := HCU.out
        have ho := HO2.out
        have hcp := HCP.out
        rw [Fo.take_all] at hcu hcp
        rw [List.take_of_length_le (by rw [ho.1]; omega)] at hcu
        rw [hcu] at ho
        exact ⟨HA.out, hcp, _, _, rfl, ho⟩
end Go.Proofs.YthmababifgaejaaGreatDoor
namespace Go.Proofs.YthmababifgaejaaGreatDoor
open Go.ChangeShapes Go.WideShapes Go.ChangeAt Go.RowKit
open ValueR (all costs)
theorem nodup_so {a b c d : Value} {n1 n2 n3 : Nat} (h12 : n1 ≤ n2) (h23 : n2 ≤ n3) (ha : ∀ g ∈ a.ownBlock.toList, g < n1) (hb : ∀ g ∈ b.ownBlock.toList, n1 ≤ g ∧ g < n2) (hc : ∀ g ∈ c.ownBlock.toList, n2 ≤ g ∧ g < n3) (hd : ∀ g ∈ d.ownBlock.toList, n3 ≤ g) : (StB a b c d).Nodup := by
  unfold StB
  rw [List.nodup_append, List.nodup_append, List.nodup_append]
  refine ⟨⟨⟨one_nodup a, one_nodup b, fun x hx y hy => ?_⟩, one_nodup c, fun x hx y hy => ?_⟩, one_nodup d, fun x hx y hy => ?_⟩
  · have := ha x hx; have := hb y hy; omega
  · have := hc y hy
    rcases List.mem_append.1 hx with h | h
    · have := ha x h; omega
    · have := hb x h; omega
  · have := hd y hy
    rcases List.mem_append.1 hx with h | h
    · rcases List.mem_append.1 h with h | h
      · have := ha x h; omega
      · have := hb x h; omega
    · have := hc x h; omega
/-- the state that is made, owned, and whether all its words were known -/
def SofE (V : List ValueR) (x : PaR) (pv pk : Nat) (qv : Option Addr) (cv : Nat) (w : World) (e : Ending) (w' : World) : Prop := Apart [pk] w w' ∧ CapAt w' pv pk qv V.length cv (knB V x.R && (knB V x.M && knB V x.O)) ∧ ∃ qr cr qm cm qs cs qo co, e = .returned (.agg #[.int .i64 x.pc, .slice qr x.R.len cr, .slice qm x.M.len cm, .slice qs x.S.length cs, .int .i64 x.inn, .slice qo x.O.len co, .int .i64 x.cd, .int .i64 x.st]) ∧ StO w' w.heap.size ⟨x.pc, wds V x.R, wds V x.M, x.S, x.inn, wds V x.O, x.cd, x.st⟩ (.slice qr x.R.len cr) (.slice qm x.M.len cm) (.slice qs x.S.length cs) (.slice qo x.O.len co)
set_option maxRecDepth 100000 in
set_option maxHeartbeats 8000000 in
theorem i_sofE (V : List ValueR) (hV : VlOk V) (x : PaR) (vw : Int) (hR : tmB x.R vw = true) (hM : tmB x.M vw = true) (hO : tmB x.O vw = true) (r m sk o c u : Value) (qv : Option Addr) (cv pv pk : Nat) (wa w : World) (hba : Below wa.heap.size wa w) (hx : PaI wa 0 x r m sk o c u) (hc : x.cost ≤ 1048576) (hvv : Cs.Shows wa 0 3 (.slice qv V.length cv) V.length (all V)) (hpv : wa.heap.size ≤ pv) (hpk : wa.heap.size ≤ pk) (hne : pv ≠ pk) (hcap : CapAt w pv pk qv V.length cv true) :
    Calls Tryz.prog 30 #[.agg #[.int .i64 x.pc, r, m, sk, .int .i64 x.inn, o, .int .i64 x.cd, .int .i64 x.st, c, u], .func (.func 31) #[] #[.pointer (some ⟨pv, 0, none⟩), .pointer (some ⟨pk, 0, none⟩)]] w (SofE V x pv pk qv cv w) := by
  have hml : maxLen = 9223372036854775807 := rfl
  obtain ⟨hr, hm, hsk, ho, hc2, hu⟩ := hx
  have hcx : x.cost = x.R.cost + x.M.cost + x.S.length + x.O.cost + x.C.cost + x.U.length := rfl
  have KR := Lib.hid (fun W kn (hb : Below wa.heap.size wa W) hcp => i_mapE V hV x.R vw hR r qv cv pv pk kn wa W hb hr hvv (by omega) hpv hpk hne hcp)
  have KM := Lib.hid (fun W kn (hb : Below wa.heap.size wa W) hcp => i_mapE V hV x.M vw hM m qv cv pv pk kn wa W hb hm hvv (by omega) hpv hpk hne hcp)
  have KO := Lib.hid (fun W kn (hb : Below wa.heap.size wa W) hcp => i_mapE V hV x.O vw hO o qv cv pv pk kn wa W hb ho hvv (by omega) hpv hpk hne hcp)
  have KS := Lib.hid (fun W (hb : Below wa.heap.size wa W) => own_clone2 x.S sk W (hsk.below hb) (by omega))
  have HBA := Lib.hid hba
  have hws := hba.size
  have hpw : pk < w.heap.size := (Array.getElem?_eq_some_iff.1 hcap.2).1
  have HC := Lib.hid hcap
  have LR := Lib.hid (wds_len V x.R)
  have LM := Lib.hid (wds_len V x.M)
  have LO := Lib.hid (wds_len V x.O)
  obtain ⟨_, ⟨_, qr, cr, rfl, _⟩, _⟩ := hr
  obtain ⟨_, ⟨_, qm, cm, rfl, _⟩, _⟩ := hm
  obtain ⟨_, qsk, csk, rfl, _⟩ := hsk
  obtain ⟨_, ⟨_, qo, co, rfl, _⟩, _⟩ := ho
  obtain ⟨_, ⟨_, qc, cc, rfl, _⟩, _⟩ := hc2
  obtain ⟨_, qu, cu, rfl, _⟩ := hu
  have HIN := Lib.hid (fun W (ha : Apart [pk] w W) => show Below wa.heap.size wa W from hba.trans (ha.below hws (fun g hg => by rw [List.mem_singleton.1 hg]; exact hpk)))
  clear hba hcap hvv
  obtain ⟨v1, hv1⟩ : ∃ W, W = w.alloc (.cells #[.int .i64 x.pc, .slice qr x.R.len cr, .slice qm x.M.len cm, .slice qsk x.S.length csk, .int .i64 x.inn, .slice qo x.O.len co, .int .i64 x.cd, .int .i64 x.st, .slice qc x.C.len cc, .slice qu x.U.length cu] 41) := ⟨_, rfl⟩
  obtain ⟨w0, hw0⟩ : ∃ W, W = v1.alloc (.cells #[.int .i64 0, .slice none 0 0, .slice none 0 0, .slice none 0 0, .int .i64 0, .slice none 0 0, .int .i64 0, .int .i64 0] 32) := ⟨_, rfl⟩
  have hv1s : v1.heap.size = w.heap.size + 1 := by rw [hv1]; simp
  have k1 : Below v1.heap.size v1 w0 := by rw [hw0]; exact (Below.refl _ _).alloc (Nat.le_refl _) _
  have hbw : Below w.heap.size w w0 := by rw [hw0, hv1]; exact ((Below.refl _ _).alloc (Nat.le_refl _) _).alloc (by simp) _
  have X0 := Lib.hid (show w0.heap[w.heap.size]? = some (.cells #[.int .i64 x.pc, .slice qr x.R.len cr, .slice qm x.M.len cm, .slice qsk x.S.length csk, .int .i64 x.inn, .slice qo x.O.len co, .int .i64 x.cd, .int .i64 x.st, .slice qc x.C.len cc, .slice qu x.U.length cu] 41 (0, 0)) from (k1.block w.heap.size (by omega)).trans (by rw [hv1]; exact heap_alloc_new _ _))
  have Z0 := Lib.hid (show w0.heap[w.heap.size + 1]? = some (.cells #[.int .i64 0, .slice none 0 0, .slice none 0 0, .slice none 0 0, .int .i64 0, .slice none 0 0, .int .i64 0, .int .i64 0] 32 (0, 0)) by rw [hw0, ← hv1s]; exact heap_alloc_new _ _)
  have hs0 := Lib.hid (show w0.heap.size = w.heap.size + 2 by rw [hw0]; simp; omega)
  have A0 := Lib.hid (Apart.of_below (bs := [pk]) hbw)
  have C0 := Lib.hid (HC.out.below hbw)
  clear k1 hv1s hbw
  rw [hv1] at hw0
  clear hv1
  go_enter Tryz.func30, Tryz.ntmps30
  go_wp2_with fail
  rw [← hw0]
  clear hw0
  obtain ⟨wd, hwd⟩ : ∃ W, W = w0.drew := ⟨_, rfl⟩
  have CH := Lib.hid (show wd.heap[w.heap.size]? = some (.cells #[.int .i64 x.pc, .slice qr x.R.len cr, .slice qm x.M.len cm, .slice qsk x.S.length csk, .int .i64 x.inn, .slice qo x.O.len co, .int .i64 x.cd, .int .i64 x.st, .slice qc x.C.len cc, .slice qu x.U.length cu] 41 (0, 0)) by rw [hwd]; exact X0.out)
  have ZD := Lib.hid (show wd.heap[w.heap.size + 1]? = some (.cells #[.int .i64 0, .slice none 0 0, .slice none 0 0, .slice none 0 0, .int .i64 0, .slice none 0 0, .int .i64 0, .int .i64 0] 32 (0, 0)) by rw [hwd]; exact Z0.out)
  have AD := Lib.hid (show Apart [pk] w wd by rw [hwd]; exact A0.out.trans (Apart.of_below (Below.refl _ _).drew))
  have CD := Lib.hid (show CapAt wd pv pk qv V.length cv true by rw [hwd]; exact C0.out.below (Below.refl _ _).drew)
  have hsd := Lib.hid (show wd.heap.size = w.heap.size + 2 by rw [hwd]; exact hs0.out)
  refine region_s [24] (fun V => V.heap[w.heap.size]? = some (.cells #[.int .i64 x.pc, .slice qr x.R.len cr, .slice qm x.M.len cm, .slice qsk x.S.length csk, .int .i64 x.inn, .slice qo x.O.len co, .int .i64 x.cd, .int .i64 x.st, .slice qc x.C.len cc, .slice qu x.U.length cu] 41 (0, 0))) (by kernel_rfl) ?_
  rw [← hwd]
  clear hwd
  refine take_s (i := 0) (v := .pointer (some ⟨w.heap.size, 0, none⟩)) rfl (by kernel_rfl) (fun _ _ _ h => h) CH.out rfl (fun V hV => ?_) ?_
  · go_simp
  refine take_s (i := 1) (v := .int .i64 x.pc) rfl (by kernel_rfl) (fun _ _ _ h => h) CH.out rfl (fun V hV => ?_) ?_
  · obtain ⟨y0, y1, y2, y3, y4, y5, y6, y7, y8, y9⟩ := cell10_row hV
    go_simp
  refine take_s (i := 2) (v := .pointer (some ⟨w.heap.size, 1, none⟩)) rfl (by kernel_rfl) (fun _ _ _ h => h) CH.out rfl (fun V hV => ?_) ?_
  · go_simp
  refine take_s (i := 3) (v := .slice qr x.R.len cr) rfl (by kernel_rfl) (fun _ _ _ h => h) CH.out rfl (fun V hV => ?_) ?_
  · obtain ⟨y0, y1, y2, y3, y4, y5, y6, y7, y8, y9⟩ := cell10_row hV
    go_simp
  refine take_s (i := 4) (v := .func (.func 31) #[] #[.pointer (some ⟨pv, 0, none⟩), .pointer (some ⟨pk, 0, none⟩)]) rfl (by kernel_rfl) (fun _ _ _ h => h) CH.out rfl (fun V hV => ?_) ?_
  · go_simp
  refine take_s (i := 6) (v := .pointer (some ⟨w.heap.size, 2, none⟩)) rfl (by kernel_rfl) (fun _ _ _ h => h) CH.out rfl (fun V hV => ?_) ?_
  · go_simp
  refine take_s (i := 7) (v := .slice qm x.M.len cm) rfl (by kernel_rfl) (fun _ _ _ h => h) CH.out rfl (fun V hV => ?_) ?_
  · obtain ⟨y0, y1, y2, y3, y4, y5, y6, y7, y8, y9⟩ := cell10_row hV
    go_simp
  refine take_s (i := 8) (v := .func (.func 31) #[] #[.pointer (some ⟨pv, 0, none⟩), .pointer (some ⟨pk, 0, none⟩)]) rfl (by kernel_rfl) (fun _ _ _ h => h) CH.out rfl (fun V hV => ?_) ?_
  · go_simp
  refine take_s (i := 10) (v := .pointer (some ⟨w.heap.size, 3, none⟩)) rfl (by kernel_rfl) (fun _ _ _ h => h) CH.out rfl (fun V hV => ?_) ?_
  · go_simp
  refine take_s (i := 11) (v := .slice qsk x.S.length csk) rfl (by kernel_rfl) (fun _ _ _ h => h) CH.out rfl (fun V hV => ?_) ?_
  · obtain ⟨y0, y1, y2, y3, y4, y5, y6, y7, y8, y9⟩ := cell10_row hV
    go_simp
  refine take_s (i := 13) (v := .pointer (some ⟨w.heap.size, 4, none⟩)) rfl (by kernel_rfl) (fun _ _ _ h => h) CH.out rfl (fun V hV => ?_) ?_
  · go_simp
  refine take_s (i := 14) (v := .int .i64 x.inn) rfl (by kernel_rfl) (fun _ _ _ h => h) CH.out rfl (fun V hV => ?_) ?_
  · obtain ⟨y0, y1, y2, y3, y4, y5, y6, y7, y8, y9⟩ := cell10_row hV
    go_simp
  refine take_s (i := 15) (v := .pointer (some ⟨w.heap.size, 5, none⟩)) rfl (by kernel_rfl) (fun _ _ _ h => h) CH.out rfl (fun V hV => ?_) ?_
  · go_simp
  refine take_s (i := 16) (v := .slice qo x.O.len co) rfl (by kernel_rfl) (fun _ _ _ h => h) CH.out rfl (fun V hV => ?_) ?_
  · obtain ⟨y0, y1, y2, y3, y4, y5, y6, y7, y8, y9⟩ := cell10_row hV
    go_simp
  refine take_s (i := 17) (v := .func (.func 31) #[] #[.pointer (some ⟨pv, 0, none⟩), .pointer (some ⟨pk, 0, none⟩)]) rfl (by kernel_rfl) (fun _ _ _ h => h) CH.out rfl (fun V hV => ?_) ?_
  · go_simp
  refine take_s (i := 19) (v := .pointer (some ⟨w.heap.size, 6, none⟩)) rfl (by kernel_rfl) (fun _ _ _ h => h) CH.out rfl (fun V hV => ?_) ?_
  · go_simp
  refine take_s (i := 20) (v := .int .i64 x.cd) rfl (by kernel_rfl) (fun _ _ _ h => h) CH.out rfl (fun V hV => ?_) ?_
  · obtain ⟨y0, y1, y2, y3, y4, y5, y6, y7, y8, y9⟩ := cell10_row hV
    go_simp
  refine take_s (i := 21) (v := .pointer (some ⟨w.heap.size, 7, none⟩)) rfl (by kernel_rfl) (fun _ _ _ h => h) CH.out rfl (fun V hV => ?_) ?_
  · go_simp
  refine take_s (i := 22) (v := .int .i64 x.st) rfl (by kernel_rfl) (fun _ _ _ h => h) CH.out rfl (fun V hV => ?_) ?_
  · obtain ⟨y0, y1, y2, y3, y4, y5, y6, y7, y8, y9⟩ := cell10_row hV
    go_simp
  refine one_s (i := 5) (by kernel_rfl) (op_list rfl ?_)
  go_wp2_with fail
  refine (KR.out _ _ (HIN.out _ AD.out) CD.out).mono ?_
  rintro e w5 ⟨hap, hcp, qr0, cr0, rfl, ho⟩
  have C5 := Lib.hid hcp
  have A5 := Lib.hid (AD.out.trans hap)
  have hzz : w.heap.size + 2 ≤ wd.heap.size := by have := hsd.out; omega
  have H5 := Lib.hid ((hap.block w.heap.size (by omega) (fun hm => by have := List.mem_singleton.1 hm; omega)).trans CH.out)
  have Z5 := Lib.hid ((hap.block (w.heap.size + 1) (by omega) (fun hm => by have := List.mem_singleton.1 hm; omega)).trans ZD.out)
  have Or := Lib.hid ho
  have hhw5 : w.heap.size + 2 ≤ w5.heap.size := Nat.le_trans hzz hap.size
  have hh5 : wd.heap.size ≤ w5.heap.size := hap.size
  clear hap ho hzz hcp
  go_wp2
  refine ⟨fun _ => H5.out, ?_⟩
  refine one_s (i := 9) (by kernel_rfl) (op_list rfl ?_)
  go_wp2_with fail
  refine (KM.out _ _ (HIN.out _ A5.out) C5.out).mono ?_
  rintro e w9 ⟨hap, hcp, qm0, cm0, rfl, ho⟩
  have C9 := Lib.hid hcp
  have A9 := Lib.hid (A5.out.trans hap)
  have hzz : w.heap.size + 2 ≤ w5.heap.size := by have := hhw5; omega
  have H9 := Lib.hid ((hap.block w.heap.size (by omega) (fun hm => by have := List.mem_singleton.1 hm; omega)).trans H5.out)
  have Z9 := Lib.hid ((hap.block (w.heap.size + 1) (by omega) (fun hm => by have := List.mem_singleton.1 hm; omega)).trans Z5.out)
  have Om := Lib.hid ho
  have hhw9 : w.heap.size + 2 ≤ w9.heap.size := Nat.le_trans hzz hap.size
  have hh9 : w5.heap.size ≤ w9.heap.size := hap.size
  have Or9 := Lib.hid (own_same Or.out (fun g hg => hap.block g (own_lt Or.out hg).2 (fun hm => by have := (own_lt Or.out hg).1; have := List.mem_singleton.1 hm; have := hsd.out; omega)))
  clear hap ho hzz hcp
  go_wp2
  refine ⟨fun _ => H9.out, ?_⟩
  refine one_s (i := 12) (by kernel_rfl) (op_list rfl ?_)
  go_wp2_with fail
  refine (KS.out _ (HIN.out _ A9.out)).mono ?_
  rintro e w12 ⟨hb, qs0, cs0, rfl, ho⟩
  have hap : Apart [pk] w9 w12 := Apart.of_below hb
  have C12 := Lib.hid (C9.out.below hb)
  have A12 := Lib.hid (A9.out.trans hap)
  have hzz : w.heap.size + 2 ≤ w9.heap.size := by have := hhw9; omega
  have H12 := Lib.hid ((hap.block w.heap.size (by omega) (fun hm => by have := List.mem_singleton.1 hm; omega)).trans H9.out)
  have Z12 := Lib.hid ((hap.block (w.heap.size + 1) (by omega) (fun hm => by have := List.mem_singleton.1 hm; omega)).trans Z9.out)
  have Os := Lib.hid ho
  have hhw12 : w.heap.size + 2 ≤ w12.heap.size := Nat.le_trans hzz hap.size
  have hh12 : w9.heap.size ≤ w12.heap.size := hap.size
  have Or12 := Lib.hid (own_same Or9.out (fun g hg => hap.block g (own_lt Or9.out hg).2 (fun hm => by have := (own_lt Or9.out hg).1; have := List.mem_singleton.1 hm; have := hsd.out; omega)))
  have Om12 := Lib.hid (own_same Om.out (fun g hg => hap.block g (own_lt Om.out hg).2 (fun hm => by have := (own_lt Om.out hg).1; have := List.mem_singleton.1 hm; have := hsd.out; omega)))
  clear hap ho hzz hb
  go_wp2
  refine ⟨fun _ => H12.out, ?_⟩
  refine one_s (i := 18) (by kernel_rfl) (op_list rfl ?_)
  go_wp2_with fail
  refine (KO.out _ _ (HIN.out _ A12.out) C12.out).mono ?_
  rintro e w18 ⟨hap, hcp, qo0, co0, rfl, ho⟩
  have C18 := Lib.hid hcp
  have A18 := Lib.hid (A12.out.trans hap)
  have hzz : w.heap.size + 2 ≤ w12.heap.size := by have := hhw12; omega
  have H18 := Lib.hid ((hap.block w.heap.size (by omega) (fun hm => by have := List.mem_singleton.1 hm; omega)).trans H12.out)
  have Z18 := Lib.hid ((hap.block (w.heap.size + 1) (by omega) (fun hm => by have := List.mem_singleton.1 hm; omega)).trans Z12.out)
  have Oo := Lib.hid ho
  have hhw18 : w.heap.size + 2 ≤ w18.heap.size := Nat.le_trans hzz hap.size
  have hh18 : w12.heap.size ≤ w18.heap.size := hap.size
  have Or18 := Lib.hid (own_same Or12.out (fun g hg => hap.block g (own_lt Or12.out hg).2 (fun hm => by have := (own_lt Or12.out hg).1; have := List.mem_singleton.1 hm; have := hsd.out; omega)))
  have Om18 := Lib.hid (own_same Om12.out (fun g hg => hap.block g (own_lt Om12.out hg).2 (fun hm => by have := (own_lt Om12.out hg).1; have := List.mem_singleton.1 hm; have := hsd.out; omega)))
  have Os18 := Lib.hid (own_same Os.out (fun g hg => hap.block g (own_lt Os.out hg).2 (fun hm => by have := (own_lt Os.out hg).1; have := List.mem_singleton.1 hm; have := hsd.out; omega)))
  clear hap ho hzz hcp
  go_wp2
  refine ⟨fun _ => H18.out, ?_⟩
  refine one_s (i := 23) (by kernel_rfl) (op_list rfl ?_)
  go_wp2
  refine ⟨fun _ => H18.out, ?_⟩
  obtain ⟨z0, z1, z2, z3, z4, z5, z6, z7⟩ := cell8_row Z18.out
  obtain ⟨f0, f1, f2, f3, f4, f5, f6, f7⟩ := froz8_row Z18.out
  refine one_s (i := 24) (by kernel_rfl) (op_list rfl ?_)
  go_wp2
  refine ⟨late_s (by kernel_rfl), done_s (by kernel_rfl) ?_ _⟩
  obtain ⟨we, hwe⟩ : ∃ W9, W9 = ((((((((w18.setCell ⟨w.heap.size + 1, 0, none⟩ (.int .i64 x.pc)).setCell ⟨w.heap.size + 1, 1, none⟩ (.slice qr0 x.R.len cr0)).setCell ⟨w.heap.size + 1, 2, none⟩ (.slice qm0 x.M.len cm0)).setCell ⟨w.heap.size + 1, 3, none⟩ (.slice qs0 x.S.length cs0)).setCell ⟨w.heap.size + 1, 4, none⟩ (.int .i64 x.inn)).setCell ⟨w.heap.size + 1, 5, none⟩ (.slice qo0 x.O.len co0)).setCell ⟨w.heap.size + 1, 6, none⟩ (.int .i64 x.cd)).setCell ⟨w.heap.size + 1, 7, none⟩ (.int .i64 x.st)) := ⟨_, rfl⟩
  have D2 := Lib.hid (show we.heap[w.heap.size + 1]? = some (.cells #[.int .i64 x.pc, .slice qr0 x.R.len cr0, .slice qm0 x.M.len cm0, .slice qs0 x.S.length cs0, .int .i64 x.inn, .slice qo0 x.O.len co0, .int .i64 x.cd, .int .i64 x.st] 32 (0, 0)) by rw [hwe]; exact set8_row Z18.out (.int .i64 x.pc) (.slice qr0 x.R.len cr0) (.slice qm0 x.M.len cm0) (.slice qs0 x.S.length cs0) (.int .i64 x.inn) (.slice qo0 x.O.len co0) (.int .i64 x.cd) (.int .i64 x.st))
  have AE := Lib.hid (show Apart [pk] w we by rw [hwe]; exact set8_apart A18.out (by omega) (.int .i64 x.pc) (.slice qr0 x.R.len cr0) (.slice qm0 x.M.len cm0) (.slice qs0 x.S.length cs0) (.int .i64 x.inn) (.slice qo0 x.O.len co0) (.int .i64 x.cd) (.int .i64 x.st))
  have OT : ∀ k, k ≠ w.heap.size + 1 → we.heap[k]? = w18.heap[k]? := fun k hk => by rw [hwe, heap_setCell_other _ _ _ _ hk, heap_setCell_other _ _ _ _ hk, heap_setCell_other _ _ _ _ hk, heap_setCell_other _ _ _ _ hk, heap_setCell_other _ _ _ _ hk, heap_setCell_other _ _ _ _ hk, heap_setCell_other _ _ _ _ hk, heap_setCell_other _ _ _ _ hk]
  have hsdd := hsd.out
  have Pr := Lib.hid (own_same Or18.out (fun g hg => OT g (by have := (own_lt Or18.out hg).1; omega)))
  have Pm := Lib.hid (own_same Om18.out (fun g hg => OT g (by have := (own_lt Om18.out hg).1; omega)))
  have Ps := Lib.hid (own_same Os18.out (fun g hg => OT g (by have := (own_lt Os18.out hg).1; omega)))
  have Po := Lib.hid (own_same Oo.out (fun g hg => OT g (by have := (own_lt Oo.out hg).1; omega)))
  have hpvw : pv < w.heap.size := World.block_lt_of_cell? _ _ HC.out.1
  have CE := Lib.hid (show CapAt we pv pk qv V.length cv (knB V x.R && (knB V x.M && knB V x.O)) by
    obtain ⟨h1, h2⟩ := C18.out
    rw [Bool.true_and, Bool.and_assoc] at h2
    refine ⟨?_, (OT pk (by omega)).trans h2⟩
    have e1 : we.cell? ⟨pv, 0, none⟩ = w18.cell? ⟨pv, 0, none⟩ := by
      unfold World.cell?
      simp only [OT pv (by omega)]
    exact e1.trans h1)
  have OO := Lib.hid (show StO we w.heap.size ⟨x.pc, wds V x.R, wds V x.M, x.S, x.inn, wds V x.O, x.cd, x.st⟩ (.slice qr0 x.R.len cr0) (.slice qm0 x.M.len cm0) (.slice qs0 x.S.length cs0) (.slice qo0 x.O.len co0) by
    refine ⟨?_, ?_, own_base Ps.out (by omega), ?_, nodup_so (n1 := w5.heap.size) (n2 := w9.heap.size) (n3 := w12.heap.size) hh9 hh12 (fun g hg => (own_lt Or.out hg).2) (fun g hg => ⟨(own_lt Om.out hg).1, (own_lt Om.out hg).2⟩) (fun g hg => ⟨(own_lt Os.out hg).1, (own_lt Os.out hg).2⟩) (fun g hg => (own_lt Oo.out hg).1)⟩
    · show we.ownsRow _ _ _ _ (wds V x.R).length _
      rw [LR.out]
      exact own_base Pr.out (by omega)
    · show we.ownsRow _ _ _ _ (wds V x.M).length _
      rw [LM.out]
      exact own_base Pm.out (by omega)
    · show we.ownsRow _ _ _ _ (wds V x.O).length _
      rw [LO.out]
      exact own_base Po.out (by omega))
  rw [← hwe]
  clear hwe z0 z1 z2 z3 z4 z5 z6 z7 f0 f1 f2 f3 f4 f5 f6 f7 OT hsdd
  obtain ⟨d0, d1, d2, d3, d4, d5, d6, d7⟩ := cell8_row D2.out
  go_wp2
  refine bodyPost_ret (v := .agg #[.int .i64 x.pc, .slice qr0 x.R.len cr0, .slice qm0 x.M.len cm0, .slice qs0 x.S.length cs0, .int .i64 x.inn, .slice qo0 x.O.len co0, .int .i64 x.cd, .int .i64 x.st]) (by simp [results, Tryz.results30, go_sem, d0, d1, d2, d3, d4, d5, d6, d7]) rfl ?_
  exact ⟨AE.out, CE.out, _, _, _, _, _, _, _, _, rfl, OO.out⟩
end Go.Proofs.YthmababifgaejaaGreatDoor
namespace Go.Proofs.YthmababifgaejaaGreatDoor
open Go.ChangeShapes Go.WideShapes Go.ChangeAt Go.RowKit
open ValueR (all costs)
set_option maxRecDepth 100000 in
theorem i_inName (j : Nat) (h : j < 3) (w : World) (htab : Lib.TabIs Tryz.prog w "internal/strconv.uint64pow10" .u64 Lib.pow10Tab) :
    Calls Tryz.prog 48 #[.int .i64 j] w fun e w' => e = .returned (.string (inNm j)) ∧ Below w.heap.size w w' := by
  have hz := itB_sz (j : Int) (by omega) (by omega)
  have KF : Hid (Calls Tryz.prog 68 #[.int .i64 j] w fun e w' => e = .returned (.string (itB j)) ∧ Below w.heap.size w w') := Lib.hid (i_fmt j (by omega) (by omega) w htab)
  have HE := Lib.hid (in_text h)
  clear htab
  generalize itB (j : Int) = t at *
  have hz2 : (⟨#[105]⟩ : ByteArray).size = 1 := rfl
  go_enter Tryz.func48, Tryz.ntmps48
  go_wp2_with (go_at_call 68; refine KF.out.mono ?_; rintro e w1 ⟨rfl, hb⟩)
  go_ret
  exact ⟨by rw [← HE.out] <;> rfl, hb⟩
set_option maxRecDepth 100000 in
set_option maxHeartbeats 4000000 in
theorem i_values (vw vm vi : Int) (nL : Nat) (q : Option Addr) (cap : Nat) (l : List Int) (li : Value) (w : World) (hls : Cs.Shows w 0 1 li l.length (IntL.all l)) (h3 : l.length ≤ 3) (htab : Lib.TabIs Tryz.prog w "internal/strconv.uint64pow10" .u64 Lib.pow10Tab) :
    Calls Tryz.prog 29 #[.agg #[.int .i64 vw, .int .i64 vm, .int .i64 vi, .slice q nL cap], li] w (ValEnd (inV vw l) w) := by
  have hml : maxLen = 9223372036854775807 := rfl
  obtain ⟨i0, hi, hz0, hz1, hz2⟩ := info_parts zero_Value
  have KN := Lib.hid (fun j (h : j < 3) W (hb : Below w.heap.size w W) => i_inName j h W (var_below hb htab))
  clear htab
  have HSH := Lib.hid hls
  obtain ⟨_, lq, lcap, rfl, _⟩ := hls
  have HR := Lib.hid (in_row HSH.out)
  have HL := Lib.hid (inV_len vw l)
  have HG := Lib.hid (fun j (h : j < l.length) => inV_get vw l j h)
  unfold ValEnd
  have HB0 := Lib.hid ((Below.refl w.heap.size w).alloc (Nat.le_refl _) (.cells #[.int .i64 vw, .int .i64 vm, .int .i64 vi, .slice q nL cap] 37))
  have X0 := Lib.hid (cell4_alloc w 37 (.int .i64 vw) (.int .i64 vm) (.int .i64 vi) (.slice q nL cap))
  obtain ⟨w0, hw0⟩ : ∃ w0, w0 = w.alloc (.cells #[.int .i64 vw, .int .i64 vm, .int .i64 vi, .slice q nL cap] 37) := ⟨_, rfl⟩
  have HS0 := Lib.hid (show w0.heap.size = w.heap.size + 1 by rw [hw0]; simp)
  rw [← hw0] at HB0 X0
  obtain ⟨n, hn⟩ : ∃ n, l.length = n := ⟨_, rfl⟩
  have HN := Lib.hid hn
  have HV := Lib.hid (show (inV vw l).length = n from HL.out.trans hn)
  have HI := Lib.hid (fun j (h : j < n) => show j < l.length by rw [hn]; exact h)
  rw [HL.out]
  rw [hn] at h3 ⊢
  clear hn HL
  have hz3 : n ≤ 3 := h3
  go_enter Tryz.func29, Tryz.ntmps29
  go_wp2_with (rw [← hw0]; refine wpList_make_full _ rfl _ _ 56 rfl w0.heap.size 79 i0 (.agg #[.string ByteArray.empty, .int .i64 0, .int .i64 0]) 3 Tryz.underlying56 hi hz0 hz1 .i64 .i64 _ _ n rfl rfl rfl rfl (by rw [hz2]; omega) (by unfold maxLen; omega) (Nat.le_refl _) ?_; intro w1 hown hgrow; have hb1 := (Below.refl w0.heap.size w0).grown hgrow (Nat.le_refl _) (fun k e => by cases e); have HO := Lib.hid hown; have HB1 := Lib.hid hb1; clear hown hgrow hb1)
  rw [← HS0.out]
  clear hw0
  go_loopw [13] (fun i wr => ∃ (j : Nat), j ≤ n ∧ i = .int .i64 j ∧ HvRel (inV vw l) w0 n j wr) (fun i _ => n - (intOf i).toNat)
  case atStart => exact ⟨0, Nat.zero_le _, rfl, _, HO.out, by simp [all], HB1.out⟩
  case round =>
    obtain ⟨j, hj, rfl, hrel⟩ := hrel
    by_cases hjn : j < n
    · have hjl := HI.out j hjn
      have HSTEP := Lib.hid (fun w1 (hb : Below wr.heap.size wr w1) => hv_step (show j < (inV vw l).length by rw [HV.out]; exact hjn) HV.out hrel hb)
      have hbw : Below w0.heap.size w0 wr := by obtain ⟨_, _, _, h⟩ := hrel; exact h
      have HBW := Lib.hid hbw
      have HWB := Lib.hid (HB0.out.trans (hbw.mono HB0.out.size))
      have HX := Lib.hid (X0.out.below hbw)
      obtain ⟨b, o, rfl, hbl, hc⟩ := HR.out j hjl
      have c0 := hc wr HWB.out
      have hg := HG.out j hjl
      have hge : (inV vw l)[j]'(by rw [HV.out]; exact hjn) = ⟨inNm j, vw, l[j]⟩ := by
        have h2 := List.getElem?_eq_getElem (show j < (inV vw l).length by rw [HV.out]; exact hjn)
        rw [h2] at hg
        exact Option.some.inj hg
      rw [hge] at HSTEP
      clear hge hg hc hbw
      obtain ⟨cur, ho, _, _⟩ := hrel
      have HO := Lib.hid ho
      have hws := HBW.out.size
      have hbl2 : b < wr.heap.size := by have := HS0.out; omega
      have hwl : w.heap.size < wr.heap.size := by have := HS0.out; omega
      generalize l[j] = y at *
      have KX := Lib.hid (fun W (hb : Below w.heap.size w W) => KN.out j (by omega) W hb)
      generalize inNm j = nm at *
      have hki : (j : Int) < (n : Int) := by omega
      clear ho hjl
      go_wp2
      clear c0
      have CD := Lib.hid (show Below wr.heap.size wr wr.drew from (Below.refl _ _).drew)
      have CH := Lib.hid (Below.refl wr.drew.heap.size wr.drew)
      have hX0 := HX.out.1
      refine region_s [9] (fun V => V.cell? ⟨w.heap.size, 0, none⟩ = some (.int .i64 vw)) (by kernel_rfl) ?_
      refine take_s (i := 0) (v := .slice (some ⟨w0.heap.size, 0, none⟩) n n) rfl (by kernel_rfl) (fun _ _ _ h => h) hX0 rfl (fun V hV => ?_) ?_
      · clear hX0
        go_simp
      refine take_s (i := 1) (v := .int .i64 j) rfl (by kernel_rfl) (fun _ _ _ h => h) hX0 rfl (fun V hV => ?_) ?_
      · clear hX0
        go_simp
      refine take_s (i := 2) (v := .int .i64 j) rfl (by kernel_rfl) (fun _ _ _ h => h) hX0 rfl (fun V hV => ?_) ?_
      · clear hX0
        go_simp
      refine take_s (i := 4) (v := .pointer (some ⟨w.heap.size, 0, none⟩)) rfl (by kernel_rfl) (fun _ _ _ h => h) hX0 rfl (fun V hV => ?_) ?_
      · clear hX0
        go_simp
      refine take_s (i := 5) (v := .int .i64 vw) rfl (by kernel_rfl) (fun _ _ _ h => h) hX0 rfl (fun V hV => ?_) ?_
      · clear hX0
        go_simp
      refine take_s (i := 6) (v := .int .i64 y) rfl (by kernel_rfl) (fun _ _ _ h => h) hX0 rfl (fun V hV => ?_) ?_
      · clear hX0
        go_simp
      refine one_s (i := 3) (by kernel_rfl) (op_list rfl ?_)
      go_wp2_with fail
      refine (KX.out _ (HWB.out.trans (CD.out.mono HWB.out.size))).mono ?_
      rintro e w1 ⟨rfl, hb1⟩
      have hbd := CD.out.trans hb1
      have HST := Lib.hid (HSTEP.out _ hbd)
      have HO1 := Lib.hid (own_keep HO.out hbd)
      have hX1 := (hbd.cell (p := ⟨w.heap.size, 0, none⟩) hwl).trans HX.out.1
      clear hb1 hbd hX0
      go_wp2
      refine ⟨fun _ => hX1, ?_⟩
      refine one_s (i := 7) (by kernel_rfl) (op_list rfl ?_)
      go_wp2
      refine ⟨fun _ => hX1, ?_⟩
      refine one_s (i := 8) (by kernel_rfl) (op_list rfl ?_)
      go_wp2
      refine ⟨fun _ => hX1, ?_⟩
      obtain ⟨a0, a1, a2, ⟨t0, t1, t2⟩, u0, u1, u2⟩ := there3 (own_there HO1.out (j * 3) 3 (by omega))
      refine one_s (i := 9) (by kernel_rfl) (op_list rfl ?_)
      go_wp2
      refine ⟨late_s (by kernel_rfl), done_s (by kernel_rfl) ?_ _⟩
      go_wp2
      go_roundw
      case rel => exact ⟨j + 1, by omega, by go_num, HST.out⟩
      case measure => simp [intOf]; omega
    · have ej : j = n := by omega
      subst ej
      have HREL := Lib.hid hrel
      clear hrel
      go_wp2
      go_ret
      obtain ⟨cur, ho, hc, hb⟩ := HREL.out
      have hcl : cur = all (inV vw l) := by
        rw [← HV.out, List.take_length, List.take_of_length_le (by rw [ho.1, HV.out]; exact Nat.le_refl _)] at hc
        exact hc
      subst hcl
      exact ⟨HB0.out.trans (hb.mono HB0.out.size), _, _, rfl, (Cs.shows_of_owns ho).down (Nat.zero_le _)⟩
end Go.Proofs.YthmababifgaejaaGreatDoor
