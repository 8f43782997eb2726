/- What the specification's l02Eval returns for a term that is valid and values. No condition. What the specification's l06Evals returns. No condition. The specification's test of a range. No condition. -/
import Derived.Test.YthmababifgaejaaGreatDoorEmApS
import Derived.Test.YthmababifgaejaaGreatDoorEmKd
import Derived.Test.YthmababifgaejaaGreatDoorEmEvR
import Derived.Test.YthmababifgaejaaGreatDoorEmGEv
import Derived.Test.YthmababifgaejaaGreatDoorRows
import Derived.Test.YthmababifgaejaaGreatDoorEmGCs
import Derived.WalkSpells
namespace Go.Proofs.YthmababifgaejaaGreatDoor
open Go.ChangeShapes Go.WideShapes Go.ChangeAt Go.RowKit
open ValueR (all costs)
theorem find_hit {V : List ValueR} (hV : VlOk V) {nm : ByteArray} {j : Nat} {r : ValueR} (hr : V[j]? = some r) (h : r.f0 = nm) : isAt V nm = true ∧ pos V nm = j := by
  have hj := (List.getElem?_eq_some_iff.1 hr).1
  have hp : pos V nm = j := pos_is V nm j (fun t r' ht hr' => by
    have ht' := (List.getElem?_eq_some_iff.1 hr').1
    have hpw := (List.pairwise_iff_getElem.1 (asc_of hV)) t j ht' hj ht
    rw [(List.getElem?_eq_some_iff.1 hr').2, (List.getElem?_eq_some_iff.1 hr).2, h] at hpw
    exact hpw) (by omega) (fun r' hr' => by rw [hr] at hr'; cases hr'; rw [h]; exact less_irrefl _)
  refine ⟨?_, hp⟩
  unfold isAt
  rw [hp, hr]
  exact decide_eq_true h
theorem find_miss {V : List ValueR} {nm : ByteArray} (h : ∀ (t : Nat) (r : ValueR), V[t]? = some r → r.f0 ≠ nm) : isAt V nm = false := by
  unfold isAt
  split
  · rename_i r hr; exact decide_eq_false (h _ _ hr)
  · rfl
/-- what l02Find returns -/
def fnd (V : List ValueR) (nm : ByteArray) : Int := if isAt V nm = true then (pos V nm : Int) else -1
set_option maxRecDepth 100000 in
set_option maxHeartbeats 2000000 in
theorem s_find (V : List ValueR) (hV : VlOk V) (v : Value) (nm : ByteArray) (w : World) (hv : Cs.Shows w 0 3 v V.length (all V)) :
    Calls Tryz.prog 60 #[v, .string nm] w fun e w' => e = .returned (.int .i64 (fnd V nm)) ∧ Below w.heap.size w w' := by
  have hV30 := hV.1
  rcases Cs.shows_cases hv with ⟨h0, q, cap, rfl⟩ | ⟨hpos, b, o, cap, rfl, _, _, hbl, hr⟩
  · have hL : V = [] := List.length_eq_zero_iff.1 h0
    subst hL
    clear hv h0 hV hV30
    go_enter Tryz.func60, Tryz.ntmps60
    go_wp2
    refine wp_loop_rounds 1 ?_
    rw [rounds_succ]
    go_wp2
    go_ret
    exact ⟨rfl, Below.refl _ _⟩
  · have HR := Lib.hid (fun (wr : World) (hb : Below w.heap.size w wr) j (h : j < V.length) => rangeAt_below hb (flat_nth ValueR.cells 3 (fun r => rfl) V j h hr))
    have HH := Lib.hid (fun j r (h : V[j]? = some r) (e : r.f0 = nm) => find_hit hV h e)
    have HX := Lib.hid (fun j (h : j < V.length) => List.getElem?_eq_getElem h)
    clear hv hr hV
    go_enter Tryz.func60, Tryz.ntmps60
    go_wp2
    go_loopw [9] (fun i wr => ∃ (j : Nat), j ≤ V.length ∧ i = .int .i64 j ∧ (∀ (t : Nat) (r : ValueR), t < j → V[t]? = some r → r.f0 ≠ nm) ∧ Below w.heap.size w wr) (fun i _ => V.length - (intOf i).toNat)
    case atStart => exact ⟨0, Nat.zero_le _, rfl, fun t r ht => absurd ht (Nat.not_lt_zero _), Below.refl _ _⟩
    case round =>
      obtain ⟨j, hj, rfl, hno, hb⟩ := hrel
      have HNO := Lib.hid hno
      clear hno
      by_cases hjn : j < V.length
      · have hrr := HR.out wr hb j hjn
        have hx := HX.out j hjn
        generalize V[j] = r at *
        have c0 : wr.cell? ⟨b, o + j * 3, none⟩ = some (.string r.f0) := hrr 0 _ rfl
        have c1 : wr.cell? ⟨b, o + j * 3 + 1, none⟩ = some (.int .i64 r.f1) := hrr 1 _ rfl
        have c2 : wr.cell? ⟨b, o + j * 3 + 2, none⟩ = some (.int .i64 r.f2) := hrr 2 _ rfl
        have HB := Lib.hid (hb.alloc hb.size (.cells #[.string r.f0, .int .i64 r.f1, .int .i64 r.f2] 79))
        have HXX := Lib.hid hx
        have hki : (j : Int) < (V.length : Int) := by omega
        clear hb hrr hx
        by_cases he : r.f0 = nm
        · have HF := Lib.hid (HH.out j r HXX.out he)
          have hs : (r.f0.toList == nm.toList) = true := by rw [he]; simp
          clear he
          go_wp2
          go_ret
          exact ⟨by unfold fnd; rw [HF.out.1, HF.out.2] <;> rfl, HB.out⟩
        · have hs : (r.f0.toList == nm.toList) = false := by simpa using fun h => he (ba_ext h)
          have HN := Lib.hid (show ∀ (t : Nat) (r' : ValueR), t < j + 1 → V[t]? = some r' → r'.f0 ≠ nm from fun t r' ht hr' => by
            by_cases htj : t < j
            · exact HNO.out t r' htj hr'
            · have : t = j := by omega
              subst this
              rw [HXX.out] at hr'
              cases hr'
              exact he)
          clear he
          go_wp2
          go_roundw
          case rel => exact ⟨j + 1, by omega, by go_num, HN.out, HB.out⟩
          case measure => simp [intOf]; omega
      · have HB := Lib.hid hb
        have hnj : ¬ ((j : Int) < (V.length : Int)) := by omega
        have HF := Lib.hid (find_miss (V := V) (nm := nm) (fun t r hr => HNO.out t r (by have := (List.getElem?_eq_some_iff.1 hr).1; omega) hr))
        clear hb
        go_wp2
        go_ret
        exact ⟨by unfold fnd; rw [HF.out] <;> rfl, HB.out⟩
theorem s_apply {op wd n : Int} {nm : ByteArray} {k : Fo} {s : Value} {xs : List Int} {bw cw : Nat} {w : World} (his : (k.cs 64).Is w 0 5 k.len s) (hfit : fitB op wd n nm k.ws = true) (h0 : op ≠ 0) (h22 : op ≠ 22) (hall : k.allB = true) (hx : AreW k.ws xs)
    (hbw : bw < w.heap.size) (hd : ∀ (j : Nat) (x : Int), xs[j]? = some x → w.cell? ⟨bw, j, none⟩ = some (.int .i64 x)) :
    Calls Tryz.prog 61 #[.agg #[.int .i64 op, .int .i64 wd, .int .i64 n, .string nm, s], .slice (some ⟨bw, 0, none⟩) xs.length cw] w fun e w' => e = .returned (.int .i64 (appM op wd n k.ws xs)) ∧ Below w.heap.size w w' := by
  obtain ⟨hw, hs⟩ := fit_shape hfit h0 h22 (ws_ok k hall)
  rcases hs with ⟨ho, e⟩ | ⟨h1, h2, e⟩ | ⟨a, h1, h2, rfl, e, _, _⟩ | ⟨rfl, e⟩ | ⟨a, a2', rfl, e, hsum, _, _⟩ | ⟨a, rfl, e, hn0, hnw, _⟩ | ⟨a, ho, e, _, _⟩
  · rw [e] at hx ⊢
    obtain ⟨b, o, cap, rfl, hbl, hc⟩ := kid_ws his e (by simp)
    match xs, hx with
    | [x], ⟨⟨q1, q2, q3, q4⟩, _⟩ =>
      rw [app1, if_pos ho]
      rcases ho with rfl | rfl
      · exact s_ap_u1 wd n x nm b o cap bw cw w hbl hbw (hd 0 _ rfl) q1 q2 q3 q4
      · exact s_ap_u2 wd n x nm b o cap bw cw w hbl hbw (hd 0 _ rfl) q1 q2 q3 q4
  · rw [e] at hx ⊢
    obtain ⟨b, o, cap, rfl, hbl, hc⟩ := kid_ws his e (by simp)
    match xs, hx with
    | [x, y], ⟨⟨q1, q2, q3, q4⟩, ⟨_, _, r3, r4⟩, _⟩ =>
      rw [app2, if_neg (by omega)]
      exact s_ap_bin op wd n wd x y nm b o cap bw cw w hbl hbw (hc 0 _ rfl) (hd 0 _ rfl) (hd 1 _ rfl) h1 (by omega) q1 q2 q3 q4 r3 r4
  · rw [e] at hx ⊢
    obtain ⟨b, o, cap, rfl, hbl, hc⟩ := kid_ws his e (by simp)
    match xs, hx with
    | [x, y], ⟨⟨q1, q2, q3, q4⟩, ⟨_, _, r3, r4⟩, _⟩ =>
      rw [app2, if_neg (by omega)]
      exact s_ap_bin op 1 n a x y nm b o cap bw cw w hbl hbw (hc 0 _ rfl) (hd 0 _ rfl) (hd 1 _ rfl) (by omega) h2 q1 q2 q3 q4 r3 r4
  · rw [e] at hx ⊢
    obtain ⟨b, o, cap, rfl, hbl, hc⟩ := kid_ws his e (by simp)
    match xs, hx with
    | [x, y, z], _ =>
      rw [app3]
      exact s_ap_if wd n x y z nm b o cap bw cw w hbl hbw (hd 0 _ rfl) (hd 1 _ rfl) (hd 2 _ rfl)
  · rw [e] at hx ⊢
    obtain ⟨b, o, cap, rfl, hbl, hc⟩ := kid_ws his e (by simp)
    match xs, hx with
    | [x, y], ⟨⟨q1, q2, q3, q4⟩, ⟨r1, r2, r3, r4⟩, _⟩ =>
      rw [app2, if_pos rfl]
      exact s_ap_join wd n a a2' x y nm b o cap bw cw w hbl hbw (hc 0 _ rfl) (hc 1 _ rfl) (hd 0 _ rfl) (hd 1 _ rfl) q1 q2 q3 q4 r1 r2 r3 r4 (by omega)
  · rw [e] at hx ⊢
    obtain ⟨b, o, cap, rfl, hbl, hc⟩ := kid_ws his e (by simp)
    match xs, hx with
    | [x], ⟨⟨q1, q2, q3, q4⟩, _⟩ =>
      rw [app1, if_neg (by decide), if_pos rfl]
      exact s_ap_cut wd n a x nm b o cap bw cw w hbl hbw (hc 0 _ rfl) (hd 0 _ rfl) q1 q2 q3 q4 hn0 hw.1 hnw
  · rw [e] at hx ⊢
    obtain ⟨b, o, cap, rfl, hbl, hc⟩ := kid_ws his e (by simp)
    match xs, hx with
    | [x], ⟨⟨q1, q2, q3, q4⟩, _⟩ =>
      rw [app1, if_neg (by omega), if_neg (by omega)]
      rcases ho with rfl | rfl
      · exact s_ap_w20 wd n a x nm b o cap bw cw w hbl hbw (hc 0 _ rfl) (hd 0 _ rfl) q1 q2 q3 q4 (by assumption) hw.2
      · exact s_ap_w21 wd n a x nm b o cap bw cw w hbl hbw (hc 0 _ rfl) (hd 0 _ rfl) q1 q2 q3 q4 (by assumption) hw.2
theorem infoI : (Tryz.prog.info? 3).map (fun i => (i.zero, i.size, i.bytes)) = some (some (.int .i64 0), 1, 8) := by kernel_rfl
def EvCS (V : List ValueR) (k : Fo) : Prop := ∀ (op wd n : Int) (nm : ByteArray) (s v : Value) (w : World), (k.cs 64).Is w 0 5 k.len s → Cs.Shows w 0 3 v V.length (all V) → fitB op wd n nm k.ws = true → k.allB = true → k.nodes ≤ 1048576 →
  Calls Tryz.prog 42 #[.agg #[.int .i64 op, .int .i64 wd, .int .i64 n, .string nm, s], v] w fun e w' => e = .returned (evV (evOne V op wd n nm k)) ∧ Below w.heap.size w w'
set_option maxRecDepth 100000 in
set_option maxHeartbeats 2000000 in
theorem s_eval_const (V : List ValueR) (k : Fo) (wd n : Int) (nm : ByteArray) (s v : Value) (w : World) (hs : ∃ q m c, s = .slice q m c) (hv : ∃ q m c, v = .slice q m c) :
    Calls Tryz.prog 42 #[.agg #[.int .i64 0, .int .i64 wd, .int .i64 n, .string nm, s], v] w fun e w' => e = .returned (evV (evOne V 0 wd n nm k)) ∧ Below w.heap.size w w' := by
  obtain ⟨q, m, c, rfl⟩ := hs
  obtain ⟨q', m', c', rfl⟩ := hv
  go_enter Tryz.func42, Tryz.ntmps42
  go_wp2
  go_ret2
  exact ⟨rfl, (Below.refl _ _).alloc (Nat.le_refl _) _⟩
set_option maxRecDepth 100000 in
set_option maxHeartbeats 2000000 in
theorem s_eval_var (V : List ValueR) (hV : VlOk V) (k : Fo) (wd n : Int) (nm : ByteArray) (s v : Value) (w : World) (hs : ∃ q m c, s = .slice q m c) (hv : Cs.Shows w 0 3 v V.length (all V)) :
    Calls Tryz.prog 42 #[.agg #[.int .i64 22, .int .i64 wd, .int .i64 n, .string nm, s], v] w fun e w' => e = .returned (evV (evOne V 22 wd n nm k)) ∧ Below w.heap.size w w' := by
  obtain ⟨q, m, c, rfl⟩ := hs
  have KS := Lib.hid (fun W (hb : Below w.heap.size w W) => s_find V hV v nm W (hv.below hb))
  have he : evOne V 22 wd n nm k = valOf V nm wd := rfl
  rw [he]
  clear he
  rcases val_cases V nm wd with ⟨hi, hval⟩ | ⟨hi, hlt, hnm, hcase⟩
  · rw [hval]
    rw [show fnd V nm = -1 by unfold fnd; rw [if_neg (by rw [hi]; decide)]] at KS
    obtain ⟨_, qv, cv, rfl, _⟩ := hv
    clear hi hval
    go_enter Tryz.func42, Tryz.ntmps42
    go_wp2_with fail
    refine (KS.out _ ((Below.refl _ _).alloc (Nat.le_refl _) _)).mono ?_
    rintro e w1 ⟨rfl, hb1⟩
    have B1 := Lib.hid (((Below.refl w.heap.size w).alloc (Nat.le_refl _) (.cells #[.int .i64 22, .int .i64 wd, .int .i64 n, .string nm, .slice q m c] 64)).trans (hb1.mono (by simp)))
    obtain ⟨x0, x1, x2, x3, x4⟩ := (cell5_alloc w 64 _ _ _ _ _).below hb1
    clear hb1
    go_wp2
    go_quiet (fail)
    go_wp2
    go_ret2
    exact ⟨rfl, below_drewN B1.out _⟩
  · rcases Cs.shows_cases hv with ⟨h0, _⟩ | ⟨_, b, o, cv, rfl, _, _, hbl, hr⟩
    · omega
    have HC := Lib.hid (fun (wr : World) (hb : Below w.heap.size w wr) => rangeAt_below hb (flat_nth ValueR.cells 3 (fun r => rfl) V (pos V nm) hlt hr))
    rw [show fnd V nm = (pos V nm : Int) by unfold fnd; rw [if_pos hi]] at KS
    generalize V[pos V nm] = r at *
    clear hv hr hi hnm
    generalize pos V nm = p at *
    have hpi : (p : Int) < (V.length : Int) := by omega
    have hp0 : decide ((p : Int) < 0) = false := by simp
    rcases hcase with ⟨hw, hval⟩ | ⟨hw, hval⟩
    · rw [hval]
      clear hval
      go_enter Tryz.func42, Tryz.ntmps42
      go_wp2_with fail
      refine (KS.out _ ((Below.refl _ _).alloc (Nat.le_refl _) _)).mono ?_
      rintro e w1 ⟨rfl, hb1⟩
      have B1 := Lib.hid (((Below.refl w.heap.size w).alloc (Nat.le_refl _) (.cells #[.int .i64 22, .int .i64 wd, .int .i64 n, .string nm, .slice q m c] 64)).trans (hb1.mono (by simp)))
      obtain ⟨x0, x1, x2, x3, x4⟩ := (cell5_alloc w 64 _ _ _ _ _).below hb1
      have hc := HC.out w1 B1.out
      have c1 : w1.cell? ⟨b, o + p * 3 + 1, none⟩ = some (.int .i64 r.f1) := hc 1 _ rfl
      have c2 : w1.cell? ⟨b, o + p * 3 + 2, none⟩ = some (.int .i64 r.f2) := hc 2 _ rfl
      clear hb1 hc
      go_wp2
      go_quiet (fail)
      go_wp2
      go_ret2
      exact ⟨rfl, below_drewN B1.out _⟩
    · rw [hval]
      have hwb : (r.f1 == wd) = false := by simpa using hw
      clear hval
      go_enter Tryz.func42, Tryz.ntmps42
      go_wp2_with fail
      refine (KS.out _ ((Below.refl _ _).alloc (Nat.le_refl _) _)).mono ?_
      rintro e w1 ⟨rfl, hb1⟩
      have B1 := Lib.hid (((Below.refl w.heap.size w).alloc (Nat.le_refl _) (.cells #[.int .i64 22, .int .i64 wd, .int .i64 n, .string nm, .slice q m c] 64)).trans (hb1.mono (by simp)))
      obtain ⟨x0, x1, x2, x3, x4⟩ := (cell5_alloc w 64 _ _ _ _ _).below hb1
      have hc := HC.out w1 B1.out
      have c1 : w1.cell? ⟨b, o + p * 3 + 1, none⟩ = some (.int .i64 r.f1) := hc 1 _ rfl
      have c2 : w1.cell? ⟨b, o + p * 3 + 2, none⟩ = some (.int .i64 r.f2) := hc 2 _ rfl
      clear hb1 hc
      go_wp2
      go_quiet (fail)
      go_wp2
      go_ret2
      exact ⟨rfl, below_drewN B1.out _⟩
set_option maxRecDepth 100000 in
set_option maxHeartbeats 4000000 in
theorem s_eval_loop (V : List ValueR) (hV : VlOk V) (F : Fo) (hF : F.AllK (EvCS V)) : EvCS V F := by
  intro op wd n nm s v w his hv hfit hall hn
  have sl : ∃ q m c, s = .slice q m c := by obtain ⟨_, ⟨_, q, cap, rfl, _⟩, _⟩ := his; exact ⟨_, _, _, rfl⟩
  by_cases h0 : op = 0
  · subst h0
    exact s_eval_const V F wd n nm s v w sl (by obtain ⟨_, q, cap, rfl, _⟩ := hv; exact ⟨_, _, _, rfl⟩)
  by_cases h22 : op = 22
  · subst h22
    exact s_eval_var V hV F wd n nm s v w sl hv
  obtain ⟨hp, hl3⟩ := arity_le hfit h0 h22 hall
  rw [ev_op h0 h22]
  have HIS := Lib.hid his
  have HV := Lib.hid hv
  rcases Fo.is_cases his with ⟨h, _⟩ | ⟨_, b, o, cap, ys, rfl, _, _, _, hbl, hvs, hr⟩
  · omega
  obtain ⟨_, qv, cv, rfl, _⟩ := hv
  have HI := Lib.hid (fun j (hj : j < F.len) => Fo.nth F hvs hr j hj)
  have HK := Lib.hid hF
  have HAL := Lib.hid (fun j op wd n nm k (h : F.At j op wd n nm k) => all_node F j h hall)
  have HNX := Lib.hid (fun j op wd n nm k xs (h : F.At j op wd n nm k) (hx : (F.take j).evs V = some xs) => evs_next h hx)
  have HLN := Lib.hid (fun j xs (hj : j ≤ F.len) (hx : (F.take j).evs V = some xs) => (evs_len V _ xs hx).trans (Fo.len_take F j hj))
  have HTA := Lib.hid F.take_all
  have HTZ := Lib.hid F.take_zero
  have HAP := Lib.hid (fun (W : World) (hb : Below w.heap.size w W) xs bw cw (hx : F.evs V = some xs) (hbw : bw < W.heap.size) hd => s_apply (cw := cw) (HIS.out.below hb) hfit h0 h22 hall (evs_w hV F xs hall hx) hbw hd)
  have HND := Lib.hid (fun j op wd n nm k (h : F.At j op wd n nm k) => (Fo.at_nodes F j h).2)
  have e0 : ((op : Int) == 0) = false := by simpa using h0
  have e22 : ((op : Int) == 22) = false := by simpa using h22
  clear hF his hvs hr hfit hall sl h0 h22
  go_enter Tryz.func42, Tryz.ntmps42
  go_wp2
  have HW0 := Lib.hid (show Below w.heap.size w ((w.alloc (.cells #[.int .i64 op, .int .i64 wd, .int .i64 n, .string nm, .slice (some ⟨b, o, none⟩) F.len cap] 64)).alloc (.cells #[] 3)) from ((Below.refl _ _).alloc (Nat.le_refl _) _).alloc (by simp) _)
  have HX0 := Lib.hid ((cell5_alloc w 64 (.int .i64 op) (.int .i64 wd) (.int .i64 n) (.string nm) (.slice (some ⟨b, o, none⟩) F.len cap)).below ((Below.refl _ _).alloc (Nat.le_refl _) (.cells #[] 3)))
  have HO0 : Hid (((w.alloc (.cells #[.int .i64 op, .int .i64 wd, .int .i64 n, .string nm, .slice (some ⟨b, o, none⟩) F.len cap] 64)).alloc (.cells #[] 3)).ownsRow (w.heap.size + 1) 3 1 (.slice (some ⟨w.heap.size + 1, 0, none⟩) 0 0) 0 []) := Lib.hid (by
    have := World.ownsRow_lit (base := w.heap.size + 1) (e := 3) (size := 1) (w.alloc (.cells #[.int .i64 op, .int .i64 wd, .int .i64 n, .string nm, .slice (some ⟨b, o, none⟩) F.len cap] 64)) #[] 0 (by simp) (by decide) rfl
    simpa using this)
  go_loopw [7, 45] (fun u i wr => ∃ (j : Nat) (xs : List Int), j ≤ F.len ∧ i = .int .i64 j ∧ (F.take j).evs V = some xs ∧ wr.ownsRow (w.heap.size + 1) 3 1 u j (xs.map (Value.int .i64)) ∧ Below w.heap.size w wr ∧ Cell5 wr w.heap.size (.int .i64 op) (.int .i64 wd) (.int .i64 n) (.string nm) (.slice (some ⟨b, o, none⟩) F.len cap)) (fun _ i _ => F.len - (intOf i).toNat)
  case atStart => exact ⟨0, [], Nat.zero_le _, rfl, by rw [HTZ.out]; rfl, HO0.out, HW0.out, HX0.out⟩
  case round =>
    obtain ⟨j, xs, hj, rfl, hxs, ho, hb, hx⟩ := hrel
    have HXS := Lib.hid hxs
    have HO := Lib.hid ho
    have HB := Lib.hid hb
    have HX := Lib.hid hx
    have hbs : w.heap.size < wr.heap.size := World.block_lt_of_cell? wr _ hx.1
    clear hxs ho hb hx
    by_cases hjn : j < F.len
    · obtain ⟨op', wd', n', nm', k, u, hat, his, hrr⟩ := HI.out j hjn
      have hk := Fo.at_allK F j hat HK.out
      obtain ⟨hf1, hf2⟩ := HAL.out _ _ _ _ _ _ hat
      have hnd := HND.out _ _ _ _ _ _ hat
      have HE := Lib.hid (HNX.out _ _ _ _ _ _ _ hat HXS.out)
      have hrr := rangeAt_below HB.out hrr
      have HISK := Lib.hid his
      obtain ⟨_, ⟨_, q', cap', rfl, _⟩, _⟩ := his
      have c0 : wr.cell? ⟨b, o + j * 5, none⟩ = some (.int .i64 op') := hrr 0 _ rfl
      have c1 : wr.cell? ⟨b, o + j * 5 + 1, none⟩ = some (.int .i64 wd') := hrr 1 _ rfl
      have c2 : wr.cell? ⟨b, o + j * 5 + 2, none⟩ = some (.int .i64 n') := hrr 2 _ rfl
      have c3 : wr.cell? ⟨b, o + j * 5 + 3, none⟩ = some (.string nm') := hrr 3 _ rfl
      have c4 : wr.cell? ⟨b, o + j * 5 + 4, none⟩ = some (.slice q' k.len cap') := hrr 4 _ rfl
      have SO := Lib.hid (fun W (hW : Below w.heap.size w W) => hk op' wd' n' nm' _ _ W (HISK.out.below hW) (HV.out.below hW) hf1 hf2 (by omega))
      have hsz := HB.out.size
      have hki : (j : Int) < (F.len : Int) := by omega
      have HBA := Lib.hid (HB.out.alloc hsz (.cells #[.int .i64 op', .int .i64 wd', .int .i64 n', .string nm', .slice q' k.len cap'] 64))
      clear hrr hat hk hf1 hf2
      cases hev : evOne V op' wd' n' nm' k with
      | none =>
        rw [hev] at SO
        have HN := Lib.hid (HE.out.2 hev)
        have hr0 : evV none = .tuple #[.int .i64 0, .bool false] := rfl
        rw [hr0] at SO
        clear hev hr0
        go_wp2_with fail
        refine (SO.out _ HBA.out).mono ?_
        rintro e w1 ⟨rfl, hb1⟩
        have HB1 := Lib.hid (HBA.out.trans (hb1.mono (by simp; omega)))
        clear hb1
        go_wp2
        go_ret2
        exact ⟨by rw [HN.out] <;> rfl, HB1.out⟩
      | some x =>
        rw [hev] at SO
        have HN := Lib.hid (HE.out.1 x hev)
        have hr0 : evV (some x) = .tuple #[.int .i64 x, .bool true] := rfl
        rw [hr0] at SO
        clear hev hr0
        go_wp2_with fail
        refine (SO.out _ HBA.out).mono ?_
        rintro e w1 ⟨rfl, hb1⟩
        have HB1 := Lib.hid (HBA.out.trans (hb1.mono (by simp; omega)))
        have hb2 : Below wr.heap.size wr w1 := ((Below.refl _ _).alloc (Nat.le_refl _) (.cells #[.int .i64 op', .int .i64 wd', .int .i64 n', .string nm', .slice q' k.len cap'] 64)).trans (hb1.mono (by simp))
        have HX1 := Lib.hid (HX.out.below hb2)
        have HO1 := Lib.hid (own_keep HO.out hb2)
        have hsz2 : w.heap.size + 1 ≤ w1.heap.size := by have := hb2.size; omega
        clear hb1 hb2 c0 c1 c2 c3 c4
        go_wp2_with (at_builtin; refine wpList_append_one rfl (.tmp 57) (.tmp 59) 26 rfl (w.heap.size + 1) 3 (.int .i64 0) 1 8 Tryz.underlying26 infoI rfl (by decide) _ j _ rfl HO1.out [.int .i64 x] _ rfl rfl rfl ?c1 (by omega) (by omega) ?c2 ?_)
        case c1 => intro u hu; simp at hu; subst hu; rfl
        case c2 => exact hsz2
        intro v' w3 hown3 hb3 _
        have HO3 := Lib.hid (show w3.ownsRow (w.heap.size + 1) 3 1 v' (j + 1) ((xs ++ [x]).map (Value.int .i64)) by rw [List.map_append]; exact hown3)
        have HB3 := Lib.hid (HB1.out.trans (hb3.mono (by omega)))
        have HX3 := Lib.hid (show Cell5 w3 w.heap.size (.int .i64 op) (.int .i64 wd) (.int .i64 n) (.string nm) (.slice (some ⟨b, o, none⟩) F.len cap) from by
          obtain ⟨h0, h1, h2, h3, h4⟩ := HX1.out
          exact ⟨(hb3.cell (p := ⟨w.heap.size, 0, none⟩) (Nat.lt_succ_self _)).trans h0, (hb3.cell (p := ⟨w.heap.size, 1, none⟩) (Nat.lt_succ_self _)).trans h1, (hb3.cell (p := ⟨w.heap.size, 2, none⟩) (Nat.lt_succ_self _)).trans h2, (hb3.cell (p := ⟨w.heap.size, 3, none⟩) (Nat.lt_succ_self _)).trans h3, (hb3.cell (p := ⟨w.heap.size, 4, none⟩) (Nat.lt_succ_self _)).trans h4⟩)
        clear hown3 hb3
        go_wp2
        go_roundw
        case rel => exact ⟨j + 1, xs ++ [x], by omega, by go_num, HN.out, HO3.out, HB3.out, HX3.out⟩
        case measure => simp [intOf]; omega
    · have hnj : ¬ ((j : Int) < (F.len : Int)) := by omega
      have ej : j = F.len := by omega
      have hxl := HLN.out j xs hj HXS.out
      have HXA := Lib.hid (show F.evs V = some xs by have h := HXS.out; rw [ej, HTA.out] at h; exact h)
      obtain ⟨g, cw, rfl, hg⟩ : ∃ g cw, u7 = .slice (some ⟨g, 0, none⟩) j cw ∧ g < wr.heap.size := by
        rcases HO.out.2 with ⟨_, h⟩ | ⟨g, cw, cur, rfl, _⟩
        · omega
        · exact ⟨g, cw, rfl, (HO.out.lt g rfl).2⟩
      have hd : ∀ (i : Nat) (x : Int), xs[i]? = some x → wr.cell? ⟨g, i, none⟩ = some (.int .i64 x) := fun i x hx => by
        have hi := (List.getElem?_eq_some_iff.1 hx).1
        rw [HO.out.cellAt i (by omega), List.getElem?_map, hx]
        rfl
      have KA := Lib.hid (HAP.out wr HB.out xs g cw HXA.out hg hd)
      rw [hxl] at KA
      obtain ⟨x0, x1, x2, x3, x4⟩ := HX.out
      clear hd ej hxl
      go_wp2_with fail
      refine (KA.out).mono ?_
      rintro e w1 ⟨rfl, hb1⟩
      have HB1 := Lib.hid (HB.out.trans (hb1.mono HB.out.size))
      clear hb1 x0 x1 x2 x3 x4
      go_wp2
      go_ret2
      exact ⟨by rw [HXA.out] <;> rfl, HB1.out⟩
theorem s_eval_any (V : List ValueR) (hV : VlOk V) : ∀ F : Fo, EvCS V F := Fo.every (s_eval_loop V hV)
end Go.Proofs.YthmababifgaejaaGreatDoor
namespace Go.Proofs.YthmababifgaejaaGreatDoor
open Go.ChangeShapes Go.WideShapes Go.ChangeAt Go.RowKit
open ValueR (all costs)
/-- the words of terms, or that there are not all -/
def EvsEnd (R : Option (List Int)) (w : World) (e : Ending) (w' : World) : Prop := Below w.heap.size w w' ∧ ∃ q c, e = .returned (.tuple #[.slice q (R.getD []).length c, .bool R.isSome]) ∧ Cs.Shows w' 0 1 (.slice q (R.getD []).length c) (R.getD []).length (IntL.all (R.getD [])) ∧ (R.isSome = true → w'.ownsRow w.heap.size 3 1 (.slice q (R.getD []).length c) (R.getD []).length (IntL.all (R.getD [])))
set_option maxRecDepth 100000 in
set_option maxHeartbeats 4000000 in
theorem s_evals (V : List ValueR) (hV : VlOk V) (F : Fo) (wd : Int) (hF : tmB F wd = true) (s v : Value) (w : World) (his : (F.cs 64).Is w 0 5 F.len s) (hv : Cs.Shows w 0 3 v V.length (all V)) (hc : F.cost ≤ 1048576) :
    Calls Tryz.prog 25 #[s, v] w (EvsEnd (F.evs V) w) := by
  have hml : maxLen = 9223372036854775807 := rfl
  have hFn := F.nodes_le
  have hFl := F.len_le
  have HV := Lib.hid hv
  obtain ⟨_, qv, cv, rfl, _⟩ := hv
  unfold EvsEnd
  have HO0 : Hid ((w.alloc (.cells #[] 3)).ownsRow w.heap.size 3 1 (.slice (some ⟨w.heap.size, 0, none⟩) 0 0) 0 []) := Lib.hid (by
    have := World.ownsRow_lit (base := w.heap.size) (e := 3) (size := 1) w #[] 0 (Nat.le_refl _) (by decide) rfl
    simpa using this)
  have HW0 := Lib.hid (show Below w.heap.size w (w.alloc (.cells #[] 3)) from (Below.refl _ _).alloc (Nat.le_refl _) _)
  rcases Fo.is_cases his with ⟨h0, q, cap, rfl⟩ | ⟨hpos, b, o, cap, ys, rfl, hc1, hc2, _, hbl, hvs, hr⟩
  · have hFe : F = .nil := by cases F with | nil => rfl | cons => simp [Fo.len] at h0
    subst hFe
    clear his h0 hc hFn hFl hF
    have e1 : (Fo.nil.evs V) = some [] := rfl
    rw [e1]
    go_enter Tryz.func25, Tryz.ntmps25
    go_wp2
    refine wp_loop_rounds 1 ?_
    rw [rounds_succ]
    go_wp2
    go_ret2
    exact ⟨HW0.out, _, _, rfl, (Cs.shows_of_owns HO0.out).down (Nat.zero_le _), fun _ => HO0.out⟩
  · have HI := Lib.hid (fun j (hj : j < F.len) => Fo.nth F hvs hr j hj)
    have HTM := Lib.hid (fun j op wd' n nm k (h : F.At j op wd' n nm k) => tm_at hF j h)
    have HNX := Lib.hid (fun j op wd n nm k xs (h : F.At j op wd n nm k) (hx : (F.take j).evs V = some xs) => evs_next h hx)
    have HTA := Lib.hid F.take_all
    have HTZ := Lib.hid F.take_zero
    have HLN := Lib.hid (fun j xs (hj : j ≤ F.len) (hx : (F.take j).evs V = some xs) => (evs_len V _ xs hx).trans (Fo.len_take F j hj))
    have HND := Lib.hid (fun j op wd n nm k (h : F.At j op wd n nm k) => (Fo.at_nodes F j h).2)
    clear his hvs hr hF
    go_enter Tryz.func25, Tryz.ntmps25
    go_wp2
    go_loopw [6, 14] (fun u i wr => ∃ (j : Nat) (xs : List Int), j ≤ F.len ∧ i = .int .i64 j ∧ (F.take j).evs V = some xs ∧ wr.ownsRow w.heap.size 3 1 u j (IntL.all xs) ∧ Below w.heap.size w wr) (fun _ i _ => F.len - (intOf i).toNat)
    case atStart => exact ⟨0, [], Nat.zero_le _, rfl, by rw [HTZ.out]; rfl, HO0.out, HW0.out⟩
    case round =>
      obtain ⟨j, xs, hj, rfl, hxs, ho, hb⟩ := hrel
      have HXS := Lib.hid hxs
      have HO := Lib.hid ho
      have HB := Lib.hid hb
      clear hxs ho hb
      by_cases hjn : j < F.len
      · obtain ⟨op', wd', n', nm', k, u, hat, his, hrr⟩ := HI.out j hjn
        obtain ⟨hwd, hT⟩ := HTM.out _ _ _ _ _ _ hat
        subst hwd
        obtain ⟨hf1, hf2⟩ := tk_ok hT
        have hnd := HND.out _ _ _ _ _ _ hat
        have HE := Lib.hid (HNX.out _ _ _ _ _ _ _ hat HXS.out)
        have hrr := rangeAt_below HB.out hrr
        have HISK := Lib.hid his
        obtain ⟨_, ⟨_, q', cap', rfl, _⟩, _⟩ := his
        have c0 : wr.cell? ⟨b, o + j * 5, none⟩ = some (.int .i64 op') := hrr 0 _ rfl
        have c1 : wr.cell? ⟨b, o + j * 5 + 1, none⟩ = some (.int .i64 wd') := hrr 1 _ rfl
        have c2 : wr.cell? ⟨b, o + j * 5 + 2, none⟩ = some (.int .i64 n') := hrr 2 _ rfl
        have c3 : wr.cell? ⟨b, o + j * 5 + 3, none⟩ = some (.string nm') := hrr 3 _ rfl
        have c4 : wr.cell? ⟨b, o + j * 5 + 4, none⟩ = some (.slice q' k.len cap') := hrr 4 _ rfl
        have SO := Lib.hid (fun W (hW : Below w.heap.size w W) => s_eval_any V hV k op' wd' n' nm' _ _ W (HISK.out.below hW) (HV.out.below hW) hf1 hf2 (by omega))
        have hsz := HB.out.size
        have hki : (j : Int) < (F.len : Int) := by omega
        have HBA := Lib.hid (HB.out.alloc hsz (.cells #[.int .i64 op', .int .i64 wd', .int .i64 n', .string nm', .slice q' k.len cap'] 64))
        clear hrr hat hf1 hf2
        cases hev : evOne V op' wd' n' nm' k with
        | none =>
          rw [hev] at SO
          have HN := Lib.hid (HE.out.2 hev)
          have hr0 : evV none = .tuple #[.int .i64 0, .bool false] := rfl
          rw [hr0] at SO
          clear hev hr0 hT
          go_wp2_with fail
          refine (SO.out _ HBA.out).mono ?_
          rintro e w1 ⟨rfl, hb1⟩
          have HB1 := Lib.hid (HBA.out.trans (hb1.mono (by simp; omega)))
          clear hb1
          go_wp2
          go_ret2
          rw [HN.out]
          exact ⟨HB1.out, none, 0, rfl, ⟨rfl, none, 0, rfl, Nat.le_refl _, Nat.zero_le _, fun _ => rfl, fun a h => by cases h⟩, fun h => by cases h⟩
        | some y =>
          rw [hev] at SO
          have HN := Lib.hid (HE.out.1 y hev)
          have hr0 : evV (some y) = .tuple #[.int .i64 y, .bool true] := rfl
          rw [hr0] at SO
          clear hev hr0 hT
          go_wp2_with fail
          refine (SO.out _ HBA.out).mono ?_
          rintro e w1 ⟨rfl, hb1⟩
          have HB1 := Lib.hid (HBA.out.trans (hb1.mono (by simp; omega)))
          have hb2 : Below wr.heap.size wr w1 := ((Below.refl _ _).alloc (Nat.le_refl _) (.cells #[.int .i64 op', .int .i64 wd', .int .i64 n', .string nm', .slice q' k.len cap'] 64)).trans (hb1.mono (by simp))
          have HO1 := Lib.hid (own_keep HO.out hb2)
          have hsz2 : w.heap.size ≤ w1.heap.size := by have := hb2.size; omega
          clear hb1 hb2 c0 c1 c2 c3 c4
          go_wp2_with (at_builtin; refine wpList_append_one rfl (.tmp 26) (.tmp 28) 26 rfl w.heap.size 3 (.int .i64 0) 1 8 Tryz.underlying26 infoI rfl (by decide) _ j _ rfl HO1.out [.int .i64 y] _ rfl rfl rfl ?c1 (by omega) (by omega) ?c2 ?_)
          case c1 => intro u hu; simp at hu; subst hu; rfl
          case c2 => exact hsz2
          intro v' w3 hown3 hb3 _
          have HO3 := Lib.hid (show w3.ownsRow w.heap.size 3 1 v' (j + 1) (IntL.all (xs ++ [y])) by rw [IntL.all_map, List.map_append, ← IntL.all_map]; exact hown3)
          have HB3 := Lib.hid (HB1.out.trans (hb3.mono (by omega)))
          clear hown3 hb3
          go_wp2
          go_roundw
          case rel => exact ⟨j + 1, xs ++ [y], by omega, by go_num, HN.out, HO3.out, HB3.out⟩
          case measure => simp [intOf]; omega
      · have hnj : ¬ ((j : Int) < (F.len : Int)) := by omega
        have ej : j = F.len := by omega
        have hxl := HLN.out j xs hj HXS.out
        have HXA := Lib.hid (show F.evs V = some xs by have h := HXS.out; rw [ej, HTA.out] at h; exact h)
        obtain ⟨g, cw, rfl⟩ : ∃ g cw, u6 = .slice g j cw := by
          rcases HO.out.2 with ⟨h1, h2⟩ | ⟨g, cw, cur, rfl, _⟩
          · exact ⟨none, 0, by rw [h1, h2]⟩
          · exact ⟨_, cw, rfl⟩
        clear ej
        go_wp2
        go_ret2
        rw [HXA.out]
        subst hxl
        exact ⟨HB.out, g, cw, rfl, (Cs.shows_of_owns HO.out).down (Nat.zero_le _), fun _ => HO.out⟩
end Go.Proofs.YthmababifgaejaaGreatDoor
namespace Go.Proofs.YthmababifgaejaaGreatDoor
open Go.ChangeShapes Go.RowKit
set_option maxRecDepth 100000 in
theorem s_in_lo (x a b : Int) (h : x < a) (w : World) : Calls Tryz.prog 57 #[.int .i64 x, .int .i64 a, .int .i64 b] w fun e w' => e = .returned (.bool false) ∧ w = w' := by
  go_enter Tryz.func57, Tryz.ntmps57
  go_wp2
  go_ret
  exact ⟨rfl, rfl⟩
set_option maxRecDepth 100000 in
theorem s_in_hi (x a b : Int) (h : b < x) (w : World) : Calls Tryz.prog 57 #[.int .i64 x, .int .i64 a, .int .i64 b] w fun e w' => e = .returned (.bool false) ∧ w = w' := by
  by_cases h1 : a ≤ x
  · have h2 : decide (x ≤ b) = false := by simp; omega
    go_enter Tryz.func57, Tryz.ntmps57
    go_wp2
    go_ret
    exact ⟨rfl, rfl⟩
  · exact s_in_lo x a b (by omega) w
set_option maxRecDepth 100000 in
theorem s_in_ok (x a b : Int) (h1 : a ≤ x) (h2 : x ≤ b) (w : World) : Calls Tryz.prog 57 #[.int .i64 x, .int .i64 a, .int .i64 b] w fun e w' => e = .returned (.bool true) ∧ w = w' := by
  go_enter Tryz.func57, Tryz.ntmps57
  go_wp2
  go_ret
  exact ⟨rfl, rfl⟩
theorem sz_arr (l : List UInt8) : (⟨l.toArray⟩ : ByteArray).size = l.length := by simp [ByteArray.size]
end Go.Proofs.YthmababifgaejaaGreatDoor
