/- l02Vars: the variables of a term, found one after the other. l02Vars: a variable, known or new. l02Vars, whole. -/
import Derived.Test.YthmababifgaejaaGreatDoorEmAdd
import Derived.BigQuiet
import Derived.Deep.Upon
import Derived.Deep.RegionWith
namespace Go.Proofs.YthmababifgaejaaGreatDoor
open Go.ChangeShapes Go.WideShapes Go.ChangeAt Go.RowKit
open ValueR (all costs)
/-- append of a slice of whatever length to an owned one -/
theorem wpList_append_shown {P : Program} {w : World} {ops : Array Oper} {rest : List Oper} {o : Oper} {a : Act} {Q : Exit → Act → World → Prop} (hgd : o.guard = none) (s x : Operand) (t : TypeId)
    (ho : o.op = .call { callee := .builtin .append, args := #[s, x], argTypes := #[t, t] })
    (base : Nat) (e : TypeId) (i : TypeInfo) (z : Value) (size bytes : Nat) (ht : P.underlying t = some (.slice e)) (hi : P.info? e = some i) (hz : i.zero = some z)
    (hsize : i.size = size) (hby : i.bytes = bytes) (hzs : z.cells.size = size) (hsz : 0 < size)
    (v : Value) (n : Nat) (xs : List Value) (hs : a.eval s = v) (hown : w.ownsRow base e size v n xs)
    (q : Option Addr) (m c : Nat) (news : List Value) (hx : a.eval x = .slice q m c) (hl : news.length = m * size) (hnews : 0 < m → ∃ ad, q = some ad ∧ ∀ j u, news[j]? = some u → w.cell? (ad.add j) = some u) (h1 : ∀ u ∈ news, u.oneCell' = true)
    (h63 : n + m ≤ maxLen) (hbytes : (n + m) * bytes ≤ 140737488355328) (hbase : base ≤ w.heap.size)
    (h : ∀ q' c' w', w'.ownsRow base e size (.slice q' (n + m) c') (n + m) (xs ++ news) → Below base w w' → wpList P ops Q rest (a.put o.dst (.slice q' (n + m) c')) w') : wpList P ops Q (o :: rest) a w := by
  rcases Nat.eq_zero_or_pos m with hm | hm
  · subst hm
    have hnil : news = [] := List.length_eq_zero_iff.1 (by omega)
    subst hnil
    obtain ⟨q0, c0, rfl, hc⟩ : ∃ q0 c0, v = .slice q0 n c0 ∧ n ≤ c0 := by
      rcases hown.2 with ⟨rfl, h⟩ | ⟨g, cap, _, rfl, _, _, h, _⟩
      · exact ⟨none, 0, by rw [h], by omega⟩
      · exact ⟨_, cap, rfl, h⟩
    refine wpList_plain hgd fun K hK => ?_
    have hr := run_append_nothing (P := P) w t t o.type e i ht hi q0 n c0 hc (.slice q 0 c) ⟨.inl ⟨e, ht⟩, fun _ => rfl, by cases q <;> simp [Builtin.firstCells, loadCells, loadCellsFrom], by cases q <;> simp [Builtin.firstCells, loadCells, loadCellsFrom], by simp, fun u hu => by cases hu⟩
    unfold Oper.wp execOp
    simp only [ho, resolve, invoke, builtin, Sem.run_bind, Sem.run_pure, Result.andThen_ok, List.map_toArray, List.map_cons, List.map_nil, hs, hx, hr]
    exact hK _ _ (h q0 c0 w (by simpa using hown) (Below.refl _ _))
  · obtain ⟨ad, rfl, hn⟩ := hnews hm
    refine wpList_append_own w hgd s x t ho base e i z size bytes ht hi hz hsize hby hzs hsz v n xs hs hown ad m c news hx hl hn h1 h63 hbytes hbase fun v' w' h2 h3 _ => ?_
    obtain ⟨q', c', rfl⟩ : ∃ q' c', v' = .slice q' (n + m) c' := by
      rcases h2.2 with ⟨_, h⟩ | ⟨g, cap, _, rfl, _⟩
      · omega
      · exact ⟨_, cap, rfl⟩
    exact h q' c' w' h2 ((Below.refl _ _).grown h3 hbase fun k hk => (hown.lt k hk).1)
namespace Fo
/-- the variables of a slice of nodes, beside those that are known -/
noncomputable def vars : Fo → List ValueR → Option (List ValueR)
  | .nil, V => some V
  | .cons op wd _ nm k r, V => (if op = 22 then addV V nm wd else k.vars V).bind fun V' => r.vars V'
end Fo
noncomputable def varsOne (op wd : Int) (nm : ByteArray) (k : Fo) (V : List ValueR) : Option (List ValueR) := if op = 22 then addV V nm wd else k.vars V
theorem vars_drop (F : Fo) (j : Nat) {op wd n : Int} {nm : ByteArray} {k : Fo} (h : F.At j op wd n nm k) (V : List ValueR) : (F.drop j).vars V = (varsOne op wd nm k V).bind (fun V' => (F.drop (j + 1)).vars V') := by
  rw [Fo.drop_at F j h]; rfl
def VrEnd (w : World) (res : Option (List ValueR)) (e : Ending) (w' : World) : Prop := Below w.heap.size w w' ∧ match res with
  | some V' => ∃ q cap, e = .returned (.tuple #[.slice q V'.length cap, .bool true]) ∧ Cs.Shows w' 0 3 (.slice q V'.length cap) V'.length (all V')
  | none => ∃ v, e = .returned (.tuple #[v, .bool false])
theorem vr_none {w w' : World} {res : Option (List ValueR)} {e : Ending} {v : Value} (hb : Below w.heap.size w w') (hr : res = none) (he : e = .returned (.tuple #[v, .bool false])) : VrEnd w res e w' := by
  subst hr; exact ⟨hb, v, he⟩
theorem vr_some {w w' : World} {V' : List ValueR} {res : Option (List ValueR)} {e : Ending} {q : Option Addr} {cap : Nat} (hb : Below w.heap.size w w') (hr : res = some V') (he : e = .returned (.tuple #[.slice q V'.length cap, .bool true])) (hs : Cs.Shows w' 0 3 (.slice q V'.length cap) V'.length (all V')) : VrEnd w res e w' := by
  subst hr; exact ⟨hb, q, cap, he, hs⟩
set_option maxRecDepth 100000 in
set_option maxHeartbeats 4000000 in
theorem vars_there (V : List ValueR) (wd n : Int) (nm : ByteArray) (s : Value) (k : Fo) (q : Option Addr) (cap : Nat) (w : World) (his : (k.cs 64).Is w 0 5 k.len s) (hv : Cs.Shows w 0 3 (.slice q V.length cap) V.length (all V)) (hn : V.length ≤ 1048576) (hat0 : isAt V nm = true) :
    Calls Tryz.prog 106 #[.agg #[.int .i64 22, .int .i64 wd, .int .i64 n, .string nm, s], .slice q V.length cap] w (VrEnd w (addV V nm wd)) := by
  have hml : maxLen = 9223372036854775807 := rfl
  obtain ⟨_, ⟨_, q0, cap0, rfl, _⟩, _⟩ := his
  have HV := Lib.hid hv
  obtain ⟨hcap, hcm⟩ : V.length ≤ cap ∧ cap ≤ maxLen := by
    obtain ⟨_, q', c', h, h1, h2, _⟩ := hv
    cases h; exact ⟨h1, h2⟩
  obtain ⟨W1, hW1⟩ : ∃ W1, W1 = w.alloc (.cells #[.int .i64 22, .int .i64 wd, .int .i64 n, .string nm, .slice q0 k.len cap0] 64) := ⟨_, rfl⟩
  have HBW : Hid (Below w.heap.size w W1) := Lib.hid (by rw [hW1]; exact (Below.refl _ _).alloc (Nat.le_refl _) _)
  have hsW : w.heap.size < W1.heap.size := by rw [hW1]; simp
  have X1 : Hid (Cell5 W1 w.heap.size (.int .i64 22) (.int .i64 wd) (.int .i64 n) (.string nm) (.slice q0 k.len cap0)) := Lib.hid (by rw [hW1]; exact cell5_alloc _ _ _ _ _ _ _)
  have HI : Hid (∀ j, j < V.length → ∃ b o r, q = some ⟨b, o, none⟩ ∧ b < w.heap.size ∧ V[j]? = some r ∧ w.rangeAt b (o + j * 3) r.cells) := Lib.hid (fun j hj => by
    rcases Cs.shows_cases HV.out with ⟨h0, _⟩ | ⟨hpos, b, o, c, hq, _, _, hbl, hr⟩
    · omega
    · injection hq with e1 e2 e3
      exact ⟨b, o, _, e1, hbl, List.getElem?_eq_getElem hj, flat_nth ValueR.cells 3 (fun r => rfl) V j hj hr⟩)
  have HP := Lib.hid (fun i => pos_is V nm i)
  obtain ⟨res, hres⟩ : ∃ res, addV V nm wd = res := ⟨_, rfl⟩
  rw [hres]
  have HRES := Lib.hid hres
  clear hv hres
  go_enter Tryz.func106, Tryz.ntmps106
  go_wp2_with fail
  rw [← hW1]
  go_loopw [6] (fun i wr => ∃ j : Nat, j ≤ V.length ∧ i = .int .i64 j ∧ (∀ t r, t < j → V[t]? = some r → Op.bytesLess r.f0.toList nm.toList = true) ∧ Below W1.heap.size W1 wr) (fun i _ => V.length - (intOf i).toNat)
  case atStart => exact ⟨0, Nat.zero_le _, rfl, fun t r h => absurd h (Nat.not_lt_zero _), Below.refl _ _⟩
  case round =>
    clear hW1
    obtain ⟨j, hj, rfl, hlt, hb⟩ := hrel
    obtain ⟨x0, x1, x2, x3, x4⟩ := X1.out.below hb
    have HB := Lib.hid hb
    have hsz := hb.size
    have HL := Lib.hid hlt
    clear hlt
    by_cases hjn : j < V.length
    · obtain ⟨b, o, r, rfl, hbl, hr, hrr⟩ := HI.out j hjn
      have hrr := rangeAt_below (HBW.out.trans (hb.mono (by omega))) hrr
      have c0 : wr.cell? ⟨b, o + j * 3, none⟩ = some (.string r.f0) := hrr 0 _ rfl
      have c1 : wr.cell? ⟨b, o + j * 3 + 1, none⟩ = some (.int .i64 r.f1) := hrr 1 _ rfl
      have hjd : decide ((j : Int) < (V.length : Int)) = true := by simp; omega
      have HR := Lib.hid hr
      clear hrr hb hr
      cases hl : Op.bytesLess r.f0.toList nm.toList with
      | true =>
        go_wp2
        go_quiet (fail)
        go_wp2
        go_roundw
        case rel => exact ⟨j + 1, by omega, by go_num, fun t r' ht hr' => (by
          by_cases e : t = j
          · subst e; rw [HR.out] at hr'; cases hr'; exact hl
          · exact HL.out t r' (by omega) hr'), below_drewN HB.out _⟩
        case measure => simp [intOf]; omega
      | false =>
        have hpos : pos V nm = j := HP.out j HL.out hj (fun r' hr' => by rw [HR.out] at hr'; cases hr'; exact hl)
        have HPO := Lib.hid hpos
        clear hpos
        go_wp2
        go_quiet (fail)
        go_wp2
        have HB2 := Lib.hid (below_drewN HB.out nq)
        clear x0 x1 x2 x3 x4 c0 c1 HB
        generalize wr.drewN nq = wc at *
        obtain ⟨x0, x1, x2, x3, x4⟩ := X1.out.below HB2.out
        obtain ⟨b', o', r', e1, _, e2, hrr⟩ := HI.out j hjn
        cases e1
        rw [HR.out] at e2
        cases e2
        have hrr := rangeAt_below (HBW.out.trans (HB2.out.mono (by omega))) hrr
        have c0 : wc.cell? ⟨b, o + j * 3, none⟩ = some (.string r.f0) := hrr 0 _ rfl
        have c1 : wc.cell? ⟨b, o + j * 3 + 1, none⟩ = some (.int .i64 r.f1) := hrr 1 _ rfl
        clear hrr
        by_cases hq : r.f0 = nm
        · have hs2 : (r.f0.toList == nm.toList) = true := by rw [hq]; simp
          have hat : isAt V nm = true := by unfold isAt; rw [HPO.out, HR.out]; exact decide_eq_true hq
          have hadd : res = if r.f1 = wd then some V else none := by rw [← HRES.out]; unfold addV; rw [if_pos hat, HPO.out, HR.out]
          have HADD := Lib.hid hadd
          clear hadd hat hq
          go_wp2
          go_quiet (fail)
          go_wp2
          have HB3 := Lib.hid (below_drewN HB2.out nq)
          have hw3 := (Below.refl wc.heap.size wc)
          have c1 := ((below_drewN hw3 nq).cell (p := ⟨b, o + j * 3 + 1, none⟩) (by have := HB2.out.size; show b < wc.heap.size; omega)).trans c1
          have x1 := ((below_drewN hw3 nq).cell (p := ⟨w.heap.size, 1, none⟩) (by have := HB2.out.size; show w.heap.size < wc.heap.size; omega)).trans x1
          clear hw3 HB2
          generalize wc.drewN nq = wd3 at *
          by_cases hf : r.f1 = wd
          · have hfb : (r.f1 == wd) = true := by simpa using hf
            have HRS : Hid (res = some V) := Lib.hid (by rw [HADD.out, if_pos hf])
            clear hf
            go_quiet (fail)
            go_wp2
            go_ret2
            exact vr_some (HBW.out.trans ((below_drewN HB3.out _).mono (by omega))) HRS.out rfl (HV.out.below (HBW.out.trans ((below_drewN HB3.out _).mono (by omega))))
          · have hfb : (r.f1 == wd) = false := by simpa using hf
            have HRS : Hid (res = none) := Lib.hid (by rw [HADD.out, if_neg hf])
            clear hf
            go_quiet (fail)
            go_wp2
            go_ret2
            exact vr_none (HBW.out.trans ((below_drewN HB3.out _).mono (by omega))) HRS.out rfl
        · have hs2 : (r.f0.toList == nm.toList) = false := by
            simp only [beq_eq_false_iff_ne, ne_eq]
            exact fun e => hq (ba_ext e)
          have hno : isAt V nm = false := by unfold isAt; rw [HPO.out, HR.out]; exact decide_eq_false hq
          rw [hat0] at hno
          cases hno
    · have ej : j = V.length := by omega
      have hjd : decide ((j : Int) < (V.length : Int)) = false := by simp; omega
      have hpos : pos V nm = j := HP.out j HL.out hj (fun r' hr' => by rw [List.getElem?_eq_none (by omega)] at hr'; cases hr')
      have HPO := Lib.hid hpos
      clear hpos hb
      go_wp2
      go_quiet (fail)
      go_wp2
      have HB2 := Lib.hid (below_drewN HB.out nq)
      clear x0 x1 x2 x3 x4 HB
      generalize wr.drewN nq = wc at *
      obtain ⟨x0, x1, x2, x3, x4⟩ := X1.out.below HB2.out
      have hno : isAt V nm = false := by unfold isAt; rw [HPO.out, List.getElem?_eq_none (by omega)]
      rw [hat0] at hno
      cases hno
end Go.Proofs.YthmababifgaejaaGreatDoor
namespace Go.Proofs.YthmababifgaejaaGreatDoor
open Go.ChangeShapes Go.WideShapes Go.ChangeAt Go.RowKit
open ValueR (all costs)
set_option maxRecDepth 100000 in
set_option maxHeartbeats 4000000 in
theorem vars_add (V : List ValueR) (wd n : Int) (nm : ByteArray) (s : Value) (k : Fo) (q : Option Addr) (cap : Nat) (w : World) (his : (k.cs 64).Is w 0 5 k.len s) (hv : Cs.Shows w 0 3 (.slice q V.length cap) V.length (all V)) (hn : V.length ≤ 1048576) :
    Calls Tryz.prog 106 #[.agg #[.int .i64 22, .int .i64 wd, .int .i64 n, .string nm, s], .slice q V.length cap] w (VrEnd w (addV V nm wd)) := by
  obtain ⟨i0, hi0, hz0, hzs, hzb⟩ := info_parts zero_Value
  have hml : maxLen = 9223372036854775807 := rfl
  obtain ⟨_, ⟨_, q0, cap0, rfl, _⟩, _⟩ := his
  have HV := Lib.hid hv
  obtain ⟨hcap, hcm⟩ : V.length ≤ cap ∧ cap ≤ maxLen := by
    obtain ⟨_, q', c', h, h1, h2, _⟩ := hv
    cases h; exact ⟨h1, h2⟩
  have hqf : (q = none ∧ cap = 0 ∧ V = []) ∨ (∃ a, q = some a ∧ V = []) ∨ ∃ b o, q = some ⟨b, o, none⟩ ∧ 0 < V.length := by
    obtain ⟨_, q', c', h, _, _, h3, _⟩ := HV.out
    cases h
    rcases Cs.shows_cases HV.out with ⟨h0, _⟩ | ⟨h0, b, o, c, hq, _⟩
    · have hV := List.length_eq_zero_iff.1 h0
      cases q with
      | none => exact .inl ⟨rfl, h3 rfl, hV⟩
      | some a => exact .inr (.inl ⟨a, rfl, hV⟩)
    · injection hq with e _ _
      exact .inr (.inr ⟨b, o, e, h0⟩)
  obtain ⟨W1, hW1⟩ : ∃ W1, W1 = w.alloc (.cells #[.int .i64 22, .int .i64 wd, .int .i64 n, .string nm, .slice q0 k.len cap0] 64) := ⟨_, rfl⟩
  have HBW : Hid (Below w.heap.size w W1) := Lib.hid (by rw [hW1]; exact (Below.refl _ _).alloc (Nat.le_refl _) _)
  have hsW : w.heap.size < W1.heap.size := by rw [hW1]; simp
  have X1 : Hid (Cell5 W1 w.heap.size (.int .i64 22) (.int .i64 wd) (.int .i64 n) (.string nm) (.slice q0 k.len cap0)) := Lib.hid (by rw [hW1]; exact cell5_alloc _ _ _ _ _ _ _)
  have HI : Hid (∀ j, j < V.length → ∃ b o r, q = some ⟨b, o, none⟩ ∧ b < w.heap.size ∧ V[j]? = some r ∧ w.rangeAt b (o + j * 3) r.cells) := Lib.hid (fun j hj => by
    rcases Cs.shows_cases HV.out with ⟨h0, _⟩ | ⟨hpos, b, o, c, hq, _, _, hbl, hr⟩
    · omega
    · injection hq with e1 e2 e3
      exact ⟨b, o, _, e1, hbl, List.getElem?_eq_getElem hj, flat_nth ValueR.cells 3 (fun r => rfl) V j hj hr⟩)
  have HP := Lib.hid (fun i => pos_is V nm i)
  obtain ⟨res, hres⟩ : ∃ res, addV V nm wd = res := ⟨_, rfl⟩
  rw [hres]
  have HRES := Lib.hid hres
  clear hv hres
  go_enter Tryz.func106, Tryz.ntmps106
  go_wp2_with fail
  rw [← hW1]
  go_loopw [6] (fun i wr => ∃ j : Nat, j ≤ V.length ∧ i = .int .i64 j ∧ (∀ t r, t < j → V[t]? = some r → Op.bytesLess r.f0.toList nm.toList = true) ∧ Below W1.heap.size W1 wr) (fun i _ => V.length - (intOf i).toNat)
  case atStart => exact ⟨0, Nat.zero_le _, rfl, fun t r h => absurd h (Nat.not_lt_zero _), Below.refl _ _⟩
  case round =>
    clear hW1
    obtain ⟨j, hj, rfl, hlt, hb⟩ := hrel
    obtain ⟨x0, x1, x2, x3, x4⟩ := X1.out.below hb
    have HB := Lib.hid hb
    have hsz := hb.size
    have HL := Lib.hid hlt
    clear hlt
    by_cases hjn : j < V.length
    · obtain ⟨b, o, r, rfl, hbl, hr, hrr⟩ := HI.out j hjn
      have hrr := rangeAt_below (HBW.out.trans (hb.mono (by omega))) hrr
      have c0 : wr.cell? ⟨b, o + j * 3, none⟩ = some (.string r.f0) := hrr 0 _ rfl
      have c1 : wr.cell? ⟨b, o + j * 3 + 1, none⟩ = some (.int .i64 r.f1) := hrr 1 _ rfl
      have hjd : decide ((j : Int) < (V.length : Int)) = true := by simp; omega
      have HR := Lib.hid hr
      clear hrr hb hr
      cases hl : Op.bytesLess r.f0.toList nm.toList with
      | true =>
        go_wp2
        go_quiet (fail)
        go_wp2
        go_roundw
        case rel => exact ⟨j + 1, by omega, by go_num, fun t r' ht hr' => (by
          by_cases e : t = j
          · subst e; rw [HR.out] at hr'; cases hr'; exact hl
          · exact HL.out t r' (by omega) hr'), below_drewN HB.out _⟩
        case measure => simp [intOf]; omega
      | false =>
        have hpos : pos V nm = j := HP.out j HL.out hj (fun r' hr' => by rw [HR.out] at hr'; cases hr'; exact hl)
        have HPO := Lib.hid hpos
        clear hpos
        go_wp2
        go_quiet (fail)
        go_wp2
        have HB2 := Lib.hid (below_drewN HB.out nq)
        clear x0 x1 x2 x3 x4 c0 c1 HB
        generalize wr.drewN nq = wc at *
        obtain ⟨x0, x1, x2, x3, x4⟩ := X1.out.below HB2.out
        obtain ⟨b', o', r', e1, _, e2, hrr⟩ := HI.out j hjn
        cases e1
        rw [HR.out] at e2
        cases e2
        have hrr := rangeAt_below (HBW.out.trans (HB2.out.mono (by omega))) hrr
        have c0 : wc.cell? ⟨b, o + j * 3, none⟩ = some (.string r.f0) := hrr 0 _ rfl
        have c1 : wc.cell? ⟨b, o + j * 3 + 1, none⟩ = some (.int .i64 r.f1) := hrr 1 _ rfl
        clear hrr
        by_cases hq : r.f0 = nm
        · have hs2 : (r.f0.toList == nm.toList) = true := by rw [hq]; simp
          have hat : isAt V nm = true := by unfold isAt; rw [HPO.out, HR.out]; exact decide_eq_true hq
          have hadd : res = if r.f1 = wd then some V else none := by rw [← HRES.out]; unfold addV; rw [if_pos hat, HPO.out, HR.out]
          have HADD := Lib.hid hadd
          clear hadd hat hq
          go_wp2
          go_quiet (fail)
          go_wp2
          have HB3 := Lib.hid (below_drewN HB2.out nq)
          have hw3 := (Below.refl wc.heap.size wc)
          have c1 := ((below_drewN hw3 nq).cell (p := ⟨b, o + j * 3 + 1, none⟩) (by have := HB2.out.size; show b < wc.heap.size; omega)).trans c1
          have x1 := ((below_drewN hw3 nq).cell (p := ⟨w.heap.size, 1, none⟩) (by have := HB2.out.size; show w.heap.size < wc.heap.size; omega)).trans x1
          clear hw3 HB2
          generalize wc.drewN nq = wd3 at *
          by_cases hf : r.f1 = wd
          · have hfb : (r.f1 == wd) = true := by simpa using hf
            have HRS : Hid (res = some V) := Lib.hid (by rw [HADD.out, if_pos hf])
            clear hf
            go_quiet (fail)
            go_wp2
            go_ret2
            exact vr_some (HBW.out.trans ((below_drewN HB3.out _).mono (by omega))) HRS.out rfl (HV.out.below (HBW.out.trans ((below_drewN HB3.out _).mono (by omega))))
          · have hfb : (r.f1 == wd) = false := by simpa using hf
            have HRS : Hid (res = none) := Lib.hid (by rw [HADD.out, if_neg hf])
            clear hf
            go_quiet (fail)
            go_wp2
            go_ret2
            exact vr_none (HBW.out.trans ((below_drewN HB3.out _).mono (by omega))) HRS.out rfl
        · have hs2 : (r.f0.toList == nm.toList) = false := by
            simp only [beq_eq_false_iff_ne, ne_eq]
            exact fun e => hq (ba_ext e)
          have hno : isAt V nm = false := by unfold isAt; rw [HPO.out, HR.out]; exact decide_eq_false hq
          have hadd : res = some (V.take j ++ ⟨nm, wd, 0⟩ :: V.drop j) := by rw [← HRES.out]; unfold addV; rw [if_neg (by rw [hno]; simp), HPO.out]
          have HADD := Lib.hid hadd
          clear hadd hno
          go_wp2
          go_quiet (fail)
          have HB3 := Lib.hid (below_drewN HB2.out nq)
          clear x0 x1 x2 x3 x4 HB2 c0 c1
          generalize wc.drewN nq = ws at *
          obtain ⟨x0, x1, x2, x3, x4⟩ := X1.out.below HB3.out
          have hs3 := HB3.out.size
          have HO : Hid ((ws.alloc (.cells #[] 79)).ownsRow W1.heap.size 79 3 (.slice (some ⟨ws.heap.size, 0, none⟩) 0 0) 0 []) := Lib.hid ⟨rfl, .inr ⟨ws.heap.size, 0, #[], rfl, hs3, heap_alloc_new ws _, Nat.le_refl _, by omega, rfl, rfl⟩⟩
          have HBa := Lib.hid (HB3.out.alloc hs3 (.cells #[] 79))
          have hjc : j ≤ cap := by omega
          have hjm : j ≤ 1048576 := by omega
          have hl1 := all_len (V.take j)
          have hl2 := all_len (V.drop j)
          rw [List.length_take, show min j V.length = j by omega] at hl1
          rw [List.length_drop] at hl2
          have HC1 : Hid (0 < j → ∃ ad, (some (⟨b, o, none⟩ : Addr)) = some ad ∧ ∀ i u, (all (V.take j))[i]? = some u → (ws.alloc (.cells #[] 79)).cell? (ad.add i) = some u) := Lib.hid (fun h0 => by
            rcases Cs.shows_cases HV.out with ⟨h, _⟩ | ⟨_, b2, o2, c2, hq2, _, _, hbl2, hr2⟩
            · omega
            · injection hq2 with e _ _
              refine ⟨_, e, fun i u hu => ?_⟩
              rw [all_take V j hj] at hu
              have hi := (List.getElem?_eq_some_iff.1 hu).1
              rw [List.length_take] at hi
              rw [List.getElem?_take_of_lt (by omega)] at hu
              rw [Addr.add_mid]
              exact rangeAt_below (HBW.out.trans (HBa.out.mono (by omega))) hr2 i u hu)
          have HONE : Hid (∀ (L : List ValueR), ∀ u ∈ all L, u.oneCell' = true) := Lib.hid (fun L u hu => by
            unfold ValueR.all at hu
            obtain ⟨r0, _, h1⟩ := List.mem_flatMap.1 hu
            simp [ValueR.cells] at h1
            rcases h1 with rfl | rfl | rfl <;> rfl)
          go_wp2_with (at_builtin; refine wpList_append_shown rfl _ _ 56 rfl W1.heap.size 79 i0 (.agg #[.string ByteArray.empty, .int .i64 0, .int .i64 0]) 3 32 Tryz.underlying56 hi0 hz0 hzs hzb rfl (by decide) _ 0 [] rfl HO.out _ j cap (all (V.take j)) rfl ?c0w0 ?c1w0 ?c2w0 ?c3w0 ?c4w0 ?c5w0 ?_)
          case c0w0 => exact hl1
          case c1w0 => exact HC1.out
          case c2w0 => exact HONE.out _
          case c3w0 => unfold maxLen; omega
          case c4w0 => omega
          case c5w0 => simp; omega
          intro q3 c3 w3 ho3 hb3
          (try simp only [Nat.zero_add, List.nil_append] at ho3)
          have HO3 := Lib.hid ho3
          have HB4 := Lib.hid (HBa.out.trans hb3)
          clear x0 x1 x2 x3 x4 ho3 hb3 HO HBa HC1 HB3
          obtain ⟨x0, x1, x2, x3, x4⟩ := X1.out.below HB4.out
          have hs4 := HB4.out.size
          go_wp2_with (at_builtin; refine wpList_append_shown rfl _ _ 56 rfl W1.heap.size 79 i0 (.agg #[.string ByteArray.empty, .int .i64 0, .int .i64 0]) 3 32 Tryz.underlying56 hi0 hz0 hzs hzb rfl (by decide) _ j _ rfl (HO3.out.alloc _) _ 1 1 [.string nm, .int .i64 wd, .int .i64 0] rfl rfl ?d1w0 ?d2w0 ?d3w0 ?d4w0 ?d5w0 ?_)
          case d1w0 => exact fun _ => ⟨_, rfl, fun i u hu => by
            have hi := (List.getElem?_eq_some_iff.1 hu).1
            rw [Addr.add_mid, Nat.zero_add, cell_of_row _ _ _ _ _ _ (heap_alloc_new w3 _)]
            simpa using hu⟩
          case d2w0 => intro u hu; simp at hu; rcases hu with rfl | rfl | rfl <;> rfl
          case d3w0 => unfold maxLen; omega
          case d4w0 => omega
          case d5w0 => simp; omega
          intro q5 c5 w5 ho5 hb5
          (try simp only [Nat.zero_add] at ho5)
          have HO5 := Lib.hid ho5
          have HB6 := Lib.hid ((HB4.out.alloc hs4 (.cells #[.string nm, .int .i64 wd, .int .i64 0] 79)).trans hb5)
          clear x0 x1 x2 x3 x4 ho5 hb5 HB4 HO3
          have hs6 := HB6.out.size
          have hcj : ¬ (cap = j) := by omega
          have hlen : (V.take j ++ ⟨nm, wd, 0⟩ :: V.drop j : List ValueR).length = j + 1 + (V.length - j) := by simp only [List.length_append, List.length_take, List.length_cons, List.length_drop]; omega
          have hall : all (V.take j ++ ⟨nm, wd, 0⟩ :: V.drop j : List ValueR) = all (V.take j) ++ [.string nm, .int .i64 wd, .int .i64 0] ++ all (V.drop j) := by
            unfold ValueR.all
            simp [ValueR.cells]
          have HLEN := Lib.hid (And.intro hlen hall)
          clear hlen hall
          go_wp2_with (at_builtin; refine wpList_append_shown rfl _ _ 56 rfl W1.heap.size 79 i0 (.agg #[.string ByteArray.empty, .int .i64 0, .int .i64 0]) 3 32 Tryz.underlying56 hi0 hz0 hzs hzb rfl (by decide) _ (j + 1) _ rfl HO5.out _ (V.length - j) _ (all (V.drop j)) rfl ?e1w0 ?e2w0 ?e3w0 ?e4w0 ?e5w0 ?e6w0 ?_)
          case e1w0 => exact hl2
          case e2w0 => exact fun _ => ⟨_, rfl, fun i u hu => by
            rcases Cs.shows_cases HV.out with ⟨h, _⟩ | ⟨_, b2, o2, c2, hq2, _, _, hbl2, hr2⟩
            · omega
            · injection hq2 with e _ _
              cases e
              rw [all_drop V j hj, List.getElem?_drop] at hu
              rw [Addr.add_mid, Nat.add_assoc]
              exact rangeAt_below (HBW.out.trans (HB6.out.mono (by omega))) hr2 _ u hu⟩
          case e3w0 => exact HONE.out _
          case e4w0 => unfold maxLen; omega
          case e5w0 => omega
          case e6w0 => exact hs6
          intro q7 c7 w7 ho7 hb7
          have HO7 := Lib.hid ho7
          have HB8 := Lib.hid (HB6.out.trans hb7)
          clear ho7 hb7 HB6 HO5
          go_wp2
          go_ret2
          obtain ⟨hlen, hall⟩ := HLEN.out
          exact vr_some (HBW.out.trans (HB8.out.mono (by omega))) HADD.out (by rw [hlen]; rfl) (by rw [hlen, hall]; simpa using (Cs.shows_of_owns HO7.out).down (Nat.zero_le _))
    · have ej : j = V.length := by omega
      have hjd : decide ((j : Int) < (V.length : Int)) = false := by simp; omega
      have hpos : pos V nm = j := HP.out j HL.out hj (fun r' hr' => by rw [List.getElem?_eq_none (by omega)] at hr'; cases hr')
      have HPO := Lib.hid hpos
      clear hpos hb
      go_wp2
      go_quiet (fail)
      go_wp2
      have HB2 := Lib.hid (below_drewN HB.out nq)
      clear x0 x1 x2 x3 x4 HB
      generalize wr.drewN nq = wc at *
      obtain ⟨x0, x1, x2, x3, x4⟩ := X1.out.below HB2.out
      rcases hqf with ⟨rfl, rfl, rfl⟩ | ⟨a, rfl, rfl⟩ | ⟨b, o, rfl, hpo⟩
      · obtain rfl : j = 0 := ej
        have hno : isAt [] nm = false := by unfold isAt; rw [HPO.out, List.getElem?_eq_none (by omega)]
        have hadd : res = some (([] : List ValueR).take 0 ++ ⟨nm, wd, 0⟩ :: ([] : List ValueR).drop 0) := by rw [← HRES.out]; unfold addV; rw [if_neg (by rw [hno]; simp), HPO.out]
        have HADD := Lib.hid hadd
        clear hadd hno
        go_wp2
        go_quiet (fail)
        have HB3 := Lib.hid (below_drewN HB2.out nq)
        clear x0 x1 x2 x3 x4 HB2
        generalize wc.drewN nq = ws at *
        obtain ⟨x0, x1, x2, x3, x4⟩ := X1.out.below HB3.out
        have hs3 := HB3.out.size
        have HO : Hid ((ws.alloc (.cells #[] 79)).ownsRow W1.heap.size 79 3 (.slice (some ⟨ws.heap.size, 0, none⟩) 0 0) 0 []) := Lib.hid ⟨rfl, .inr ⟨ws.heap.size, 0, #[], rfl, hs3, heap_alloc_new ws _, Nat.le_refl _, by omega, rfl, rfl⟩⟩
        have HBa := Lib.hid (HB3.out.alloc hs3 (.cells #[] 79))
        have hjc : 0 ≤ 0 := by omega
        have hjm : 0 ≤ 1048576 := by omega
        have hl1 := all_len (([] : List ValueR).take 0)
        have hl2 := all_len (([] : List ValueR).drop 0)
        rw [List.length_take, show min 0 ([] : List ValueR).length = 0 by omega] at hl1
        rw [List.length_drop] at hl2
        have HC1 : Hid (0 < 0 → ∃ ad, (none : Option Addr) = some ad ∧ ∀ i u, (all (([] : List ValueR).take 0))[i]? = some u → (ws.alloc (.cells #[] 79)).cell? (ad.add i) = some u) := Lib.hid (fun h0 => by
          rcases Cs.shows_cases HV.out with ⟨h, _⟩ | ⟨_, b2, o2, c2, hq2, _, _, hbl2, hr2⟩
          · omega
          · injection hq2 with e _ _
            refine ⟨_, e, fun i u hu => ?_⟩
            rw [all_take [] 0 hj] at hu
            have hi := (List.getElem?_eq_some_iff.1 hu).1
            rw [List.length_take] at hi
            rw [List.getElem?_take_of_lt (by omega)] at hu
            rw [Addr.add_mid]
            exact rangeAt_below (HBW.out.trans (HBa.out.mono (by omega))) hr2 i u hu)
        have HONE : Hid (∀ (L : List ValueR), ∀ u ∈ all L, u.oneCell' = true) := Lib.hid (fun L u hu => by
          unfold ValueR.all at hu
          obtain ⟨r0, _, h1⟩ := List.mem_flatMap.1 hu
          simp [ValueR.cells] at h1
          rcases h1 with rfl | rfl | rfl <;> rfl)
        go_wp2_with (at_builtin; refine wpList_append_shown rfl _ _ 56 rfl W1.heap.size 79 i0 (.agg #[.string ByteArray.empty, .int .i64 0, .int .i64 0]) 3 32 Tryz.underlying56 hi0 hz0 hzs hzb rfl (by decide) _ 0 [] rfl HO.out _ 0 0 (all (([] : List ValueR).take 0)) rfl ?c0w1 ?c1w1 ?c2w1 ?c3w1 ?c4w1 ?c5w1 ?_)
        case c0w1 => exact hl1
        case c1w1 => exact HC1.out
        case c2w1 => exact HONE.out _
        case c3w1 => unfold maxLen; omega
        case c4w1 => omega
        case c5w1 => simp; omega
        intro q3 c3 w3 ho3 hb3
        (try simp only [Nat.zero_add, List.nil_append] at ho3)
        have HO3 := Lib.hid ho3
        have HB4 := Lib.hid (HBa.out.trans hb3)
        clear x0 x1 x2 x3 x4 ho3 hb3 HO HBa HC1 HB3
        obtain ⟨x0, x1, x2, x3, x4⟩ := X1.out.below HB4.out
        have hs4 := HB4.out.size
        go_wp2_with (at_builtin; refine wpList_append_shown rfl _ _ 56 rfl W1.heap.size 79 i0 (.agg #[.string ByteArray.empty, .int .i64 0, .int .i64 0]) 3 32 Tryz.underlying56 hi0 hz0 hzs hzb rfl (by decide) _ 0 _ rfl (HO3.out.alloc _) _ 1 1 [.string nm, .int .i64 wd, .int .i64 0] rfl rfl ?d1w1 ?d2w1 ?d3w1 ?d4w1 ?d5w1 ?_)
        case d1w1 => exact fun _ => ⟨_, rfl, fun i u hu => by
          have hi := (List.getElem?_eq_some_iff.1 hu).1
          rw [Addr.add_mid, Nat.zero_add, cell_of_row _ _ _ _ _ _ (heap_alloc_new w3 _)]
          simpa using hu⟩
        case d2w1 => intro u hu; simp at hu; rcases hu with rfl | rfl | rfl <;> rfl
        case d3w1 => unfold maxLen; omega
        case d4w1 => omega
        case d5w1 => simp; omega
        intro q5 c5 w5 ho5 hb5
        (try simp only [Nat.zero_add] at ho5)
        have HO5 := Lib.hid ho5
        have HB6 := Lib.hid ((HB4.out.alloc hs4 (.cells #[.string nm, .int .i64 wd, .int .i64 0] 79)).trans hb5)
        clear x0 x1 x2 x3 x4 ho5 hb5 HB4 HO3
        have hs6 := HB6.out.size
        skip
        have hlen : (([] : List ValueR).take 0 ++ ⟨nm, wd, 0⟩ :: ([] : List ValueR).drop 0 : List ValueR).length = 1 := by rfl
        have hall : all (([] : List ValueR).take 0 ++ ⟨nm, wd, 0⟩ :: ([] : List ValueR).drop 0 : List ValueR) = all (([] : List ValueR).take 0) ++ [.string nm, .int .i64 wd, .int .i64 0] ++ [] := by
          unfold ValueR.all
          simp [ValueR.cells]
        have HLEN := Lib.hid (And.intro hlen hall)
        clear hlen hall
        go_wp2_with (at_builtin; refine wpList_append_shown rfl _ _ 56 rfl W1.heap.size 79 i0 (.agg #[.string ByteArray.empty, .int .i64 0, .int .i64 0]) 3 32 Tryz.underlying56 hi0 hz0 hzs hzb rfl (by decide) _ 1 _ rfl HO5.out _ 0 _ ([]) rfl ?e1w1 ?e2w1 ?e3w1 ?e4w1 ?e5w1 ?e6w1 ?_)
        case e1w1 => rfl
        case e2w1 => exact fun h => absurd h (Nat.lt_irrefl 0)
        case e3w1 => exact fun u hu => by cases hu
        case e4w1 => unfold maxLen; omega
        case e5w1 => omega
        case e6w1 => exact hs6
        intro q7 c7 w7 ho7 hb7
        have HO7 := Lib.hid ho7
        have HB8 := Lib.hid (HB6.out.trans hb7)
        clear ho7 hb7 HB6 HO5
        go_wp2
        go_ret2
        obtain ⟨hlen, hall⟩ := HLEN.out
        exact vr_some (HBW.out.trans (HB8.out.mono (by omega))) HADD.out (by rw [hlen]; rfl) (by rw [hlen, hall]; simpa using (Cs.shows_of_owns HO7.out).down (Nat.zero_le _))
      · obtain rfl : j = 0 := ej
        have hno : isAt [] nm = false := by unfold isAt; rw [HPO.out, List.getElem?_eq_none (by omega)]
        have hadd : res = some (([] : List ValueR).take 0 ++ ⟨nm, wd, 0⟩ :: ([] : List ValueR).drop 0) := by rw [← HRES.out]; unfold addV; rw [if_neg (by rw [hno]; simp), HPO.out]
        have HADD := Lib.hid hadd
        clear hadd hno
        go_wp2
        go_quiet (fail)
        have HB3 := Lib.hid (below_drewN HB2.out nq)
        clear x0 x1 x2 x3 x4 HB2
        generalize wc.drewN nq = ws at *
        obtain ⟨x0, x1, x2, x3, x4⟩ := X1.out.below HB3.out
        have hs3 := HB3.out.size
        have HO : Hid ((ws.alloc (.cells #[] 79)).ownsRow W1.heap.size 79 3 (.slice (some ⟨ws.heap.size, 0, none⟩) 0 0) 0 []) := Lib.hid ⟨rfl, .inr ⟨ws.heap.size, 0, #[], rfl, hs3, heap_alloc_new ws _, Nat.le_refl _, by omega, rfl, rfl⟩⟩
        have HBa := Lib.hid (HB3.out.alloc hs3 (.cells #[] 79))
        have hjc : 0 ≤ cap := by omega
        have hjm : 0 ≤ 1048576 := by omega
        have hl1 := all_len (([] : List ValueR).take 0)
        have hl2 := all_len (([] : List ValueR).drop 0)
        rw [List.length_take, show min 0 ([] : List ValueR).length = 0 by omega] at hl1
        rw [List.length_drop] at hl2
        have HC1 : Hid (0 < 0 → ∃ ad, (some a) = some ad ∧ ∀ i u, (all (([] : List ValueR).take 0))[i]? = some u → (ws.alloc (.cells #[] 79)).cell? (ad.add i) = some u) := Lib.hid (fun h0 => by
          rcases Cs.shows_cases HV.out with ⟨h, _⟩ | ⟨_, b2, o2, c2, hq2, _, _, hbl2, hr2⟩
          · omega
          · injection hq2 with e _ _
            refine ⟨_, e, fun i u hu => ?_⟩
            rw [all_take [] 0 hj] at hu
            have hi := (List.getElem?_eq_some_iff.1 hu).1
            rw [List.length_take] at hi
            rw [List.getElem?_take_of_lt (by omega)] at hu
            rw [Addr.add_mid]
            exact rangeAt_below (HBW.out.trans (HBa.out.mono (by omega))) hr2 i u hu)
        have HONE : Hid (∀ (L : List ValueR), ∀ u ∈ all L, u.oneCell' = true) := Lib.hid (fun L u hu => by
          unfold ValueR.all at hu
          obtain ⟨r0, _, h1⟩ := List.mem_flatMap.1 hu
          simp [ValueR.cells] at h1
          rcases h1 with rfl | rfl | rfl <;> rfl)
        go_wp2_with (at_builtin; refine wpList_append_shown rfl _ _ 56 rfl W1.heap.size 79 i0 (.agg #[.string ByteArray.empty, .int .i64 0, .int .i64 0]) 3 32 Tryz.underlying56 hi0 hz0 hzs hzb rfl (by decide) _ 0 [] rfl HO.out _ 0 cap (all (([] : List ValueR).take 0)) rfl ?c0w2 ?c1w2 ?c2w2 ?c3w2 ?c4w2 ?c5w2 ?_)
        case c0w2 => exact hl1
        case c1w2 => exact HC1.out
        case c2w2 => exact HONE.out _
        case c3w2 => unfold maxLen; omega
        case c4w2 => omega
        case c5w2 => simp; omega
        intro q3 c3 w3 ho3 hb3
        (try simp only [Nat.zero_add, List.nil_append] at ho3)
        have HO3 := Lib.hid ho3
        have HB4 := Lib.hid (HBa.out.trans hb3)
        clear x0 x1 x2 x3 x4 ho3 hb3 HO HBa HC1 HB3
        obtain ⟨x0, x1, x2, x3, x4⟩ := X1.out.below HB4.out
        have hs4 := HB4.out.size
        go_wp2_with (at_builtin; refine wpList_append_shown rfl _ _ 56 rfl W1.heap.size 79 i0 (.agg #[.string ByteArray.empty, .int .i64 0, .int .i64 0]) 3 32 Tryz.underlying56 hi0 hz0 hzs hzb rfl (by decide) _ 0 _ rfl (HO3.out.alloc _) _ 1 1 [.string nm, .int .i64 wd, .int .i64 0] rfl rfl ?d1w2 ?d2w2 ?d3w2 ?d4w2 ?d5w2 ?_)
        case d1w2 => exact fun _ => ⟨_, rfl, fun i u hu => by
          have hi := (List.getElem?_eq_some_iff.1 hu).1
          rw [Addr.add_mid, Nat.zero_add, cell_of_row _ _ _ _ _ _ (heap_alloc_new w3 _)]
          simpa using hu⟩
        case d2w2 => intro u hu; simp at hu; rcases hu with rfl | rfl | rfl <;> rfl
        case d3w2 => unfold maxLen; omega
        case d4w2 => omega
        case d5w2 => simp; omega
        intro q5 c5 w5 ho5 hb5
        (try simp only [Nat.zero_add] at ho5)
        have HO5 := Lib.hid ho5
        have HB6 := Lib.hid ((HB4.out.alloc hs4 (.cells #[.string nm, .int .i64 wd, .int .i64 0] 79)).trans hb5)
        clear x0 x1 x2 x3 x4 ho5 hb5 HB4 HO3
        have hs6 := HB6.out.size
        skip
        have hlen : (([] : List ValueR).take 0 ++ ⟨nm, wd, 0⟩ :: ([] : List ValueR).drop 0 : List ValueR).length = 1 := by rfl
        have hall : all (([] : List ValueR).take 0 ++ ⟨nm, wd, 0⟩ :: ([] : List ValueR).drop 0 : List ValueR) = all (([] : List ValueR).take 0) ++ [.string nm, .int .i64 wd, .int .i64 0] ++ [] := by
          unfold ValueR.all
          simp [ValueR.cells]
        have HLEN := Lib.hid (And.intro hlen hall)
        clear hlen hall
        go_wp2_with (at_builtin; refine wpList_append_shown rfl _ _ 56 rfl W1.heap.size 79 i0 (.agg #[.string ByteArray.empty, .int .i64 0, .int .i64 0]) 3 32 Tryz.underlying56 hi0 hz0 hzs hzb rfl (by decide) _ 1 _ rfl HO5.out _ 0 _ ([]) rfl ?e1w2 ?e2w2 ?e3w2 ?e4w2 ?e5w2 ?e6w2 ?_)
        case e1w2 => rfl
        case e2w2 => exact fun h => absurd h (Nat.lt_irrefl 0)
        case e3w2 => exact fun u hu => by cases hu
        case e4w2 => unfold maxLen; omega
        case e5w2 => omega
        case e6w2 => exact hs6
        intro q7 c7 w7 ho7 hb7
        have HO7 := Lib.hid ho7
        have HB8 := Lib.hid (HB6.out.trans hb7)
        clear ho7 hb7 HB6 HO5
        go_wp2
        go_ret2
        obtain ⟨hlen, hall⟩ := HLEN.out
        exact vr_some (HBW.out.trans (HB8.out.mono (by omega))) HADD.out (by rw [hlen]; rfl) (by rw [hlen, hall]; simpa using (Cs.shows_of_owns HO7.out).down (Nat.zero_le _))
      · have hc0 : ¬ (cap = 0) := by omega
        have hje := Lib.hid ej
        have hno : isAt V nm = false := by unfold isAt; rw [HPO.out, List.getElem?_eq_none (by omega)]
        have hadd : res = some (V.take j ++ ⟨nm, wd, 0⟩ :: V.drop j) := by rw [← HRES.out]; unfold addV; rw [if_neg (by rw [hno]; simp), HPO.out]
        have HADD := Lib.hid hadd
        clear hadd hno ej
        go_wp2
        go_quiet (fail)
        have HB3 := Lib.hid (below_drewN HB2.out nq)
        clear x0 x1 x2 x3 x4 HB2
        generalize wc.drewN nq = ws at *
        obtain ⟨x0, x1, x2, x3, x4⟩ := X1.out.below HB3.out
        have hs3 := HB3.out.size
        have HO : Hid ((ws.alloc (.cells #[] 79)).ownsRow W1.heap.size 79 3 (.slice (some ⟨ws.heap.size, 0, none⟩) 0 0) 0 []) := Lib.hid ⟨rfl, .inr ⟨ws.heap.size, 0, #[], rfl, hs3, heap_alloc_new ws _, Nat.le_refl _, by omega, rfl, rfl⟩⟩
        have HBa := Lib.hid (HB3.out.alloc hs3 (.cells #[] 79))
        have hjc : j ≤ cap := by omega
        have hjm : j ≤ 1048576 := by omega
        have hl1 := all_len (V.take j)
        have hl2 := all_len (V.drop j)
        rw [List.length_take, show min j V.length = j by omega] at hl1
        rw [List.length_drop] at hl2
        have HC1 : Hid (0 < j → ∃ ad, (some (⟨b, o, none⟩ : Addr)) = some ad ∧ ∀ i u, (all (V.take j))[i]? = some u → (ws.alloc (.cells #[] 79)).cell? (ad.add i) = some u) := Lib.hid (fun h0 => by
          rcases Cs.shows_cases HV.out with ⟨h, _⟩ | ⟨_, b2, o2, c2, hq2, _, _, hbl2, hr2⟩
          · omega
          · injection hq2 with e _ _
            refine ⟨_, e, fun i u hu => ?_⟩
            rw [all_take V j hj] at hu
            have hi := (List.getElem?_eq_some_iff.1 hu).1
            rw [List.length_take] at hi
            rw [List.getElem?_take_of_lt (by omega)] at hu
            rw [Addr.add_mid]
            exact rangeAt_below (HBW.out.trans (HBa.out.mono (by omega))) hr2 i u hu)
        have HONE : Hid (∀ (L : List ValueR), ∀ u ∈ all L, u.oneCell' = true) := Lib.hid (fun L u hu => by
          unfold ValueR.all at hu
          obtain ⟨r0, _, h1⟩ := List.mem_flatMap.1 hu
          simp [ValueR.cells] at h1
          rcases h1 with rfl | rfl | rfl <;> rfl)
        go_wp2_with (at_builtin; refine wpList_append_shown rfl _ _ 56 rfl W1.heap.size 79 i0 (.agg #[.string ByteArray.empty, .int .i64 0, .int .i64 0]) 3 32 Tryz.underlying56 hi0 hz0 hzs hzb rfl (by decide) _ 0 [] rfl HO.out _ j cap (all (V.take j)) rfl ?c0w3 ?c1w3 ?c2w3 ?c3w3 ?c4w3 ?c5w3 ?_)
        case c0w3 => exact hl1
        case c1w3 => exact HC1.out
        case c2w3 => exact HONE.out _
        case c3w3 => unfold maxLen; omega
        case c4w3 => omega
        case c5w3 => simp; omega
        intro q3 c3 w3 ho3 hb3
        (try simp only [Nat.zero_add, List.nil_append] at ho3)
        have HO3 := Lib.hid ho3
        have HB4 := Lib.hid (HBa.out.trans hb3)
        clear x0 x1 x2 x3 x4 ho3 hb3 HO HBa HC1 HB3
        obtain ⟨x0, x1, x2, x3, x4⟩ := X1.out.below HB4.out
        have hs4 := HB4.out.size
        go_wp2_with (at_builtin; refine wpList_append_shown rfl _ _ 56 rfl W1.heap.size 79 i0 (.agg #[.string ByteArray.empty, .int .i64 0, .int .i64 0]) 3 32 Tryz.underlying56 hi0 hz0 hzs hzb rfl (by decide) _ j _ rfl (HO3.out.alloc _) _ 1 1 [.string nm, .int .i64 wd, .int .i64 0] rfl rfl ?d1w3 ?d2w3 ?d3w3 ?d4w3 ?d5w3 ?_)
        case d1w3 => exact fun _ => ⟨_, rfl, fun i u hu => by
          have hi := (List.getElem?_eq_some_iff.1 hu).1
          rw [Addr.add_mid, Nat.zero_add, cell_of_row _ _ _ _ _ _ (heap_alloc_new w3 _)]
          simpa using hu⟩
        case d2w3 => intro u hu; simp at hu; rcases hu with rfl | rfl | rfl <;> rfl
        case d3w3 => unfold maxLen; omega
        case d4w3 => omega
        case d5w3 => simp; omega
        intro q5 c5 w5 ho5 hb5
        (try simp only [Nat.zero_add] at ho5)
        have HO5 := Lib.hid ho5
        have HB6 := Lib.hid ((HB4.out.alloc hs4 (.cells #[.string nm, .int .i64 wd, .int .i64 0] 79)).trans hb5)
        clear x0 x1 x2 x3 x4 ho5 hb5 HB4 HO3
        have hs6 := HB6.out.size
        by_cases hcj : cap = j
        · have hlen : (V.take j ++ ⟨nm, wd, 0⟩ :: V.drop j : List ValueR).length = j + 1 + (V.length - j) := by simp only [List.length_append, List.length_take, List.length_cons, List.length_drop]; omega
          have hall : all (V.take j ++ ⟨nm, wd, 0⟩ :: V.drop j : List ValueR) = all (V.take j) ++ [.string nm, .int .i64 wd, .int .i64 0] ++ all (V.drop j) := by
            unfold ValueR.all
            simp [ValueR.cells]
          have HLEN := Lib.hid (And.intro hlen hall)
          clear hlen hall
          go_wp2_with (at_builtin; refine wpList_append_shown rfl _ _ 56 rfl W1.heap.size 79 i0 (.agg #[.string ByteArray.empty, .int .i64 0, .int .i64 0]) 3 32 Tryz.underlying56 hi0 hz0 hzs hzb rfl (by decide) _ (j + 1) _ rfl HO5.out _ (V.length - j) _ (all (V.drop j)) rfl ?e1w3 ?e2w3 ?e3w3 ?e4w3 ?e5w3 ?e6w3 ?_)
          case e1w3 => exact hl2
          case e2w3 => exact fun h => by have := hje.out; omega
          case e3w3 => exact HONE.out _
          case e4w3 => unfold maxLen; omega
          case e5w3 => omega
          case e6w3 => exact hs6
          intro q7 c7 w7 ho7 hb7
          have HO7 := Lib.hid ho7
          have HB8 := Lib.hid (HB6.out.trans hb7)
          clear ho7 hb7 HB6 HO5
          go_wp2
          go_ret2
          obtain ⟨hlen, hall⟩ := HLEN.out
          exact vr_some (HBW.out.trans (HB8.out.mono (by omega))) HADD.out (by rw [hlen]; rfl) (by rw [hlen, hall]; simpa using (Cs.shows_of_owns HO7.out).down (Nat.zero_le _))
        · have hlen : (V.take j ++ ⟨nm, wd, 0⟩ :: V.drop j : List ValueR).length = j + 1 + (V.length - j) := by simp only [List.length_append, List.length_take, List.length_cons, List.length_drop]; omega
          have hall : all (V.take j ++ ⟨nm, wd, 0⟩ :: V.drop j : List ValueR) = all (V.take j) ++ [.string nm, .int .i64 wd, .int .i64 0] ++ all (V.drop j) := by
            unfold ValueR.all
            simp [ValueR.cells]
          have HLEN := Lib.hid (And.intro hlen hall)
          clear hlen hall
          go_wp2_with (at_builtin; refine wpList_append_shown rfl _ _ 56 rfl W1.heap.size 79 i0 (.agg #[.string ByteArray.empty, .int .i64 0, .int .i64 0]) 3 32 Tryz.underlying56 hi0 hz0 hzs hzb rfl (by decide) _ (j + 1) _ rfl HO5.out _ (V.length - j) _ (all (V.drop j)) rfl ?e1w4 ?e2w4 ?e3w4 ?e4w4 ?e5w4 ?e6w4 ?_)
          case e1w4 => exact hl2
          case e2w4 => exact fun h => by have := hje.out; omega
          case e3w4 => exact HONE.out _
          case e4w4 => unfold maxLen; omega
          case e5w4 => omega
          case e6w4 => exact hs6
          intro q7 c7 w7 ho7 hb7
          have HO7 := Lib.hid ho7
          have HB8 := Lib.hid (HB6.out.trans hb7)
          clear ho7 hb7 HB6 HO5
          go_wp2
          go_ret2
          obtain ⟨hlen, hall⟩ := HLEN.out
          exact vr_some (HBW.out.trans (HB8.out.mono (by omega))) HADD.out (by rw [hlen]; rfl) (by rw [hlen, hall]; simpa using (Cs.shows_of_owns HO7.out).down (Nat.zero_le _))
end Go.Proofs.YthmababifgaejaaGreatDoor
namespace Go.Proofs.YthmababifgaejaaGreatDoor
open Go.ChangeShapes Go.WideShapes Go.ChangeAt Go.RowKit
open ValueR (all costs)
def VarsC (k : Fo) : Prop := ∀ (op wd n : Int) (nm : ByteArray) (s : Value) (V : List ValueR) (q : Option Addr) (cap : Nat) (w : World), (k.cs 64).Is w 0 5 k.len s → Cs.Shows w 0 3 (.slice q V.length cap) V.length (all V) → V.length + k.nodes ≤ 1048576 →
  Calls Tryz.prog 106 #[.agg #[.int .i64 op, .int .i64 wd, .int .i64 n, .string nm, s], .slice q V.length cap] w (VrEnd w (varsOne op wd nm k V))
theorem vars_len : ∀ (F : Fo) (V V' : List ValueR), F.vars V = some V' → V'.length ≤ V.length + F.nodes
  | .nil, V, V', h => by cases h; exact Nat.le_refl _
  | .cons op wd n nm k r, V, V', h => by
    unfold Fo.vars at h
    obtain ⟨V1, h1, h2⟩ := Option.bind_eq_some_iff.1 h
    have h3 := vars_len r V1 V' h2
    simp only [Fo.nodes]
    split at h1
    · have := addV_len h1; omega
    · have := vars_len k V V1 h1; omega
theorem varsOne_len {op wd : Int} {nm : ByteArray} {k : Fo} {V V' : List ValueR} (h : varsOne op wd nm k V = some V') : V'.length ≤ V.length + (1 + k.nodes) := by
  unfold varsOne at h
  split at h
  · have := addV_len h; omega
  · have := vars_len k V V' h; omega
set_option maxRecDepth 100000 in
set_option maxHeartbeats 4000000 in
theorem vars_loop (F : Fo) (hF : F.AllK VarsC) : VarsC F := by
  intro op0 wd0 n0 nm0 v V q cap w hv hl hn
  have hFl := F.len_le
  have hFb : F.len ≤ 1048576 := by omega
  by_cases h22 : op0 = 22
  · subst h22
    have e : varsOne 22 wd0 nm0 F V = addV V nm0 wd0 := rfl
    rw [e]
    exact vars_add V wd0 n0 nm0 v F q cap w hv hl (by omega)
  · have e : varsOne op0 wd0 nm0 F V = F.vars V := by unfold varsOne; rw [if_neg h22]
    rw [e]
    have h22b : ((op0 : Int) == 22) = false := by simpa using h22
    have HV := Lib.hid hv
    have HL := Lib.hid hl
    rcases Fo.is_cases hv with ⟨h0, q1, cap1, rfl⟩ | ⟨hpos, b, o, cap1, ys, rfl, _, _, _, hbl, hvs, hr⟩
    · have hnil : F = .nil := by cases F with | nil => rfl | cons => simp [Fo.len] at h0
      subst hnil
      clear hF hv hl h0 e h22
      go_enter Tryz.func106, Tryz.ntmps106
      go_wp2
      refine wp_loop_rounds 1 ?_
      rw [rounds_succ]
      go_wp2
      go_ret2
      exact vr_some ((Below.refl _ _).alloc (Nat.le_refl _) _) rfl rfl (HL.out.below ((Below.refl _ _).alloc (Nat.le_refl _) _))
    · have HI := Lib.hid (fun j (hj : j < F.len) => Fo.nth F hvs hr j hj)
      have HK := Lib.hid hF
      have HD := Lib.hid F.drop_all
      have HD0 := Lib.hid F.drop_zero
      obtain ⟨res, hres⟩ : ∃ res, F.vars V = res := ⟨_, rfl⟩
      have HR := Lib.hid hres
      rw [hres]
      clear hF hv hl hvs hr e h22 hres
      go_enter Tryz.func106, Tryz.ntmps106
      go_wp2
      go_loopw [1, 75] (fun l i wr => ∃ (j : Nat) (Vj : List ValueR) (qj : Option Addr) (cj : Nat), j ≤ F.len ∧ i = .int .i64 j ∧ l = .slice qj Vj.length cj ∧ (F.drop j).vars Vj = res ∧ Cs.Shows wr 0 3 (.slice qj Vj.length cj) Vj.length (all Vj) ∧ Below w.heap.size w wr ∧ Vj.length + (F.drop j).nodes ≤ 1048576) (fun _ i _ => F.len - (intOf i).toNat)
      case atStart => exact ⟨0, V, q, cap, Nat.zero_le _, rfl, rfl, by rw [HD0.out]; exact HR.out, HL.out.below ((Below.refl _ _).alloc (Nat.le_refl _) _), (Below.refl _ _).alloc (Nat.le_refl _) _, by rw [HD0.out]; omega⟩
      case round =>
        obtain ⟨j, Vj, qj, cj, hj, rfl, rfl, hacc, hsh, hb, hbd⟩ := hrel
        by_cases hjn : j < F.len
        · obtain ⟨op, wd, n, nm, k, v, hat, his, hrr⟩ := HI.out j hjn
          rw [vars_drop F j hat] at hacc
          obtain ⟨hn1, hn2⟩ := Fo.at_nodes F j hat
          have hk := Fo.at_allK F j hat HK.out
          have his := his.below hb
          have hrr := rangeAt_below hb hrr
          have HIS := Lib.hid his
          obtain ⟨_, ⟨_, q', cap2, rfl, _⟩, _⟩ := his
          have c0 : wr.cell? ⟨b, o + j * 5, none⟩ = some (.int .i64 op) := hrr 0 _ rfl
          have c1 : wr.cell? ⟨b, o + j * 5 + 1, none⟩ = some (.int .i64 wd) := hrr 1 _ rfl
          have c2 : wr.cell? ⟨b, o + j * 5 + 2, none⟩ = some (.int .i64 n) := hrr 2 _ rfl
          have c3 : wr.cell? ⟨b, o + j * 5 + 3, none⟩ = some (.string nm) := hrr 3 _ rfl
          have c4 : wr.cell? ⟨b, o + j * 5 + 4, none⟩ = some (.slice q' k.len cap2) := hrr 4 _ rfl
          have SO := Lib.hid (fun W (hW : Below wr.heap.size wr W) => hk op wd n nm _ Vj qj cj W (HIS.out.below hW) (hsh.below hW) (by omega))
          unfold VrEnd at SO
          have HB := Lib.hid hb
          have hsz := hb.size
          have hki : (j : Int) < (F.len : Int) := by omega
          have HLEN := Lib.hid (fun V' (h : varsOne op wd nm k Vj = some V') => varsOne_len h)
          have HN := Lib.hid (And.intro hbd hn1)
          clear hb hrr hat hk hn1 hn2 HIS HI hsh hbd
          cases ho : varsOne op wd nm k Vj with
          | none =>
            rw [ho] at SO hacc
            dsimp only at SO
            have HRN : Hid (res = none) := Lib.hid hacc.symm
            clear hacc ho
            go_wp2_with (go_at_call 106; refine (SO.out _ ((Below.refl _ _).alloc (Nat.le_refl _) _)).mono ?_; rintro e w3 ⟨hb3, vx, rfl⟩)
            go_ret2
            exact vr_none (HB.out.trans (((Below.refl wr.heap.size wr).alloc (Nat.le_refl _) _ |>.trans (hb3.mono (by simp))).mono hsz)) HRN.out rfl
          | some V' =>
            have HL' := Lib.hid (HLEN.out V' ho)
            rw [ho] at SO hacc
            dsimp only at SO
            have HRN : Hid ((F.drop (j + 1)).vars V' = res) := Lib.hid hacc
            clear hacc ho
            go_wp2_with (go_at_call 106; refine (SO.out _ ((Below.refl _ _).alloc (Nat.le_refl _) _)).mono ?_; rintro e w3 ⟨hb3, q3, c3, rfl, hs3⟩)
            go_roundw
            case rel => exact ⟨j + 1, V', q3, c3, by omega, by go_num, rfl, HRN.out, hs3, HB.out.trans (((Below.refl wr.heap.size wr).alloc (Nat.le_refl _) _ |>.trans (hb3.mono (by simp))).mono hsz), by have := HN.out; have := HL'.out; omega⟩
            case measure => simp [intOf]; omega
        · have ej : j = F.len := by omega
          have HA : Hid (res = some Vj) := Lib.hid (by rw [← hacc, ej, HD.out]; rfl)
          have HB := Lib.hid hb
          have HS := Lib.hid hsh
          have hnj : ¬ ((j : Int) < (F.len : Int)) := by omega
          clear hb hsh hacc hbd ej
          go_wp2
          go_ret2
          exact vr_some HB.out HA.out rfl HS.out
theorem vars_any : ∀ F : Fo, VarsC F := Fo.every vars_loop
end Go.Proofs.YthmababifgaejaaGreatDoor
