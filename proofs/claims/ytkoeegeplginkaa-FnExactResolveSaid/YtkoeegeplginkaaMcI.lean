/- What the program's MakeClause returns: the list is sorted, what stands twice is left out, and what is left is looked at. No condition. -/
import Derived.Test.YtkoeegeplginkaaMcS
import Derived.Test.YtkoeegeplginkaaCmpT
import Derived.Test.YtkoeegeplginkaaSortNone
import Derived.Lib.OwnBridge
import Derived.Shelf.SlSortCmp.Whole1
namespace Go.Proofs.Ytkoeegeplginkaa
open Go.ChangeShapes Go.WideShapes Go.ChangeAt Go.RowKit
/-- literals of the most variables that there may be -/
structure Lit where
  val : Int
  lo : -400 ≤ val
  hi : val ≤ 400
instance : Inhabited Lit := ⟨⟨0, by omega, by omega⟩⟩
def litV (x : Lit) : Value := .int .i64 x.val
def orI (a b : Int) : Int := if a = 0 then b else a
def litC (x y : Lit) : Int := orI (sgn (iabs x.val) (iabs y.val)) (sgn x.val y.val)
theorem lt_lit (x y : Lit) : ltOf litC x y = lexB x.val y.val := by
  unfold ltOf litC orI
  obtain ⟨x, hx1, hx2⟩ := x
  obtain ⟨y, hy1, hy2⟩ := y
  show decide ((if sgn (iabs x) (iabs y) = 0 then sgn x y else sgn (iabs x) (iabs y)) < 0) = lexB x y
  rcases sgn_cases (iabs x) (iabs y) with ⟨h1, h2⟩ | ⟨h1, h2⟩ | ⟨h1, h2⟩
  · rw [h2, lexB_iff.2 (.inl h1)]; rfl
  · rw [h2, lexB_not.2 (.inl h1)]; rfl
  · rw [h2, if_pos rfl]
    rcases sgn_cases x y with ⟨h3, h4⟩ | ⟨h3, h4⟩ | ⟨h3, h4⟩
    · rw [h4, lexB_iff.2 (.inr ⟨h1, h3⟩)]; rfl
    · rw [h4, lexB_not.2 (.inr ⟨h1, by omega⟩)]; rfl
    · rw [h4, lexB_not.2 (.inr ⟨h1, by omega⟩)]; rfl
theorem swo_lit : Sort.SWO (ltOf litC) where
  irrefl x := by rw [lt_lit, lexB_not]; exact .inr ⟨rfl, Int.le_refl _⟩
  trans x y z h1 h2 := by rw [lt_lit] at *; exact lexB_trans h1 h2
  ntrans x y z h1 h2 := by rw [lt_lit, lexB_not] at *; omega
theorem below_growR (w : World) (os : Array Obj) : Below w.heap.size w (Sort.grow w os) :=
  ⟨rfl, rfl, rfl, by show w.heap.size ≤ (w.heap ++ os).size; rw [Array.size_append]; omega, fun _ hj => Sort.heap_grow_old w os hj⟩
set_option maxRecDepth 100000 in
theorem i_or (a b : Int) (g : Nat) (w : World) (c0 : w.cell? ⟨g, 0, none⟩ = some (.int .i64 a)) (c1 : w.cell? ⟨g, 1, none⟩ = some (.int .i64 b)) :
    Calls Try.prog 101 #[.slice (some ⟨g, 0, none⟩) 2 2] w fun e w' => e = .returned (.int .i64 (orI a b)) ∧ w = w' := by
  by_cases ha : a = 0
  · subst ha
    by_cases hb : b = 0
    · subst hb
      go_enter Try.func101, Try.ntmps101
      go_wp2
      refine wp_loop_rounds 3 ?_
      rw [rounds_succ]
      go_wp2
      rw [rounds_succ]
      go_wp2
      rw [rounds_succ]
      go_wp2
      go_ret
      exact ⟨rfl, rfl⟩
    · go_enter Try.func101, Try.ntmps101
      go_wp2
      refine wp_loop_rounds 2 ?_
      rw [rounds_succ]
      go_wp2
      rw [rounds_succ]
      go_wp2
      go_ret
      exact ⟨by unfold orI; rw [if_pos rfl]; rfl, rfl⟩
  · go_enter Try.func101, Try.ntmps101
    go_wp2
    refine wp_loop_rounds 1 ?_
    rw [rounds_succ]
    go_wp2
    go_ret
    exact ⟨by unfold orI; rw [if_neg ha]; rfl, rfl⟩
set_option maxRecDepth 100000 in
theorem i_mccmp (x y : Lit) (w : World) :
    Calls Try.prog 100 #[litV x, litV y] w fun e w' => e = .returned (.int .i64 (litC x y)) ∧ ∃ q os, w' = Sort.grow (w.drewN q) os := by
  obtain ⟨x, hx1, hx2⟩ := x
  obtain ⟨y, hy1, hy2⟩ := y
  show Calls Try.prog 100 #[.int .i64 x, .int .i64 y] w fun e w' => e = .returned (.int .i64 (orI (sgn (iabs x) (iabs y)) (sgn x y))) ∧ ∃ q os, w' = Sort.grow (w.drewN q) os
  have K1 := Lib.hid (i_varof x (by omega) w)
  have K2 := Lib.hid (i_varof y (by omega) w)
  have K3 := Lib.hid (i_sign (iabs x) (iabs y) w)
  have K4 := Lib.hid (i_sign x y w)
  have K5 := Lib.hid (i_or (sgn (iabs x) (iabs y)) (sgn x y) w.heap.size (w.alloc (.cells #[.int .i64 (sgn (iabs x) (iabs y)), .int .i64 (sgn x y)] 3)) (cell_of_row _ w.heap.size 0 _ _ _ (heap_alloc_new w _)) (cell_of_row _ w.heap.size 1 _ _ _ (heap_alloc_new w _)))
  have HG := Lib.hid (Sort.alloc_eq_grow w (.cells #[.int .i64 (sgn (iabs x) (iabs y)), .int .i64 (sgn x y)] 3))
  generalize sgn (iabs x) (iabs y) = p at *
  generalize sgn x y = q at *
  generalize iabs x = ax at *
  generalize iabs y = ay at *
  go_enter Try.func100, Try.ntmps100
  go_wp2_with fail
  refine K1.out.mono ?_
  rintro e w1 ⟨rfl, rfl⟩
  go_wp2_with fail
  refine K2.out.mono ?_
  rintro e w1 ⟨rfl, rfl⟩
  go_wp2_with fail
  refine K3.out.mono ?_
  rintro e w1 ⟨rfl, rfl⟩
  go_wp2_with fail
  refine K4.out.mono ?_
  rintro e w1 ⟨rfl, rfl⟩
  go_wp2_with fail
  refine K5.out.mono ?_
  rintro e w1 ⟨rfl, rfl⟩
  go_wp2
  go_ret
  exact ⟨rfl, 0, _, HG.out⟩
/-- what MakeClause returns, as the caller owns it -/
def McOwn (l : List Int) (w : World) (e : Ending) (w' : World) : Prop := Below w.heap.size w w' ∧ ∃ q cap, e = .returned (.tuple #[.slice q (mcL l).length cap, .bool (mcV l).isSome]) ∧ w'.ownsRow w.heap.size 3 1 (.slice q (mcL l).length cap) (mcL l).length (IntL.all (mcL l))
theorem mco_none {l : List Int} {w w' : World} (h : mcV l = none) (hb : Below w.heap.size w w') : McOwn l w (.returned (.tuple #[.slice none 0 0, .bool false])) w' := by
  unfold McOwn mcL
  rw [h]
  exact ⟨hb, none, 0, rfl, rfl, .inl ⟨rfl, rfl⟩⟩
theorem mco_some {l V : List Int} {w w' : World} {q : Option Addr} {cap : Nat} (h : mcV l = some V) (hb : Below w.heap.size w w') (hs : w'.ownsRow w.heap.size 3 1 (.slice q V.length cap) V.length (IntL.all V)) : McOwn l w (.returned (.tuple #[.slice q V.length cap, .bool true])) w' := by
  unfold McOwn mcL
  rw [h]
  exact ⟨hb, q, cap, rfl, hs⟩
/-- append of nothing -/
theorem wpList_append_nil {P : Program} {w : World} {ops : Array Oper} {rest : List Oper} {o : Oper} {a : Act} {Q : Exit → Act → World → Prop} (hgd : o.guard = none) (s x : Operand) (t : TypeId)
    (ho : o.op = .call { callee := .builtin .append, args := #[s, x], argTypes := #[t, t] }) (e : TypeId) (i : TypeInfo) (ht : P.underlying t = some (.slice e)) (hi : P.info? e = some i)
    (q0 : Option Addr) (n c0 : Nat) (hc : n ≤ c0) (hs : a.eval s = .slice q0 n c0) (q : Option Addr) (c : Nat) (hx : a.eval x = .slice q 0 c)
    (h : wpList P ops Q rest (a.put o.dst (.slice q0 n c0)) w) : wpList P ops Q (o :: rest) a w := by
  refine wpList_plain hgd fun K hK => ?_
  have hr := run_append_nothing (P := P) w t t o.type e i ht hi q0 n c0 hc (.slice q 0 c) ⟨.inl ⟨e, ht⟩, fun _ => rfl, by cases q <;> simp [Builtin.firstCells, loadCells, loadCellsFrom], by cases q <;> simp [Builtin.firstCells, loadCells, loadCellsFrom], by simp, fun u hu => by cases hu⟩
  unfold Oper.wp execOp
  simp only [ho, resolve, invoke, builtin, Sem.run_bind, Sem.run_pure, Result.andThen_ok, List.map_toArray, List.map_cons, List.map_nil, hs, hx, hr]
  exact hK _ _ h
theorem comp_sub {Z : List Int} {x : Int} (h : x ∈ Lib.compact Z) : x ∈ Z := by
  unfold Lib.compact Lib.compactUpTo at h
  obtain ⟨k, hk, rfl⟩ := List.mem_map.1 h
  have hk' := List.mem_range.1 (List.mem_filter.1 hk).1
  rw [getElem!_pos Z.toArray k (by simpa using hk')]
  simp
/-- a list of literals -/
def lits (l : List Int) (h : litsB 400 l = true) : List Lit := l.attach.map fun x => ⟨x.val, (litsB_mem h x.2).2.1, (litsB_mem h x.2).2.2⟩
theorem lits_val (l : List Int) (h : litsB 400 l = true) : (lits l h).map (·.val) = l := by
  unfold lits
  rw [List.map_map]
  exact List.attach_map_subtype_val l
theorem lits_all (l : List Int) (h : litsB 400 l = true) : IntL.all l = (lits l h).map litV := by
  conv => lhs; rw [← lits_val l h]
  rw [IntL.all_map, List.map_map]
  rfl
theorem lits_len (l : List Int) (h : litsB 400 l = true) : (lits l h).length = l.length := by unfold lits; simp
set_option maxRecDepth 100000 in
set_option maxHeartbeats 4000000 in
theorem i_mkcl (l : List Int) (v : Value) (w : World) (hv : Cs.Shows w 0 1 v l.length (IntL.all l)) (hok : ∀ x ∈ l, IntL.Ok x) (hl : l.length ≤ 1048576) :
    Calls Try.prog 38 #[v] w (McOwn l w) := by
  obtain ⟨i0, hi0, hz0, hzs, hzb⟩ := info_parts zero_Int
  have hml : maxLen = 9223372036854775807 := rfl
  have KL := Lib.hid (i_lits 400 (by omega) (by omega) l v w hv hok (by omega))
  by_cases hlit : litsB 400 l = true
  · rw [hlit] at KL
    rcases Cs.shows_cases hv with ⟨h0, q, cap, rfl⟩ | ⟨hpos, b, o, cap, rfl, hcap, _, hbl, hr⟩
    · have hL : l = [] := List.length_eq_zero_iff.1 h0
      subst hL
      clear hv hl h0 hok hlit
      have KS := Lib.hid (fun (W : World) => sort_none none 0 (.func (.func 100) #[] #[]) W)
      have KC := Lib.hid (fun (W : World) => Try.slices_Compact_int_empty none 0 W)
      have KO := Lib.hid (fun (W : World) => i_clause 400 (by omega) (by omega) [] (.slice none 0 0) W (Cs.shows_of_owns (e := 3) (base := 0) ⟨rfl, .inl ⟨rfl, rfl⟩⟩) (fun x hx => by cases hx) (Nat.zero_le _))
      go_enter Try.func38, Try.ntmps38
      go_wp2_with fail
      refine KL.out.mono ?_
      rintro e w1 ⟨rfl, hb1⟩
      have HB1 := Lib.hid hb1
      clear hb1
      go_wp2_with (at_builtin; refine wpList_append_nil rfl _ _ 47 rfl 3 i0 Try.underlying47 hi0 none 0 0 (Nat.le_refl _) rfl _ _ rfl ?_)
      go_wp2_with fail
      refine (KS.out _).mono ?_
      rintro e w2 ⟨rfl, rfl⟩
      go_wp2_with fail
      refine (KC.out _).mono ?_
      rintro e w3 ⟨rfl, rfl⟩
      go_wp2_with fail
      refine (KO.out _).mono ?_
      rintro e w4 ⟨rfl, hb4⟩
      go_wp2
      go_ret2
      exact mco_some (V := []) rfl (HB1.out.trans (hb4.mono HB1.out.size)) ⟨rfl, .inl ⟨rfl, rfl⟩⟩
    · have HC1 : Hid (∀ w1, Below w.heap.size w w1 → 0 < l.length → ∃ ad, (some (⟨b, o, none⟩ : Addr)) = some ad ∧ ∀ i u, (IntL.all l)[i]? = some u → w1.cell? (ad.add i) = some u) := Lib.hid (fun w1 hb1 _ => ⟨_, rfl, fun i u hu => by rw [Addr.add_mid]; exact rangeAt_below hb1 hr i u hu⟩)
      have HLA := Lib.hid (lits_all l hlit)
      have HLV := Lib.hid (lits_val l hlit)
      have hll := lits_len l hlit
      generalize lits l hlit = L at *
      have HLIT := Lib.hid hlit
      have HP := Lib.hid hpos
      clear hv hok hr hlit
      go_enter Try.func38, Try.ntmps38
      go_wp2_with fail
      refine KL.out.mono ?_
      rintro e w1 ⟨rfl, hb1⟩
      have HB1 := Lib.hid hb1
      clear hb1 KL
      go_wp2_with (at_builtin; refine wpList_append_any rfl _ _ 47 rfl w.heap.size 3 i0 (.int .i64 0) 1 8 Try.underlying47 hi0 hz0 hzs hzb rfl (by decide) _ 0 [] rfl ⟨rfl, .inl ⟨rfl, rfl⟩⟩ _ l.length cap (IntL.all l) rfl ?c0 ?c1 ?c2 ?c3 ?c4 ?c5 ?_)
      case c0 => rw [IntL.all_len]; omega
      case c1 => exact HC1.out _ HB1.out
      case c2 => exact IntL.one _
      case c3 => unfold maxLen; omega
      case c4 => omega
      case c5 => exact HB1.out.size
      intro q3 c3 w3 ho3 hb3
      (try simp only [Nat.zero_add, List.nil_append] at ho3)
      have HB3 := Lib.hid (HB1.out.trans hb3)
      have hne : (.slice q3 l.length c3 : Value) ≠ .slice none 0 0 := by intro e; injection e; omega
      have HO3 := Lib.hid ho3
      rw [HLA.out] at ho3
      obtain ⟨g, cap', he, hg1, hg2, hg3, hg4, hLn, hHo⟩ := Lib.holds_of_ownsRow ho3 hne
      injection he with e1 _ e2
      subst e1; subst e2
      have hsz : L.toArray.size = l.length := by simp [hLn]
      have KS := Try.slices_SortFunc litV (fun _ => rfl) litC swo_lit 100 #[] g 0 c3 L.toArray w3 (enters_of Try.func100 (by kernel_rfl) rfl) (fun m os dk hdk x y => i_mccmp x y _) hHo hg2 (by rw [hsz]; omega)
      rw [hsz] at KS
      have KS' := Lib.hid KS
      have HOL := Lib.hid ho3
      clear KS hHo hb3 hne ho3 HC1 HB1
      go_wp2_with fail
      refine KS'.out.mono ?_
      rintro e w4 ⟨rfl, d', n, os, hperm, hsort, rfl⟩
      have hds : d'.size = l.length := hperm.1.trans (by simp [hLn])
      have hpm : d'.toList.Perm L := by
        have h := hperm.2.2
        have e1 : (d'.extract 0 l.length).toList = d'.toList := by rw [← hds, Array.extract_size]
        have e2 : (L.toArray.extract 0 l.length).toList = L := by rw [← hsz, Array.extract_size]
        rw [e1, e2] at h; exact h
      obtain ⟨Z, hZ⟩ : ∃ Z, Z = d'.toList.map (·.val) := ⟨_, rfl⟩
      have hzl : Z.length = l.length := by rw [hZ, List.length_map, Array.length_toList, hds]
      have hzm : ∀ x, x ∈ Z.toArray.toList ↔ x ∈ l := by
        intro x
        show x ∈ Z ↔ x ∈ l
        conv => rhs; rw [← HLV.out]
        rw [hZ]
        simp only [List.mem_map]
        constructor
        · rintro ⟨a, ha, rfl⟩; exact ⟨a, (hpm.mem_iff).1 ha, rfl⟩
        · rintro ⟨a, ha, rfl⟩; exact ⟨a, (hpm.mem_iff).2 ha, rfl⟩
      have hzs' : ∀ i j, i < j → j < Z.toArray.size → lexB Z.toArray[j]! Z.toArray[i]! = false := by
        intro i j hij hj
        have hj' : j < d'.size := by rw [hds, ← hzl]; simpa using hj
        have h := hsort i j (Nat.zero_le _) hij (by rw [← hds]; exact hj')
        rw [lt_lit] at h
        have ea : ∀ k, (hk : k < d'.size) → Z.toArray[k]! = (d'[k]!).val := by
          intro k hk
          rw [getElem!_pos Z.toArray k (by simp [hzl, ← hds]; exact hk), getElem!_pos d' k hk]
          simp [hZ]
        rw [ea j hj', ea i (by omega)]; exact h
      have hmc := mc_sorted HLIT.out hzm hzs'
      have how : (sortWorld litV w3 g 0 n d' os).ownsRow w.heap.size 3 1 (.slice (some ⟨g, 0, none⟩) l.length c3) l.length (Z.map (Value.int .i64)) := by
        have h1 := Lib.ownsRow_putRow (q := n) (k := l.length) HOL.out (ys := d'.toList) (by rw [Array.length_toList, hds]) (Nat.le_refl _)
        rw [List.take_of_length_le (by rw [Array.length_toList, hds]; exact Nat.le_refl _)] at h1
        have h2 := own_keep h1 (below_growR _ os)
        rw [hZ, List.map_map]
        exact h2
      have HB4 := Lib.hid ((Lib.below_putRow (q := n) (d := d') (enc := litV) HB3.out hg1).trans ((below_growR _ os).mono (by
        have := HB3.out.size
        simpa [Sort.putRow, Sort.mapBlock, Sort.ahead] using this)))
      obtain ⟨w4, hw4⟩ : ∃ w4, w4 = sortWorld litV w3 g 0 n d' os := ⟨_, rfl⟩
      have HB4' : Hid (Below w.heap.size w w4) := Lib.hid (by rw [hw4]; exact HB4.out)
      rw [← hw4] at how ⊢
      clear HB4 hw4 hsort hperm hpm hzs' hzm HOL HB3
      obtain ⟨_, _, hx, _, hg2', hg3', _, _, hHz⟩ := Lib.holds_of_ownsRow how (by intro e; cases e)
      injection hx with hx1 _ hx2
      injection hx1 with hx1
      injection hx1 with hx1
      subst hx1; subst hx2
      have KC := Try.slices_Compact_int g 0 c3 Z w4 hHz (by rw [hzl]; omega) (by rw [hzl]; omega)
      have hcu : Lib.compact Z = Lib.compactUpTo Z.toArray Z.toArray.size := by unfold Lib.compact; simp
      have hcl : (Lib.compact Z).length ≤ Z.length := by
        unfold Lib.compact Lib.compactUpTo
        rw [List.length_map]
        exact Nat.le_trans (List.length_filter_le _ _) (by simp)
      rw [← hcu] at hmc
      have HOW := Lib.hid how
      have hzl2 := hzl
      have HMC := Lib.hid hmc
      rw [hzl] at KC hcl
      have KC' := Lib.hid KC
      have HCC := Lib.hid (show ∀ x ∈ Lib.compact Z, IntL.Ok x from fun x hx => by
        have h := comp_sub hx
        rw [hZ] at h
        obtain ⟨a, _, rfl⟩ := List.mem_map.1 h
        have := a.lo
        have := a.hi
        unfold IntL.Ok
        omega)
      clear KC how hcu hmc hHz hzl2
      generalize Lib.compact Z = C at *
      go_wp2_with fail
      refine KC'.out.mono ?_
      rintro e w5 ⟨rfl, q5, rfl⟩
      have ho5 := Lib.ownsRow_putRow (q := q5) (k := C.length) HOW.out (ys := C ++ List.replicate (l.length - C.length) 0) (by rw [List.length_append, List.length_replicate]; omega) hcl
      rw [List.take_left, ← IntL.all_map] at ho5
      have HB5 := Lib.hid (Lib.below_putRow (q := q5) (d := (C ++ List.replicate (l.length - C.length) 0).toArray) (enc := Value.int .i64) HB4'.out hg1)
      have HO5 := Lib.hid ho5
      clear ho5 HOW HB4'
      generalize Sort.putRow (Value.int .i64) (Sort.ahead w4 q5) g 0 (C ++ List.replicate (l.length - C.length) 0).toArray = w5 at *
      have KK := Lib.hid (i_clause 400 (by omega) (by omega) C _ w5 ((Cs.shows_of_owns HO5.out).down (Nat.zero_le _)) HCC.out (by omega))
      by_cases hcb : clB 400 C = true
      · have HR := Lib.hid (show mcV l = some C by rw [HMC.out, if_pos hcb])
        rw [hcb] at KK
        clear hcb HMC
        go_wp2_with fail
        refine KK.out.mono ?_
        rintro e w6 ⟨rfl, hb6⟩
        go_wp2
        go_ret2
        exact mco_some HR.out (HB5.out.trans (hb6.mono HB5.out.size)) (own_keep HO5.out hb6)
      · have HR := Lib.hid (show mcV l = none by rw [HMC.out, if_neg hcb])
        have hcb' : clB 400 C = false := by simpa using hcb
        rw [hcb'] at KK
        clear hcb HMC hcb'
        go_wp2_with fail
        refine KK.out.mono ?_
        rintro e w6 ⟨rfl, hb6⟩
        go_wp2
        go_ret2
        exact mco_none HR.out (HB5.out.trans (hb6.mono HB5.out.size))
  · have hf : litsB 400 l = false := by simpa using hlit
    rw [hf] at KL
    have HM := Lib.hid (mc_bad hf)
    obtain ⟨_, q, cap, rfl, _⟩ := hv
    clear hok hlit hf
    go_enter Try.func38, Try.ntmps38
    go_wp2_with fail
    refine KL.out.mono ?_
    rintro e w1 ⟨rfl, hb1⟩
    go_wp2
    go_ret2
    exact mco_none HM.out hb1
end Go.Proofs.Ytkoeegeplginkaa
