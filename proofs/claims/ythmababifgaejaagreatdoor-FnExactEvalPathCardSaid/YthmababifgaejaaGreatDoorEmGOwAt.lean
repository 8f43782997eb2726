/- Rows of ints that are owned and begin within their block (a list that is cut at its head); append to them. No condition. slices.Clone of a list of ints. No condition. -/
import Derived.Test.YthmababifgaejaaGreatDoorEmGDat
import Derived.Test.YthmababifgaejaaGreatDoorEmGHpS
import Derived.Deep.AppendSrc
import Derived.Maps.AppendAt
import Derived.Test.YthmababifgaejaaGreatDoorEmGHvM
namespace Go.Proofs.YthmababifgaejaaGreatDoor
open Go.ChangeShapes Go.WideShapes Go.ChangeAt Go.RowKit
/-- v is a list of n ints that lies at place k of a block that is owned -/
def OwAt (w : World) (base : Nat) (v : Value) (k : Nat) (W : List Int) : Prop :=
  ∃ g cap capF D, v = .slice (some ⟨g, k, none⟩) W.length cap ∧ D.length = k ∧ W.length ≤ cap ∧ k + cap ≤ capF ∧ w.ownsRow base 3 1 (.slice (some ⟨g, 0, none⟩) (k + W.length) capF) (k + W.length) (IntL.all (D ++ W))
theorem own_form {w : World} {base n g cap : Nat} {e : TypeId} {xs : List Value} (h : w.ownsRow base e 1 (.slice (some ⟨g, 0, none⟩) n cap) n xs) : ∃ cur, base ≤ g ∧ w.heap[g]? = some (.cells cur e (0, 0)) ∧ n ≤ cap ∧ cap ≤ maxLen ∧ cur.size = cap * 1 ∧ cur.toList.take (n * 1) = xs := by
  rcases h.2 with ⟨h0, _⟩ | ⟨g2, cap2, cur, hv, h1, h2, h3, h4, h5, h6⟩
  · cases h0
  · injection hv with e1 e2 e3
    injection e1 with e1
    injection e1 with e1
    subst e1
    subst e3
    exact ⟨cur, h1, h2, h3, h4, h5, h6⟩
theorem owat_of {w : World} {base : Nat} {g cap : Nat} {W : List Int} (h : w.ownsRow base 3 1 (.slice (some ⟨g, 0, none⟩) W.length cap) W.length (IntL.all W)) : OwAt w base (.slice (some ⟨g, 0, none⟩) W.length cap) 0 W := by
  obtain ⟨cur, h1, h2, h3, _⟩ := own_form h
  exact ⟨g, cap, cap, [], rfl, rfl, h3, by omega, by simpa using h⟩
theorem owat_keep {w w' : World} {base k : Nat} {v : Value} {W : List Int} (h : OwAt w base v k W) (hb : Below w.heap.size w w') : OwAt w' base v k W := by
  obtain ⟨g, cap, capF, D, h1, h2, h3, h4, h5⟩ := h
  exact ⟨g, cap, capF, D, h1, h2, h3, h4, own_keep h5 hb⟩
theorem owat_same {w w' : World} {base k : Nat} {v : Value} {W : List Int} (h : OwAt w base v k W) (hs : ∀ g ∈ v.ownBlock.toList, w'.heap[g]? = w.heap[g]?) : OwAt w' base v k W := by
  obtain ⟨g, cap, capF, D, rfl, h2, h3, h4, h5⟩ := h
  exact ⟨g, cap, capF, D, rfl, h2, h3, h4, own_same h5 fun b hb => hs b (by simpa [Value.ownBlock] using hb)⟩
theorem owat_some {w : World} {base k : Nat} {v : Value} {W : List Int} (h : OwAt w base v k W) : ∃ g cap, v = .slice (some ⟨g, k, none⟩) W.length cap ∧ base ≤ g ∧ g < w.heap.size := by
  obtain ⟨g, cap, capF, D, rfl, hD, _, _, ho⟩ := h
  obtain ⟨cur, h1, h2, _⟩ := own_form ho
  exact ⟨g, cap, rfl, h1, (Array.getElem?_eq_some_iff.1 h2).1⟩
theorem owat_lt {w : World} {base k : Nat} {v : Value} {W : List Int} (h : OwAt w base v k W) {g : Nat} (hg : g ∈ v.ownBlock.toList) : base ≤ g ∧ g < w.heap.size := by
  obtain ⟨g2, cap, rfl, h1, h2⟩ := owat_some h
  simp [Value.ownBlock] at hg
  subst hg
  exact ⟨h1, h2⟩
/-- its first element, and what is left behind it -/
theorem owat_tail {w : World} {base k : Nat} {v : Value} {x : Int} {W : List Int} (h : OwAt w base v k (x :: W)) : ∃ g c, v = .slice (some ⟨g, k, none⟩) (W.length + 1) (c + 1) ∧ W.length ≤ c ∧ k + c + 1 ≤ maxLen ∧ g < w.heap.size ∧ w.cell? ⟨g, k, none⟩ = some (.int .i64 x) ∧ OwAt w base (.slice (some ⟨g, if c = 0 then k else k + 1, none⟩) W.length c) (if c = 0 then k else k + 1) W := by
  obtain ⟨g, cap, capF, D, rfl, hD, hc, hF, ho⟩ := h
  obtain ⟨cur, hb, hg, hnc, hcm, hcs, htake⟩ := own_form ho
  rw [List.length_cons] at hc
  obtain ⟨c, rfl⟩ : ∃ c, cap = c + 1 := ⟨cap - 1, by omega⟩
  refine ⟨g, c, rfl, by omega, by omega, (Array.getElem?_eq_some_iff.1 hg).1, ?_, ?_⟩
  · have := ho.cells (g := g) rfl k (.int .i64 x) (by rw [IntL.all_map, List.getElem?_map, List.getElem?_append_right (by omega), hD]; simp)
    simpa [Addr.add_lit] using this
  · by_cases h0 : c = 0
    · subst h0
      have hW : W = [] := List.length_eq_zero_iff.1 (by omega)
      subst hW
      refine ⟨g, 0, capF, D, rfl, hD, Nat.le_refl _, by simp only [if_pos]; omega, ?_⟩
      simp only [if_pos, List.append_nil, List.length_nil, Nat.add_zero]
      refine ⟨by rw [IntL.all_len]; omega, .inr ⟨g, capF, cur, rfl, hb, hg, by omega, hcm, hcs, ?_⟩⟩
      have h2 := congrArg (List.take (k * 1)) htake
      rw [List.take_take, Nat.min_eq_left (by simp), IntL.all_map, List.map_append, ← IntL.all_map, List.take_left' (by rw [IntL.all_len]; omega)] at h2
      exact h2
    · refine ⟨g, c, capF, D ++ [x], rfl, ?_, by omega, ?_, ?_⟩
      · rw [if_neg h0]; simp [hD]
      · rw [if_neg h0]; omega
      · have e1 : k + 1 + W.length = k + (x :: W).length := by rw [List.length_cons]; omega
        rw [if_neg h0, e1, List.append_assoc]
        exact ho
/-- two rows whose elements have other types lie in other blocks -/
theorem owat_off {w : World} {base b2 k n g c : Nat} {e : TypeId} {v : Value} {W : List Int} {xs : List Value} (hT : e ≠ 3) (h : OwAt w base v k W) (hb : w.ownsRow b2 e 1 (.slice (some ⟨g, 0, none⟩) n c) n xs) : g ∉ v.ownBlock.toList := fun hm => by
  obtain ⟨g2, cap, capF, D, rfl, _, _, _, ho⟩ := h
  simp [Value.ownBlock] at hm
  subst hm
  obtain ⟨c3, _, hg, _⟩ := own_form ho
  obtain ⟨c4, _, hg4, _⟩ := own_form hb
  rw [hg] at hg4
  injection hg4 with hg4
  injection hg4 with _ e5
  exact hT e5.symm
theorem own_slc {w : World} {base n : Nat} {v : Value} {xs : List Value} (h : w.ownsRow base 3 1 v n xs) : ∃ q cap, v = .slice q n cap := by
  rcases h.2 with ⟨rfl, h0⟩ | ⟨g, cap, _, rfl, _⟩
  · exact ⟨none, 0, by rw [h0]⟩
  · exact ⟨_, cap, rfl⟩
theorem own_frm {w : World} {base n : Nat} {e : TypeId} {v : Value} {xs : List Value} (h : w.ownsRow base e 1 v n xs) (hn : 0 < n) : ∃ g cap, v = .slice (some ⟨g, 0, none⟩) n cap ∧ base ≤ g ∧ g < w.heap.size := by
  rcases h.2 with ⟨_, h0⟩ | ⟨g, cap, cur, hv, hb, hg, _⟩
  · omega
  · exact ⟨g, cap, hv, hb, (Array.getElem?_eq_some_iff.1 hg).1⟩
theorem own_off2 {w : World} {b1 b2 m n g c : Nat} {e : TypeId} {v : Value} {xs ys : List Value} (hT : e ≠ 3) (h : w.ownsRow b1 3 1 v m ys) (hb : w.ownsRow b2 e 1 (.slice (some ⟨g, 0, none⟩) n c) n xs) : g ∉ v.ownBlock.toList := fun hm => by
  obtain ⟨q, cap, rfl⟩ := own_slc h
  rcases h.2 with ⟨h0, _⟩ | ⟨g2, cap2, cur, hv, _, hg, _⟩
  · injection h0 with h0
    subst h0
    simp [Value.ownBlock] at hm
  · injection hv with e1 _ _
    subst e1
    simp [Value.ownBlock] at hm
    subst hm
    obtain ⟨c4, _, hg4, _⟩ := own_form hb
    rw [hg] at hg4
    injection hg4 with hg4
    injection hg4 with _ e5
    exact hT e5.symm
theorem own_off3 {w : World} {base n b : Nat} {v : Value} {xs : List Value} {cs : Array Value} {T : TypeId} {fr : Nat × Nat} (hT : T ≠ 3) (h : w.ownsRow base 3 1 v n xs) (hb : w.heap[b]? = some (.cells cs T fr)) : b ∉ v.ownBlock.toList := fun hm => by
  rcases h.2 with ⟨rfl, _⟩ | ⟨g, cap, cur, rfl, _, hg, _⟩
  · simp [Value.ownBlock] at hm
  · simp [Value.ownBlock] at hm
    subst hm
    rw [hb] at hg
    injection hg with hg
    injection hg with _ e5
    exact hT e5
theorem row_lt {w : World} {b : Nat} {u : Obj} (h : w.heap[b]? = some u) : b < w.heap.size := (Array.getElem?_eq_some_iff.1 h).1
/-- append of a list of ints to such a one -/
theorem wpList_append_owat {P : Program} {w : World} {ops : Array Oper} {rest : List Oper} {o : Oper} {a : Act} {Q : Exit → Act → World → Prop} (hgd : o.guard = none) (s x : Operand) (t : TypeId)
    (ho : o.op = .call { callee := .builtin .append, args := #[s, x], argTypes := #[t, t] })
    (base : Nat) (i : TypeInfo) (bytes : Nat) (ht : P.underlying t = some (.slice 3)) (hi : P.info? 3 = some i) (hz : i.zero = some (.int .i64 0))
    (hsize : i.size = 1) (hby : i.bytes = bytes)
    (v : Value) (k : Nat) (W : List Int) (hs : a.eval s = v) (hown : OwAt w base v k W)
    (q : Option Addr) (m c : Nat) (news : List Int) (hx : a.eval x = .slice q m c) (hl : news.length = m) (hnews : 0 < m → ∃ ad, q = some ad ∧ ∀ j u, (IntL.all news)[j]? = some u → w.cell? (ad.add j) = some u)
    (h63 : k + W.length + m ≤ maxLen) (hbytes : (k + W.length + m) * bytes ≤ 140737488355328) (hbase : base ≤ w.heap.size)
    (h : ∀ v' k' w', k' ≤ k → OwAt w' base v' k' (W ++ news) → Below base w w' → w.grownBy w' v.ownBlock → (v'.ownBlock = v.ownBlock ∨ v'.ownBlock = some w.heap.size) → wpList P ops Q rest (a.put o.dst v') w') : wpList P ops Q (o :: rest) a w := by
  have hml : maxLen = 9223372036854775807 := rfl
  obtain ⟨g, cap, capF, D, rfl, hD, hWc, hF, how⟩ := hown
  obtain ⟨cur, hbg, hg, hnc, hcm, hcs, htake⟩ := own_form how
  have hnl : (IntL.all news).length = m * 1 := by rw [IntL.all_len]; omega
  have h1 : ∀ u ∈ IntL.all news, u.oneCell' = true := by
    rw [IntL.all_map]
    intro u hu
    obtain ⟨_, _, rfl⟩ := List.mem_map.1 hu
    rfl
  rcases Nat.eq_zero_or_pos m with hm | hm
  · subst hm
    have hnil : news = [] := List.length_eq_zero_iff.1 hl
    subst hnil
    refine wpList_plain hgd fun K hK => ?_
    have hr := run_append_nothing (P := P) w t t o.type 3 i ht hi (some ⟨g, k, none⟩) W.length cap (by omega) (.slice q 0 c) ⟨.inl ⟨3, ht⟩, fun _ => rfl, by cases q <;> simp [Builtin.firstCells, loadCells, loadCellsFrom], by cases q <;> simp [Builtin.firstCells, loadCells, loadCellsFrom], by simp, fun u hu => by cases hu⟩
    unfold Oper.wp execOp
    simp only [ho, resolve, invoke, builtin, Sem.run_bind, Sem.run_pure, Result.andThen_ok, List.map_toArray, List.map_cons, List.map_nil, hs, hx, hr]
    exact hK _ _ (h _ k w (Nat.le_refl _) (by rw [List.append_nil]; exact ⟨g, cap, capF, D, rfl, hD, hWc, hF, how⟩) (Below.refl _ _) ⟨rfl, rfl, rfl, Nat.le_refl _, fun _ _ _ => rfl⟩ (.inl rfl))
  · obtain ⟨ad, rfl, hn⟩ := hnews hm
    have hS : Src P i.size t (.slice (some ad) m c) m (IntL.all news) w := by rw [hsize]; exact Src.ofSlice w ht ad m c _ hnl hn h1
    by_cases hroom : W.length + m ≤ cap
    · have hc : ∀ j, j < (IntL.all news).length → (w.cell? ⟨g, k + W.length * i.size + j, none⟩).isSome = true := fun j hj => by
        rw [cell_of_row w g _ _ _ _ hg, hsize, Array.getElem?_eq_getElem (by omega)]; rfl
      have hf : ∀ j, j < (IntL.all news).length → w.frozen? ⟨g, k + W.length * i.size + j, none⟩ = false := fun j _ => frozen_of_row w g _ _ _ hg
      have hr1 := run_append_room_src (P := P) w t t o.type 3 i ht hi g k W.length cap _ m _ hS hroom hc hf
      have e0 : 0 + (k + W.length) * i.size = k + W.length * i.size := by rw [hsize]; omega
      have hr2 := run_append_room_src (P := P) w t t o.type 3 i ht hi g 0 (k + W.length) capF _ m _ hS (by omega) (by rw [e0]; exact hc) (by rw [e0]; exact hf)
      obtain ⟨v', w', hr3, h3, h4, _, _⟩ := run_append_own_at (P := P) w base t o.type 3 i (.int .i64 0) 1 bytes ht hi hz hsize hby rfl (by decide) _ _ _ how ad m c _ hnl hn h1 h63 hbytes hbase
      rw [hr2] at hr3
      injection hr3 with ev ew
      subst ev
      rw [e0] at ew
      rw [ew] at hr1
      refine wpList_plain hgd fun K hK => ?_
      unfold Oper.wp execOp
      simp only [ho, resolve, invoke, builtin, Sem.run_bind, Sem.run_pure, Result.andThen_ok, List.map_toArray, List.map_cons, List.map_nil, hs, hx, hr1]
      refine hK _ _ (h _ k w' (Nat.le_refl _) ?_ ((Below.refl _ _).grown h4 hbase fun k2 hk => (how.lt k2 hk).1) h4 (.inl rfl))
      refine ⟨g, cap, capF, D, by rw [List.length_append, hl], hD, by rw [List.length_append, hl]; exact hroom, hF, ?_⟩
      rw [← List.append_assoc, IntL.all_map, List.map_append, ← IntL.all_map, ← IntL.all_map, List.length_append, hl, ← Nat.add_assoc]
      exact h3
    · have hold : ∀ j u, (IntL.all W)[j]? = some u → w.drew.cell? ((⟨g, k, none⟩ : Addr).add j) = some u := fun j u hu => by
        have := how.cells (g := g) rfl (k + j) u (by rw [IntL.all_map] at hu ⊢; rw [List.map_append, List.getElem?_append_right (by simp [hD]), List.length_map, hD, Nat.add_sub_cancel_left]; exact hu)
        simpa [Addr.add_lit] using this
      have hfc := run_firstCells_some (P := P) w.drew i.size W.length ⟨g, k, none⟩ W.length cap (IntL.all W) (by rw [hsize, IntL.all_len]; omega) hold
      have hby2 : (W.length + m) * i.bytes ≤ 140737488355328 := by rw [hby]; exact Nat.le_trans (Nat.mul_le_mul_right _ (by omega)) hbytes
      have hr1 := run_append_grow_src (P := P) w t t o.type 3 i (.int .i64 0) ht hi hz (some ⟨g, k, none⟩) W.length cap (IntL.all W) hfc _ m _ hS (by omega) (by omega) (growslice_fits (by omega) hby2)
      refine wpList_plain hgd fun K hK => ?_
      unfold Oper.wp execOp
      simp only [ho, resolve, invoke, builtin, Sem.run_bind, Sem.run_pure, Result.andThen_ok, List.map_toArray, List.map_cons, List.map_nil, hs, hx, hr1]
      have hge := grownCap_ge w (W.length + m) cap 3
      have hcx : grownCap w (W.length + m) cap 3 ≤ maxLen := grownCap_le_maxLen w (W.length + m) cap 3 (by omega)
      have hal : (IntL.all W ++ IntL.all news).length = (W.length + m) * 1 := by rw [List.length_append, IntL.all_len, IntL.all_len]; omega
      refine hK _ _ (h _ 0 _ (Nat.zero_le _) (?_ : OwAt _ base (.slice (some ⟨w.heap.size, 0, none⟩) (W.length + m) _) 0 (W ++ news)) ((Below.refl _ _).drew.alloc hbase _) ⟨rfl, rfl, rfl, by simp, fun k2 hk _ => heap_alloc_old w.drew _ hk⟩ (.inr rfl))
      have e9 : W.length + m = (W ++ news).length := by rw [List.length_append, hl]
      rw [e9] at hge hcx hal ⊢
      refine owat_of ⟨by rw [IntL.all_len]; omega, .inr ⟨w.heap.size, _, _, rfl, hbase, heap_alloc_new w.drew _, by omega, by omega, ?_, ?_⟩⟩
      · rw [Array.size_append, List.size_toArray, size_zeroCells, hal, show (Value.int .i64 0).cells.size = 1 from rfl]
        omega
      · rw [IntL.all_map (W ++ news), List.map_append, ← IntL.all_map, ← IntL.all_map, ← hal, Array.toList_append]
        exact List.take_left
end Go.Proofs.YthmababifgaejaaGreatDoor
namespace Go.Proofs.YthmababifgaejaaGreatDoor
open Go.ChangeShapes Go.WideShapes Go.ChangeAt Go.RowKit
set_option maxRecDepth 100000 in
theorem own_clone2 (zs : List Int) (v : Value) (w : World) (hv : Cs.Shows w 0 1 v zs.length (IntL.all zs)) (hl : zs.length ≤ 1048576) :
    Calls Tryz.prog 50 #[v] w fun e w' => Below w.heap.size w w' ∧ ∃ q c, e = .returned (.slice q zs.length c) ∧ w'.ownsRow w.heap.size 3 1 (.slice q zs.length c) zs.length (IntL.all zs) := by
  rcases Cs.shows_cases hv with ⟨h0, q, cap, rfl⟩ | ⟨hpos, b, o, cap, rfl, _, _, hbl, hr⟩
  · have hz : zs = [] := List.length_eq_zero_iff.1 h0
    subst hz
    cases q with
    | none =>
      refine (Tryz.slices_Clone_int_nil 0 cap w).mono fun e w' ⟨he, hw⟩ => ?_
      subst hw
      exact ⟨Below.refl _ _, none, 0, he, World.ownsRow_nil _ _ _ _⟩
    | some a =>
      refine (Tryz.slices_Clone_int_zero a cap w).mono fun e w' ⟨v', he, ho, _, hb⟩ => ?_
      subst he
      obtain ⟨q, c, rfl⟩ := own_slc ho
      exact ⟨hb, q, c, rfl, ho⟩
  · refine (Tryz.slices_Clone_int b o zs.length cap zs w (Nat.le_refl _) (by omega) (fun j hj => ?_)).mono fun e w' ⟨v', he, ho, _, hb⟩ => ?_
    · have := hr j (.int .i64 zs[j]) (by rw [IntL.all_map, List.getElem?_map, List.getElem?_eq_getElem hj]; rfl)
      rw [List.getD_eq_getElem?_getD, List.getElem?_eq_getElem hj]
      exact this
    · subst he
      rw [List.take_of_length_le (Nat.le_refl _), ← IntL.all_map] at ho
      obtain ⟨q, c, rfl⟩ := own_slc ho
      exact ⟨hb, q, c, rfl, ho⟩
end Go.Proofs.YthmababifgaejaaGreatDoor
