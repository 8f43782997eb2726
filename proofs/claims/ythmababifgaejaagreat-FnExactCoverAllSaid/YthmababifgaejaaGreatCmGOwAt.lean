/- Rows of ints that are owned and begin within their block (a list that is cut at its head); append to them. No condition. What the specification's l09Insert returns. No condition. -/
import Derived.Test.YthmababifgaejaaGreatCmGFlInt
import Derived.Test.YthmababifgaejaaGreatCmGCaM
import Derived.Deep.AppendSrc
import Derived.Maps.AppendAt
import Derived.Test.YthmababifgaejaaGreatCmGRcL
import Derived.Deep.LoopGhost
namespace Go.Proofs.YthmababifgaejaaGreat
open Go.ChangeShapes Go.WideShapes Go.ChangeAt Go.RowKit
/-- v is a list of n ints that lies at place k of a block that is owned -/
def OwAt (w : World) (base : Nat) (v : Value) (k : Nat) (W : List Int) : Prop :=
  ∃ g cap capF D, v = .slice (some ⟨g, k, none⟩) W.length cap ∧ D.length = k ∧ W.length ≤ cap ∧ k + cap ≤ capF ∧ w.ownsRow base 3 1 (.slice (some ⟨g, 0, none⟩) (k + W.length) capF) (k + W.length) (IntL.all (D ++ W))
theorem own_form {w : World} {base n g cap : Nat} {e : TypeId} {xs : List Value} (h : w.ownsRow base e 1 (.slice (some ⟨g, 0, none⟩) n cap) n xs) : ∃ cur, base ≤ g ∧ w.heap[g]? = some (.cells cur e (0, 0)) ∧ n ≤ cap ∧ cap ≤ maxLen ∧ cur.size = cap * 1 ∧ cur.toList.take (n * 1) = xs := by
  rcases h.2 with ⟨h0, _⟩ | ⟨g2, cap2, cur, hv, h1, h2, h3, h4, h5, h6⟩
  · cases h0
  · injection hv with e1 e2 e3
    injection e1 with e1
    injection e1 with e1
    subst e1
    subst e3
    exact ⟨cur, h1, h2, h3, h4, h5, h6⟩
theorem owat_of {w : World} {base : Nat} {g cap : Nat} {W : List Int} (h : w.ownsRow base 3 1 (.slice (some ⟨g, 0, none⟩) W.length cap) W.length (IntL.all W)) : OwAt w base (.slice (some ⟨g, 0, none⟩) W.length cap) 0 W := by
  obtain ⟨cur, h1, h2, h3, _⟩ := own_form h
  exact ⟨g, cap, cap, [], rfl, rfl, h3, by omega, by simpa using h⟩
theorem owat_keep {w w' : World} {base k : Nat} {v : Value} {W : List Int} (h : OwAt w base v k W) (hb : Below w.heap.size w w') : OwAt w' base v k W := by
  obtain ⟨g, cap, capF, D, h1, h2, h3, h4, h5⟩ := h
  exact ⟨g, cap, capF, D, h1, h2, h3, h4, own_keep h5 hb⟩
theorem owat_same {w w' : World} {base k : Nat} {v : Value} {W : List Int} (h : OwAt w base v k W) (hs : ∀ g ∈ v.ownBlock.toList, w'.heap[g]? = w.heap[g]?) : OwAt w' base v k W := by
  obtain ⟨g, cap, capF, D, rfl, h2, h3, h4, h5⟩ := h
  exact ⟨g, cap, capF, D, rfl, h2, h3, h4, own_same h5 fun b hb => hs b (by simpa [Value.ownBlock] using hb)⟩
theorem owat_some {w : World} {base k : Nat} {v : Value} {W : List Int} (h : OwAt w base v k W) : ∃ g cap, v = .slice (some ⟨g, k, none⟩) W.length cap ∧ base ≤ g ∧ g < w.heap.size := by
  obtain ⟨g, cap, capF, D, rfl, hD, _, _, ho⟩ := h
  obtain ⟨cur, h1, h2, _⟩ := own_form ho
  exact ⟨g, cap, rfl, h1, (Array.getElem?_eq_some_iff.1 h2).1⟩
theorem owat_lt {w : World} {base k : Nat} {v : Value} {W : List Int} (h : OwAt w base v k W) {g : Nat} (hg : g ∈ v.ownBlock.toList) : base ≤ g ∧ g < w.heap.size := by
  obtain ⟨g2, cap, rfl, h1, h2⟩ := owat_some h
  simp [Value.ownBlock] at hg
  subst hg
  exact ⟨h1, h2⟩
/-- its first element, and what is left behind it -/
theorem owat_tail {w : World} {base k : Nat} {v : Value} {x : Int} {W : List Int} (h : OwAt w base v k (x :: W)) : ∃ g c, v = .slice (some ⟨g, k, none⟩) (W.length + 1) (c + 1) ∧ W.length ≤ c ∧ k + c + 1 ≤ maxLen ∧ g < w.heap.size ∧ w.cell? ⟨g, k, none⟩ = some (.int .i64 x) ∧ OwAt w base (.slice (some ⟨g, if c = 0 then k else k + 1, none⟩) W.length c) (if c = 0 then k else k + 1) W := by
  obtain ⟨g, cap, capF, D, rfl, hD, hc, hF, ho⟩ := h
  obtain ⟨cur, hb, hg, hnc, hcm, hcs, htake⟩ := own_form ho
  rw [List.length_cons] at hc
  obtain ⟨c, rfl⟩ : ∃ c, cap = c + 1 := ⟨cap - 1, by omega⟩
  refine ⟨g, c, rfl, by omega, by omega, (Array.getElem?_eq_some_iff.1 hg).1, ?_, ?_⟩
  · have := ho.cells (g := g) rfl k (.int .i64 x) (by rw [IntL.all_map, List.getElem?_map, List.getElem?_append_right (by omega), hD]; simp)
    simpa [Addr.add_lit] using this
  · by_cases h0 : c = 0
    · subst h0
      have hW : W = [] := List.length_eq_zero_iff.1 (by omega)
      subst hW
      refine ⟨g, 0, capF, D, rfl, hD, Nat.le_refl _, by simp only [if_pos]; omega, ?_⟩
      simp only [if_pos, List.append_nil, List.length_nil, Nat.add_zero]
      refine ⟨by rw [IntL.all_len]; omega, .inr ⟨g, capF, cur, rfl, hb, hg, by omega, hcm, hcs, ?_⟩⟩
      have h2 := congrArg (List.take (k * 1)) htake
      rw [List.take_take, Nat.min_eq_left (by simp), IntL.all_map, List.map_append, ← IntL.all_map, List.take_left' (by rw [IntL.all_len]; omega)] at h2
      exact h2
    · refine ⟨g, c, capF, D ++ [x], rfl, ?_, by omega, ?_, ?_⟩
      · rw [if_neg h0]; simp [hD]
      · rw [if_neg h0]; omega
      · have e1 : k + 1 + W.length = k + (x :: W).length := by rw [List.length_cons]; omega
        rw [if_neg h0, e1, List.append_assoc]
        exact ho
/-- two rows whose elements have other types lie in other blocks -/
theorem owat_off {w : World} {base b2 k n g c : Nat} {e : TypeId} {v : Value} {W : List Int} {xs : List Value} (hT : e ≠ 3) (h : OwAt w base v k W) (hb : w.ownsRow b2 e 1 (.slice (some ⟨g, 0, none⟩) n c) n xs) : g ∉ v.ownBlock.toList := fun hm => by
  obtain ⟨g2, cap, capF, D, rfl, _, _, _, ho⟩ := h
  simp [Value.ownBlock] at hm
  subst hm
  obtain ⟨c3, _, hg, _⟩ := own_form ho
  obtain ⟨c4, _, hg4, _⟩ := own_form hb
  rw [hg] at hg4
  injection hg4 with hg4
  injection hg4 with _ e5
  exact hT e5.symm
theorem own_slc {w : World} {base n : Nat} {v : Value} {xs : List Value} (h : w.ownsRow base 3 1 v n xs) : ∃ q cap, v = .slice q n cap := by
  rcases h.2 with ⟨rfl, h0⟩ | ⟨g, cap, _, rfl, _⟩
  · exact ⟨none, 0, by rw [h0]⟩
  · exact ⟨_, cap, rfl⟩
theorem own_frm {w : World} {base n : Nat} {e : TypeId} {v : Value} {xs : List Value} (h : w.ownsRow base e 1 v n xs) (hn : 0 < n) : ∃ g cap, v = .slice (some ⟨g, 0, none⟩) n cap ∧ base ≤ g ∧ g < w.heap.size := by
  rcases h.2 with ⟨_, h0⟩ | ⟨g, cap, cur, hv, hb, hg, _⟩
  · omega
  · exact ⟨g, cap, hv, hb, (Array.getElem?_eq_some_iff.1 hg).1⟩
theorem own_off2 {w : World} {b1 b2 m n g c : Nat} {e : TypeId} {v : Value} {xs ys : List Value} (hT : e ≠ 3) (h : w.ownsRow b1 3 1 v m ys) (hb : w.ownsRow b2 e 1 (.slice (some ⟨g, 0, none⟩) n c) n xs) : g ∉ v.ownBlock.toList := fun hm => by
  obtain ⟨q, cap, rfl⟩ := own_slc h
  rcases h.2 with ⟨h0, _⟩ | ⟨g2, cap2, cur, hv, _, hg, _⟩
  · injection h0 with h0
    subst h0
    simp [Value.ownBlock] at hm
  · injection hv with e1 _ _
    subst e1
    simp [Value.ownBlock] at hm
    subst hm
    obtain ⟨c4, _, hg4, _⟩ := own_form hb
    rw [hg] at hg4
    injection hg4 with hg4
    injection hg4 with _ e5
    exact hT e5.symm
theorem own_off3 {w : World} {base n b : Nat} {v : Value} {xs : List Value} {cs : Array Value} {T : TypeId} {fr : Nat × Nat} (hT : T ≠ 3) (h : w.ownsRow base 3 1 v n xs) (hb : w.heap[b]? = some (.cells cs T fr)) : b ∉ v.ownBlock.toList := fun hm => by
  rcases h.2 with ⟨rfl, _⟩ | ⟨g, cap, cur, rfl, _, hg, _⟩
  · simp [Value.ownBlock] at hm
  · simp [Value.ownBlock] at hm
    subst hm
    rw [hb] at hg
    injection hg with hg
    injection hg with _ e5
    exact hT e5
theorem row_lt {w : World} {b : Nat} {u : Obj} (h : w.heap[b]? = some u) : b < w.heap.size := (Array.getElem?_eq_some_iff.1 h).1
/-- append of a list of ints to such a one -/
theorem wpList_append_owat {P : Program} {w : World} {ops : Array Oper} {rest : List Oper} {o : Oper} {a : Act} {Q : Exit → Act → World → Prop} (hgd : o.guard = none) (s x : Operand) (t : TypeId)
    (ho : o.op = .call { callee := .builtin .append, args := #[s, x], argTypes := #[t, t] })
    (base : Nat) (i : TypeInfo) (bytes : Nat) (ht : P.underlying t = some (.slice 3)) (hi : P.info? 3 = some i) (hz : i.zero = some (.int .i64 0))
    (hsize : i.size = 1) (hby : i.bytes = bytes)
    (v : Value) (k : Nat) (W : List Int) (hs : a.eval s = v) (hown : OwAt w base v k W)
    (q : Option Addr) (m c : Nat) (news : List Int) (hx : a.eval x = .slice q m c) (hl : news.length = m) (hnews : 0 < m → ∃ ad, q = some ad ∧ ∀ j u, (IntL.all news)[j]? = some u → w.cell? (ad.add j) = some u)
    (h63 : k + W.length + m ≤ maxLen) (hbytes : (k + W.length + m) * bytes ≤ 140737488355328) (hbase : base ≤ w.heap.size)
    (h : ∀ v' k' w', k' ≤ k → OwAt w' base v' k' (W ++ news) → Below base w w' → w.grownBy w' v.ownBlock → (v'.ownBlock = v.ownBlock ∨ v'.ownBlock = some w.heap.size) → wpList P ops Q rest (a.put o.dst v') w') : wpList P ops Q (o :: rest) a w := by
  have hml : maxLen = 9223372036854775807 := rfl
  obtain ⟨g, cap, capF, D, rfl, hD, hWc, hF, how⟩ := hown
  obtain ⟨cur, hbg, hg, hnc, hcm, hcs, htake⟩ := own_form how
  have hnl : (IntL.all news).length = m * 1 := by rw [IntL.all_len]; omega
  have h1 : ∀ u ∈ IntL.all news, u.oneCell' = true := by
    rw [IntL.all_map]
    intro u hu
    obtain ⟨_, _, rfl⟩ := List.mem_map.1 hu
    rfl
  rcases Nat.eq_zero_or_pos m with hm | hm
  · subst hm
    have hnil : news = [] := List.length_eq_zero_iff.1 hl
    subst hnil
    refine wpList_plain hgd fun K hK => ?_
    have hr := run_append_nothing (P := P) w t t o.type 3 i ht hi (some ⟨g, k, none⟩) W.length cap (by omega) (.slice q 0 c) ⟨.inl ⟨3, ht⟩, fun _ => rfl, by cases q <;> simp [Builtin.firstCells, loadCells, loadCellsFrom], by cases q <;> simp [Builtin.firstCells, loadCells, loadCellsFrom], by simp, fun u hu => by cases hu⟩
    unfold Oper.wp execOp
    simp only [ho, resolve, invoke, builtin, Sem.run_bind, Sem.run_pure, Result.andThen_ok, List.map_toArray, List.map_cons, List.map_nil, hs, hx, hr]
    exact hK _ _ (h _ k w (Nat.le_refl _) (by rw [List.append_nil]; exact ⟨g, cap, capF, D, rfl, hD, hWc, hF, how⟩) (Below.refl _ _) ⟨rfl, rfl, rfl, Nat.le_refl _, fun _ _ _ => rfl⟩ (.inl rfl))
  · obtain ⟨ad, rfl, hn⟩ := hnews hm
    have hS : Src P i.size t (.slice (some ad) m c) m (IntL.all news) w := by rw [hsize]; exact Src.ofSlice w ht ad m c _ hnl hn h1
    by_cases hroom : W.length + m ≤ cap
    · have hc : ∀ j, j < (IntL.all news).length → (w.cell? ⟨g, k + W.length * i.size + j, none⟩).isSome = true := fun j hj => by
        rw [cell_of_row w g _ _ _ _ hg, hsize, Array.getElem?_eq_getElem (by omega)]; rfl
      have hf : ∀ j, j < (IntL.all news).length → w.frozen? ⟨g, k + W.length * i.size + j, none⟩ = false := fun j _ => frozen_of_row w g _ _ _ hg
      have hr1 := run_append_room_src (P := P) w t t o.type 3 i ht hi g k W.length cap _ m _ hS hroom hc hf
      have e0 : 0 + (k + W.length) * i.size = k + W.length * i.size := by rw [hsize]; omega
      have hr2 := run_append_room_src (P := P) w t t o.type 3 i ht hi g 0 (k + W.length) capF _ m _ hS (by omega) (by rw [e0]; exact hc) (by rw [e0]; exact hf)
      obtain ⟨v', w', hr3, h3, h4, _, _⟩ := run_append_own_at (P := P) w base t o.type 3 i (.int .i64 0) 1 bytes ht hi hz hsize hby rfl (by decide) _ _ _ how ad m c _ hnl hn h1 h63 hbytes hbase
      rw [hr2] at hr3
      injection hr3 with ev ew
      subst ev
      rw [e0] at ew
      rw [ew] at hr1
      refine wpList_plain hgd fun K hK => ?_
      unfold Oper.wp execOp
      simp only [ho, resolve, invoke, builtin, Sem.run_bind, Sem.run_pure, Result.andThen_ok, List.map_toArray, List.map_cons, List.map_nil, hs, hx, hr1]
      refine hK _ _ (h _ k w' (Nat.le_refl _) ?_ ((Below.refl _ _).grown h4 hbase fun k2 hk => (how.lt k2 hk).1) h4 (.inl rfl))
      refine ⟨g, cap, capF, D, by rw [List.length_append, hl], hD, by rw [List.length_append, hl]; exact hroom, hF, ?_⟩
      rw [← List.append_assoc, IntL.all_map, List.map_append, ← IntL.all_map, ← IntL.all_map, List.length_append, hl, ← Nat.add_assoc]
      exact h3
    · have hold : ∀ j u, (IntL.all W)[j]? = some u → w.drew.cell? ((⟨g, k, none⟩ : Addr).add j) = some u := fun j u hu => by
        have := how.cells (g := g) rfl (k + j) u (by rw [IntL.all_map] at hu ⊢; rw [List.map_append, List.getElem?_append_right (by simp [hD]), List.length_map, hD, Nat.add_sub_cancel_left]; exact hu)
        simpa [Addr.add_lit] using this
      have hfc := run_firstCells_some (P := P) w.drew i.size W.length ⟨g, k, none⟩ W.length cap (IntL.all W) (by rw [hsize, IntL.all_len]; omega) hold
      have hby2 : (W.length + m) * i.bytes ≤ 140737488355328 := by rw [hby]; exact Nat.le_trans (Nat.mul_le_mul_right _ (by omega)) hbytes
      have hr1 := run_append_grow_src (P := P) w t t o.type 3 i (.int .i64 0) ht hi hz (some ⟨g, k, none⟩) W.length cap (IntL.all W) hfc _ m _ hS (by omega) (by omega) (growslice_fits (by omega) hby2)
      refine wpList_plain hgd fun K hK => ?_
      unfold Oper.wp execOp
      simp only [ho, resolve, invoke, builtin, Sem.run_bind, Sem.run_pure, Result.andThen_ok, List.map_toArray, List.map_cons, List.map_nil, hs, hx, hr1]
      have hge := grownCap_ge w (W.length + m) cap 3
      have hcx : grownCap w (W.length + m) cap 3 ≤ maxLen := grownCap_le_maxLen w (W.length + m) cap 3 (by omega)
      have hal : (IntL.all W ++ IntL.all news).length = (W.length + m) * 1 := by rw [List.length_append, IntL.all_len, IntL.all_len]; omega
      refine hK _ _ (h _ 0 _ (Nat.zero_le _) (?_ : OwAt _ base (.slice (some ⟨w.heap.size, 0, none⟩) (W.length + m) _) 0 (W ++ news)) ((Below.refl _ _).drew.alloc hbase _) ⟨rfl, rfl, rfl, by simp, fun k2 hk _ => heap_alloc_old w.drew _ hk⟩ (.inr rfl))
      have e9 : W.length + m = (W ++ news).length := by rw [List.length_append, hl]
      rw [e9] at hge hcx hal ⊢
      refine owat_of ⟨by rw [IntL.all_len]; omega, .inr ⟨w.heap.size, _, _, rfl, hbase, heap_alloc_new w.drew _, by omega, by omega, ?_, ?_⟩⟩
      · rw [Array.size_append, List.size_toArray, size_zeroCells, hal, show (Value.int .i64 0).cells.size = 1 from rfl]
        omega
      · rw [IntL.all_map (W ++ news), List.map_append, ← IntL.all_map, ← IntL.all_map, ← hal, Array.toList_append]
        exact List.take_left
end Go.Proofs.YthmababifgaejaaGreat
namespace Go.Proofs.YthmababifgaejaaGreat
open Go.ChangeShapes Go.WideShapes Go.ChangeAt Go.RowKit
set_option maxRecDepth 100000 in
set_option maxHeartbeats 4000000 in
theorem s_insert0 (base : Nat) (x : Int) (w : World) (hbw : base ≤ w.heap.size) :
    Calls Tryz.prog 31 #[.slice none 0 0, .int .i64 x] w fun e w' => Below w.heap.size w w' ∧ ∃ q' c', e = .returned (.slice q' 1 c') ∧ w'.ownsRow base 3 1 (.slice q' 1 c') 1 [.int .i64 x] ∧ ∀ g ∈ (Value.slice q' 1 c').ownBlock.toList, g ∈ (Value.slice none 0 0).ownBlock.toList ∨ w.heap.size ≤ g := by
  have hml : maxLen = 9223372036854775807 := rfl
  obtain ⟨i9, hi9, hz9, hzs9, hzb9⟩ := info_parts zero_Int
  go_enter Tryz.func31, Tryz.ntmps31
  go_wp2
  go_loopw [5] (fun av wr => wr = w ∧ av = .int .i64 0) (fun _ _ => 0)
  case atStart => exact ⟨rfl, rfl⟩
  case round =>
    obtain ⟨rfl, rfl⟩ := hrel
    rename World => w
    go_wp2_with (at_builtin; refine wpList_append_any rfl _ _ 28 rfl w.heap.size 3 i9 (.int .i64 0) 1 8 Tryz.underlying28 hi9 hz9 hzs9 hzb9 rfl (by decide) _ 0 [] rfl (World.ownsRow_made w #[] 0 (by omega) (by omega) rfl) none 0 0 [] rfl ?c0 ?c1 ?c2 ?c3 ?c4 ?c5 ?_)
    try case c0 => rfl
    try case c1 => exact fun h => absurd h (by omega)
    try case c2 => exact fun u h => by cases h
    try case c3 => omega
    try case c4 => omega
    try case c5 => first | (simp; done) | (simp; omega)
    intro q1 c1 w1 hown hb
    replace hb : Below w.heap.size w w1 := ((Below.refl w.heap.size w).alloc (Nat.le_refl _) (.cells #[] 3)).trans hb
    have O1 := Lib.hid (show w1.ownsRow w.heap.size 3 1 (.slice q1 0 c1) 0 [] from hown)
    have B1 := Lib.hid hb
    clear hown hb
    have hs1 := B1.out.size
    go_wp2_with (at_builtin; refine wpList_append_own_at _ rfl _ _ 28 rfl w.heap.size 3 i9 (.int .i64 0) 1 8 Tryz.underlying28 hi9 hz9 hzs9 hzb9 rfl (by decide) _ _ _ rfl (own_keep O1.out ((Below.refl _ _).alloc (Nat.le_refl _) _)) _ 1 1 [.int .i64 x] rfl rfl ?c1 ?c2 ?c3 ?c4 ?c5 ?_)
    case c1 => exact cell_one_new _ _ _
    case c2 => intro u hu; simp at hu; subst hu; rfl
    case c3 => omega
    case c4 => omega
    case c5 => simp; omega
    intro v2 w2 hown hgrow _ hat
    obtain ⟨q2, c2, rfl⟩ := own_slc hown
    have B2 := Lib.hid ((B1.out.alloc hs1 (.cells #[.int .i64 x] 3)).grown hgrow (by simp; omega) (fun g hg => (own_lt O1.out (g := g) (by rw [hg]; simp)).1))
    have O2 := Lib.hid (show w2.ownsRow w.heap.size 3 1 (.slice q2 1 c2) 1 [.int .i64 x] from hown)
    clear hown hgrow hat
    have hs2 := B2.out.size
    go_wp2_with (at_builtin; refine wpList_append_any rfl _ _ 28 rfl w.heap.size 3 i9 (.int .i64 0) 1 8 Tryz.underlying28 hi9 hz9 hzs9 hzb9 rfl (by decide) _ 1 _ rfl O2.out none 0 0 [] rfl ?c0 ?c1 ?c2 ?c3 ?c4 ?c5 ?_)
    try case c0 => rfl
    try case c1 => exact fun h => absurd h (by omega)
    try case c2 => exact fun u h => by cases h
    try case c3 => omega
    try case c4 => omega
    try case c5 => exact hs2
    intro q3 c3 w3 hown hb
    have B3 := Lib.hid (B2.out.trans hb)
    have O3 := Lib.hid (show w3.ownsRow w.heap.size 3 1 (.slice q3 1 c3) 1 [.int .i64 x] from hown)
    clear hown hb
    go_wp2
    go_ret
    exact ⟨B3.out, q3, c3, rfl, own_base O3.out hbw, fun g hg => .inr (own_lt O3.out (g := g) hg).1⟩
set_option maxRecDepth 100000 in
set_option maxHeartbeats 4000000 in
theorem s_insert (base : Nat) (l : List Int) (x : Int) (q : Option Addr) (c : Nat) (w : World) (ho : w.ownsRow base 3 1 (.slice q l.length c) l.length (IntL.all l)) (hbw : base ≤ w.heap.size) (hl : l.length ≤ 100000) :
    Calls Tryz.prog 31 #[.slice q l.length c, .int .i64 x] w fun e w' => Below w.heap.size w w' ∧ ∃ q' c', e = .returned (.slice q' (insI l x).length c') ∧ w'.ownsRow base 3 1 (.slice q' (insI l x).length c') (insI l x).length (IntL.all (insI l x)) ∧ ∀ g ∈ (Value.slice q' (insI l x).length c').ownBlock.toList, g ∈ (Value.slice q l.length c).ownBlock.toList ∨ w.heap.size ≤ g := by
  have hml : maxLen = 9223372036854775807 := rfl
  have HO := Lib.hid ho
  obtain ⟨i9, hi9, hz9, hzs9, hzb9⟩ := info_parts zero_Int
  have HC : Hid (∀ j, (h : j < l.length) → ∃ g, q = some ⟨g, 0, none⟩ ∧ w.cell? ⟨g, j, none⟩ = some (.int .i64 l[j])) := Lib.hid (fun j h => by
    obtain ⟨g, c', hv, h1, h2⟩ := own_frm HO.out (by omega)
    injection hv with e1 _ e3
    refine ⟨g, e1, ?_⟩
    have ho := HO.out
    rw [e1] at ho
    rw [ho.cellAt j (by omega), IntL.all_map, List.getElem?_map, List.getElem?_eq_getElem h]
    rfl)
  have HN : Hid (∀ g, q = some ⟨g, 0, none⟩ → ∀ a i u, (IntL.all (l.drop a))[i]? = some u → w.cell? ⟨g, a + i, none⟩ = some u) := Lib.hid (fun g e1 a i u hu => by
    rcases Nat.lt_or_ge (a + i) l.length with hi | hi
    · obtain ⟨g2, e2, h2⟩ := HC.out (a + i) hi
      rw [e1] at e2
      injection e2 with e2
      injection e2 with e2
      subst e2
      rw [IntL.all_map, List.getElem?_map, List.getElem?_drop, List.getElem?_eq_getElem hi] at hu
      injection hu with hu
      subst hu
      exact h2
    · rw [List.getElem?_eq_none (by rw [IntL.all_len, List.length_drop]; omega)] at hu; cases hu)
  have HN0 : Hid (∀ g, q = some ⟨g, 0, none⟩ → ∀ m i u, (IntL.all (l.take m))[i]? = some u → w.cell? ⟨g, i, none⟩ = some u) := Lib.hid (fun g e1 m i u hu => by
    have h := HN.out g e1 0 i u (by
      rw [IntL.all_map, List.getElem?_map] at hu
      rw [IntL.all_map, List.getElem?_map, List.drop_zero]
      rw [List.getElem?_take] at hu
      split at hu
      · exact hu
      · cases hu)
    rw [Nat.zero_add] at h
    exact h)
  rcases ho.2 with ⟨h1, h2⟩ | ⟨g9, cap2, cur, h1, h2, h3, h4, h5, h6⟩
  · injection h1 with e1 e2 e3
    subst e1; subst e3
    obtain rfl : l = [] := List.length_eq_zero_iff.1 h2
    exact s_insert0 base x w hbw
  injection h1 with e1 e2 e3
  subst e3
  have hc1 : l.length ≤ c := h4
  have hc2 : c ≤ maxLen := h5
  have hcs : ∃ g, q = some ⟨g, 0, none⟩ ∧ g < w.heap.size := ⟨g9, e1, (Array.getElem?_eq_some_iff.1 h3).1⟩
  clear h2 h3 h4 h5 h6 e1 e2
  clear ho
  go_enter Tryz.func31, Tryz.ntmps31
  go_wp2
  go_loopw [5] (fun av wr => wr = w ∧ ∃ k : Nat, k ≤ l.length ∧ av = .int .i64 k ∧ ∀ (i : Nat) (h : i < l.length), i < k → l[i] < x) (fun av _ => l.length - (intOf av).toNat)
  case atStart => exact ⟨rfl, 0, Nat.zero_le _, rfl, fun i h hi => absurd hi (Nat.not_lt_zero _)⟩
  case round =>
    obtain ⟨rfl, k, hk, rfl, hlt⟩ := hrel
    rename World => w
    have HL := Lib.hid hlt
    clear hlt
    by_cases hkn : k < l.length
    case pos =>
      obtain ⟨g, rfl, ck⟩ := HC.out k hkn
      have hgw : g < w.heap.size := World.block_lt_of_cell? _ _ ck
      have hki : (k : Int) < (l.length : Int) := by omega
      have hkd : decide ((k : Int) < (l.length : Int)) = true := decide_eq_true hki
      by_cases hkx : l[k] < x
      case pos =>
        have HL2 := Lib.hid (show ∀ (i : Nat) (h : i < l.length), i < k + 1 → l[i] < x from fun i h hi => by
          by_cases e : i = k
          · subst e; exact hkx
          · exact HL.out i h (by omega))
        have hkxd : decide (l[k] < x) = true := decide_eq_true hkx
        generalize l[k] = z at ck hkx hkxd
        go_wp2
        go_roundw
        case rel => exact ⟨trivial, k + 1, by omega, by go_num, HL2.out⟩
        case measure => simp [intOf]; omega
      case neg =>
        have HI0 := insI_at l x k hk HL.out (fun _ => hkx)
        have hkxd : decide (l[k] < x) = false := decide_eq_false hkx
        by_cases hke : l[k] = x
        case pos =>
          have HI := Lib.hid (show insI l x = l by rw [HI0, if_pos (by rw [List.getElem?_eq_getElem hkn, hke])])
          clear HI0
          have hkq : (l[k] == x) = true := by simpa using hke
          generalize l[k] = z at *
          go_wp2
          go_ret
          rw [HI.out]
          exact ⟨Below.refl _ _, _, _, rfl, HO.out, fun g hg => .inl hg⟩
        case neg =>
          have HI := Lib.hid (show insI l x = l.take k ++ [x] ++ l.drop k by rw [HI0, if_neg (by rw [List.getElem?_eq_getElem hkn]; exact fun h => hke (Option.some.inj h))])
          clear HI0
          have hkq : (l[k] == x) = false := by simpa using hke
          generalize hzk : l[k] = z at ck hkx hke hkxd hkq
          clear hzk
          have hkt : (l.take k).length = k := by rw [List.length_take]; omega
          have hkd : (l.drop k).length = l.length - k := List.length_drop
          have HT := Lib.hid hkt
          have HDr := Lib.hid hkd
          clear hkt hkd
          go_wp2_with (at_builtin; refine wpList_append_any rfl _ _ 28 rfl w.heap.size 3 i9 (.int .i64 0) 1 8 Tryz.underlying28 hi9 hz9 hzs9 hzb9 rfl (by decide) _ 0 [] rfl (World.ownsRow_made w #[] 0 (by omega) (by omega) rfl) (some ⟨g, 0, none⟩) k c (IntL.all (l.take k)) rfl ?c0 ?c1 ?c2 ?c3 ?c4 ?c5 ?_)
          try case c0 => first | (rw [IntL.all_len, HT.out] <;> omega) | (rw [IntL.all_len] <;> omega)
          case c1 => first | exact fun _ j u hu => HN0.out g rfl k j u hu | exact fun _ j u hu => HN0.out g rfl l.length j u (by rw [List.take_of_length_le (Nat.le_refl _)]; exact hu) | (intro _ j u hu; exact ((Below.refl w.heap.size w).alloc (Nat.le_refl _) _).cell (World.block_lt_of_cell? _ _ (HN0.out g rfl k j u hu)) |>.trans (HN0.out g rfl k j u hu)) | (intro _; exact ⟨_, rfl, fun j u hu => by rw [Addr.add_mid, Nat.zero_add]; exact ((Below.refl w.heap.size w).alloc (Nat.le_refl _) _).cell (World.block_lt_of_cell? _ _ (HN0.out g rfl k j u hu)) |>.trans (HN0.out g rfl k j u hu)⟩)
          try case c2 => exact (fun u hu => by rw [IntL.all_map] at hu; obtain ⟨y, _, rfl⟩ := List.mem_map.1 hu; rfl)
          try case c3 => omega
          try case c4 => omega
          try case c5 => first | (simp; done) | (simp; omega)
          intro pq1 kc1 w1 hown hb
          try rw [Nat.zero_add, List.nil_append] at hown
          replace hb : Below w.heap.size w w1 := ((Below.refl w.heap.size w).alloc (Nat.le_refl _) (.cells #[] 3)).trans hb
          have O1 := Lib.hid (show w1.ownsRow w.heap.size 3 1 (.slice pq1 k kc1) k (IntL.all (l.take k)) from (by first | exact hown | (rw [List.take_of_length_le (Nat.le_refl _)]; exact hown)))
          have B1 := Lib.hid hb
          clear hown hb
          have hs1 := B1.out.size
          go_wp2_with (at_builtin; refine wpList_append_own_at _ rfl _ _ 28 rfl w.heap.size 3 i9 (.int .i64 0) 1 8 Tryz.underlying28 hi9 hz9 hzs9 hzb9 rfl (by decide) (.slice pq1 k kc1) k (IntL.all (l.take k)) rfl (own_keep O1.out ((Below.refl _ _).alloc (Nat.le_refl _) _)) _ 1 1 [.int .i64 x] rfl rfl ?d1 ?d2 ?d3 ?d4 ?d5 ?_)
          case d1 => exact cell_one_new _ _ _
          case d2 => intro u hu; simp at hu; subst hu; rfl
          case d3 => omega
          case d4 => omega
          case d5 => simp; omega
          intro v2 w2 hown hgrow _ hat
          obtain ⟨pq2, kc2, rfl⟩ := own_slc hown
          have B2 := Lib.hid ((B1.out.alloc hs1 (.cells #[.int .i64 x] 3)).grown hgrow (by simp; omega) (fun g hg => (own_lt O1.out (g := g) (by rw [hg]; simp)).1))
          have O2 := Lib.hid hown
          clear hown hgrow hat
          have hs2 := B2.out.size
          go_wp2_with (at_builtin; refine wpList_append_any rfl _ _ 28 rfl w.heap.size 3 i9 (.int .i64 0) 1 8 Tryz.underlying28 hi9 hz9 hzs9 hzb9 rfl (by decide) _ _ _ rfl O2.out _ (l.length - k) _ (IntL.all (l.drop k)) rfl ?e0 ?e1 ?e2 ?e3 ?e4 ?e5 ?_)
          try case e0 => first | (rw [IntL.all_len, HDr.out] <;> omega) | (rw [IntL.all_len] <;> omega)
          case e1 => first | exact fun _ j u hu => (B2.out.cell (World.block_lt_of_cell? _ _ (HN.out g rfl k j u hu))).trans (HN.out g rfl k j u hu) | exact fun _ j u hu => by rw [Nat.add_comm] at *; exact (B2.out.cell (World.block_lt_of_cell? _ _ (HN.out g rfl k j u hu))).trans (HN.out g rfl k j u hu) | (intro _ j u hu; exact (B2.out.cell (World.block_lt_of_cell? _ _ (HN.out g rfl k j u hu))).trans (HN.out g rfl k j u hu)) | (intro _; exact ⟨_, rfl, fun j u hu => by rw [Addr.add_mid]; exact (B2.out.cell (World.block_lt_of_cell? _ _ (HN.out g rfl k j u hu))).trans (HN.out g rfl k j u hu)⟩)
          try case e2 => exact (fun u hu => by rw [IntL.all_map] at hu; obtain ⟨y, _, rfl⟩ := List.mem_map.1 hu; rfl)
          try case e3 => omega
          try case e4 => omega
          try case e5 => exact hs2
          intro pq3 kc3 w3 hown hb
          have B3 := Lib.hid (B2.out.trans hb)
          have hnn : (insI l x).length = k + 1 + (l.length - k) := by rw [HI.out]; simp only [List.length_append, List.length_singleton]; rw [HT.out, HDr.out]
          have hxx : IntL.all (insI l x) = IntL.all (l.take k) ++ [.int .i64 x] ++ IntL.all (l.drop k) := by rw [HI.out]; simp only [IntL.all_map, List.map_append, List.map_cons, List.map_nil]
          have O3 := Lib.hid (show w3.ownsRow w.heap.size 3 1 (.slice pq3 (insI l x).length kc3) (insI l x).length (IntL.all (insI l x)) by rw [hnn, hxx]; simpa using hown)
          clear hown hb
          go_wp2
          go_ret
          exact ⟨B3.out, pq3, kc3, by rw [hnn]; rfl, own_base O3.out hbw, fun g hg => .inr (own_lt O3.out hg).1⟩
    case neg =>
      have hke : k = l.length := by omega
      have HI := Lib.hid (show insI l x = l.take k ++ [x] ++ l.drop k by rw [insI_at l x k hk HL.out (fun h => absurd h (by omega)), if_neg (by rw [List.getElem?_eq_none (by omega)]; exact fun h => by cases h)])
      have hki : ¬ ((k : Int) < (l.length : Int)) := by omega
      have hkd : decide ((k : Int) < (l.length : Int)) = false := decide_eq_false hki
      obtain ⟨g, rfl, hgw⟩ := hcs
      subst hke
      have hkt : (l.take l.length).length = l.length := by rw [List.length_take]; omega
      have hkd : (l.drop l.length).length = l.length - l.length := List.length_drop
      have HT := Lib.hid hkt
      have HDr := Lib.hid hkd
      clear hkt hkd
      go_wp2_with (at_builtin; refine wpList_append_any rfl _ _ 28 rfl w.heap.size 3 i9 (.int .i64 0) 1 8 Tryz.underlying28 hi9 hz9 hzs9 hzb9 rfl (by decide) _ 0 [] rfl (World.ownsRow_made w #[] 0 (by omega) (by omega) rfl) (some ⟨g, 0, none⟩) l.length c (IntL.all (l.take l.length)) rfl ?c0 ?c1 ?c2 ?c3 ?c4 ?c5 ?_)
      try case c0 => first | (rw [IntL.all_len, HT.out] <;> omega) | (rw [IntL.all_len] <;> omega)
      case c1 => first | exact fun _ j u hu => HN0.out g rfl l.length j u hu | exact fun _ j u hu => HN0.out g rfl l.length j u (by rw [List.take_of_length_le (Nat.le_refl _)]; exact hu) | (intro _ j u hu; exact ((Below.refl w.heap.size w).alloc (Nat.le_refl _) _).cell (World.block_lt_of_cell? _ _ (HN0.out g rfl l.length j u hu)) |>.trans (HN0.out g rfl l.length j u hu)) | (intro _; exact ⟨_, rfl, fun j u hu => by rw [Addr.add_mid, Nat.zero_add]; exact ((Below.refl w.heap.size w).alloc (Nat.le_refl _) _).cell (World.block_lt_of_cell? _ _ (HN0.out g rfl l.length j u hu)) |>.trans (HN0.out g rfl l.length j u hu)⟩)
      try case c2 => exact (fun u hu => by rw [IntL.all_map] at hu; obtain ⟨y, _, rfl⟩ := List.mem_map.1 hu; rfl)
      try case c3 => omega
      try case c4 => omega
      try case c5 => first | (simp; done) | (simp; omega)
      intro pq1 kc1 w1 hown hb
      try rw [Nat.zero_add, List.nil_append] at hown
      replace hb : Below w.heap.size w w1 := ((Below.refl w.heap.size w).alloc (Nat.le_refl _) (.cells #[] 3)).trans hb
      have O1 := Lib.hid (show w1.ownsRow w.heap.size 3 1 (.slice pq1 l.length kc1) l.length (IntL.all (l.take l.length)) from (by first | exact hown | (rw [List.take_of_length_le (Nat.le_refl _)]; exact hown)))
      have B1 := Lib.hid hb
      clear hown hb
      have hs1 := B1.out.size
      go_wp2_with (at_builtin; refine wpList_append_own_at _ rfl _ _ 28 rfl w.heap.size 3 i9 (.int .i64 0) 1 8 Tryz.underlying28 hi9 hz9 hzs9 hzb9 rfl (by decide) (.slice pq1 l.length kc1) l.length (IntL.all (l.take l.length)) rfl (own_keep O1.out ((Below.refl _ _).alloc (Nat.le_refl _) _)) _ 1 1 [.int .i64 x] rfl rfl ?d1 ?d2 ?d3 ?d4 ?d5 ?_)
      case d1 => exact cell_one_new _ _ _
      case d2 => intro u hu; simp at hu; subst hu; rfl
      case d3 => omega
      case d4 => omega
      case d5 => simp; omega
      intro v2 w2 hown hgrow _ hat
      obtain ⟨pq2, kc2, rfl⟩ := own_slc hown
      have B2 := Lib.hid ((B1.out.alloc hs1 (.cells #[.int .i64 x] 3)).grown hgrow (by simp; omega) (fun g hg => (own_lt O1.out (g := g) (by rw [hg]; simp)).1))
      have O2 := Lib.hid hown
      clear hown hgrow hat
      have hs2 := B2.out.size
      go_wp2_with (at_builtin; refine wpList_append_any rfl _ _ 28 rfl w.heap.size 3 i9 (.int .i64 0) 1 8 Tryz.underlying28 hi9 hz9 hzs9 hzb9 rfl (by decide) _ _ _ rfl O2.out _ 0 _ [] rfl ?e0 ?e1 ?e2 ?e3 ?e4 ?e5 ?_)
      try case e0 => rfl
      try case e1 => exact fun h => absurd h (by omega)
      try case e2 => exact fun u h => by cases h
      try case e3 => omega
      try case e4 => omega
      try case e5 => exact hs2
      all_goals
        intro pq3 kc3 w3 hown hb
        have B3 := Lib.hid (B2.out.trans hb)
        have hnn : (insI l x).length = l.length + 1 := by rw [HI.out]; simp
        have hxx : IntL.all (insI l x) = IntL.all l ++ [.int .i64 x] := by rw [HI.out]; simp [IntL.all_map]
        have O3 := Lib.hid (show w3.ownsRow w.heap.size 3 1 (.slice pq3 (insI l x).length kc3) (insI l x).length (IntL.all (insI l x)) by rw [hnn, hxx]; simpa using hown)
        clear hown hb
        go_wp2
        go_ret
        exact ⟨B3.out, pq3, kc3, by rw [hnn]; rfl, own_base O3.out hbw, fun g hg => .inr (own_lt O3.out hg).1⟩
end Go.Proofs.YthmababifgaejaaGreat
