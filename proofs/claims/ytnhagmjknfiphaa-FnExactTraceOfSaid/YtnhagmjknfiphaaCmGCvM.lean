/- The model of CoverOf: the edges of a run in order, and how the specification puts them into an ascending list. No condition. append of a slice of whatever length to an owned one. No condition. -/
import Derived.Test.YtnhagmjknfiphaaCmGRnM
import Derived.Test.YtnhagmjknfiphaaCmGNxM
import Derived.Test.YtnhagmjknfiphaaCmGFlat
import Derived.WalkKit
import Derived.ProofKit
import Derived.OpenShut
import Derived.Handy
import Derived.Lib.Hide
import Derived.Below
import Derived.IntWalk
import Derived.WalkLawsBesides
import Derived.Deep.QuietTactic
import Derived.BigQuiet
import Derived.OwnWalk
import Derived.Laws.OwnMore
import Derived.Deep.OwnRows
import Derived.Deep.MidRow
import Derived.Deep.Upon
import Derived.Deep.RegionWith
namespace Go.Proofs.Ytnhagmjknfiphaa
open Go.ChangeShapes Go.WideShapes Go.ChangeAt Go.RowKit
/-- the instruction at the place of a state -/
def insV (L : List InsR) (x : StR) : InsR := L.getD x.pc.toNat ⟨0, 0, 0, 0⟩
/-- the edge that a state takes at a branch -/
def edV (L : List InsR) (x : StR) : Int := 2 * x.pc + (if atI x.R (insV L x).f1 = 0 then 1 else 0)
/-- the edges of so many steps, in their order -/
def cvN (vw vm vi : Int) (L : List InsR) (I : List Int) : Nat → List Int
  | 0 => []
  | n + 1 => if begunB L.length (stN vw vm vi L I n) = true ∧ (insV L (stN vw vm vi L I n)).f0 = 10 then cvN vw vm vi L I n ++ [edV L (stN vw vm vi L I n)] else cvN vw vm vi L I n
def ceV (vw vm vi : Int) (L : List InsR) (I : List Int) (f : Int) : List Int := if rnB vw vm vi L I f = true then cvN vw vm vi L I f.toNat else []
def cvV (vw vm vi : Int) (L : List InsR) (I : List Int) (f : Int) : List Int := Lib.compact (sortI (ceV vw vm vi L I f))
/-- a number is put into a list behind the smaller ones that it begins with -/
def insI : List Int → Int → List Int
  | [], x => [x]
  | a :: l, x => if a < x then a :: insI l x else if a = x then a :: l else x :: a :: l
theorem insI_at : ∀ (l : List Int) (x : Int) (k : Nat), k ≤ l.length → (∀ (i : Nat) (h : i < l.length), i < k → l[i] < x) → (∀ h : k < l.length, ¬ l[k] < x) → insI l x = if l[k]? = some x then l else l.take k ++ [x] ++ l.drop k
  | [], x, k, hk, _, _ => by
    have h0 : k = 0 := by simpa using hk
    subst h0
    simp [insI]
  | a :: l, x, 0, _, _, h2 => by
    have h := h2 (by simp)
    simp only [List.getElem_cons_zero] at h
    unfold insI
    rw [if_neg h]
    by_cases e : a = x
    · simp [e]
    · simp [e]
  | a :: l, x, k + 1, hk, h1, h2 => by
    have h := h1 0 (by simp) (by omega)
    simp only [List.getElem_cons_zero] at h
    unfold insI
    rw [if_pos h, insI_at l x k (by simpa using hk) (fun i hi hik => by
      have := h1 (i + 1) (by simp; omega) (by omega)
      simpa using this) (fun hkl => by
      have := h2 (by simp; omega)
      simpa using this)]
    simp only [List.getElem?_cons_succ, List.take_succ_cons, List.drop_succ_cons]
    split
    · rfl
    · simp
theorem insI_mem : ∀ (l : List Int) (x y : Int), y ∈ insI l x ↔ y ∈ l ∨ y = x
  | [], x, y => by simp [insI]
  | a :: l, x, y => by
    unfold insI
    split
    · rw [List.mem_cons, insI_mem l x y, List.mem_cons, or_assoc]
    · split
      · rename_i h
        subst h
        rw [List.mem_cons]
        constructor
        · exact .inl
        · rintro (h | h)
          · exact h
          · exact .inl h
      · rw [List.mem_cons]
        constructor
        · rintro (h | h)
          · exact .inr h
          · exact .inl h
        · rintro (h | h)
          · exact .inr h
          · exact .inl h
theorem insI_asc : ∀ (l : List Int) (x : Int), l.Pairwise (· < ·) → (insI l x).Pairwise (· < ·)
  | [], x, _ => by simp [insI]
  | a :: l, x, h => by
    have h9 := h
    rw [List.pairwise_cons] at h
    unfold insI
    split
    · rename_i hax
      rw [List.pairwise_cons]
      refine ⟨fun y hy => ?_, insI_asc l x h.2⟩
      rcases (insI_mem l x y).1 hy with e | e
      · exact h.1 y e
      · rw [e]; exact hax
    · split
      · exact h9
      · rename_i h1 h2
        rw [List.pairwise_cons]
        refine ⟨fun y hy => ?_, h9⟩
        rcases List.mem_cons.1 hy with e | e
        · omega
        · have := h.1 y e; omega
theorem insI_len (l : List Int) (x : Int) : (insI l x).length ≤ l.length + 1 := by
  induction l with
  | nil => simp [insI]
  | cons a l ih =>
    unfold insI
    split
    · simp; omega
    · split
      · simp
      · simp
/-- several numbers, one after the other -/
def insL (l : List Int) (es : List Int) : List Int := es.foldl insI l
theorem insL_put (l es : List Int) (x : Int) : insL l (es ++ [x]) = insI (insL l es) x := by simp [insL]
theorem insL_mem : ∀ (es l : List Int) (y : Int), y ∈ insL l es ↔ y ∈ l ∨ y ∈ es
  | [], l, y => by simp [insL]
  | e :: es, l, y => by
    show y ∈ insL (insI l e) es ↔ _
    rw [insL_mem es, insI_mem, List.mem_cons, or_assoc]
theorem insL_asc : ∀ (es l : List Int), l.Pairwise (· < ·) → (insL l es).Pairwise (· < ·)
  | [], _l, h => h
  | e :: es, l, h => insL_asc es (insI l e) (insI_asc l e h)
theorem insL_len : ∀ (es l : List Int), (insL l es).length ≤ l.length + es.length
  | [], l => by simp [insL]
  | e :: es, l => by
    have h1 := insL_len es (insI l e)
    have h2 := insI_len l e
    show (insL (insI l e) es).length ≤ _
    simp only [List.length_cons]
    omega
/-- put into nothing: the sorted list, each number once -/
theorem insL_comp (es : List Int) : insL [] es = Lib.compact (sortI es) :=
  asc_eq _ _ (insL_asc es [] List.Pairwise.nil) (comp_sort es).1 fun x => by rw [insL_mem, (comp_sort es).2]; simp
section
variable {vw vm vi : Int} {L : List InsR} {I : List Int}
theorem cvN_yes {n : Nat} {x : StR} (hx : stN vw vm vi L I n = x) (h : begunB L.length x = true) (h2 : (insV L x).f0 = 10) : cvN vw vm vi L I (n + 1) = cvN vw vm vi L I n ++ [edV L x] := by
  subst hx
  show (if _ ∧ _ then _ else _) = _
  rw [if_pos ⟨h, h2⟩]
theorem cvN_no {n : Nat} {x : StR} (hx : stN vw vm vi L I n = x) (h : ¬ (begunB L.length x = true ∧ (insV L x).f0 = 10)) : cvN vw vm vi L I (n + 1) = cvN vw vm vi L I n := by
  subst hx
  show (if _ ∧ _ then _ else _) = _
  rw [if_neg h]
theorem cvN_len : ∀ n, (cvN vw vm vi L I n).length ≤ n
  | 0 => Nat.le_refl _
  | n + 1 => by
    have := cvN_len n
    show (if _ ∧ _ then _ else _ : List Int).length ≤ n + 1
    split
    · rw [List.length_append]; simp only [List.length_singleton]; omega
    · omega
theorem ceV_len (vw vm vi : Int) (L : List InsR) (I : List Int) (f : Int) : (ceV vw vm vi L I f).length ≤ 400 := by
  unfold ceV
  split
  · rename_i h
    unfold rnB at h
    simp only [Bool.and_eq_true, decide_eq_true_eq] at h
    have := cvN_len (vw := vw) (vm := vm) (vi := vi) (L := L) (I := I) f.toNat
    omega
  · simp
theorem cvV_len (vw vm vi : Int) (L : List InsR) (I : List Int) (f : Int) : (cvV vw vm vi L I f).length ≤ 400 := by
  have h1 := ceV_len vw vm vi L I f
  have h2 := insL_len (ceV vw vm vi L I f) []
  rw [insL_comp] at h2
  unfold cvV
  simp only [List.length_nil] at h2
  omega
/-- behind a state that has ended, or that stands at the end, no edge is taken -/
theorem cvN_stop {n : Nat} (h : (stN vw vm vi L I n).cd ≠ 0 ∨ (stN vw vm vi L I n).pc = L.length) : ∀ m, cvN vw vm vi L I (n + m) = cvN vw vm vi L I n ∧ ((stN vw vm vi L I (n + m)).cd ≠ 0 ∨ (stN vw vm vi L I (n + m)).pc = L.length)
  | 0 => ⟨rfl, h⟩
  | m + 1 => by
    obtain ⟨h1, h2⟩ := cvN_stop h m
    have e : n + (m + 1) = (n + m) + 1 := rfl
    rw [e]
    obtain ⟨x, hx⟩ : ∃ x, stN vw vm vi L I (n + m) = x := ⟨_, rfl⟩
    rw [hx] at h2
    have hs : stN vw vm vi L I (n + m + 1) = stepV vw vm vi L I x := by show stepV vw vm vi L I (stN vw vm vi L I (n + m)) = _; rw [hx]
    refine ⟨?_, ?_⟩
    · rw [cvN_no hx (fun g => ?_), h1]
      have hb : x.cd = 0 ∧ ¬ x.st = 400 ∧ ¬ x.pc = (L.length : Int) := of_decide_eq_true g.1
      rcases h2 with h2 | h2
      · exact h2 hb.1
      · exact hb.2.2 h2
    · rw [hs]
      unfold stepV
      split
      · exact h2
      · rename_i h3
        rcases h2 with h2 | h2
        · exact absurd (.inl h2) h3
        · rw [if_pos h2]; exact .inr h2
end
end Go.Proofs.Ytnhagmjknfiphaa
namespace Go.Proofs.Ytnhagmjknfiphaa
open Go.ChangeShapes Go.WideShapes Go.ChangeAt Go.RowKit
/-- append of a slice of whatever length to an owned one -/
theorem wpList_append_any {P : Program} {w : World} {ops : Array Oper} {rest : List Oper} {o : Oper} {a : Act} {Q : Exit → Act → World → Prop} (hgd : o.guard = none) (s x : Operand) (t : TypeId)
    (ho : o.op = .call { callee := .builtin .append, args := #[s, x], argTypes := #[t, t] })
    (base : Nat) (e : TypeId) (i : TypeInfo) (z : Value) (size bytes : Nat) (ht : P.underlying t = some (.slice e)) (hi : P.info? e = some i) (hz : i.zero = some z)
    (hsize : i.size = size) (hby : i.bytes = bytes) (hzs : z.cells.size = size) (hsz : 0 < size)
    (v : Value) (n : Nat) (xs : List Value) (hs : a.eval s = v) (hown : w.ownsRow base e size v n xs)
    (q : Option Addr) (m c : Nat) (news : List Value) (hx : a.eval x = .slice q m c) (hl : news.length = m * size) (hnews : 0 < m → ∃ ad, q = some ad ∧ ∀ j u, news[j]? = some u → w.cell? (ad.add j) = some u) (h1 : ∀ u ∈ news, u.oneCell' = true)
    (h63 : n + m ≤ maxLen) (hbytes : (n + m) * bytes ≤ 140737488355328) (hbase : base ≤ w.heap.size)
    (h : ∀ q' c' w', w'.ownsRow base e size (.slice q' (n + m) c') (n + m) (xs ++ news) → Below base w w' → wpList P ops Q rest (a.put o.dst (.slice q' (n + m) c')) w') : wpList P ops Q (o :: rest) a w := by
  rcases Nat.eq_zero_or_pos m with hm | hm
  · subst hm
    have hnil : news = [] := List.length_eq_zero_iff.1 (by omega)
    subst hnil
    obtain ⟨q0, c0, rfl, hc⟩ : ∃ q0 c0, v = .slice q0 n c0 ∧ n ≤ c0 := by
      rcases hown.2 with ⟨rfl, h⟩ | ⟨g, cap, _, rfl, _, _, h, _⟩
      · exact ⟨none, 0, by rw [h], by omega⟩
      · exact ⟨_, cap, rfl, h⟩
    refine wpList_plain hgd fun K hK => ?_
    have hr := run_append_nothing (P := P) w t t o.type e i ht hi q0 n c0 hc (.slice q 0 c) ⟨.inl ⟨e, ht⟩, fun _ => rfl, by cases q <;> simp [Builtin.firstCells, loadCells, loadCellsFrom], by cases q <;> simp [Builtin.firstCells, loadCells, loadCellsFrom], by simp, fun u hu => by cases hu⟩
    unfold Oper.wp execOp
    simp only [ho, resolve, invoke, builtin, Sem.run_bind, Sem.run_pure, Result.andThen_ok, List.map_toArray, List.map_cons, List.map_nil, hs, hx, hr]
    exact hK _ _ (h q0 c0 w (by simpa using hown) (Below.refl _ _))
  · obtain ⟨ad, rfl, hn⟩ := hnews hm
    refine wpList_append_own w hgd s x t ho base e i z size bytes ht hi hz hsize hby hzs hsz v n xs hs hown ad m c news hx hl hn h1 h63 hbytes hbase fun v' w' h2 h3 _ => ?_
    obtain ⟨q', c', rfl⟩ : ∃ q' c', v' = .slice q' (n + m) c' := by
      rcases h2.2 with ⟨_, h⟩ | ⟨g, cap, _, rfl, _⟩
      · omega
      · exact ⟨_, cap, rfl⟩
    exact h q' c' w' h2 ((Below.refl _ _).grown h3 hbase fun k hk => (hown.lt k hk).1)
theorem news_of' {w : World} {base n : Nat} {q : Option Addr} {c : Nat} {ys : List Value} (h : Cs.Shows w base 1 (.slice q n c) n ys) : 0 < n → ∃ ad, q = some ad ∧ ∀ i u, ys[i]? = some u → w.cell? (ad.add i) = some u := by
  intro hn
  rcases Cs.shows_cases h with ⟨h0, _⟩ | ⟨_, b, o, c', he, _, _, _, hr⟩
  · omega
  · cases he
    exact ⟨_, rfl, fun i u hu => by rw [Addr.add_mid]; exact hr i u hu⟩
theorem str_one (l : List ByteArray) : ∀ u ∈ l.map Value.string, u.oneCell' = true := by
  intro u hu
  obtain ⟨x, _, rfl⟩ := List.mem_map.1 hu
  rfl
/-- texts that are made, the first ones -/
def StrRel (T : List ByteArray) (w : World) (n j : Nat) (wr : World) : Prop := ∃ cur, wr.ownsRow w.heap.size 9 1 (.slice (some ⟨w.heap.size, 0, none⟩) n n) n cur ∧ cur.take j = (T.take j).map Value.string ∧ Below w.heap.size w wr
theorem str_step {T : List ByteArray} {w wr : World} {n j : Nat} (hj : j < T.length) (hn : T.length = n) (hr : StrRel T w n j wr) : StrRel T w n (j + 1) (wr.setCell ⟨w.heap.size, j, none⟩ (.string T[j])) := by
  obtain ⟨cur, ho, hc, hbw⟩ := hr
  have hlen := ho.1
  refine ⟨_, own_put [.string T[j]] j wr cur ho, ?_, hbw.setCell (Nat.le_refl _) _⟩
  rw [putAt_take cur j [.string T[j]] (j + 1) rfl (by omega), hc, List.take_succ_eq_append_getElem hj, List.map_append]
  rfl
theorem str_keep {T : List ByteArray} {w wr w' : World} {n j : Nat} (hr : StrRel T w n j wr) (hb : Below wr.heap.size wr w') : StrRel T w n j w' := by
  obtain ⟨cur, ho, hc, hbw⟩ := hr
  exact ⟨cur, own_keep ho hb, hc, hbw.trans (hb.mono hbw.size)⟩
end Go.Proofs.Ytnhagmjknfiphaa
