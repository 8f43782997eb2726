/- Rows of anything, one behind the other: where each lies, how a slice of them is filled, and how one of them is changed. No condition. -/
import Derived.Test.YtbbalmeglgecgaaFlat
namespace Go.Proofs.Ytbbalmeglgecgaa
open Go.ChangeShapes Go.WideShapes Go.RowKit
theorem range_mid {w : World} {b o : Nat} {x y z : List Value} (h : w.rangeAt b o (x ++ y ++ z)) : w.rangeAt b (o + x.length) y := fun j u hu => by
  have hj := (List.getElem?_eq_some_iff.1 hu).1
  have := h (x.length + j) u (by rw [List.append_assoc, List.getElem?_append_right (by omega), Nat.add_sub_cancel_left, List.getElem?_append_left hj]; exact hu)
  rwa [← Nat.add_assoc] at this
theorem split_at {α : Type} (L : List α) (j : Nat) (h : j < L.length) : L = L.take j ++ L[j] :: L.drop (j + 1) := by
  rw [← List.drop_eq_getElem_cons h, List.take_append_drop]
theorem own_range {w : World} {base : Nat} {e : TypeId} {size n g cap : Nat} {xs : List Value} (h : w.ownsRow base e size (.slice (some ⟨g, 0, none⟩) n cap) n xs) : w.rangeAt g 0 xs := fun j u hu => by
  have hj := (List.getElem?_eq_some_iff.1 hu).1
  rw [Nat.zero_add, h.cellAt j (by rw [← h.1]; exact hj)]
  exact hu
namespace Cs
section
variable {α : Type} (c : α → Cs)
/-- rows one behind the other -/
def rows : List α → Cs
  | [] => .nil
  | a :: l => (c a).app (rows l)
theorem rows_app : ∀ A B : List α, rows c (A ++ B) = (rows c A).app (rows c B)
  | [], _ => rfl
  | a :: A, B => by rw [List.cons_append, rows, rows, rows_app A B, app_assoc]
theorem rows_len {z : Nat} (hz : ∀ a, (c a).len = z) : ∀ L : List α, (rows c L).len = L.length * z
  | [] => by simp [rows, len]
  | a :: L => by rw [rows, len_app, hz, rows_len hz L, List.length_cons, Nat.succ_mul]; omega
theorem rows_one (a : α) : rows c [a] = c a := by rw [rows, rows, app_nil]
theorem rows_flat (f : α → List Value) : ∀ L : List α, rows (fun a => flat (f a)) L = flat (L.flatMap f)
  | [] => rfl
  | a :: L => by rw [rows, rows_flat f L, List.flatMap_cons, flat_app]
end
section
variable {α : Type} {c : α → Cs} {w : World} {base z : Nat} {e : TypeId}
theorem own_flat : ∀ {l xs : List Value} {bs : List Nat}, (flat l).Own w base xs bs ↔ xs = l ∧ bs = []
  | [], _, _ => Iff.rfl
  | v :: l, xs, bs => by
    constructor
    · rintro ⟨xs', rfl, h⟩; obtain ⟨rfl, rfl⟩ := own_flat.1 h; exact ⟨rfl, rfl⟩
    · rintro ⟨rfl, rfl⟩; exact ⟨l, rfl, own_flat.2 ⟨rfl, rfl⟩⟩
/-- the row at an index, and where its cells lie -/
theorem rows_nth {b o : Nat} (hz : ∀ a, (c a).len = z) (L : List α) {ys : List Value} (hv : (rows c L).Vs w base ys) (hr : w.rangeAt b o ys) (j : Nat) (hj : j < L.length) :
    ∃ xs, (c L[j]).Vs w base xs ∧ w.rangeAt b (o + j * z) xs := by
  rw [split_at L j hj, rows_app, rows] at hv
  obtain ⟨x1, x23, rfl, h1, h23⟩ := vs_split hv
  obtain ⟨x2, x3, rfl, h2, h3⟩ := vs_split h23
  refine ⟨x2, h2, ?_⟩
  have hl : x1.length = j * z := by rw [vs_len _ _ h1, rows_len c hz, List.length_take, Nat.min_eq_left (by omega)]
  rw [← hl]
  exact range_mid (by rw [List.append_assoc]; exact hr)
/-- a slice that has been filled up to an index -/
def Fill (c : α → Cs) (e : TypeId) (z : Nat) (L : List α) (w : World) (n j : Nat) (wr : World) : Prop := ∃ cur bs, wr.ownsRow w.heap.size e z (.slice (some ⟨w.heap.size, 0, none⟩) n n) n cur ∧ (rows c (L.take j)).Own wr (w.heap.size + 1) (cur.take (j * z)) bs ∧ bs.Nodup ∧ Below w.heap.size w wr
theorem fill_start {L : List α} {w wr : World} {n : Nat} {cur : List Value} (h : wr.ownsRow w.heap.size e z (.slice (some ⟨w.heap.size, 0, none⟩) n n) n cur) (hb : Below w.heap.size w wr) : Fill c e z L w n 0 wr :=
  ⟨cur, [], h, by rw [List.take_zero, Nat.zero_mul, List.take_zero]; exact ⟨rfl, rfl⟩, List.nodup_nil, hb⟩
theorem fill_step {L : List α} {w wr w1 : World} {n j : Nat} {xs : List Value} {b1 : List Nat} (hz : ∀ a, (c a).len = z) (hj : j < L.length) (hn : L.length = n) (hr : Fill c e z L w n j wr) (hb : Below wr.heap.size wr w1)
    (hx : (c L[j]).Own w1 wr.heap.size xs b1) (hd : b1.Nodup) : Fill c e z L w n (j + 1) (w1.setCells w.heap.size (j * z) xs) := by
  obtain ⟨cur, bs, ho, hown, hnd, hbw⟩ := hr
  have hxl : xs.length = z := (own_len _ _ _ hx).trans (hz _)
  have ho1 := own_keep ho hb
  have hg : w.heap.size < wr.heap.size := (ho.lt w.heap.size rfl).2
  have hlen := ho.1
  have hjz : (j + 1) * z ≤ n * z := Nat.mul_le_mul_right z (by omega)
  have hsz := hb.size
  refine ⟨_, bs ++ b1, own_put xs (j * z) w1 cur ho1, ?_, ?_, below_setCells (Nat.le_refl _) _ _ (hbw.trans (hb.mono (by omega)))⟩
  · rw [putAt_take cur (j * z) xs ((j + 1) * z) (by rw [hxl, Nat.succ_mul]) (by omega), List.take_succ_eq_append_getElem hj, rows_app, rows_one]
    exact own_app ((hown.below hb).same fun g hg => heap_setCells _ _ _ _ _ (by have := hown.lt g hg; omega)) ((hx.down (by omega)).same fun g hg => heap_setCells _ _ _ _ _ (by have := hx.lt g hg; omega))
  · rw [List.nodup_append]
    refine ⟨hnd, hd, fun a ha b hb' e => ?_⟩
    subst e
    have h1 := (hown.lt a ha).2
    have h2 := (hx.lt a hb').1
    omega
theorem fill_end {L : List α} {w wr : World} {n : Nat} (hn : L.length = n) (h : Fill c e z L w n n wr) : (∃ bs, (rows c L).Has wr w.heap.size e z n (.slice (some ⟨w.heap.size, 0, none⟩) n n) bs ∧ bs.Nodup) ∧ Below w.heap.size w wr := by
  obtain ⟨cur, bs, ho, hown, hnd, hb⟩ := h
  rw [List.take_of_length_le (by omega), List.take_of_length_le (by rw [ho.1]; exact Nat.le_refl _)] at hown
  have hne : w.heap.size ∉ bs := fun hm => by have := hown.lt _ hm; omega
  exact ⟨⟨_, ⟨cur, bs, ho, hown.down (by omega), rfl⟩, by simpa [Value.ownBlock] using ⟨hne, hnd⟩⟩, hb⟩
/-- a piece of a row that is owned, among others -/
theorem has_at {CA ca CB : Cs} {n g cap : Nat} {bs : List Nat} (h : (CA.app (ca.app CB)).Has w base e z n (.slice (some ⟨g, 0, none⟩) n cap) bs) :
    ∃ x1 x2 x3 b1 b2 b3, bs = g :: (b1 ++ (b2 ++ b3)) ∧ w.ownsRow base e z (.slice (some ⟨g, 0, none⟩) n cap) n (x1 ++ x2 ++ x3) ∧ CA.Own w base x1 b1 ∧ ca.Own w base x2 b2 ∧ CB.Own w base x3 b3 ∧ x1.length = CA.len ∧ x2.length = ca.len := by
  obtain ⟨ys, b0, ho, hown, rfl⟩ := h
  obtain ⟨x1, x23, b1, b23, rfl, rfl, h1, h23⟩ := own_split hown
  obtain ⟨x2, x3, b2, b3, rfl, rfl, h2, h3⟩ := own_split h23
  exact ⟨x1, x2, x3, b1, b2, b3, by simp [Value.ownBlock], by rw [List.append_assoc]; exact ho, h1, h2, h3, own_len _ _ _ h1, own_len _ _ _ h2⟩
theorem has_back {CA ca CB : Cs} {n g cap : Nat} {x1 x2 x3 : List Value} {b1 b2 b3 : List Nat} {w' : World} (hnd : (g :: (b1 ++ (b2 ++ b3))).Nodup) (h1 : CA.Own w base x1 b1) (h3 : CB.Own w base x3 b3)
    (ho : w'.ownsRow base e z (.slice (some ⟨g, 0, none⟩) n cap) n (x1 ++ x2 ++ x3)) (h2 : ca.Own w' base x2 b2) (hap : Apart (g :: b2) w w') : (CA.app (ca.app CB)).Has w' base e z n (.slice (some ⟨g, 0, none⟩) n cap) (g :: (b1 ++ (b2 ++ b3))) := by
  rw [List.nodup_cons, List.nodup_append] at hnd
  obtain ⟨hg, hn1, hn23, hd⟩ := hnd
  rw [List.nodup_append] at hn23
  obtain ⟨hn2, hn3, hd2⟩ := hn23
  refine ⟨x1 ++ x2 ++ x3, b1 ++ (b2 ++ b3), ho, ?_, by simp [Value.ownBlock]⟩
  rw [List.append_assoc]
  refine own_app (h1.apart hap fun x hx hm => ?_) (own_app h2 (h3.apart hap fun x hx hm => ?_))
  · rcases List.mem_cons.1 hm with rfl | hm
    · exact hg (by simp [hx])
    · exact hd x hx x (by simp [hm]) rfl
  · rcases List.mem_cons.1 hm with rfl | hm
    · exact hg (by simp [hx])
    · exact hd2 x hm x hx rfl
/-- the blocks of one piece are not the row's own, and each stands once -/
theorem nodup_mid {g : Nat} {b1 b2 b3 : List Nat} (h : (g :: (b1 ++ (b2 ++ b3))).Nodup) : b2.Nodup ∧ g ∉ b2 := by
  rw [List.nodup_cons, List.nodup_append] at h
  obtain ⟨hg, _, hn23, _⟩ := h
  rw [List.nodup_append] at hn23
  exact ⟨hn23.1, fun hm => hg (by simp [hm])⟩
/-- a cell of a row that is owned is written over -/
theorem own_poke {x1 y x3 : List Value} {n g cap p i : Nat} (h : w.ownsRow base e z (.slice (some ⟨g, 0, none⟩) n cap) n (x1 ++ y ++ x3)) (hp : x1.length = p) (hi : i < y.length) (v : Value) : (w.setCell ⟨g, p + i, none⟩ v).ownsRow base e z (.slice (some ⟨g, 0, none⟩) n cap) n (x1 ++ y.set i v ++ x3) := by
  have := (h.stored (p + i) v).1
  rw [List.append_assoc, List.set_append_right _ _ (by omega), hp, Nat.add_sub_cancel_left, List.set_append_left _ _ hi, ← List.append_assoc] at this
  exact this
/-- cells of a row that is owned are written over -/
theorem own_over {x1 x2 x2' x3 : List Value} {n g cap : Nat} (h : w.ownsRow base e z (.slice (some ⟨g, 0, none⟩) n cap) n (x1 ++ x2 ++ x3)) (hl : x2'.length = x2.length) : (w.setCells g x1.length x2').ownsRow base e z (.slice (some ⟨g, 0, none⟩) n cap) n (x1 ++ x2' ++ x3) := by
  have := own_put x2' x1.length w _ h
  rw [List.append_assoc, putAt_mid x2' x1 (x2 ++ x3) (by rw [List.length_append]; omega), List.drop_left' hl.symm] at this
  exact this
end
end Cs
/-- marks written into rows, one behind the other -/
def markL {α : Type} (m : α → Nat → α) (cnt : α → Nat) : List α → Nat → List α
  | [], _ => []
  | a :: l, k => m a k :: markL m cnt l (k + cnt a)
def cntL {α : Type} (cnt : α → Nat) (L : List α) : Nat := (L.map cnt).sum
section
variable {α : Type} (m : α → Nat → α) (cnt : α → Nat)
theorem markL_len : ∀ (L : List α) (k : Nat), (markL m cnt L k).length = L.length
  | [], _ => rfl
  | a :: L, k => by rw [markL, List.length_cons, List.length_cons, markL_len L]
theorem cntL_take (L : List α) (j : Nat) (h : j < L.length) : cntL cnt (L.take (j + 1)) = cntL cnt (L.take j) + cnt L[j] := by
  unfold cntL
  rw [List.take_succ_eq_append_getElem h, List.map_append, List.sum_append]
  simp
theorem cntL_le (L : List α) (j : Nat) : cntL cnt (L.take j) ≤ cntL cnt L := by
  have h : cntL cnt L = cntL cnt (L.take j) + cntL cnt (L.drop j) := by
    unfold cntL
    rw [← List.sum_append, ← List.map_append, List.take_append_drop]
  omega
theorem markL_get : ∀ (L : List α) (k j : Nat) (h : j < L.length), (markL m cnt L k)[j]'(by rw [markL_len]; exact h) = m L[j] (k + cntL cnt (L.take j))
  | a :: L, k, 0, _ => by simp [markL, cntL]
  | a :: L, k, j + 1, h => by
    have := markL_get L (k + cnt a) j (by simpa using h)
    simp only [markL, List.getElem_cons_succ, List.take_succ_cons]
    rw [this]
    congr 1
    unfold cntL
    simp only [List.map_cons, List.sum_cons]
    omega
theorem markL_take : ∀ (L : List α) (k j : Nat), (markL m cnt L k).take j = markL m cnt (L.take j) k
  | [], k, j => by simp [markL]
  | a :: L, k, 0 => by simp [markL]
  | a :: L, k, j + 1 => by simp only [markL, List.take_succ_cons, markL_take L]
end
end Go.Proofs.Ytbbalmeglgecgaa
