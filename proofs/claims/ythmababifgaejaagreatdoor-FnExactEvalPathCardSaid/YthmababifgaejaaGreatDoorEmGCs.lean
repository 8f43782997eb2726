/- Cells in memory, all the way down: plain ones, and slices with the cells that they show; in anybody's memory, or in blocks that a call has made itself. No condition. Terms as forests: a slice of nodes, each of which bears a slice of nodes. No condition. Flat rows: slices whose cells are plain. No condition. -/
import Derived.ChangeSlices
import Derived.ChangeArms
import Derived.Deep.Fields
import Derived.Below
import Derived.Laws.AppendOwn
import Derived.Laws.OwnMore
import Derived.OwnWalk
import Derived.Deep.OwnRows
import Derived.Deep.MidRow
import Derived.Laws.IdiomCopy
import Derived.Deep.QuietTactic
namespace Go.Proofs.YthmababifgaejaaGreatDoor
open Go.ChangeShapes Go.WideShapes Go.RowKit
/-- cells in order: plain ones; and slices, with their elements' type and size, their number, and the elements' cells -/
inductive Cs where
  | nil
  | val (v : Value) (r : Cs)
  | sl (e : TypeId) (z n : Nat) (k r : Cs)
/-- what is changed: nothing in old blocks but those of a list -/
structure Apart (bs : List Nat) (w w' : World) : Prop where
  os : w'.os = w.os
  tape : w'.tape = w.tape
  output : w'.output = w.output
  size : w.heap.size ≤ w'.heap.size
  block : ∀ k, k < w.heap.size → k ∉ bs → w'.heap[k]? = w.heap[k]?
theorem Apart.refl (bs : List Nat) (w : World) : Apart bs w w := ⟨rfl, rfl, rfl, Nat.le_refl _, fun _ _ _ => rfl⟩
theorem Apart.trans {bs : List Nat} {a b c : World} (h : Apart bs a b) (k : Apart bs b c) : Apart bs a c :=
  ⟨k.os.trans h.os, k.tape.trans h.tape, k.output.trans h.output, Nat.le_trans h.size k.size, fun i hi hn => (k.block i (Nat.lt_of_lt_of_le hi h.size) hn).trans (h.block i hi hn)⟩
theorem Apart.mono {bs bs' : List Nat} {a b : World} (h : Apart bs a b) (hs : ∀ g ∈ bs, g ∈ bs') : Apart bs' a b := ⟨h.os, h.tape, h.output, h.size, fun i hi hn => h.block i hi (fun hm => hn (hs i hm))⟩
theorem Apart.of_below {bs : List Nat} {w w' : World} (h : Below w.heap.size w w') : Apart bs w w' := ⟨h.os, h.tape, h.output, h.size, fun i hi _ => h.block i hi⟩
theorem Apart.below {bs : List Nat} {w w' : World} {B : Nat} (h : Apart bs w w') (hB : B ≤ w.heap.size) (hs : ∀ g ∈ bs, B ≤ g) : Below B w w' :=
  ⟨h.os, h.tape, h.output, h.size, fun i hi => h.block i (Nat.lt_of_lt_of_le hi hB) (fun hm => by have := hs i hm; omega)⟩
theorem Apart.setCell {bs : List Nat} {a w : World} (h : Apart bs a w) {p : Addr} (hp : p.block ∈ bs) (u : Value) : Apart bs a (w.setCell p u) :=
  ⟨h.os, h.tape, h.output, by simpa using h.size, fun i hi hn => (heap_setCell_other w p i u (fun e => hn (by rw [e]; exact hp))).trans (h.block i hi hn)⟩
theorem own_lt {w : World} {base : Nat} {e : TypeId} {size n : Nat} {v : Value} {xs : List Value} (h : w.ownsRow base e size v n xs) {g : Nat} (hg : g ∈ v.ownBlock.toList) : base ≤ g ∧ g < w.heap.size := h.lt g (by simpa using hg)
theorem own_same {w w' : World} {base : Nat} {e : TypeId} {size n : Nat} {v : Value} {xs : List Value} (h : w.ownsRow base e size v n xs) (hs : ∀ g ∈ v.ownBlock.toList, w'.heap[g]? = w.heap[g]?) : w'.ownsRow base e size v n xs := by
  refine ⟨h.1, ?_⟩
  rcases h.2 with h' | ⟨g, cap, cur, rfl, h2, h3, h4⟩
  · exact .inl h'
  · exact .inr ⟨g, cap, cur, rfl, h2, by rw [hs g (by simp [Value.ownBlock])]; exact h3, h4⟩
theorem own_base {w : World} {base base' : Nat} {e : TypeId} {size n : Nat} {v : Value} {xs : List Value} (h : w.ownsRow base e size v n xs) (hb : base' ≤ base) : w.ownsRow base' e size v n xs := by
  refine ⟨h.1, ?_⟩
  rcases h.2 with h' | ⟨g, cap, cur, rfl, h2, h3, h4⟩
  · exact .inl h'
  · exact .inr ⟨g, cap, cur, rfl, Nat.le_trans hb h2, h3, h4⟩
theorem own_keep {w w' : World} {base : Nat} {e : TypeId} {size n : Nat} {v : Value} {xs : List Value} (h : w.ownsRow base e size v n xs) (hb : Below w.heap.size w w') : w'.ownsRow base e size v n xs := own_same h fun g hg => hb.block g (own_lt h hg).2
/-- cells written one behind the other into a list -/
def putAt (xs : List Value) : Nat → List Value → List Value
  | _, [] => xs
  | o, v :: vs => putAt (xs.set o v) (o + 1) vs
theorem putAt_mid : ∀ (vs pre r : List Value), vs.length ≤ r.length → putAt (pre ++ r) pre.length vs = pre ++ vs ++ r.drop vs.length
  | [], pre, r, _ => by simp [putAt]
  | v :: vs, pre, [], h => by simp at h
  | v :: vs, pre, x :: r, h => by
    have e : (pre ++ x :: r).set pre.length v = (pre ++ [v]) ++ r := by simp
    have := putAt_mid vs (pre ++ [v]) r (by simpa using h)
    rw [putAt, e]
    rw [List.length_append] at this
    rw [show pre.length + 1 = pre.length + [v].length from rfl, this]
    simp
theorem own_put {base : Nat} {e : TypeId} {size n g cap : Nat} : ∀ (vs : List Value) (o : Nat) (w : World) (xs : List Value), w.ownsRow base e size (.slice (some ⟨g, 0, none⟩) n cap) n xs → (w.setCells g o vs).ownsRow base e size (.slice (some ⟨g, 0, none⟩) n cap) n (putAt xs o vs)
  | [], _, _, _, h => h
  | v :: vs, o, _, _, h => own_put vs (o + 1) _ _ (h.stored o v).1
theorem heap_setCells (g : Nat) : ∀ (vs : List Value) (o : Nat) (w : World) (i : Nat), i ≠ g → (w.setCells g o vs).heap[i]? = w.heap[i]?
  | [], _, _, _, _ => rfl
  | v :: vs, o, w, i, h => (heap_setCells g vs (o + 1) _ i h).trans (heap_setCell_other w ⟨g, o, none⟩ i v h)
theorem below_setCells {B g : Nat} (hg : B ≤ g) : ∀ (vs : List Value) (o : Nat) {a w : World}, Below B a w → Below B a (w.setCells g o vs)
  | [], _, _, _, h => h
  | _ :: vs, o, _, _, h => below_setCells hg vs (o + 1) (h.setCell hg _)
theorem size_setCells (g : Nat) : ∀ (vs : List Value) (o : Nat) (w : World), (w.setCells g o vs).heap.size = w.heap.size
  | [], _, _ => rfl
  | _ :: vs, o, w => (size_setCells g vs (o + 1) _).trans (by simp)
/-- the cells of a row can be written -/
theorem own_there {base : Nat} {e : TypeId} {size n g cap : Nat} {w : World} {xs : List Value} (h : w.ownsRow base e size (.slice (some ⟨g, 0, none⟩) n cap) n xs) (o m : Nat) (hm : o + m ≤ n * size) : w.there g o m := fun j hj => by
  refine ⟨?_, h.frozenAt _⟩
  rw [h.cellAt (o + j) (by omega), List.getElem?_eq_getElem (by rw [h.1]; omega)]
  rfl
theorem rangeAt_below {w w' : World} {b o : Nat} {ys : List Value} (hb : Below w.heap.size w w') (h : w.rangeAt b o ys) : w'.rangeAt b o ys := fun j u hu => by
  have hc := h j u hu
  rw [hb.cell (World.block_lt_of_cell? w _ hc)]
  exact hc
theorem there5 {w : World} {b o : Nat} (h : w.there b o 5) : ∃ a0 a1 a2 a3 a4, (w.cell? ⟨b, o, none⟩ = some a0 ∧ w.cell? ⟨b, o + 1, none⟩ = some a1 ∧ w.cell? ⟨b, o + 2, none⟩ = some a2 ∧ w.cell? ⟨b, o + 3, none⟩ = some a3 ∧ w.cell? ⟨b, o + 4, none⟩ = some a4) ∧
    w.frozen? ⟨b, o, none⟩ = false ∧ w.frozen? ⟨b, o + 1, none⟩ = false ∧ w.frozen? ⟨b, o + 2, none⟩ = false ∧ w.frozen? ⟨b, o + 3, none⟩ = false ∧ w.frozen? ⟨b, o + 4, none⟩ = false := by
  obtain ⟨c0, f0⟩ := h 0 (by omega); obtain ⟨c1, f1⟩ := h 1 (by omega); obtain ⟨c2, f2⟩ := h 2 (by omega); obtain ⟨c3, f3⟩ := h 3 (by omega); obtain ⟨c4, f4⟩ := h 4 (by omega)
  obtain ⟨a0, c0⟩ := Option.isSome_iff_exists.1 c0; obtain ⟨a1, c1⟩ := Option.isSome_iff_exists.1 c1; obtain ⟨a2, c2⟩ := Option.isSome_iff_exists.1 c2; obtain ⟨a3, c3⟩ := Option.isSome_iff_exists.1 c3; obtain ⟨a4, c4⟩ := Option.isSome_iff_exists.1 c4
  exact ⟨a0, a1, a2, a3, a4, ⟨c0, c1, c2, c3, c4⟩, f0, f1, f2, f3, f4⟩
theorem bcell {W w1 : World} {B : Nat} (hb : Below B W w1) : (∀ b o, b < B → w1.cell? ⟨b, o, none⟩ = W.cell? ⟨b, o, none⟩) ∧ (∀ b o, b < B → w1.frozen? ⟨b, o, none⟩ = W.frozen? ⟨b, o, none⟩) :=
  ⟨fun b o h => hb.cell (p := ⟨b, o, none⟩) h, fun b o h => hb.frozen (p := ⟨b, o, none⟩) h⟩
/-- a shorter prefix of a row that is owned -/
theorem own_cut {w : World} {B : Nat} {e : TypeId} {g n cap z : Nat} {xs : List Value} (h : w.ownsRow B e z (.slice (some ⟨g, 0, none⟩) n cap) n xs) (m : Nat) (hm : m ≤ n) : w.ownsRow B e z (.slice (some ⟨g, 0, none⟩) m cap) m (xs.take (m * z)) := by
  have hl := h.1
  have hmz : m * z ≤ n * z := Nat.mul_le_mul_right z hm
  rcases h.2 with ⟨h', _⟩ | ⟨g', cap', cur, h', h2, h3, h4, h5, h6, h7⟩
  · cases h'
  · cases h'
    refine ⟨by rw [List.length_take]; omega, .inr ⟨g, cap, cur, rfl, h2, h3, by omega, h5, h6, ?_⟩⟩
    rw [← h7, List.take_take]
    congr 1
    omega
/-- 'append(s, x)' on a slice of the call's own: one element more -/
theorem wpList_append_one {P : Program} {wr : World} {ops : Array Oper} {rest : List Oper} {o : Oper} {a : Act} {Q : Exit → Act → World → Prop} (hgd : o.guard = none) (s x : Operand) (t : TypeId)
    (ho : o.op = .call { callee := .builtin .append, args := #[s, x], argTypes := #[t, t] })
    (base : Nat) (e : TypeId) (z : Value) (size bytes : Nat) (ht : P.underlying t = some (.slice e)) (hi : (P.info? e).map (fun i => (i.zero, i.size, i.bytes)) = some (some z, size, bytes))
    (hzs : z.cells.size = size) (hsz : 0 < size) (v : Value) (n : Nat) (xs : List Value) (hs : a.eval s = v) (hown : wr.ownsRow base e size v n xs)
    (news : List Value) (b0 : Nat) (hx : a.eval x = .slice (some ⟨b0, 0, none⟩) 1 1) (hb0 : b0 = wr.heap.size) (hl : news.length = size) (h1 : ∀ u ∈ news, u.oneCell' = true)
    (h63 : n + 1 ≤ 9223372036854775807) (hbytes : (n + 1) * bytes ≤ 140737488355328) (hbase : base ≤ wr.heap.size)
    (h : ∀ v' w', w'.ownsRow base e size v' (n + 1) (xs ++ news) → Below base wr w' → Apart v.ownBlock.toList wr w' → wpList P ops Q rest (a.put o.dst v') w') : wpList P ops Q (o :: rest) a (wr.alloc (.cells news.toArray e)) := by
  subst hb0
  obtain ⟨i0, hi0, hz0, hz1, hz2⟩ := info_parts hi
  refine wpList_append_own (wr.alloc (.cells news.toArray e)) hgd s x t ho base e i0 z size bytes ht hi0 hz0 hz1 hz2 hzs hsz v n xs hs (hown.alloc _) ⟨wr.heap.size, 0, none⟩ 1 1 news hx (by rw [hl, Nat.one_mul]) (fun j u hu => ?_) h1 (by unfold maxLen; exact h63) hbytes (by simp; omega) (fun v' w' h2 h3 _ => h v' w' h2 ?_ ?_)
  · rw [Addr.add_mid, Nat.zero_add]
    have hj := (List.getElem?_eq_some_iff.1 hu).1
    rw [cell_of_row (wr.alloc (.cells news.toArray e)) wr.heap.size j news.toArray e (0, 0) (heap_alloc_new wr _)]
    simpa using hu
  · have hb := ((Below.refl base wr).alloc hbase (.cells news.toArray e)).grown h3 (by simp; omega) (fun q hq => (hown.lt q hq).1)
    exact hb
  · refine ⟨h3.os, h3.tape, h3.output, Nat.le_trans (by simp) h3.size, fun k hk hn => ?_⟩
    rw [h3.block k (by simp; omega) (fun e => hn (by rw [← e]; simp))]
    exact heap_alloc_old wr _ k hk
namespace Cs
def len : Cs → Nat
  | .nil => 0
  | .val _ r => r.len + 1
  | .sl _ _ _ _ r => r.len + 1
def app : Cs → Cs → Cs
  | .nil, D => D
  | .val v r, D => .val v (r.app D)
  | .sl e z n k r, D => .sl e z n k (r.app D)
theorem app_nil : ∀ C : Cs, C.app .nil = C
  | .nil => rfl
  | .val _ r => by simp only [app, app_nil r]
  | .sl _ _ _ _ r => by simp only [app, app_nil r]
theorem app_assoc : ∀ C D E : Cs, (C.app D).app E = C.app (D.app E)
  | .nil, _, _ => rfl
  | .val _ r, D, E => by simp only [app, app_assoc r]
  | .sl _ _ _ _ r, D, E => by simp only [app, app_assoc r]
theorem len_app : ∀ C D : Cs, (C.app D).len = C.len + D.len
  | .nil, D => by simp [app, len]
  | .val _ r, D => by simp only [app, len, len_app r D]; omega
  | .sl _ _ _ _ r, D => by simp only [app, len, len_app r D]; omega
/-- a slice's value that shows these cells -/
def Shows (w : World) (base z : Nat) (s : Value) (n : Nat) (ys : List Value) : Prop :=
  ys.length = n * z ∧ ∃ (q : Option Addr) (cap : Nat), s = .slice q n cap ∧ n ≤ cap ∧ cap ≤ maxLen ∧ (q = none → cap = 0) ∧ ∀ a, q = some a → base ≤ a.block ∧ (ys ≠ [] → a.spot = none) ∧ w.rangeAt a.block a.off ys
/-- these values are the cells -/
def Vs (w : World) (base : Nat) : Cs → List Value → Prop
  | .nil, xs => xs = []
  | .val v r, xs => ∃ xs', xs = v :: xs' ∧ Vs w base r xs'
  | .sl _ z n k r, xs => ∃ s xs' ys, xs = s :: xs' ∧ Shows w base z s n ys ∧ Vs w base k ys ∧ Vs w base r xs'
/-- .. in blocks from base on, one for each slice, which are listed -/
def Own (w : World) (base : Nat) : Cs → List Value → List Nat → Prop
  | .nil, xs, bs => xs = [] ∧ bs = []
  | .val v r, xs, bs => ∃ xs', xs = v :: xs' ∧ Own w base r xs' bs
  | .sl e z n k r, xs, bs => ∃ s xs' ys b1 b2, xs = s :: xs' ∧ w.ownsRow base e z s n ys ∧ Own w base k ys b1 ∧ Own w base r xs' b2 ∧ bs = (s.ownBlock.toList ++ b1) ++ b2
/-- one slice's value -/
def Is (w : World) (base z n : Nat) (k : Cs) (s : Value) : Prop := ∃ ys, Shows w base z s n ys ∧ k.Vs w base ys
def Has (w : World) (base : Nat) (e : TypeId) (z n : Nat) (k : Cs) (s : Value) (bs : List Nat) : Prop := ∃ ys b1, w.ownsRow base e z s n ys ∧ k.Own w base ys b1 ∧ bs = s.ownBlock.toList ++ b1
section
variable {w w' : World} {base : Nat}
theorem vs_sl {e : TypeId} {z n : Nat} {k r : Cs} {xs : List Value} : (Cs.sl e z n k r).Vs w base xs ↔ ∃ s xs', xs = s :: xs' ∧ k.Is w base z n s ∧ r.Vs w base xs' :=
  ⟨fun ⟨s, xs', ys, h1, h2, h3, h4⟩ => ⟨s, xs', h1, ⟨ys, h2, h3⟩, h4⟩, fun ⟨s, xs', h1, ⟨ys, h2, h3⟩, h4⟩ => ⟨s, xs', ys, h1, h2, h3, h4⟩⟩
theorem own_sl {e : TypeId} {z n : Nat} {k r : Cs} {xs : List Value} {bs : List Nat} : (Cs.sl e z n k r).Own w base xs bs ↔ ∃ s xs' b1 b2, xs = s :: xs' ∧ k.Has w base e z n s b1 ∧ r.Own w base xs' b2 ∧ bs = b1 ++ b2 :=
  ⟨fun ⟨s, xs', ys, b1, b2, h1, h2, h3, h4, h5⟩ => ⟨s, xs', _, b2, h1, ⟨ys, b1, h2, h3, rfl⟩, h4, h5⟩, fun ⟨s, xs', _, b2, h1, ⟨ys, b0, h2, h3, hb⟩, h4, h5⟩ => ⟨s, xs', ys, b0, b2, h1, h2, h3, h4, by rw [h5, hb]⟩⟩
theorem vs_len : ∀ (C : Cs) (xs : List Value), C.Vs w base xs → xs.length = C.len := by
  intro C
  induction C with
  | nil => rintro xs rfl; rfl
  | val v r ih => rintro xs ⟨xs', rfl, h⟩; simp [len, ih _ h]
  | sl e z n k r _ ih => rintro xs ⟨s, xs', ys, rfl, _, _, h⟩; simp [len, ih _ h]
theorem own_len : ∀ (C : Cs) (xs : List Value) (bs : List Nat), C.Own w base xs bs → xs.length = C.len := by
  intro C
  induction C with
  | nil => rintro xs bs ⟨rfl, _⟩; rfl
  | val v r ih => rintro xs bs ⟨xs', rfl, h⟩; simp [len, ih _ _ h]
  | sl e z n k r _ ih => rintro xs bs ⟨s, xs', ys, b1, b2, rfl, _, _, h, _⟩; simp [len, ih _ _ h]
theorem Shows.below {z n : Nat} {s : Value} {ys : List Value} (h : Shows w base z s n ys) (hb : Below w.heap.size w w') : Shows w' base z s n ys := by
  obtain ⟨h0, q, cap, h1, h2, h3, h4, h5⟩ := h
  exact ⟨h0, q, cap, h1, h2, h3, h4, fun a ha => ⟨(h5 a ha).1, (h5 a ha).2.1, rangeAt_below hb (h5 a ha).2.2⟩⟩
theorem Shows.down {base' z n : Nat} {s : Value} {ys : List Value} (h : Shows w base z s n ys) (hb : base' ≤ base) : Shows w base' z s n ys := by
  obtain ⟨h0, q, cap, h1, h2, h3, h4, h5⟩ := h
  exact ⟨h0, q, cap, h1, h2, h3, h4, fun a ha => ⟨Nat.le_trans hb (h5 a ha).1, (h5 a ha).2⟩⟩
theorem Vs.below (hb : Below w.heap.size w w') : ∀ {C : Cs} {xs : List Value}, C.Vs w base xs → C.Vs w' base xs := by
  intro C
  induction C with
  | nil => intro xs h; exact h
  | val v r ih => rintro xs ⟨xs', rfl, h⟩; exact ⟨xs', rfl, ih h⟩
  | sl e z n k r ihk ih => rintro xs ⟨s, xs', ys, rfl, h1, h2, h3⟩; exact ⟨s, xs', ys, rfl, h1.below hb, ihk h2, ih h3⟩
theorem Vs.down {base' : Nat} (hb : base' ≤ base) : ∀ {C : Cs} {xs : List Value}, C.Vs w base xs → C.Vs w base' xs := by
  intro C
  induction C with
  | nil => intro xs h; exact h
  | val v r ih => rintro xs ⟨xs', rfl, h⟩; exact ⟨xs', rfl, ih h⟩
  | sl e z n k r ihk ih => rintro xs ⟨s, xs', ys, rfl, h1, h2, h3⟩; exact ⟨s, xs', ys, rfl, h1.down hb, ihk h2, ih h3⟩
theorem Is.below {z n : Nat} {k : Cs} {s : Value} (h : k.Is w base z n s) (hb : Below w.heap.size w w') : k.Is w' base z n s := by
  obtain ⟨ys, h1, h2⟩ := h; exact ⟨ys, h1.below hb, h2.below hb⟩
theorem Is.down {base' z n : Nat} {k : Cs} {s : Value} (h : k.Is w base z n s) (hb : base' ≤ base) : k.Is w base' z n s := by
  obtain ⟨ys, h1, h2⟩ := h; exact ⟨ys, h1.down hb, h2.down hb⟩
theorem own_lts : ∀ (C : Cs) (xs : List Value) (bs : List Nat), C.Own w base xs bs → ∀ g ∈ bs, base ≤ g ∧ g < w.heap.size := by
  intro C
  induction C with
  | nil => rintro xs bs ⟨_, rfl⟩ g hg; simp at hg
  | val v r ih => rintro xs bs ⟨xs', rfl, h⟩; exact ih _ _ h
  | sl e z n k r ihk ih =>
    rintro xs bs ⟨s, xs', ys, b1, b2, rfl, h1, h2, h3, rfl⟩ g hg
    rcases List.mem_append.1 hg with hg | hg
    · rcases List.mem_append.1 hg with hg | hg
      · exact own_lt h1 hg
      · exact ihk _ _ h2 g hg
    · exact ih _ _ h3 g hg
theorem Own.lt {C : Cs} {xs : List Value} {bs : List Nat} (h : C.Own w base xs bs) : ∀ g ∈ bs, base ≤ g ∧ g < w.heap.size := own_lts C xs bs h
theorem Has.lt {e : TypeId} {z n : Nat} {k : Cs} {s : Value} {bs : List Nat} (h : k.Has w base e z n s bs) : ∀ g ∈ bs, base ≤ g ∧ g < w.heap.size := by
  obtain ⟨ys, b1, h1, h2, rfl⟩ := h
  intro g hg
  rcases List.mem_append.1 hg with hg | hg
  · exact own_lt h1 hg
  · exact h2.lt g hg
theorem Own.same : ∀ {C : Cs} {xs : List Value} {bs : List Nat}, C.Own w base xs bs → (∀ g ∈ bs, w'.heap[g]? = w.heap[g]?) → C.Own w' base xs bs := by
  intro C
  induction C with
  | nil => intro xs bs h _; exact h
  | val v r ih => rintro xs bs ⟨xs', rfl, h⟩ hs; exact ⟨xs', rfl, ih h hs⟩
  | sl e z n k r ihk ih =>
    rintro xs bs ⟨s, xs', ys, b1, b2, rfl, h1, h2, h3, rfl⟩ hs
    exact ⟨s, xs', ys, b1, b2, rfl, own_same h1 (fun g hg => hs g (by simp [hg])), ihk h2 (fun g hg => hs g (by simp [hg])), ih h3 (fun g hg => hs g (by simp [hg])), rfl⟩
theorem Has.same {e : TypeId} {z n : Nat} {k : Cs} {s : Value} {bs : List Nat} (h : k.Has w base e z n s bs) (hs : ∀ g ∈ bs, w'.heap[g]? = w.heap[g]?) : k.Has w' base e z n s bs := by
  obtain ⟨ys, b1, h1, h2, rfl⟩ := h
  exact ⟨ys, b1, own_same h1 (fun g hg => hs g (by simp [hg])), h2.same (fun g hg => hs g (by simp [hg])), rfl⟩
theorem Own.below {C : Cs} {xs : List Value} {bs : List Nat} (h : C.Own w base xs bs) (hb : Below w.heap.size w w') : C.Own w' base xs bs := h.same fun g hg => hb.block g (h.lt g hg).2
theorem Has.below {e : TypeId} {z n : Nat} {k : Cs} {s : Value} {bs : List Nat} (h : k.Has w base e z n s bs) (hb : Below w.heap.size w w') : k.Has w' base e z n s bs := h.same fun g hg => hb.block g (h.lt g hg).2
theorem Own.apart {C : Cs} {xs : List Value} {bs cs : List Nat} (h : C.Own w base xs bs) (hb : Apart cs w w') (hd : ∀ g ∈ bs, g ∉ cs) : C.Own w' base xs bs := h.same fun g hg => hb.block g (h.lt g hg).2 (hd g hg)
theorem Has.apart {e : TypeId} {z n : Nat} {k : Cs} {s : Value} {bs cs : List Nat} (h : k.Has w base e z n s bs) (hb : Apart cs w w') (hd : ∀ g ∈ bs, g ∉ cs) : k.Has w' base e z n s bs := h.same fun g hg => hb.block g (h.lt g hg).2 (hd g hg)
theorem Own.down {base' : Nat} (hb : base' ≤ base) : ∀ {C : Cs} {xs : List Value} {bs : List Nat}, C.Own w base xs bs → C.Own w base' xs bs := by
  intro C
  induction C with
  | nil => intro xs bs h; exact h
  | val v r ih => rintro xs bs ⟨xs', rfl, h⟩; exact ⟨xs', rfl, ih h⟩
  | sl e z n k r ihk ih =>
    rintro xs bs ⟨s, xs', ys, b1, b2, rfl, h1, h2, h3, rfl⟩
    exact ⟨s, xs', ys, b1, b2, rfl, own_base h1 hb, ihk h2, ih h3, rfl⟩
theorem Has.down {base' : Nat} {e : TypeId} {z n : Nat} {k : Cs} {s : Value} {bs : List Nat} (h : k.Has w base e z n s bs) (hb : base' ≤ base) : k.Has w base' e z n s bs := by
  obtain ⟨ys, b1, h1, h2, h3⟩ := h
  exact ⟨ys, b1, own_base h1 hb, h2.down hb, h3⟩
/-- a row that is owned shows its cells -/
theorem shows_of_owns {e : TypeId} {z n : Nat} {s : Value} {ys : List Value} (h : w.ownsRow base e z s n ys) : Shows w base z s n ys := by
  refine ⟨h.1, ?_⟩
  rcases h.2 with ⟨rfl, h0⟩ | ⟨g, cap, cur, rfl, h2, h3, h4, h5, _⟩
  · exact ⟨none, 0, by rw [h0], by omega, by decide, fun _ => rfl, fun a ha => by cases ha⟩
  · refine ⟨some ⟨g, 0, none⟩, cap, rfl, h4, h5, (fun h => by cases h), fun a ha => ?_⟩
    cases ha
    refine ⟨h2, fun _ => rfl, fun j u hu => ?_⟩
    have hj := (List.getElem?_eq_some_iff.1 hu).1
    show w.cell? ⟨g, 0 + j, none⟩ = some u
    rw [Nat.zero_add, h.cellAt j (by rw [← h.1]; exact hj)]
    exact hu
theorem Own.vs : ∀ {C : Cs} {xs : List Value} {bs : List Nat}, C.Own w base xs bs → C.Vs w base xs := by
  intro C
  induction C with
  | nil => rintro xs bs ⟨h, _⟩; exact h
  | val v r ih => rintro xs bs ⟨xs', rfl, h⟩; exact ⟨xs', rfl, ih h⟩
  | sl e z n k r ihk ih =>
    rintro xs bs ⟨s, xs', ys, b1, b2, rfl, h1, h2, h3, rfl⟩
    exact ⟨s, xs', ys, rfl, shows_of_owns h1, ihk h2, ih h3⟩
theorem Has.is {e : TypeId} {z n : Nat} {k : Cs} {s : Value} {bs : List Nat} (h : k.Has w base e z n s bs) : k.Is w base z n s := by
  obtain ⟨ys, b1, h1, h2, _⟩ := h
  exact ⟨ys, shows_of_owns h1, h2.vs⟩
theorem vs_app : ∀ {C D : Cs} {xs ys : List Value}, C.Vs w base xs → D.Vs w base ys → (C.app D).Vs w base (xs ++ ys) := by
  intro C
  induction C with
  | nil => rintro D xs ys rfl h; exact h
  | val v r ih => rintro D xs ys ⟨xs', rfl, h⟩ h'; exact ⟨xs' ++ ys, rfl, ih h h'⟩
  | sl e z n k r _ ih => rintro D xs ys ⟨s, xs', zs, rfl, h1, h2, h3⟩ h'; exact ⟨s, xs' ++ ys, zs, rfl, h1, h2, ih h3 h'⟩
theorem vs_split : ∀ {C D : Cs} {zs : List Value}, (C.app D).Vs w base zs → ∃ xs ys, zs = xs ++ ys ∧ C.Vs w base xs ∧ D.Vs w base ys := by
  intro C
  induction C with
  | nil => intro D zs h; exact ⟨[], zs, rfl, rfl, h⟩
  | val v r ih => rintro D zs ⟨xs', rfl, h⟩; obtain ⟨a, b, rfl, h1, h2⟩ := ih h; exact ⟨v :: a, b, rfl, ⟨a, rfl, h1⟩, h2⟩
  | sl e z n k r _ ih => rintro D zs ⟨s, xs', ys, rfl, h1, h2, h3⟩; obtain ⟨a, b, rfl, h4, h5⟩ := ih h3; exact ⟨s :: a, b, rfl, ⟨s, a, ys, rfl, h1, h2, h4⟩, h5⟩
theorem own_app : ∀ {C D : Cs} {xs ys : List Value} {bs cs : List Nat}, C.Own w base xs bs → D.Own w base ys cs → (C.app D).Own w base (xs ++ ys) (bs ++ cs) := by
  intro C
  induction C with
  | nil => rintro D xs ys bs cs ⟨rfl, rfl⟩ h; exact h
  | val v r ih => rintro D xs ys bs cs ⟨xs', rfl, h⟩ h'; exact ⟨xs' ++ ys, rfl, ih h h'⟩
  | sl e z n k r _ ih => rintro D xs ys bs cs ⟨s, xs', zs, b1, b2, rfl, h1, h2, h3, rfl⟩ h'; exact ⟨s, xs' ++ ys, zs, b1, b2 ++ cs, rfl, h1, h2, ih h3 h', by simp⟩
theorem own_split : ∀ {C D : Cs} {zs : List Value} {bs : List Nat}, (C.app D).Own w base zs bs → ∃ xs ys b1 b2, zs = xs ++ ys ∧ bs = b1 ++ b2 ∧ C.Own w base xs b1 ∧ D.Own w base ys b2 := by
  intro C
  induction C with
  | nil => intro D zs bs h; exact ⟨[], zs, [], bs, rfl, rfl, ⟨rfl, rfl⟩, h⟩
  | val v r ih => rintro D zs bs ⟨xs', rfl, h⟩; obtain ⟨a, b, b1, b2, rfl, rfl, h1, h2⟩ := ih h; exact ⟨v :: a, b, b1, b2, rfl, rfl, ⟨a, rfl, h1⟩, h2⟩
  | sl e z n k r _ ih =>
    rintro D zs bs ⟨s, xs', ys, b1, b2, rfl, h1, h2, h3, rfl⟩
    obtain ⟨a, b, c1, c2, rfl, rfl, h4, h5⟩ := ih h3
    exact ⟨s :: a, b, (s.ownBlock.toList ++ b1) ++ c1, c2, rfl, by simp, ⟨s, a, ys, b1, c1, rfl, h1, h2, h4, rfl⟩, h5⟩
end
/-- so many rows of one kind, one behind the other -/
def Rows (p : Cs → Prop) : Nat → Cs → Prop
  | 0, C => C = .nil
  | n + 1, C => ∃ c r, C = c.app r ∧ p c ∧ Rows p n r
/-- cells of these types, one behind the other -/
def Fields (p : TypeId → Cs → Prop) : List TypeId → Cs → Prop
  | [], C => C = .nil
  | t :: ts, C => ∃ c r, C = c.app r ∧ p t c ∧ Fields p ts r
/-- the cells of a type -/
def Ty (P : Program) : Nat → TypeId → Cs → Prop
  | 0, _, _ => False
  | m + 1, t, C => match P.underlying t with
    | some (.int k) => ∃ n, C = .val (.int k n) .nil ∧ (Lit.int k n).wf = true
    | some .bool => ∃ b, C = .val (.bool b) .nil
    | some .string => ∃ s : ByteArray, C = .val (.string s) .nil ∧ s.size ≤ maxLen
    | some (.slice e) => ∃ n k, C = .sl e (P.cellsOf e) n k .nil ∧ n ≤ maxLen ∧ Rows (Ty P m e) n k
    | some (.struct fs) => Fields (Ty P m) (fs.toList.map (·.type)) C
    | _ => False
/-- fields lie one behind the other, from an offset on, up to a size -/
def packed (P : Program) : Nat → Nat → List Field → Bool
  | o, z, [] => o == z
  | o, z, f :: fs => f.offset == o && packed P (o + P.cellsOf f.type) z fs
/-- a type that is made of ints, bools, strings, and of slices and structs of such types -/
def plainAt (P : Program) (ts : List TypeId) (t : TypeId) : Bool := match P.underlying t with
  | some (.int _) | some .bool | some .string => true
  | some (.slice e) => ts.contains e
  | some (.struct fs) => packed P 0 (P.cellsOf t) fs.toList && fs.toList.all (fun f => ts.contains f.type)
  | _ => false
section
variable {H : Type} {enc : TypeId × Value → H} {P : Program} {w : World} {base : Nat} {spare : Nat → Bool} {held : Bool}
theorem gather {b z : Nat} {p : Cs → Prop} : ∀ (m o : Nat), (∀ i, i < m → ∃ c cs', cs'.length = z ∧ w.rangeAt b (o + i * z) cs' ∧ c.Vs w base cs' ∧ p c) → ∃ k ys, ys.length = m * z ∧ k.Vs w base ys ∧ Rows p m k ∧ w.rangeAt b o ys := by
  intro m
  induction m with
  | zero => intro o _; exact ⟨.nil, [], by simp, rfl, rfl, fun j u hu => by simp at hu⟩
  | succ m ih =>
    intro o h
    obtain ⟨c, cs', hl, hr, hv, hp⟩ := h 0 (by omega)
    obtain ⟨k, ys, h1, h2, h3, h4⟩ := ih (o + z) (fun i hi => by
      obtain ⟨c, cs', q1, q2, q3⟩ := h (i + 1) (by omega)
      exact ⟨c, cs', q1, by rw [show o + z + i * z = o + (i + 1) * z by rw [Nat.succ_mul]; omega]; exact q2, q3⟩)
    refine ⟨c.app k, cs' ++ ys, by rw [List.length_append, hl, h1, Nat.succ_mul]; omega, vs_app hv h2, ⟨c, k, rfl, hp, h3⟩, fun j u hu => ?_⟩
    by_cases hj : j < cs'.length
    · rw [List.getElem?_append_left hj] at hu
      have := hr j u hu
      rwa [Nat.zero_mul, Nat.add_zero] at this
    · rw [List.getElem?_append_right (by omega), hl] at hu
      have := h4 (j - z) u hu
      rwa [show o + z + (j - z) = o + j by omega] at this
/-- what can be read as data of such a type: its cells -/
theorem open_any {ts : List TypeId} (hp : ts.all (plainAt P ts) = true) : ∀ (fuel : Nat) (t : TypeId), t ∈ ts → ∀ (cs : List Value) (x : DataW H × List MemPlace), DataW.trod enc P w base spare held fuel t cs = some x → ∃ C : Cs, C.Vs w base cs ∧ Ty P fuel t C := by
  intro fuel
  induction fuel using Nat.strongRecOn with
  | ind fuel ih =>
    intro t ht cs x h
    have hpt := List.all_eq_true.1 hp t ht
    unfold plainAt at hpt
    split at hpt
    case h_1 k hu =>
      obtain ⟨n, rfl, rfl, hw⟩ := DataW.trod_int hu h
      cases fuel with
      | zero => simp [DataW.trod] at h
      | succ m => exact ⟨.val (.int k n) .nil, ⟨[], rfl, rfl⟩, by unfold Ty; rw [hu]; exact ⟨n, rfl, hw⟩⟩
    case h_2 hu =>
      obtain ⟨b, rfl, rfl⟩ := DataW.trod_bool hu h
      cases fuel with
      | zero => simp [DataW.trod] at h
      | succ m => exact ⟨.val (.bool b) .nil, ⟨[], rfl, rfl⟩, by unfold Ty; rw [hu]; exact ⟨b, rfl⟩⟩
    case h_3 hu =>
      obtain ⟨s, rfl, rfl, hw⟩ := DataW.trod_string hu h
      cases fuel with
      | zero => simp [DataW.trod] at h
      | succ m => exact ⟨.val (.string s) .nil, ⟨[], rfl, rfl⟩, by unfold Ty; rw [hu]; exact ⟨s, rfl, hw⟩⟩
    case h_4 e hu =>
      have he : e ∈ ts := by simpa using hpt
      rcases DataW.trod_slice hu h with ⟨rfl, _⟩ | ⟨a, len, cap, elems, rest, n, rfl, rfl, _, hb, hl, hm, hlen, hel, _, _⟩
      · cases fuel with
        | zero => simp [DataW.trod] at h
        | succ m => exact ⟨.sl e (P.cellsOf e) 0 .nil .nil, ⟨.slice none 0 0, [], [], rfl, ⟨by simp, none, 0, rfl, Nat.le_refl _, Nat.zero_le _, fun _ => rfl, fun a ha => by cases ha⟩, rfl, rfl⟩, by unfold Ty; rw [hu]; exact ⟨0, .nil, rfl, Nat.zero_le _, rfl⟩⟩
      · have each : ∀ i, i < len → ∃ c cs', cs'.length = P.cellsOf e ∧ (∀ j, j < P.cellsOf e → w.cell? ((a.add (i * P.cellsOf e)).add j) = cs'[j]?) ∧ c.Vs w base cs' ∧ Ty P n e c := by
          intro i hi
          have hy := hel i hi
          rw [List.getElem?_eq_getElem (by omega)] at hy
          obtain ⟨cs', hcs, hy⟩ := Option.bind_eq_some_iff.1 hy
          obtain ⟨_, hcl, hat⟩ := World.cells?_some hcs
          obtain ⟨c, hc1, hc2⟩ := ih n (by omega) e he cs' _ hy
          exact ⟨c, cs', hcl, hat, hc1, hc2⟩
        by_cases hz : 0 < len ∧ 0 < P.cellsOf e
        · obtain ⟨b, o, sp⟩ := a
          have hsp : sp = none := by
            obtain ⟨c, cs', hcl, hat, _⟩ := each 0 hz.1
            have := hat 0 hz.2
            rw [List.getElem?_eq_getElem (by omega)] at this
            cases sp with
            | none => rfl
            | some s => simp [Addr.add, World.cell?] at this; split at this <;> simp at this
          subst hsp
          obtain ⟨k, ys, h1, h2, h3, h4⟩ := gather (w := w) (base := base) (b := b) (z := P.cellsOf e) (p := Ty P n e) len o (fun i hi => by
            obtain ⟨c, cs', hcl, hat, hc⟩ := each i hi
            refine ⟨c, cs', hcl, fun j u hu => ?_, hc⟩
            have hj := (List.getElem?_eq_some_iff.1 hu).1
            have := hat j (by omega)
            rw [Addr.add_mid, Addr.add_mid] at this
            rw [this]; exact hu)
          exact ⟨.sl e (P.cellsOf e) len k .nil, ⟨_, [], ys, rfl, ⟨h1, some ⟨b, o, none⟩, cap, rfl, hl, hm, (fun h => by cases h), fun a ha => by cases ha; exact ⟨hb, fun _ => rfl, h4⟩⟩, h2, rfl⟩, by unfold Ty; rw [hu]; exact ⟨len, k, rfl, by omega, h3⟩⟩
        · have hr : ∀ m, m ≤ len → ∃ k : Cs, k.Vs w base [] ∧ Rows (Ty P n e) m k := by
            intro m
            induction m with
            | zero => intro _; exact ⟨.nil, rfl, rfl⟩
            | succ m ihm =>
              intro hm'
              obtain ⟨k, hk1, hk2⟩ := ihm (by omega)
              obtain ⟨c, cs', hcl, _, hc1, hc2⟩ := each m (by omega)
              have : cs' = [] := List.length_eq_zero_iff.1 (by omega)
              subst this
              exact ⟨c.app k, vs_app hc1 hk1, c, k, rfl, hc2, hk2⟩
          obtain ⟨k, hk1, hk2⟩ := hr len (Nat.le_refl _)
          have h0 : len * P.cellsOf e = 0 := by
            by_cases h1 : 0 < len
            · rw [show P.cellsOf e = 0 by omega]; rfl
            · rw [show len = 0 by omega]; simp
          exact ⟨.sl e (P.cellsOf e) len k .nil, ⟨_, [], [], rfl, ⟨by simpa using h0.symm, some a, cap, rfl, hl, hm, (fun h => by cases h), (fun a' ha => by cases ha; exact ⟨hb, fun h => absurd rfl h, fun j u hu => by simp at hu⟩)⟩, hk1, rfl⟩, by unfold Ty; rw [hu]; exact ⟨len, k, rfl, by omega, hk2⟩⟩
    case h_5 fs hu =>
      rw [Bool.and_eq_true] at hpt
      obtain ⟨hpk, hin⟩ := hpt
      obtain ⟨xs, m, rfl, _, hcl, hxl, hf⟩ := DataW.trod_struct hu h
      have key : ∀ (l : List Field) (o : Nat), packed P o (P.cellsOf t) l = true → (∀ f ∈ l, f.type ∈ ts ∧ ∃ y, DataW.trod enc P w base spare held m f.type ((cs.drop f.offset).take (P.cellsOf f.type)) = some y) → ∃ C : Cs, C.Vs w base (cs.drop o) ∧ Fields (Ty P m) (l.map (·.type)) C := by
        intro l
        induction l with
        | nil =>
          intro o ho _
          have : o = P.cellsOf t := by simpa [packed] using ho
          exact ⟨.nil, by rw [List.drop_of_length_le (by omega)]; rfl, rfl⟩
        | cons f l ihl =>
          intro o ho hall
          simp only [packed, Bool.and_eq_true, beq_iff_eq] at ho
          obtain ⟨h1, y, h2⟩ := hall f (by simp)
          obtain ⟨c, hc1, hc2⟩ := ih m (by omega) f.type h1 _ _ h2
          obtain ⟨r, hr1, hr2⟩ := ihl _ ho.2 (fun g hg => hall g (by simp [hg]))
          refine ⟨c.app r, ?_, c, r, rfl, hc2, hr2⟩
          have := vs_app hc1 hr1
          rw [ho.1, ← List.drop_drop, List.take_append_drop] at this
          exact this
      obtain ⟨C, hC1, hC2⟩ := key fs.toList 0 hpk (fun f hf' => by
        refine ⟨by have := List.all_eq_true.1 hin f hf'; simpa using this, ?_⟩
        obtain ⟨i, hi, rfl⟩ := List.getElem_of_mem hf'
        have hi' : i < fs.size := by simpa using hi
        have := hf i fs[i] (by simp [hi'])
        rw [List.getElem?_eq_getElem (by omega)] at this
        exact ⟨_, by simpa using this⟩)
      exact ⟨C, by simpa using hC1, by unfold Ty; rw [hu]; exact hC2⟩
    case h_6 => cases hpt
theorem open_arg {ts : List TypeId} (hp : ts.all (plainAt P ts) = true) {t : TypeId} (ht : t ∈ ts) {v : Value} {d : DataW H} {ps : List MemPlace} (h : DataW.Trod enc P w base spare held t v d ps) : ∃ m C, Cs.Vs w base C v.cells.toList ∧ Ty P m t C := by
  obtain ⟨fuel, hf⟩ := h
  obtain ⟨C, h1, h2⟩ := open_any hp fuel t ht _ _ hf
  exact ⟨fuel, C, h1, h2⟩
end
end Cs
end Go.Proofs.YthmababifgaejaaGreatDoor
namespace Go.Proofs.YthmababifgaejaaGreatDoor
open Go.ChangeShapes Go.WideShapes Go.RowKit
/-- a list of nodes: each one's op, width, number, name and kids, and what stands behind it -/
inductive Fo where
  | nil
  | cons (op wd n : Int) (nm : ByteArray) (k r : Fo)
/-- five cells at the head of a block -/
def Cell5 (w : World) (b : Nat) (c0 c1 c2 c3 c4 : Value) : Prop := w.cell? ⟨b, 0, none⟩ = some c0 ∧ w.cell? ⟨b, 1, none⟩ = some c1 ∧ w.cell? ⟨b, 2, none⟩ = some c2 ∧ w.cell? ⟨b, 3, none⟩ = some c3 ∧ w.cell? ⟨b, 4, none⟩ = some c4
theorem Cell5.below {w w' : World} {b : Nat} {c0 c1 c2 c3 c4 : Value} (h : Cell5 w b c0 c1 c2 c3 c4) (hb : Below w.heap.size w w') : Cell5 w' b c0 c1 c2 c3 c4 := by
  obtain ⟨h0, h1, h2, h3, h4⟩ := h
  have hl := World.block_lt_of_cell? w _ h0
  have e : ∀ o, w'.cell? ⟨b, o, none⟩ = w.cell? ⟨b, o, none⟩ := fun o => hb.cell (p := ⟨b, o, none⟩) hl
  exact ⟨(e 0).trans h0, (e 1).trans h1, (e 2).trans h2, (e 3).trans h3, (e 4).trans h4⟩
theorem cell5_alloc (w : World) (T : TypeId) (c0 c1 c2 c3 c4 : Value) : Cell5 (w.alloc (.cells #[c0, c1, c2, c3, c4] T)) w.heap.size c0 c1 c2 c3 c4 := by
  have h : ∀ j, (w.alloc (.cells #[c0, c1, c2, c3, c4] T)).cell? ⟨w.heap.size, j, none⟩ = #[c0, c1, c2, c3, c4][j]? := fun j => cell_of_row _ w.heap.size j _ T (0, 0) (heap_alloc_new w _)
  exact ⟨h 0, h 1, h 2, h 3, h 4⟩
namespace Fo
def len : Fo → Nat
  | .nil => 0
  | .cons _ _ _ _ _ r => r.len + 1
/-- numbers are ints, names are strings, all the way down -/
def Ok : Fo → Prop
  | .nil => True
  | .cons op wd n nm k r => ((-9223372036854775808 ≤ op ∧ op ≤ 9223372036854775807) ∧ (-9223372036854775808 ≤ wd ∧ wd ≤ 9223372036854775807) ∧ (-9223372036854775808 ≤ n ∧ n ≤ 9223372036854775807)) ∧ nm.size ≤ maxLen ∧ k.len ≤ maxLen ∧ k.Ok ∧ r.Ok
def OneOk (op wd n : Int) (nm : ByteArray) (k : Fo) : Prop := ((-9223372036854775808 ≤ op ∧ op ≤ 9223372036854775807) ∧ (-9223372036854775808 ≤ wd ∧ wd ≤ 9223372036854775807) ∧ (-9223372036854775808 ≤ n ∧ n ≤ 9223372036854775807)) ∧ nm.size ≤ maxLen ∧ k.len ≤ maxLen ∧ k.Ok
/-- the cells of the nodes -/
def cs (T : TypeId) : Fo → Cs
  | .nil => .nil
  | .cons op wd n nm k r => .val (.int .i64 op) (.val (.int .i64 wd) (.val (.int .i64 n) (.val (.string nm) (.sl T 5 k.len (k.cs T) (r.cs T)))))
/-- the cells of one node -/
def one (T : TypeId) (op wd n : Int) (nm : ByteArray) (k : Fo) : Cs := .val (.int .i64 op) (.val (.int .i64 wd) (.val (.int .i64 n) (.val (.string nm) (.sl T 5 k.len (k.cs T) .nil))))
/-- what a budget pays for: a slice's nodes, the bytes of their names, and so on down -/
def cost : Fo → Nat
  | .nil => 0
  | .cons _ _ _ nm k r => 1 + nm.size + k.cost + r.cost
/-- .. of the nodes of a slice without the nodes themselves -/
def rest : Fo → Nat
  | .nil => 0
  | .cons _ _ _ nm k r => nm.size + k.cost + r.rest
theorem cost_eq : ∀ F : Fo, F.cost = F.len + F.rest
  | .nil => rfl
  | .cons _ _ _ _ _ r => by simp only [cost, len, rest, cost_eq r]; omega
/-- how many nodes there are, all the way down -/
def nodes : Fo → Nat
  | .nil => 0
  | .cons _ _ _ _ k r => 1 + k.nodes + r.nodes
theorem nodes_le : ∀ F : Fo, F.nodes ≤ F.cost
  | .nil => Nat.le_refl _
  | .cons _ _ _ _ k r => by have := nodes_le k; have := nodes_le r; simp only [nodes, cost]; omega
theorem len_le : ∀ F : Fo, F.len ≤ F.nodes
  | .nil => Nat.le_refl _
  | .cons _ _ _ _ k r => by have := len_le r; simp only [nodes, len]; omega
/-- the nodes, without those at the head of which they stand -/
def deep : Fo → Nat
  | .nil => 0
  | .cons _ _ _ _ k r => k.nodes + r.deep
theorem nodes_eq : ∀ F : Fo, F.nodes = F.len + F.deep
  | .nil => rfl
  | .cons _ _ _ _ _ r => by simp only [nodes, len, deep, nodes_eq r]; omega
def app : Fo → Fo → Fo
  | .nil, G => G
  | .cons op wd n nm k r, G => .cons op wd n nm k (r.app G)
def take : Fo → Nat → Fo
  | .nil, _ => .nil
  | .cons _ _ _ _ _ _, 0 => .nil
  | .cons op wd n nm k r, j + 1 => .cons op wd n nm k (r.take j)
def drop : Fo → Nat → Fo
  | F, 0 => F
  | .nil, _ + 1 => .nil
  | .cons _ _ _ _ _ r, j + 1 => r.drop j
/-- the node at an index -/
def At : Fo → Nat → Int → Int → Int → ByteArray → Fo → Prop
  | .nil, _, _, _, _, _, _ => False
  | .cons op wd n nm k _, 0, op', wd', n', nm', k' => op' = op ∧ wd' = wd ∧ n' = n ∧ nm' = nm ∧ k' = k
  | .cons _ _ _ _ _ r, j + 1, op', wd', n', nm', k' => r.At j op' wd' n' nm' k'
theorem at_some : ∀ (F : Fo) (j : Nat), j < F.len → ∃ op wd n nm k, F.At j op wd n nm k
  | .nil, _, h => absurd h (Nat.not_lt_zero _)
  | .cons op wd n nm k _, 0, _ => ⟨op, wd, n, nm, k, rfl, rfl, rfl, rfl, rfl⟩
  | .cons _ _ _ _ _ r, j + 1, h => at_some r j (by simp only [len] at h; omega)
theorem at_fun : ∀ (F : Fo) (j : Nat) {op wd n op' wd' n' : Int} {nm nm' : ByteArray} {k k' : Fo}, F.At j op wd n nm k → F.At j op' wd' n' nm' k' → op = op' ∧ wd = wd' ∧ n = n' ∧ nm = nm' ∧ k = k'
  | .nil, _, _, _, _, _, _, _, _, _, _, _, h, _ => h.elim
  | .cons _ _ _ _ _ _, 0, _, _, _, _, _, _, _, _, _, _, ⟨rfl, rfl, rfl, rfl, rfl⟩, ⟨rfl, rfl, rfl, rfl, rfl⟩ => ⟨rfl, rfl, rfl, rfl, rfl⟩
  | .cons _ _ _ _ _ r, j + 1, _, _, _, _, _, _, _, _, _, _, h, h' => at_fun r j h h'
theorem at_lt : ∀ (F : Fo) (j : Nat) {op wd n : Int} {nm : ByteArray} {k : Fo}, F.At j op wd n nm k → j < F.len
  | .nil, _, _, _, _, _, _, h => h.elim
  | .cons _ _ _ _ _ _, 0, _, _, _, _, _, _ => by simp only [len]; omega
  | .cons _ _ _ _ _ r, j + 1, _, _, _, _, _, h => by have := at_lt r j h; simp only [len]; omega
theorem at_ok : ∀ (F : Fo) (j : Nat) {op wd n : Int} {nm : ByteArray} {k : Fo}, F.At j op wd n nm k → F.Ok → OneOk op wd n nm k
  | .nil, _, _, _, _, _, _, h, _ => h.elim
  | .cons _ _ _ _ _ _, 0, _, _, _, _, _, ⟨rfl, rfl, rfl, rfl, rfl⟩, h => ⟨h.1, h.2.1, h.2.2.1, h.2.2.2.1⟩
  | .cons _ _ _ _ _ r, j + 1, _, _, _, _, _, h, hk => at_ok r j h hk.2.2.2.2
/-- what holds of the kids of all nodes -/
def AllK (p : Fo → Prop) : Fo → Prop
  | .nil => True
  | .cons _ _ _ _ k r => p k ∧ r.AllK p
theorem at_allK {p : Fo → Prop} : ∀ (F : Fo) (j : Nat) {op wd n : Int} {nm : ByteArray} {k : Fo}, F.At j op wd n nm k → F.AllK p → p k
  | .nil, _, _, _, _, _, _, h, _ => h.elim
  | .cons _ _ _ _ _ _, 0, _, _, _, _, _, ⟨_, _, _, _, rfl⟩, h => h.1
  | .cons _ _ _ _ _ r, j + 1, _, _, _, _, _, h, hk => at_allK r j h hk.2
/-- what holds of a slice's nodes if it holds of their kids, holds of all slices of nodes -/
theorem every {p : Fo → Prop} (h : ∀ F : Fo, F.AllK p → p F) : ∀ F : Fo, p F := by
  have key : ∀ F : Fo, F.AllK p := by
    intro F
    induction F with
    | nil => trivial
    | cons _ _ _ _ k r ihk ihr => exact ⟨h k ihk, ihr⟩
  exact fun F => h F (key F)
/-- the cost of the first j nodes of a slice, without those nodes themselves -/
def paid : Fo → Nat → Nat
  | .nil, _ => 0
  | .cons _ _ _ _ _ _, 0 => 0
  | .cons _ _ _ nm k r, j + 1 => nm.size + k.cost + r.paid j
theorem paid_all : ∀ F : Fo, F.paid F.len = F.rest
  | .nil => rfl
  | .cons _ _ _ _ _ r => by simp only [len, paid, rest, paid_all r]
theorem paid_zero : ∀ F : Fo, F.paid 0 = 0
  | .nil => rfl
  | .cons _ _ _ _ _ _ => rfl
theorem at_paid : ∀ (F : Fo) (j : Nat) {op wd n : Int} {nm : ByteArray} {k : Fo}, F.At j op wd n nm k → F.paid (j + 1) = F.paid j + (nm.size + k.cost) ∧ F.paid (j + 1) ≤ F.rest
  | .nil, _, _, _, _, _, _, h => h.elim
  | .cons _ _ _ _ _ r, 0, _, _, _, _, _, ⟨rfl, rfl, rfl, rfl, rfl⟩ => by simp only [paid, rest, paid_zero]; omega
  | .cons _ _ _ _ _ r, j + 1, _, _, _, _, _, h => by
    have := at_paid r j h
    simp only [paid, rest] at this ⊢; omega
theorem at_nodes : ∀ (F : Fo) (j : Nat) {op wd n : Int} {nm : ByteArray} {k : Fo}, F.At j op wd n nm k → (F.drop j).nodes = 1 + k.nodes + (F.drop (j + 1)).nodes ∧ k.nodes < F.nodes
  | .nil, _, _, _, _, _, _, h => h.elim
  | .cons _ _ _ _ _ r, 0, _, _, _, _, _, ⟨rfl, rfl, rfl, rfl, rfl⟩ => ⟨by cases r <;> rfl, by simp only [nodes]; omega⟩
  | .cons _ _ _ _ _ r, j + 1, _, _, _, _, _, h => by
    have := at_nodes r j h
    exact ⟨this.1, by simp only [nodes]; omega⟩
theorem at_deep : ∀ (F : Fo) (j : Nat) {op wd n : Int} {nm : ByteArray} {k : Fo}, F.At j op wd n nm k → (F.drop j).deep = k.nodes + (F.drop (j + 1)).deep
  | .nil, _, _, _, _, _, _, h => h.elim
  | .cons op wd n nm k r, 0, _, _, _, _, _, ⟨rfl, rfl, rfl, rfl, rfl⟩ => by show k.nodes + r.deep = k.nodes + (r.drop 0).deep; cases r <;> rfl
  | .cons _ _ _ _ _ r, j + 1, _, _, _, _, _, h => at_deep r j h
theorem take_at : ∀ (F : Fo) (j : Nat) {op wd n : Int} {nm : ByteArray} {k : Fo}, F.At j op wd n nm k → F.take (j + 1) = (F.take j).app (.cons op wd n nm k .nil)
  | .nil, _, _, _, _, _, _, h => h.elim
  | .cons _ _ _ _ _ r, 0, _, _, _, _, _, ⟨rfl, rfl, rfl, rfl, rfl⟩ => by cases r <;> rfl
  | .cons _ _ _ _ _ r, j + 1, _, _, _, _, _, h => by
    show Fo.cons _ _ _ _ _ (r.take (j + 1)) = Fo.cons _ _ _ _ _ ((r.take j).app _)
    rw [take_at r j h]
theorem drop_at : ∀ (F : Fo) (j : Nat) {op wd n : Int} {nm : ByteArray} {k : Fo}, F.At j op wd n nm k → F.drop j = .cons op wd n nm k (F.drop (j + 1))
  | .nil, _, _, _, _, _, _, h => h.elim
  | .cons _ _ _ _ _ r, 0, _, _, _, _, _, ⟨rfl, rfl, rfl, rfl, rfl⟩ => by cases r <;> rfl
  | .cons _ _ _ _ _ r, j + 1, _, _, _, _, _, h => drop_at r j h
/-- a stack of slices of nodes -/
def stk (T : TypeId) : List Fo → Cs
  | [] => .nil
  | F :: L => .sl T 5 F.len (F.cs T) (stk T L)
def total : List Fo → Nat
  | [] => 0
  | F :: L => F.nodes + total L
theorem stk_app (T : TypeId) : ∀ L M : List Fo, stk T (L ++ M) = (stk T L).app (stk T M)
  | [], _ => rfl
  | F :: L, M => by rw [List.cons_append, stk, stk, Cs.app, stk_app T L M]
theorem stk_len (T : TypeId) : ∀ L : List Fo, (stk T L).len = L.length
  | [] => rfl
  | F :: L => by rw [stk, Cs.len, stk_len T L]; rfl
theorem total_app : ∀ L M : List Fo, total (L ++ M) = total L + total M
  | [], M => by simp [total]
  | F :: L, M => by rw [List.cons_append, total, total, total_app L M]; omega
theorem drop_all : ∀ F : Fo, F.drop F.len = .nil
  | .nil => rfl
  | .cons _ _ _ _ _ r => drop_all r
theorem drop_zero : ∀ F : Fo, F.drop 0 = F
  | .nil => rfl
  | .cons _ _ _ _ _ _ => rfl
theorem take_all : ∀ F : Fo, F.take F.len = F
  | .nil => rfl
  | .cons _ _ _ _ _ r => by simp only [len, take, take_all r]
theorem take_zero : ∀ F : Fo, F.take 0 = .nil
  | .nil => rfl
  | .cons _ _ _ _ _ _ => rfl
theorem len_app : ∀ F G : Fo, (F.app G).len = F.len + G.len
  | .nil, G => by simp [app, len]
  | .cons _ _ _ _ _ r, G => by simp only [app, len, len_app r G]; omega
theorem len_take : ∀ (F : Fo) (j : Nat), j ≤ F.len → (F.take j).len = j
  | .nil, j, h => by simp only [len] at h; simp [take, len]; omega
  | .cons _ _ _ _ _ _, 0, _ => rfl
  | .cons _ _ _ _ _ r, j + 1, h => by simp only [take, len]; rw [len_take r j (by simp only [len] at h; omega)]
theorem cs_app (T : TypeId) : ∀ F G : Fo, (F.app G).cs T = (F.cs T).app (G.cs T)
  | .nil, _ => rfl
  | .cons _ _ _ _ _ r, G => by simp only [app, cs, Cs.app, cs_app T r G]
theorem cs_len (T : TypeId) : ∀ F : Fo, (F.cs T).len = F.len * 5
  | .nil => rfl
  | .cons _ _ _ _ _ r => by simp only [cs, Cs.len, len, cs_len T r]; omega
theorem cs_cons (T : TypeId) (op wd n : Int) (nm : ByteArray) (k r : Fo) : (Fo.cons op wd n nm k r).cs T = (one T op wd n nm k).app (r.cs T) := rfl
/-- the cells of the node at an index -/
theorem at_vs {w : World} {base : Nat} {T : TypeId} : ∀ (F : Fo) (j : Nat) {op wd n : Int} {nm : ByteArray} {k : Fo} {xs : List Value}, F.At j op wd n nm k → (F.cs T).Vs w base xs →
    ∃ v, xs[j * 5]? = some (.int .i64 op) ∧ xs[j * 5 + 1]? = some (.int .i64 wd) ∧ xs[j * 5 + 2]? = some (.int .i64 n) ∧ xs[j * 5 + 3]? = some (.string nm) ∧ xs[j * 5 + 4]? = some v ∧ (k.cs T).Is w base 5 k.len v
  | .nil, _, _, _, _, _, _, _, h, _ => h.elim
  | .cons _ _ _ _ _ _, 0, _, _, _, _, _, _, ⟨rfl, rfl, rfl, rfl, rfl⟩, ⟨_, rfl, _, rfl, _, rfl, _, rfl, v, _, ys, rfl, h1, h2, _⟩ => ⟨v, rfl, rfl, rfl, rfl, rfl, ys, h1, h2⟩
  | .cons _ _ _ _ _ r, j + 1, _, _, _, _, _, _, h, ⟨_, rfl, _, rfl, _, rfl, _, rfl, _, xs', _, rfl, _, _, h3⟩ => by
    obtain ⟨v, e0, e1, e2, e3, e4, e5⟩ := at_vs r j h h3
    refine ⟨v, ?_, ?_, ?_, ?_, ?_, e5⟩
    · rw [show (j + 1) * 5 = j * 5 + 1 + 1 + 1 + 1 + 1 by omega]; exact e0
    · rw [show (j + 1) * 5 + 1 = j * 5 + 1 + 1 + 1 + 1 + 1 + 1 by omega]; exact e1
    · rw [show (j + 1) * 5 + 2 = j * 5 + 2 + 1 + 1 + 1 + 1 + 1 by omega]; exact e2
    · rw [show (j + 1) * 5 + 3 = j * 5 + 3 + 1 + 1 + 1 + 1 + 1 by omega]; exact e3
    · rw [show (j + 1) * 5 + 4 = j * 5 + 4 + 1 + 1 + 1 + 1 + 1 by omega]; exact e4
/-- .. where the cells lie -/
theorem nth {w : World} {base b o : Nat} {T : TypeId} (F : Fo) {ys : List Value} (hv : (F.cs T).Vs w base ys) (hr : w.rangeAt b o ys) (j : Nat) (hj : j < F.len) :
    ∃ op wd n nm k v, F.At j op wd n nm k ∧ (k.cs T).Is w base 5 k.len v ∧ w.rangeAt b (o + j * 5) [.int .i64 op, .int .i64 wd, .int .i64 n, .string nm, v] := by
  obtain ⟨op, wd, n, nm, k, hat⟩ := at_some F j hj
  obtain ⟨v, e0, e1, e2, e3, e4, e5⟩ := at_vs F j hat hv
  refine ⟨op, wd, n, nm, k, v, hat, e5, fun i u hu => ?_⟩
  match i, hu with
  | 0, hu => cases hu; exact hr _ _ e0
  | 1, hu => cases hu; exact hr _ _ e1
  | 2, hu => cases hu; exact hr _ _ e2
  | 3, hu => cases hu; exact hr _ _ e3
  | 4, hu => cases hu; exact hr _ _ e4
  | i + 5, hu => simp at hu
/-- a slice of nodes: nil or empty, or it lies somewhere -/
theorem is_cases {w : World} {base : Nat} {T : TypeId} {F : Fo} {v : Value} (h : (F.cs T).Is w base 5 F.len v) : (F.len = 0 ∧ ∃ q cap, v = .slice q 0 cap) ∨ (0 < F.len ∧ ∃ b o cap ys, v = .slice (some ⟨b, o, none⟩) F.len cap ∧ F.len ≤ cap ∧ cap ≤ maxLen ∧ base ≤ b ∧ b < w.heap.size ∧ (F.cs T).Vs w base ys ∧ w.rangeAt b o ys) := by
  obtain ⟨ys, ⟨hl, q, cap, rfl, h1, h2, h3, h4⟩, hv⟩ := h
  by_cases h0 : F.len = 0
  · exact .inl ⟨h0, q, cap, by rw [h0]⟩
  · right
    refine ⟨by omega, ?_⟩
    cases q with
    | none => have := h3 rfl; omega
    | some a =>
      obtain ⟨b, o, sp⟩ := a
      obtain ⟨g1, g2, g3⟩ := h4 _ rfl
      have hsp : sp = none := g2 (by intro e; rw [e] at hl; simp at hl; omega)
      subst hsp
      obtain ⟨_, _, _, _, _, _, _, _, hr⟩ := nth F hv g3 0 (by omega)
      exact ⟨b, o, cap, ys, rfl, h1, h2, g1, World.block_lt_of_cell? w _ (hr 0 _ rfl), hv, g3⟩
theorem one_vs {w : World} {base : Nat} {T : TypeId} {op wd n : Int} {nm : ByteArray} {k : Fo} {xs : List Value} (h : (one T op wd n nm k).Vs w base xs) : ∃ v, xs = [.int .i64 op, .int .i64 wd, .int .i64 n, .string nm, v] ∧ (k.cs T).Is w base 5 k.len v := by
  obtain ⟨_, rfl, _, rfl, _, rfl, _, rfl, v, _, ys, rfl, h1, h2, rfl⟩ := h
  exact ⟨v, rfl, ys, h1, h2⟩
theorem vs_one {w : World} {base : Nat} {T : TypeId} {op wd n : Int} {nm : ByteArray} {k : Fo} {v : Value} (h : (k.cs T).Is w base 5 k.len v) : (one T op wd n nm k).Vs w base [.int .i64 op, .int .i64 wd, .int .i64 n, .string nm, v] := by
  obtain ⟨ys, h1, h2⟩ := h
  exact ⟨_, rfl, _, rfl, _, rfl, _, rfl, v, _, ys, rfl, h1, h2, rfl⟩
theorem own_one {w : World} {base : Nat} {T : TypeId} {op wd n : Int} {nm : ByteArray} {k : Fo} {v : Value} {bs : List Nat} (h : (k.cs T).Has w base T 5 k.len v bs) : (one T op wd n nm k).Own w base [.int .i64 op, .int .i64 wd, .int .i64 n, .string nm, v] bs := by
  obtain ⟨ys, b1, h1, h2, rfl⟩ := h
  exact ⟨_, rfl, _, rfl, _, rfl, _, rfl, v, _, ys, b1, [], rfl, h1, h2, ⟨rfl, rfl⟩, by simp⟩
theorem one_own {w : World} {base : Nat} {T : TypeId} {op wd n : Int} {nm : ByteArray} {k : Fo} {xs : List Value} {bs : List Nat} (h : (one T op wd n nm k).Own w base xs bs) : ∃ v, xs = [.int .i64 op, .int .i64 wd, .int .i64 n, .string nm, v] ∧ (k.cs T).Has w base T 5 k.len v bs := by
  obtain ⟨_, rfl, _, rfl, _, rfl, _, rfl, v, _, ys, b1, b2, rfl, h1, h2, ⟨rfl, rfl⟩, rfl⟩ := h
  exact ⟨v, rfl, ys, b1, h1, h2, by simp⟩
section
variable {P : Program} {tS tT : TypeId} {f0 f1 f2 f3 f4 : Field}
theorem wf_i64 {n : Int} (h : (Lit.int .i64 n).wf = true) : -9223372036854775808 ≤ n ∧ n ≤ 9223372036854775807 := by
  simpa [Lit.wf, show IntKind.i64.min = -9223372036854775808 from rfl] using h
theorem ty_int {t : TypeId} {m : Nat} {C : Cs} (h0 : P.underlying t = some (.int .i64)) (h : Cs.Ty P m t C) : ∃ n, C = .val (.int .i64 n) .nil ∧ -9223372036854775808 ≤ n ∧ n ≤ 9223372036854775807 := by
  cases m with
  | zero => exact h.elim
  | succ m => unfold Cs.Ty at h; rw [h0] at h; obtain ⟨n, rfl, h⟩ := h; exact ⟨n, rfl, wf_i64 h⟩
theorem ty_string {t : TypeId} {m : Nat} {C : Cs} (h0 : P.underlying t = some .string) (h : Cs.Ty P m t C) : ∃ s : ByteArray, C = .val (.string s) .nil ∧ s.size ≤ maxLen := by
  cases m with
  | zero => exact h.elim
  | succ m => unfold Cs.Ty at h; rw [h0] at h; exact h
theorem open_both (hS : P.underlying tS = some (.slice tT)) (hT : P.underlying tT = some (.struct #[f0, f1, f2, f3, f4])) (hC : P.cellsOf tT = 5)
    (h0 : P.underlying f0.type = some (.int .i64)) (h1 : P.underlying f1.type = some (.int .i64)) (h2 : P.underlying f2.type = some (.int .i64)) (h3 : P.underlying f3.type = some .string) (h4 : f4.type = tS) :
    ∀ (m : Nat), (∀ C, Cs.Ty P m tS C → ∃ F : Fo, C = .sl tT 5 F.len (F.cs tT) .nil ∧ F.Ok ∧ F.len ≤ maxLen) ∧ (∀ C, Cs.Ty P m tT C → ∃ op wd n nm k, C = one tT op wd n nm k ∧ OneOk op wd n nm k) := by
  intro m
  induction m with
  | zero => exact ⟨fun C h => h.elim, fun C h => h.elim⟩
  | succ m ih =>
    constructor
    · intro C h
      unfold Cs.Ty at h
      rw [hS] at h
      dsimp only at h
      rw [hC] at h
      obtain ⟨n, k, rfl, hn, hr⟩ := h
      have key : ∀ (n : Nat) (k : Cs), Cs.Rows (Cs.Ty P m tT) n k → ∃ F : Fo, F.len = n ∧ k = F.cs tT ∧ F.Ok := by
        intro n
        induction n with
        | zero => rintro k rfl; exact ⟨.nil, rfl, rfl, trivial⟩
        | succ n ihn =>
          rintro k ⟨c, r, rfl, hc, hr⟩
          obtain ⟨op, wd, nn, nm, kk, rfl, hok⟩ := ih.2 _ hc
          obtain ⟨F, rfl, rfl, hF⟩ := ihn _ hr
          exact ⟨.cons op wd nn nm kk F, rfl, rfl, hok.1, hok.2.1, hok.2.2.1, hok.2.2.2, hF⟩
      obtain ⟨F, rfl, rfl, hF⟩ := key n k hr
      exact ⟨F, rfl, hF, hn⟩
    · intro C h
      unfold Cs.Ty at h
      rw [hT] at h
      simp only [List.map, Cs.Fields] at h
      obtain ⟨c0, _, rfl, g0, c1, _, rfl, g1, c2, _, rfl, g2, c3, _, rfl, g3, c4, _, rfl, g4, rfl⟩ := h
      rw [h4] at g4
      obtain ⟨z0, rfl, w0⟩ := ty_int h0 g0
      obtain ⟨z1, rfl, w1⟩ := ty_int h1 g1
      obtain ⟨z2, rfl, w2⟩ := ty_int h2 g2
      obtain ⟨s3, rfl, w3⟩ := ty_string h3 g3
      obtain ⟨F, rfl, hF, hl⟩ := ih.1 _ g4
      exact ⟨z0, z1, z2, s3, F, rfl, ⟨w0, w1, w2⟩, w3, hl, hF⟩
end
end Fo
end Go.Proofs.YthmababifgaejaaGreatDoor
namespace Go.Proofs.YthmababifgaejaaGreatDoor
open Go.ChangeShapes Go.WideShapes Go.RowKit
/-- what is left of a budget behind a cost -/
def left (l c : Nat) : Int := if c ≤ l then (l : Int) - c else -1
namespace Cs
def flat : List Value → Cs
  | [] => .nil
  | v :: l => .val v (flat l)
theorem flat_app : ∀ a b : List Value, flat (a ++ b) = (flat a).app (flat b)
  | [], _ => rfl
  | v :: a, b => by rw [List.cons_append, flat, flat, app, flat_app a b]
theorem flat_vs {w : World} {base : Nat} : ∀ {l xs : List Value}, (flat l).Vs w base xs ↔ xs = l
  | [], _ => Iff.rfl
  | v :: l, xs => by
    constructor
    · rintro ⟨xs', rfl, h⟩; rw [flat_vs.1 h]
    · rintro rfl; exact ⟨l, rfl, flat_vs.2 rfl⟩
/-- a slice that shows rows of one size: empty, or it lies somewhere -/
theorem shows_cases {w : World} {base z n : Nat} {v : Value} {ys : List Value} (h : Shows w base z v n ys) (hz : 0 < z := by decide) : (n = 0 ∧ ∃ q cap, v = .slice q 0 cap) ∨ (0 < n ∧ ∃ b o cap, v = .slice (some ⟨b, o, none⟩) n cap ∧ n ≤ cap ∧ cap ≤ maxLen ∧ b < w.heap.size ∧ w.rangeAt b o ys) := by
  obtain ⟨hl, q, cap, rfl, h1, h2, h3, h4⟩ := h
  by_cases h0 : n = 0
  · exact .inl ⟨h0, q, cap, by rw [h0]⟩
  · right
    have hp : 0 < n * z := Nat.mul_pos (by omega) hz
    refine ⟨by omega, ?_⟩
    cases q with
    | none => have := h3 rfl; omega
    | some a =>
      obtain ⟨b, o, sp⟩ := a
      obtain ⟨_, g2, g3⟩ := h4 _ rfl
      have hsp : sp = none := g2 (by intro e; rw [e] at hl; simp at hl; omega)
      subst hsp
      have hx : ys[0]? = some (ys[0]'(by omega)) := List.getElem?_eq_getElem (by omega)
      exact ⟨b, o, cap, rfl, h1, h2, World.block_lt_of_cell? w _ (g3 0 _ hx), g3⟩
end Cs
theorem flat_get {R : Type} (cells : R → List Value) (z : Nat) (hz : ∀ r, (cells r).length = z) : ∀ (L : List R) (j i : Nat) (h : j < L.length), i < z → (L.flatMap cells)[j * z + i]? = (cells L[j])[i]?
  | r :: L, 0, i, _, hi => by
    rw [List.flatMap_cons, Nat.zero_mul, Nat.zero_add, List.getElem?_append_left (by rw [hz]; exact hi)]
    rfl
  | r :: L, j + 1, i, h, hi => by
    rw [List.flatMap_cons, List.getElem?_append_right (by rw [hz, Nat.succ_mul]; omega), hz, show (j + 1) * z + i - z = j * z + i by rw [Nat.succ_mul]; omega]
    exact flat_get cells z hz L j i (by simpa using h) hi
/-- the cells of the row at an index -/
theorem flat_nth {R : Type} (cells : R → List Value) (z : Nat) (hz : ∀ r, (cells r).length = z) {w : World} {b o : Nat} (L : List R) (j : Nat) (h : j < L.length) (hr : w.rangeAt b o (L.flatMap cells)) : w.rangeAt b (o + j * z) (cells L[j]) := fun i u hu => by
  have hi := (List.getElem?_eq_some_iff.1 hu).1
  rw [hz] at hi
  have := hr (j * z + i) u (by rw [flat_get cells z hz L j i h hi]; exact hu)
  rwa [← Nat.add_assoc] at this
theorem putAt_take (cur : List Value) (o : Nat) (vs : List Value) (m : Nat) (hm : m = o + vs.length) (hl : m ≤ cur.length) : (putAt cur o vs).take m = cur.take o ++ vs := by
  have hx : (cur.take o).length = o := by rw [List.length_take]; omega
  have := putAt_mid vs (cur.take o) (cur.drop o) (by rw [List.length_drop]; omega)
  rw [List.take_append_drop, hx] at this
  rw [this]
  exact List.take_left' (by rw [List.length_append, hx]; omega)
theorem quiet_eq {P : Program} {f : FuncId} {args : Array Value} {w : World} {n : Nat} {v : Value} (h : Calls P f args (w.drewN n) fun e w' => e = .returned v ∧ w.drewN n = w') : Calls P f args (w.drewN n) fun e w'' => e = .returned v ∧ ∃ m, w'' = w.drewN m :=
  h.mono fun _ _ ⟨he, hm⟩ => ⟨he, n, hm.symm⟩
theorem there2 {w : World} {b o : Nat} (h : w.there b o 2) : ∃ a0 a1, (w.cell? ⟨b, o, none⟩ = some a0 ∧ w.cell? ⟨b, o + 1, none⟩ = some a1) ∧ w.frozen? ⟨b, o, none⟩ = false ∧ w.frozen? ⟨b, o + 1, none⟩ = false := by
  obtain ⟨c0, f0⟩ := h 0 (by omega); obtain ⟨c1, f1⟩ := h 1 (by omega)
  obtain ⟨a0, c0⟩ := Option.isSome_iff_exists.1 c0; obtain ⟨a1, c1⟩ := Option.isSome_iff_exists.1 c1
  exact ⟨a0, a1, ⟨c0, c1⟩, f0, f1⟩
theorem there3 {w : World} {b o : Nat} (h : w.there b o 3) : ∃ a0 a1 a2, (w.cell? ⟨b, o, none⟩ = some a0 ∧ w.cell? ⟨b, o + 1, none⟩ = some a1 ∧ w.cell? ⟨b, o + 2, none⟩ = some a2) ∧ w.frozen? ⟨b, o, none⟩ = false ∧ w.frozen? ⟨b, o + 1, none⟩ = false ∧ w.frozen? ⟨b, o + 2, none⟩ = false := by
  obtain ⟨c0, f0⟩ := h 0 (by omega); obtain ⟨c1, f1⟩ := h 1 (by omega); obtain ⟨c2, f2⟩ := h 2 (by omega)
  obtain ⟨a0, c0⟩ := Option.isSome_iff_exists.1 c0; obtain ⟨a1, c1⟩ := Option.isSome_iff_exists.1 c1; obtain ⟨a2, c2⟩ := Option.isSome_iff_exists.1 c2
  exact ⟨a0, a1, a2, ⟨c0, c1, c2⟩, f0, f1, f2⟩
theorem there4 {w : World} {b o : Nat} (h : w.there b o 4) : ∃ a0 a1 a2 a3, (w.cell? ⟨b, o, none⟩ = some a0 ∧ w.cell? ⟨b, o + 1, none⟩ = some a1 ∧ w.cell? ⟨b, o + 2, none⟩ = some a2 ∧ w.cell? ⟨b, o + 3, none⟩ = some a3) ∧ w.frozen? ⟨b, o, none⟩ = false ∧ w.frozen? ⟨b, o + 1, none⟩ = false ∧ w.frozen? ⟨b, o + 2, none⟩ = false ∧ w.frozen? ⟨b, o + 3, none⟩ = false := by
  obtain ⟨c0, f0⟩ := h 0 (by omega); obtain ⟨c1, f1⟩ := h 1 (by omega); obtain ⟨c2, f2⟩ := h 2 (by omega); obtain ⟨c3, f3⟩ := h 3 (by omega)
  obtain ⟨a0, c0⟩ := Option.isSome_iff_exists.1 c0; obtain ⟨a1, c1⟩ := Option.isSome_iff_exists.1 c1; obtain ⟨a2, c2⟩ := Option.isSome_iff_exists.1 c2; obtain ⟨a3, c3⟩ := Option.isSome_iff_exists.1 c3
  exact ⟨a0, a1, a2, a3, ⟨c0, c1, c2, c3⟩, f0, f1, f2, f3⟩
end Go.Proofs.YthmababifgaejaaGreatDoor
