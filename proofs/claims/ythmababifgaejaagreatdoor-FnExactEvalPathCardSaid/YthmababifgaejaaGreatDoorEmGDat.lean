/- Rows of anything, one behind the other: where each lies, how a slice of them is filled, and how one of them is changed. No condition. Lists of int as rows: their cells and marks. No condition. Slices of int: how they come in, and what the laws do with them: sz, to, eq, mark, held. No condition. -/
import Derived.Test.YthmababifgaejaaGreatDoorEmGCs
import Derived.Test.YthmababifgaejaaGreatDoorRows
import Derived.WalkKit
import Derived.ProofKit
import Derived.OpenShut
import Derived.Handy
import Derived.Lib.Hide
import Derived.Below
import Derived.IntWalk
import Derived.WalkLawsBesides
import Derived.Deep.QuietTactic
import Derived.BigQuiet
import Derived.OwnWalk
import Derived.Laws.OwnMore
import Derived.Deep.OwnRows
import Derived.Deep.MidRow
import Derived.WalkSmall
import Derived.StillTailTactics
import Derived.KernelRfl
import Derived.Outline
namespace Go.Proofs.YthmababifgaejaaGreatDoor
open Go.ChangeShapes Go.WideShapes Go.RowKit
theorem range_mid {w : World} {b o : Nat} {x y z : List Value} (h : w.rangeAt b o (x ++ y ++ z)) : w.rangeAt b (o + x.length) y := fun j u hu => by
  have hj := (List.getElem?_eq_some_iff.1 hu).1
  have := h (x.length + j) u (by rw [List.append_assoc, List.getElem?_append_right (by omega), Nat.add_sub_cancel_left, List.getElem?_append_left hj]; exact hu)
  rwa [← Nat.add_assoc] at this
theorem split_at {α : Type} (L : List α) (j : Nat) (h : j < L.length) : L = L.take j ++ L[j] :: L.drop (j + 1) := by
  rw [← List.drop_eq_getElem_cons h, List.take_append_drop]
theorem own_range {w : World} {base : Nat} {e : TypeId} {size n g cap : Nat} {xs : List Value} (h : w.ownsRow base e size (.slice (some ⟨g, 0, none⟩) n cap) n xs) : w.rangeAt g 0 xs := fun j u hu => by
  have hj := (List.getElem?_eq_some_iff.1 hu).1
  rw [Nat.zero_add, h.cellAt j (by rw [← h.1]; exact hj)]
  exact hu
namespace Cs
section
variable {α : Type} (c : α → Cs)
/-- rows one behind the other -/
def rows : List α → Cs
  | [] => .nil
  | a :: l => (c a).app (rows l)
theorem rows_app : ∀ A B : List α, rows c (A ++ B) = (rows c A).app (rows c B)
  | [], _ => rfl
  | a :: A, B => by rw [List.cons_append, rows, rows, rows_app A B, app_assoc]
theorem rows_len {z : Nat} (hz : ∀ a, (c a).len = z) : ∀ L : List α, (rows c L).len = L.length * z
  | [] => by simp [rows, len]
  | a :: L => by rw [rows, len_app, hz, rows_len hz L, List.length_cons, Nat.succ_mul]; omega
theorem rows_one (a : α) : rows c [a] = c a := by rw [rows, rows, app_nil]
theorem rows_flat (f : α → List Value) : ∀ L : List α, rows (fun a => flat (f a)) L = flat (L.flatMap f)
  | [] => rfl
  | a :: L => by rw [rows, rows_flat f L, List.flatMap_cons, flat_app]
end
section
variable {α : Type} {c : α → Cs} {w : World} {base z : Nat} {e : TypeId}
theorem own_flat : ∀ {l xs : List Value} {bs : List Nat}, (flat l).Own w base xs bs ↔ xs = l ∧ bs = []
  | [], _, _ => Iff.rfl
  | v :: l, xs, bs => by
    constructor
    · rintro ⟨xs', rfl, h⟩; obtain ⟨rfl, rfl⟩ := own_flat.1 h; exact ⟨rfl, rfl⟩
    · rintro ⟨rfl, rfl⟩; exact ⟨l, rfl, own_flat.2 ⟨rfl, rfl⟩⟩
/-- the row at an index, and where its cells lie -/
theorem rows_nth {b o : Nat} (hz : ∀ a, (c a).len = z) (L : List α) {ys : List Value} (hv : (rows c L).Vs w base ys) (hr : w.rangeAt b o ys) (j : Nat) (hj : j < L.length) :
    ∃ xs, (c L[j]).Vs w base xs ∧ w.rangeAt b (o + j * z) xs := by
  rw [split_at L j hj, rows_app, rows] at hv
  obtain ⟨x1, x23, rfl, h1, h23⟩ := vs_split hv
  obtain ⟨x2, x3, rfl, h2, h3⟩ := vs_split h23
  refine ⟨x2, h2, ?_⟩
  have hl : x1.length = j * z := by rw [vs_len _ _ h1, rows_len c hz, List.length_take, Nat.min_eq_left (by omega)]
  rw [← hl]
  exact range_mid (by rw [List.append_assoc]; exact hr)
/-- a slice that has been filled up to an index -/
def Fill (c : α → Cs) (e : TypeId) (z : Nat) (L : List α) (w : World) (n j : Nat) (wr : World) : Prop := ∃ cur bs, wr.ownsRow w.heap.size e z (.slice (some ⟨w.heap.size, 0, none⟩) n n) n cur ∧ (rows c (L.take j)).Own wr (w.heap.size + 1) (cur.take (j * z)) bs ∧ bs.Nodup ∧ Below w.heap.size w wr
theorem fill_start {L : List α} {w wr : World} {n : Nat} {cur : List Value} (h : wr.ownsRow w.heap.size e z (.slice (some ⟨w.heap.size, 0, none⟩) n n) n cur) (hb : Below w.heap.size w wr) : Fill c e z L w n 0 wr :=
  ⟨cur, [], h, by rw [List.take_zero, Nat.zero_mul, List.take_zero]; exact ⟨rfl, rfl⟩, List.nodup_nil, hb⟩
theorem fill_step {L : List α} {w wr w1 : World} {n j : Nat} {xs : List Value} {b1 : List Nat} (hz : ∀ a, (c a).len = z) (hj : j < L.length) (hn : L.length = n) (hr : Fill c e z L w n j wr) (hb : Below wr.heap.size wr w1)
    (hx : (c L[j]).Own w1 wr.heap.size xs b1) (hd : b1.Nodup) : Fill c e z L w n (j + 1) (w1.setCells w.heap.size (j * z) xs) := by
  obtain ⟨cur, bs, ho, hown, hnd, hbw⟩ := hr
  have hxl : xs.length = z := (own_len _ _ _ hx).trans (hz _)
  have ho1 := own_keep ho hb
  have hg : w.heap.size < wr.heap.size := (ho.lt w.heap.size rfl).2
  have hlen := ho.1
  have hjz : (j + 1) * z ≤ n * z := Nat.mul_le_mul_right z (by omega)
  have hsz := hb.size
  refine ⟨_, bs ++ b1, own_put xs (j * z) w1 cur ho1, ?_, ?_, below_setCells (Nat.le_refl _) _ _ (hbw.trans (hb.mono (by omega)))⟩
  · rw [putAt_take cur (j * z) xs ((j + 1) * z) (by rw [hxl, Nat.succ_mul]) (by omega), List.take_succ_eq_append_getElem hj, rows_app, rows_one]
    exact own_app ((hown.below hb).same fun g hg => heap_setCells _ _ _ _ _ (by have := hown.lt g hg; omega)) ((hx.down (by omega)).same fun g hg => heap_setCells _ _ _ _ _ (by have := hx.lt g hg; omega))
  · rw [List.nodup_append]
    refine ⟨hnd, hd, fun a ha b hb' e => ?_⟩
    subst e
    have h1 := (hown.lt a ha).2
    have h2 := (hx.lt a hb').1
    omega
theorem fill_end {L : List α} {w wr : World} {n : Nat} (hn : L.length = n) (h : Fill c e z L w n n wr) : (∃ bs, (rows c L).Has wr w.heap.size e z n (.slice (some ⟨w.heap.size, 0, none⟩) n n) bs ∧ bs.Nodup) ∧ Below w.heap.size w wr := by
  obtain ⟨cur, bs, ho, hown, hnd, hb⟩ := h
  rw [List.take_of_length_le (by omega), List.take_of_length_le (by rw [ho.1]; exact Nat.le_refl _)] at hown
  have hne : w.heap.size ∉ bs := fun hm => by have := hown.lt _ hm; omega
  exact ⟨⟨_, ⟨cur, bs, ho, hown.down (by omega), rfl⟩, by simpa [Value.ownBlock] using ⟨hne, hnd⟩⟩, hb⟩
/-- a piece of a row that is owned, among others -/
theorem has_at {CA ca CB : Cs} {n g cap : Nat} {bs : List Nat} (h : (CA.app (ca.app CB)).Has w base e z n (.slice (some ⟨g, 0, none⟩) n cap) bs) :
    ∃ x1 x2 x3 b1 b2 b3, bs = g :: (b1 ++ (b2 ++ b3)) ∧ w.ownsRow base e z (.slice (some ⟨g, 0, none⟩) n cap) n (x1 ++ x2 ++ x3) ∧ CA.Own w base x1 b1 ∧ ca.Own w base x2 b2 ∧ CB.Own w base x3 b3 ∧ x1.length = CA.len ∧ x2.length = ca.len := by
  obtain ⟨ys, b0, ho, hown, rfl⟩ := h
  obtain ⟨x1, x23, b1, b23, rfl, rfl, h1, h23⟩ := own_split hown
  obtain ⟨x2, x3, b2, b3, rfl, rfl, h2, h3⟩ := own_split h23
  exact ⟨x1, x2, x3, b1, b2, b3, by simp [Value.ownBlock], by rw [List.append_assoc]; exact ho, h1, h2, h3, own_len _ _ _ h1, own_len _ _ _ h2⟩
theorem has_back {CA ca CB : Cs} {n g cap : Nat} {x1 x2 x3 : List Value} {b1 b2 b3 : List Nat} {w' : World} (hnd : (g :: (b1 ++ (b2 ++ b3))).Nodup) (h1 : CA.Own w base x1 b1) (h3 : CB.Own w base x3 b3)
    (ho : w'.ownsRow base e z (.slice (some ⟨g, 0, none⟩) n cap) n (x1 ++ x2 ++ x3)) (h2 : ca.Own w' base x2 b2) (hap : Apart (g :: b2) w w') : (CA.app (ca.app CB)).Has w' base e z n (.slice (some ⟨g, 0, none⟩) n cap) (g :: (b1 ++ (b2 ++ b3))) := by
  rw [List.nodup_cons, List.nodup_append] at hnd
  obtain ⟨hg, hn1, hn23, hd⟩ := hnd
  rw [List.nodup_append] at hn23
  obtain ⟨hn2, hn3, hd2⟩ := hn23
  refine ⟨x1 ++ x2 ++ x3, b1 ++ (b2 ++ b3), ho, ?_, by simp [Value.ownBlock]⟩
  rw [List.append_assoc]
  refine own_app (h1.apart hap fun x hx hm => ?_) (own_app h2 (h3.apart hap fun x hx hm => ?_))
  · rcases List.mem_cons.1 hm with rfl | hm
    · exact hg (by simp [hx])
    · exact hd x hx x (by simp [hm]) rfl
  · rcases List.mem_cons.1 hm with rfl | hm
    · exact hg (by simp [hx])
    · exact hd2 x hm x hx rfl
/-- the blocks of one piece are not the row's own, and each stands once -/
theorem nodup_mid {g : Nat} {b1 b2 b3 : List Nat} (h : (g :: (b1 ++ (b2 ++ b3))).Nodup) : b2.Nodup ∧ g ∉ b2 := by
  rw [List.nodup_cons, List.nodup_append] at h
  obtain ⟨hg, _, hn23, _⟩ := h
  rw [List.nodup_append] at hn23
  exact ⟨hn23.1, fun hm => hg (by simp [hm])⟩
/-- a cell of a row that is owned is written over -/
theorem own_poke {x1 y x3 : List Value} {n g cap p i : Nat} (h : w.ownsRow base e z (.slice (some ⟨g, 0, none⟩) n cap) n (x1 ++ y ++ x3)) (hp : x1.length = p) (hi : i < y.length) (v : Value) : (w.setCell ⟨g, p + i, none⟩ v).ownsRow base e z (.slice (some ⟨g, 0, none⟩) n cap) n (x1 ++ y.set i v ++ x3) := by
  have := (h.stored (p + i) v).1
  rw [List.append_assoc, List.set_append_right _ _ (by omega), hp, Nat.add_sub_cancel_left, List.set_append_left _ _ hi, ← List.append_assoc] at this
  exact this
/-- cells of a row that is owned are written over -/
theorem own_over {x1 x2 x2' x3 : List Value} {n g cap : Nat} (h : w.ownsRow base e z (.slice (some ⟨g, 0, none⟩) n cap) n (x1 ++ x2 ++ x3)) (hl : x2'.length = x2.length) : (w.setCells g x1.length x2').ownsRow base e z (.slice (some ⟨g, 0, none⟩) n cap) n (x1 ++ x2' ++ x3) := by
  have := own_put x2' x1.length w _ h
  rw [List.append_assoc, putAt_mid x2' x1 (x2 ++ x3) (by rw [List.length_append]; omega), List.drop_left' hl.symm] at this
  exact this
end
end Cs
/-- marks written into rows, one behind the other -/
def markL {α : Type} (m : α → Nat → α) (cnt : α → Nat) : List α → Nat → List α
  | [], _ => []
  | a :: l, k => m a k :: markL m cnt l (k + cnt a)
def cntL {α : Type} (cnt : α → Nat) (L : List α) : Nat := (L.map cnt).sum
section
variable {α : Type} (m : α → Nat → α) (cnt : α → Nat)
theorem markL_len : ∀ (L : List α) (k : Nat), (markL m cnt L k).length = L.length
  | [], _ => rfl
  | a :: L, k => by rw [markL, List.length_cons, List.length_cons, markL_len L]
theorem cntL_take (L : List α) (j : Nat) (h : j < L.length) : cntL cnt (L.take (j + 1)) = cntL cnt (L.take j) + cnt L[j] := by
  unfold cntL
  rw [List.take_succ_eq_append_getElem h, List.map_append, List.sum_append]
  simp
theorem cntL_le (L : List α) (j : Nat) : cntL cnt (L.take j) ≤ cntL cnt L := by
  have h : cntL cnt L = cntL cnt (L.take j) + cntL cnt (L.drop j) := by
    unfold cntL
    rw [← List.sum_append, ← List.map_append, List.take_append_drop]
  omega
theorem markL_get : ∀ (L : List α) (k j : Nat) (h : j < L.length), (markL m cnt L k)[j]'(by rw [markL_len]; exact h) = m L[j] (k + cntL cnt (L.take j))
  | a :: L, k, 0, _ => by simp [markL, cntL]
  | a :: L, k, j + 1, h => by
    have := markL_get L (k + cnt a) j (by simpa using h)
    simp only [markL, List.getElem_cons_succ, List.take_succ_cons]
    rw [this]
    congr 1
    unfold cntL
    simp only [List.map_cons, List.sum_cons]
    omega
theorem markL_take : ∀ (L : List α) (k j : Nat), (markL m cnt L k).take j = markL m cnt (L.take j) k
  | [], k, j => by simp [markL]
  | a :: L, k, 0 => by simp [markL]
  | a :: L, k, j + 1 => by simp only [markL, List.take_succ_cons, markL_take L]
end
end Go.Proofs.YthmababifgaejaaGreatDoor
namespace Go.Proofs.YthmababifgaejaaGreatDoor
open Go.ChangeShapes Go.WideShapes Go.ChangeAt Go.RowKit
namespace IntL
def cell (x : Int) : List Value := [.int .i64 x]
/-- the cells of a list -/
def all (L : List Int) : List Value := L.flatMap cell
def Ok (x : Int) : Prop := (-9223372036854775808 ≤ x ∧ x ≤ 9223372036854775807)
theorem all_len (L : List Int) : (all L).length = L.length := by
  unfold all
  induction L with
  | nil => rfl
  | cons r L ih => rw [List.flatMap_cons, List.length_append, ih, List.length_cons]; simp [cell]; omega
theorem all_map (L : List Int) : all L = L.map (fun x => .int .i64 x) := by
  unfold all
  induction L with
  | nil => rfl
  | cons r L ih => rw [List.flatMap_cons, ih]; rfl
theorem all_app (a b : List Int) : all (a ++ b) = all a ++ all b := by unfold all; rw [List.flatMap_append]
theorem nth {w : World} {b o : Nat} (L : List Int) (j : Nat) (h : j < L.length) (hr : w.rangeAt b o (all L)) : w.cell? ⟨b, o + j, none⟩ = some (.int .i64 L[j]) := by
  have := flat_nth cell 1 (fun _ => rfl) L j h hr 0 _ rfl
  rwa [Nat.mul_one, Nat.add_zero] at this
/-- the marks from a number on -/
def mkrs (L : List Int) (k : Nat) : List Int := markL (fun _ k => (k : Int)) (fun _ => 1) L k
theorem mkrs_len (L : List Int) (k : Nat) : (mkrs L k).length = L.length := markL_len _ _ _ _
theorem cnt1 (L : List Int) : cntL (fun _ => 1) L = L.length := by
  unfold cntL
  induction L with
  | nil => rfl
  | cons r L ih => simp only [List.map_cons, List.sum_cons, List.length_cons, ih]; omega
theorem mkrs_get (L : List Int) (k j : Nat) (h : j < L.length) : (mkrs L k)[j]'(by rw [mkrs_len]; exact h) = (((k + j : Nat) : Int) : Int) := by
  have := markL_get (fun (_ : Int) k => (k : Int)) (fun _ => 1) L k j h
  rw [cnt1, List.length_take, Nat.min_eq_left (by omega)] at this
  exact this
/-- the first ones bear their marks, the others are as they were -/
def half (L : List Int) (k j : Nat) : List Int := (mkrs L k).take j ++ L.drop j
theorem half_zero (L : List Int) (k : Nat) : half L k 0 = L := by simp [half]
theorem half_all (L : List Int) (k : Nat) : half L k L.length = mkrs L k := by simp [half, mkrs_len, List.take_of_length_le]
theorem half_at (L : List Int) (k j : Nat) (h : j < L.length) : ∃ (x1 : List Value) (r : Int) (x3 : List Value), x1.length = j ∧ all (half L k j) = x1 ++ [.int .i64 r] ++ x3 ∧ ∀ c : Nat, c = k + j → all (half L k (j + 1)) = x1 ++ [.int .i64 ((c : Int) : Int)] ++ x3 := by
  refine ⟨all ((mkrs L k).take j), L[j], all (L.drop (j + 1)), ?_, ?_, fun c hc => ?_⟩
  · rw [all_len, List.length_take, mkrs_len, Nat.min_eq_left (by omega)]
  · unfold half
    rw [List.drop_eq_getElem_cons h]
    simp only [all, cell, List.flatMap_append, List.flatMap_cons, List.append_assoc]
  · unfold half
    rw [List.take_succ_eq_append_getElem (by rw [mkrs_len]; exact h), mkrs_get L k j h, ← hc]
    simp only [all, cell, List.flatMap_append, List.flatMap_cons, List.append_assoc, List.flatMap_nil, List.nil_append]
end IntL
end Go.Proofs.YthmababifgaejaaGreatDoor
namespace Go.Proofs.YthmababifgaejaaGreatDoor
open Go.ChangeShapes Go.WideShapes Go.ChangeAt Go.RowKit
theorem zero_Int : (Tryz.prog.info? 3).map (fun i => (i.zero, i.size, i.bytes)) = some (some (.int .i64 0), 1, 8) := by kernel_rfl
section
variable {H : Type} {enc : TypeId × Value → H} {w : World} {base b0 : Nat} {spare : Nat → Bool} {held : Bool} {r : Reach}
theorem plain_Int : [3, 26].all (Cs.plainAt Tryz.prog [3, 26]) = true := by kernel_rfl
set_option maxRecDepth 100000 in
theorem ty_Int (m : Nat) (C : Cs) (h : Cs.Ty Tryz.prog m 3 C) : ∃ x : Int, C = Cs.flat (IntL.cell x) ∧ IntL.Ok x := by
  obtain ⟨n, rfl, hn⟩ := Fo.ty_int Tryz.underlying3 h
  exact ⟨n, rfl, hn⟩
set_option maxRecDepth 100000 in
theorem tys_Int (m : Nat) (C : Cs) (h : Cs.Ty Tryz.prog m 26 C) : ∃ L : List Int, C = .sl 3 1 L.length (Cs.flat (IntL.all L)) .nil ∧ (∀ x ∈ L, IntL.Ok x) ∧ L.length ≤ maxLen := by
  cases m with
  | zero => exact h.elim
  | succ m =>
    unfold Cs.Ty at h
    rw [Tryz.underlying26] at h
    dsimp only at h
    have hC : Tryz.prog.cellsOf 3 = 1 := by kernel_rfl
    rw [hC] at h
    obtain ⟨n, k, rfl, hn, hr⟩ := h
    have key : ∀ (n : Nat) (k : Cs), Cs.Rows (Cs.Ty Tryz.prog m 3) n k → ∃ L : List Int, L.length = n ∧ k = Cs.flat (IntL.all L) ∧ ∀ x ∈ L, IntL.Ok x := by
      intro n
      induction n with
      | zero => rintro k rfl; exact ⟨[], rfl, rfl, fun r h => by cases h⟩
      | succ n ihn =>
        rintro k ⟨c, q, rfl, hc, hq⟩
        obtain ⟨r, rfl, hok⟩ := ty_Int m _ hc
        obtain ⟨L, rfl, rfl, hL⟩ := ihn _ hq
        exact ⟨r :: L, rfl, by rw [← Cs.flat_app]; rfl, fun x hx => (List.mem_cons.1 hx).elim (fun e => by rw [e]; exact hok) (hL x)⟩
    obtain ⟨L, rfl, rfl, hL⟩ := key n k hr
    exact ⟨L, rfl, hL, hn⟩
set_option maxRecDepth 100000 in
/-- a slice of them as an argument -/
theorem open_Ints {v : Value} {d : DataW H} {p : List MemPlace} (hv : Value.okWide Tryz.prog w r b0 26 v) (h : DataW.Trod enc Tryz.prog w base spare held 26 v d p) :
    ∃ L : List Int, Cs.Shows w base 1 v L.length (IntL.all L) ∧ (∀ x ∈ L, IntL.Ok x) ∧ L.length ≤ maxLen := by
  obtain ⟨a, l, c, rfl⟩ := okWide_slice Tryz.underlying26 hv
  have hin : ∀ t ∈ [3, 26], t ∈ [3, 26] := fun _ h => h
  obtain ⟨m, C, h1, h2⟩ := Cs.open_arg (t := 26) plain_Int (hin _ (List.mem_cons_of_mem _ (List.mem_cons_self ..))) h
  obtain ⟨L, rfl, hok, hl⟩ := tys_Int m C h2
  obtain ⟨s, xs, e, ⟨ys, hs, hys⟩, _⟩ := Cs.vs_sl.1 h1
  have e : [Value.slice a l c] = s :: xs := e
  obtain ⟨rfl, rfl⟩ := List.cons.inj e
  rw [Cs.flat_vs.1 hys] at hs
  exact ⟨L, hs, hok, hl⟩
end
set_option maxRecDepth 100000 in
set_option maxHeartbeats 1000000 in
theorem eq_Int (L : List Int) (v1 v2 : Value) (w : World) (h1 : Cs.Shows w 0 1 v1 L.length (IntL.all L)) (h2 : Cs.Shows w 0 1 v2 L.length (IntL.all L)) (hn : L.length ≤ 2097152) :
    Calls Tryz.prog 14 #[v1, v2] w fun e w' => e = .returned (.bool true) ∧ Below w.heap.size w w' := by
  rcases Cs.shows_cases h1 with ⟨h0, q1, cap1, rfl⟩ | ⟨hpos, b1, o1, cap1, rfl, _, _, _, hr1⟩
  · obtain ⟨_, q2, cap2, rfl, _⟩ := h2
    rw [h0]
    clear hn h0 h1
    go_enter Tryz.func14, Tryz.ntmps14
    go_wp2
    refine wp_loop_rounds 1 ?_
    rw [rounds_succ]
    go_wp2
    go_ret
    exact ⟨rfl, Below.refl _ _⟩
  · rcases Cs.shows_cases h2 with ⟨h0, _⟩ | ⟨_, b2, o2, cap2, rfl, _, _, _, hr2⟩
    · omega
    have H1 := Lib.hid (fun j (h : j < L.length) => IntL.nth L j h hr1)
    have H2 := Lib.hid (fun j (h : j < L.length) => IntL.nth L j h hr2)
    have HB1 := Lib.hid (fun (wr : World) (hb : Below w.heap.size w wr) j (h : j < L.length) => IntL.nth L j h (rangeAt_below hb hr1))
    have HB2 := Lib.hid (fun (wr : World) (hb : Below w.heap.size w wr) j (h : j < L.length) => IntL.nth L j h (rangeAt_below hb hr2))
    clear h1 h2 hr1 hr2 H1 H2
    go_enter Tryz.func14, Tryz.ntmps14
    go_wp2
    go_loopw [5] (fun i wr => ∃ (j : Nat), j ≤ L.length ∧ i = .int .i64 j ∧ Below w.heap.size w wr) (fun i _ => L.length - (intOf i).toNat)
    case atStart => exact ⟨0, Nat.zero_le _, rfl, Below.refl _ _⟩
    case round =>
      obtain ⟨j, hj, rfl, hb⟩ := hrel
      by_cases hjn : j < L.length
      · have c0 := HB1.out wr hb j hjn
        have d0 := HB2.out wr hb j hjn
        generalize L[j] = r at *
        have HB := Lib.hid hb
        have hki : (j : Int) < (L.length : Int) := by omega
        clear hb
        go_wp2
        go_quiet (fail)
        go_wp2
        go_roundw
        case rel => exact ⟨j + 1, by omega, by go_num, below_drewN HB.out _⟩
        case measure => simp [intOf]; omega
      · have HB := Lib.hid hb
        have hnj : ¬ ((j : Int) < (L.length : Int)) := by omega
        clear hb
        go_wp2
        go_ret
        exact ⟨rfl, HB.out⟩
/-- the copy of a slice of them -/
def ToIntEnd (L : List Int) (w : World) (e : Ending) (w' : World) : Prop := ∃ g, e = .returned (.slice (some ⟨g, 0, none⟩) L.length L.length) ∧ w'.ownsRow w.heap.size 3 1 (.slice (some ⟨g, 0, none⟩) L.length L.length) L.length (IntL.all L) ∧ Below w.heap.size w w'
def ToIntRel (L : List Int) (w : World) (n j : Nat) (wr : World) : Prop := ∃ cur, wr.ownsRow w.heap.size 3 1 (.slice (some ⟨w.heap.size, 0, none⟩) n n) n cur ∧ cur.take j = IntL.all (L.take j) ∧ Below w.heap.size w wr
theorem to_Int_step {L : List Int} {w wr : World} {n j : Nat} (hj : j < L.length) (hn : L.length = n) (hr : ToIntRel L w n j wr) : ToIntRel L w n (j + 1) (wr.setCell ⟨w.heap.size, j, none⟩ (.int .i64 L[j])) := by
  obtain ⟨cur, ho, hc, hbw⟩ := hr
  have hlen := ho.1
  refine ⟨_, own_put [.int .i64 L[j]] j wr cur ho, ?_, hbw.setCell (Nat.le_refl _) _⟩
  rw [putAt_take cur j [.int .i64 L[j]] (j + 1) rfl (by omega), hc]
  unfold IntL.all
  rw [List.take_succ_eq_append_getElem hj, List.flatMap_append]
  simp [IntL.cell]
set_option maxRecDepth 100000 in
set_option maxHeartbeats 1000000 in
theorem to_Int (L : List Int) (v : Value) (w : World) (hv : Cs.Shows w 0 1 v L.length (IntL.all L)) (hn : L.length ≤ 1048576) : Calls Tryz.prog 9 #[v] w (ToIntEnd L w) := by
  have hml : maxLen = 9223372036854775807 := rfl
  obtain ⟨i0, hi, hz0, hz1, hz2⟩ := info_parts zero_Int
  unfold ToIntEnd
  rcases Cs.shows_cases hv with ⟨h0, q, cap, rfl⟩ | ⟨hpos, b, o, cap, rfl, _, _, _, hr⟩
  · have hL : L = [] := List.length_eq_zero_iff.1 h0
    subst hL
    clear hv hn h0
    go_enter Tryz.func9, Tryz.ntmps9
    go_wp2_with (refine wpList_make_full _ rfl _ _ 26 rfl w.heap.size 3 i0 (.int .i64 0) 1 Tryz.underlying26 hi hz0 hz1 .i64 .i64 _ _ 0 rfl rfl rfl rfl (by rw [hz2]; omega) (by unfold maxLen; omega) (Nat.le_refl _) ?_; intro w1 hown hgrow; have hb1 := (Below.refl w.heap.size w).grown hgrow (Nat.le_refl _) (fun k e => by cases e); have HO := Lib.hid hown; have HB1 := Lib.hid hb1; clear hown hgrow hb1)
    refine wp_loop_rounds 1 ?_
    rw [rounds_succ]
    go_wp2
    go_ret
    refine ⟨w.heap.size, rfl, ?_, HB1.out⟩
    have h := HO.out
    have e := List.length_eq_zero_iff.1 (h.1.trans (Nat.zero_mul _))
    rw [e] at h
    exact h
  · have HB := Lib.hid (fun (wr : World) (hb : Below w.heap.size w wr) j (h : j < L.length) => IntL.nth L j h (rangeAt_below hb hr))
    clear hv hr
    go_enter Tryz.func9, Tryz.ntmps9
    go_wp2_with (refine wpList_make_full _ rfl _ _ 26 rfl w.heap.size 3 i0 (.int .i64 0) 1 Tryz.underlying26 hi hz0 hz1 .i64 .i64 _ _ L.length rfl rfl rfl rfl (by rw [hz2]; omega) (by unfold maxLen; omega) (Nat.le_refl _) ?_; intro w1 hown hgrow; have hb1 := (Below.refl w.heap.size w).grown hgrow (Nat.le_refl _) (fun k e => by cases e); have HO := Lib.hid hown; have HB1 := Lib.hid hb1; clear hown hgrow hb1)
    go_loopw [4] (fun i wr => ∃ (j : Nat), j ≤ L.length ∧ i = .int .i64 j ∧ ToIntRel L w L.length j wr) (fun i _ => L.length - (intOf i).toNat)
    case atStart => exact ⟨0, Nat.zero_le _, rfl, _, HO.out, by simp [IntL.all], HB1.out⟩
    case round =>
      obtain ⟨j, hj, rfl, hrel⟩ := hrel
      by_cases hjn : j < L.length
      · have HS := Lib.hid (to_Int_step hjn rfl hrel)
        obtain ⟨cur, ho, hc, hb⟩ := hrel
        have c0 := HB.out wr hb j hjn
        have hcl := ho.1
        obtain ⟨old, hold⟩ : ∃ old, wr.cell? ⟨w.heap.size, j, none⟩ = some old := ⟨cur[j]'(by omega), by
          rw [ho.cellAt j (by omega)]; exact List.getElem?_eq_getElem (by omega)⟩
        have hfz := ho.frozenAt j
        have hki : (j : Int) < (L.length : Int) := by omega
        clear ho hc hb hcl
        generalize L[j] = r at *
        go_wp2
        go_roundw
        case rel => exact ⟨j + 1, by omega, by go_num, HS.out⟩
        case measure => simp [intOf]; omega
      · have ej : j = L.length := by omega
        have hnj : ¬ ((j : Int) < (L.length : Int)) := by omega
        rw [ej] at hrel
        have HR := Lib.hid hrel
        clear hrel
        go_wp2
        go_ret
        obtain ⟨cur, ho, hc, hb⟩ := HR.out
        rw [List.take_of_length_le (by rw [ho.1]; omega), List.take_length] at hc
        rw [hc] at ho
        exact ⟨w.heap.size, rfl, ho, hb⟩
end Go.Proofs.YthmababifgaejaaGreatDoor
