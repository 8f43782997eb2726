/- What the operations on one word return, joined, cut and wider ones too. No condition. What fits, by the operation. No condition. The model of ValuesOk: whether a list is one of values. No condition. -/
import Derived.Test.YthmababifgaejaaGreatDoorEmGUnM
import Derived.Test.YthmababifgaejaaGreatDoorEmGWk
import Derived.Test.YthmababifgaejaaGreatDoorEmInsert
import Derived.WalkSpells
namespace Go.Proofs.YthmababifgaejaaGreatDoor
open Go.ChangeShapes Go.WideShapes Go.ChangeAt Go.RowKit
set_option maxHeartbeats 2000000 in
theorem i_join (w a v b : Int) (h1 : 1 ≤ w) (h2 : w ≤ 16) (h3 : 0 ≤ a) (h4 : a ≤ 2 ^ w.toNat - 1) (g1 : 1 ≤ v) (g2 : v ≤ 16) (k3 : 0 ≤ b) (k4 : b ≤ 2 ^ v.toNat - 1) (g3 : w + v ≤ 16) (W : World) :
    Calls Tryz.prog 73 #[.int .i64 w, .int .i64 a, .int .i64 v, .int .i64 b] W fun e W' => e = .returned (.int .i64 (a * 2 ^ v.toNat + b)) ∧ W = W' := by
  obtain ⟨hp1, hp2⟩ := pw w h1 h2
  obtain ⟨hp3, hp4⟩ := pw v g1 g2
  have hx := join_lt w a v b h1 h3 h4 g1 k3 k4 g3
  go_enter Tryz.func73, Tryz.ntmps73
  go_wp2
  go_ret
  exact ⟨rfl, rfl⟩
set_option maxHeartbeats 2000000 in
theorem i_cut (w a l n : Int) (h1 : 1 ≤ w) (h2 : w ≤ 16) (h3 : 0 ≤ a) (h4 : a ≤ 2 ^ w.toNat - 1) (g1 : 0 ≤ l) (g2 : 1 ≤ n) (g3 : l + n ≤ w) (W : World) :
    Calls Tryz.prog 74 #[.int .i64 w, .int .i64 a, .int .i64 l, .int .i64 n] W fun e W' => e = .returned (.int .i64 (mask n (a / 2 ^ l.toNat))) ∧ W = W' := by
  obtain ⟨hp1, hp2⟩ := pw w h1 h2
  have g4 : n ≤ w := by omega
  have g5 : l ≤ w - n := by omega
  obtain ⟨hp3, hp4⟩ := pw n g2 (by omega)
  have g6 : n ≤ 16 := by omega
  go_enter Tryz.func74, Tryz.ntmps74
  go_wp2
  go_ret
  exact ⟨rfl, rfl⟩
set_option maxHeartbeats 2000000 in
theorem i_widen_truep (w a n : Int) (h1 : 1 ≤ w) (h2 : w ≤ 16) (h3 : 0 ≤ a) (h4 : a ≤ 2 ^ w.toNat - 1) (g1 : w ≤ n) (g2 : n ≤ 16) (_ha0 : (a / 2 ^ (w.toNat - 1) == 0) = true) (_ha1 : (a / 2 ^ (w.toNat - 1) == 1) = false) (W : World) :
    Calls Tryz.prog 75 #[.int .i64 w, .int .i64 a, .int .i64 n, .bool true] W fun e W' => e = .returned (.int .i64 (mask n a)) ∧ W = W' := by
  obtain ⟨hp1, hp2⟩ := pw w h1 h2
  obtain ⟨hp3, hp4⟩ := pw n (by omega) g2
  have g3 : 1 ≤ n := by omega
  go_enter Tryz.func75, Tryz.ntmps75
  go_wp2
  go_ret
  exact ⟨rfl, rfl⟩
set_option maxHeartbeats 2000000 in
theorem i_widen_truem (w a n : Int) (h1 : 1 ≤ w) (h2 : w ≤ 16) (h3 : 0 ≤ a) (h4 : a ≤ 2 ^ w.toNat - 1) (g1 : w ≤ n) (g2 : n ≤ 16) (_ha0 : (a / 2 ^ (w.toNat - 1) == 0) = false) (_ha1 : (a / 2 ^ (w.toNat - 1) == 1) = true) (W : World) :
    Calls Tryz.prog 75 #[.int .i64 w, .int .i64 a, .int .i64 n, .bool true] W fun e W' => e = .returned (.int .i64 (mask n (a - 2 ^ w.toNat))) ∧ W = W' := by
  obtain ⟨hp1, hp2⟩ := pw w h1 h2
  obtain ⟨hp3, hp4⟩ := pw n (by omega) g2
  have g3 : 1 ≤ n := by omega
  go_enter Tryz.func75, Tryz.ntmps75
  go_wp2
  go_ret
  exact ⟨rfl, rfl⟩
set_option maxHeartbeats 2000000 in
theorem i_widen_false (w a n : Int) (h1 : 1 ≤ w) (h2 : w ≤ 16) (h3 : 0 ≤ a) (h4 : a ≤ 2 ^ w.toNat - 1) (g1 : w ≤ n) (g2 : n ≤ 16) (W : World) :
    Calls Tryz.prog 75 #[.int .i64 w, .int .i64 a, .int .i64 n, .bool false] W fun e W' => e = .returned (.int .i64 (a)) ∧ W = W' := by
  obtain ⟨hp1, hp2⟩ := pw w h1 h2
  obtain ⟨hp3, hp4⟩ := pw n (by omega) g2
  have g3 : 1 ≤ n := by omega
  go_enter Tryz.func75, Tryz.ntmps75
  go_wp2
  go_ret
  exact ⟨rfl, rfl⟩
set_option maxHeartbeats 2000000 in
theorem s_join (w a v b : Int) (h1 : 1 ≤ w) (h2 : w ≤ 16) (h3 : 0 ≤ a) (h4 : a ≤ 2 ^ w.toNat - 1) (g1 : 1 ≤ v) (g2 : v ≤ 16) (k3 : 0 ≤ b) (k4 : b ≤ 2 ^ v.toNat - 1) (g3 : w + v ≤ 16) (W : World) :
    Calls Tryz.prog 82 #[.int .i64 w, .int .i64 a, .int .i64 v, .int .i64 b] W fun e W' => e = .returned (.int .i64 (a * 2 ^ v.toNat + b)) ∧ W = W' := by
  obtain ⟨hp1, hp2⟩ := pw w h1 h2
  obtain ⟨hp3, hp4⟩ := pw v g1 g2
  have hx := join_lt w a v b h1 h3 h4 g1 k3 k4 g3
  go_enter Tryz.func82, Tryz.ntmps82
  go_wp2
  go_ret
  exact ⟨rfl, rfl⟩
set_option maxHeartbeats 2000000 in
theorem s_cut (w a l n : Int) (h1 : 1 ≤ w) (h2 : w ≤ 16) (h3 : 0 ≤ a) (h4 : a ≤ 2 ^ w.toNat - 1) (g1 : 0 ≤ l) (g2 : 1 ≤ n) (g3 : l + n ≤ w) (W : World) :
    Calls Tryz.prog 83 #[.int .i64 w, .int .i64 a, .int .i64 l, .int .i64 n] W fun e W' => e = .returned (.int .i64 (mask n (a / 2 ^ l.toNat))) ∧ W = W' := by
  obtain ⟨hp1, hp2⟩ := pw w h1 h2
  have g4 : n ≤ w := by omega
  have g5 : l ≤ w - n := by omega
  obtain ⟨hp3, hp4⟩ := pw n g2 (by omega)
  have g6 : n ≤ 16 := by omega
  go_enter Tryz.func83, Tryz.ntmps83
  go_wp2
  go_ret
  exact ⟨rfl, rfl⟩
set_option maxHeartbeats 2000000 in
theorem s_widen_truep (w a n : Int) (h1 : 1 ≤ w) (h2 : w ≤ 16) (h3 : 0 ≤ a) (h4 : a ≤ 2 ^ w.toNat - 1) (g1 : w ≤ n) (g2 : n ≤ 16) (_ha0 : (a / 2 ^ (w.toNat - 1) == 0) = true) (_ha1 : (a / 2 ^ (w.toNat - 1) == 1) = false) (W : World) :
    Calls Tryz.prog 84 #[.int .i64 w, .int .i64 a, .int .i64 n, .bool true] W fun e W' => e = .returned (.int .i64 (mask n a)) ∧ W = W' := by
  obtain ⟨hp1, hp2⟩ := pw w h1 h2
  obtain ⟨hp3, hp4⟩ := pw n (by omega) g2
  have g3 : 1 ≤ n := by omega
  go_enter Tryz.func84, Tryz.ntmps84
  go_wp2
  go_ret
  exact ⟨rfl, rfl⟩
set_option maxHeartbeats 2000000 in
theorem s_widen_truem (w a n : Int) (h1 : 1 ≤ w) (h2 : w ≤ 16) (h3 : 0 ≤ a) (h4 : a ≤ 2 ^ w.toNat - 1) (g1 : w ≤ n) (g2 : n ≤ 16) (_ha0 : (a / 2 ^ (w.toNat - 1) == 0) = false) (_ha1 : (a / 2 ^ (w.toNat - 1) == 1) = true) (W : World) :
    Calls Tryz.prog 84 #[.int .i64 w, .int .i64 a, .int .i64 n, .bool true] W fun e W' => e = .returned (.int .i64 (mask n (a - 2 ^ w.toNat))) ∧ W = W' := by
  obtain ⟨hp1, hp2⟩ := pw w h1 h2
  obtain ⟨hp3, hp4⟩ := pw n (by omega) g2
  have g3 : 1 ≤ n := by omega
  go_enter Tryz.func84, Tryz.ntmps84
  go_wp2
  go_ret
  exact ⟨rfl, rfl⟩
set_option maxHeartbeats 2000000 in
theorem s_widen_false (w a n : Int) (h1 : 1 ≤ w) (h2 : w ≤ 16) (h3 : 0 ≤ a) (h4 : a ≤ 2 ^ w.toNat - 1) (g1 : w ≤ n) (g2 : n ≤ 16) (W : World) :
    Calls Tryz.prog 84 #[.int .i64 w, .int .i64 a, .int .i64 n, .bool false] W fun e W' => e = .returned (.int .i64 (a)) ∧ W = W' := by
  obtain ⟨hp1, hp2⟩ := pw w h1 h2
  obtain ⟨hp3, hp4⟩ := pw n (by omega) g2
  have g3 : 1 ≤ n := by omega
  go_enter Tryz.func84, Tryz.ntmps84
  go_wp2
  go_ret
  exact ⟨rfl, rfl⟩
theorem i_widen (w a n : Int) (b : Bool) (h1 : 1 ≤ w) (h2 : w ≤ 16) (h3 : 0 ≤ a) (h4 : a ≤ 2 ^ w.toNat - 1) (g1 : w ≤ n) (g2 : n ≤ 16) (W : World) :
    Calls Tryz.prog 75 #[.int .i64 w, .int .i64 a, .int .i64 n, .bool b] W fun e W' => e = .returned (.int .i64 (widenM w a n b)) ∧ W = W' := by
  cases b with
  | false => exact i_widen_false w a n h1 h2 h3 h4 g1 g2 W
  | true =>
    unfold widenM
    rw [if_pos rfl]
    rcases high_bit w a h1 h2 h3 h4 with ⟨p0, p1⟩ | ⟨p0, p1⟩
    · rw [sg_p w a p1]; exact i_widen_truep w a n h1 h2 h3 h4 g1 g2 p0 p1 W
    · rw [sg_m w a p1]; exact i_widen_truem w a n h1 h2 h3 h4 g1 g2 p0 p1 W
theorem s_widen (w a n : Int) (b : Bool) (h1 : 1 ≤ w) (h2 : w ≤ 16) (h3 : 0 ≤ a) (h4 : a ≤ 2 ^ w.toNat - 1) (g1 : w ≤ n) (g2 : n ≤ 16) (W : World) :
    Calls Tryz.prog 84 #[.int .i64 w, .int .i64 a, .int .i64 n, .bool b] W fun e W' => e = .returned (.int .i64 (widenM w a n b)) ∧ W = W' := by
  cases b with
  | false => exact s_widen_false w a n h1 h2 h3 h4 g1 g2 W
  | true =>
    unfold widenM
    rw [if_pos rfl]
    rcases high_bit w a h1 h2 h3 h4 with ⟨p0, p1⟩ | ⟨p0, p1⟩
    · rw [sg_p w a p1]; exact s_widen_truep w a n h1 h2 h3 h4 g1 g2 p0 p1 W
    · rw [sg_m w a p1]; exact s_widen_truem w a n h1 h2 h3 h4 g1 g2 p0 p1 W
end Go.Proofs.YthmababifgaejaaGreatDoor
namespace Go.Proofs.YthmababifgaejaaGreatDoor
open Go.ChangeShapes Go.WideShapes Go.ChangeAt Go.RowKit
theorem wf1 (op wd n a : Int) : wfB op wd n [a] = if op = 19 then decide (0 ≤ n) && decide (n ≤ wrap64 (a - wd)) else if op = 20 ∨ op = 21 then decide (a ≤ wd) else decide (a = wd) := rfl
theorem wf2 (op wd n a b : Int) : wfB op wd n [a, b] = if op = 18 then decide (wrap64 (a + b) = wd) else if 14 ≤ op ∧ op ≤ 16 then decide (wd = 1) && decide (a = b) else decide (a = wd) && decide (b = wd) := rfl
theorem wf3 (op wd n a b c : Int) : wfB op wd n [a, b, c] = (decide (a = 1) && decide (b = wd) && decide (c = wd)) := rfl
theorem list1 {l : List Int} (h : l.length = 1) : ∃ a, l = [a] := by
  match l, h with
  | [a], _ => exact ⟨a, rfl⟩
theorem list2 {l : List Int} (h : l.length = 2) : ∃ a b, l = [a, b] := by
  match l, h with
  | [a, b], _ => exact ⟨a, b, rfl⟩
theorem list3 {l : List Int} (h : l.length = 3) : ∃ a b c, l = [a, b, c] := by
  match l, h with
  | [a, b, c], _ => exact ⟨a, b, c, rfl⟩
/-- what the widths of a node that fits are -/
theorem fit_shape {op wd n : Int} {nm : ByteArray} {l : List Int} (h : fitB op wd n nm l = true) (h0 : op ≠ 0) (h22 : op ≠ 22) (hl : ∀ a ∈ l, 1 ≤ a ∧ a ≤ 16) :
    (1 ≤ wd ∧ wd ≤ 16) ∧ (((op = 1 ∨ op = 2) ∧ l = [wd]) ∨ (3 ≤ op ∧ op ≤ 13 ∧ l = [wd, wd]) ∨ (∃ a, 14 ≤ op ∧ op ≤ 16 ∧ wd = 1 ∧ l = [a, a] ∧ 1 ≤ a ∧ a ≤ 16) ∨ (op = 17 ∧ l = [1, wd, wd]) ∨ (∃ a b, op = 18 ∧ l = [a, b] ∧ a + b = wd ∧ 1 ≤ a ∧ 1 ≤ b) ∨ (∃ a, op = 19 ∧ l = [a] ∧ 0 ≤ n ∧ n + wd ≤ a ∧ a ≤ 16) ∨ (∃ a, (op = 20 ∨ op = 21) ∧ l = [a] ∧ 1 ≤ a ∧ a ≤ wd)) := by
  unfold fitB at h
  rw [if_neg h0, if_neg h22] at h
  simp only [Bool.and_eq_true, decide_eq_true_eq] at h
  obtain ⟨⟨⟨⟨hw, hk⟩, _⟩, _⟩, hf⟩ := h
  have hw : 1 ≤ wd ∧ wd ≤ 16 := of_decide_eq_true hw
  refine ⟨hw, ?_⟩
  have k1 : kc op = 1 → l.length = 1 := fun e => by omega
  have k2 : kc op = 2 → l.length = 2 := fun e => by omega
  have k3 : kc op = 3 → l.length = 3 := fun e => by omega
  rcases op_casesT op with rfl | h | h | h | h | h | h | h | h | h | rfl | h
  · exact absurd rfl h0
  all_goals try exact absurd rfl h22
  · subst h
    obtain ⟨a, rfl⟩ := list1 (k1 (by decide))
    rw [wf1] at hf
    left; refine ⟨.inl rfl, ?_⟩; simp at hf; rw [hf]
  · subst h
    obtain ⟨a, rfl⟩ := list1 (k1 (by decide))
    rw [wf1] at hf
    left; refine ⟨.inr rfl, ?_⟩; simp at hf; rw [hf]
  · right; left
    obtain ⟨a, b, rfl⟩ := list2 (k2 (by unfold kc; rw [if_neg (by omega), if_neg (by omega), if_neg (by omega), if_pos (by omega)]))
    rw [wf2, if_neg (by omega), if_neg (by omega)] at hf
    simp only [Bool.and_eq_true, decide_eq_true_eq] at hf
    exact ⟨h.1, h.2, by rw [hf.1, hf.2]⟩
  · right; right; left
    obtain ⟨a, b, rfl⟩ := list2 (k2 (by unfold kc; rw [if_neg (by omega), if_neg (by omega), if_neg (by omega), if_pos (by omega)]))
    rw [wf2, if_neg (by omega), if_pos (by omega)] at hf
    simp only [Bool.and_eq_true, decide_eq_true_eq] at hf
    have := hl a (by simp)
    exact ⟨a, h.1, h.2, hf.1, by rw [hf.2], this.1, this.2⟩
  · subst h
    right; right; right; left
    obtain ⟨a, b, c, rfl⟩ := list3 (k3 (by decide))
    rw [wf3] at hf
    simp only [Bool.and_eq_true, decide_eq_true_eq] at hf
    exact ⟨rfl, by rw [hf.1.1, hf.1.2, hf.2]⟩
  · subst h
    right; right; right; right; left
    obtain ⟨a, b, rfl⟩ := list2 (k2 (by decide))
    rw [wf2, if_pos rfl] at hf
    have h1 := hl a (by simp)
    have h2 := hl b (by simp)
    have hf := of_decide_eq_true hf
    rw [IntWalk.wrap64_in _ ⟨by omega, by omega⟩] at hf
    exact ⟨a, b, rfl, rfl, hf, h1.1, h2.1⟩
  · subst h
    right; right; right; right; right; left
    obtain ⟨a, rfl⟩ := list1 (k1 (by decide))
    rw [wf1, if_pos rfl] at hf
    have h1 := hl a (by simp)
    simp only [Bool.and_eq_true, decide_eq_true_eq] at hf
    rw [IntWalk.wrap64_in _ ⟨by omega, by omega⟩] at hf
    exact ⟨a, rfl, rfl, hf.1, by omega, h1.2⟩
  · subst h
    right; right; right; right; right; right
    obtain ⟨a, rfl⟩ := list1 (k1 (by decide))
    rw [wf1, if_neg (by decide), if_pos (.inl rfl)] at hf
    have h1 := hl a (by simp)
    exact ⟨a, .inl rfl, rfl, h1.1, of_decide_eq_true hf⟩
  · subst h
    right; right; right; right; right; right
    obtain ⟨a, rfl⟩ := list1 (k1 (by decide))
    rw [wf1, if_neg (by decide), if_pos (.inr rfl)] at hf
    have h1 := hl a (by simp)
    exact ⟨a, .inr rfl, rfl, h1.1, of_decide_eq_true hf⟩
  · exfalso
    have : kc op = -1 := by unfold kc; rw [if_neg (by omega), if_neg (by omega), if_neg (by omega), if_neg (by omega)]
    omega
theorem ws_ok : ∀ F : Fo, F.allB = true → ∀ a ∈ F.ws, 1 ≤ a ∧ a ≤ 16
  | .nil, _, a, h => by simp [Fo.ws] at h
  | .cons op wd n nm k r, hb, a, h => by
    simp only [Fo.allB, Bool.and_eq_true] at hb
    simp only [Fo.ws, List.mem_cons] at h
    rcases h with rfl | h
    · have := hb.1.1
      unfold fitB at this
      simp only [Bool.and_eq_true] at this
      exact of_decide_eq_true this.1.1.1.1
    · exact ws_ok r hb.2 a h
theorem all_node : ∀ (F : Fo) (j : Nat) {op wd n : Int} {nm : ByteArray} {k : Fo}, F.At j op wd n nm k → F.allB = true → fitB op wd n nm k.ws = true ∧ k.allB = true
  | .nil, _, _, _, _, _, _, h, _ => h.elim
  | .cons _ _ _ _ _ _, 0, _, _, _, _, _, ⟨rfl, rfl, rfl, rfl, rfl⟩, hb => by
    simp only [Fo.allB, Bool.and_eq_true] at hb
    exact hb.1
  | .cons _ _ _ _ _ r, j + 1, _, _, _, _, _, h, hb => by
    simp only [Fo.allB, Bool.and_eq_true] at hb
    exact all_node r j h hb.2
end Go.Proofs.YthmababifgaejaaGreatDoor
namespace Go.Proofs.YthmababifgaejaaGreatDoor
open Go.ChangeShapes Go.WideShapes Go.ChangeAt Go.RowKit
open ValueR (all costs)
def VlGood (L : List ValueR) (j : Nat) : Prop := ∀ r, L[j]? = some r → nmB r.f0 = true ∧ wkB r.f1 r.f2 = true ∧ ∀ i p, j = i + 1 → L[i]? = some p → Op.bytesLess p.f0.toList r.f0.toList = true
def VlOk (L : List ValueR) : Prop := L.length ≤ 30 ∧ ∀ j, VlGood L j
open Classical in
noncomputable def vlB (L : List ValueR) : Bool := decide (VlOk L)
theorem vlB_true {L : List ValueR} (h : VlOk L) : vlB L = true := by simp [vlB, h]
theorem vlB_false {L : List ValueR} (h : ¬ VlOk L) : vlB L = false := by simp [vlB, h]
theorem vlB_bad {L : List ValueR} {j : Nat} {r : ValueR} (hr : L[j]? = some r) (h : nmB r.f0 = false ∨ wkB r.f1 r.f2 = false) : vlB L = false := vlB_false fun hk => by
  obtain ⟨h1, h2, _⟩ := hk.2 j r hr
  rcases h with h | h
  · rw [h] at h1; cases h1
  · rw [h] at h2; cases h2
theorem vlB_down {L : List ValueR} {i : Nat} {p r : ValueR} (hp : L[i]? = some p) (hr : L[i + 1]? = some r) (h : Op.bytesLess p.f0.toList r.f0.toList = false) : vlB L = false := vlB_false fun hk => by
  have := (hk.2 (i + 1) r hr).2.2 i p rfl hp
  rw [h] at this; cases this
theorem good0 {L : List ValueR} {r : ValueR} (hr : L[0]? = some r) (h1 : nmB r.f0 = true) (h2 : wkB r.f1 r.f2 = true) : VlGood L 0 := fun r' hr' => by
  rw [hr] at hr'; cases hr'
  exact ⟨h1, h2, fun i p e => by cases e⟩
theorem good1 {L : List ValueR} {i : Nat} {p r : ValueR} (hp : L[i]? = some p) (hr : L[i + 1]? = some r) (h1 : nmB r.f0 = true) (h2 : wkB r.f1 r.f2 = true) (h3 : Op.bytesLess p.f0.toList r.f0.toList = true) : VlGood L (i + 1) := fun r' hr' => by
  rw [hr] at hr'; cases hr'
  exact ⟨h1, h2, fun j q e hq => by cases e; rw [hp] at hq; cases hq; exact h3⟩
def GoodTo (L : List ValueR) (k : Nat) : Prop := ∀ j, j < k → VlGood L j
theorem GoodTo.succ {L : List ValueR} {k : Nat} (h : GoodTo L k) (hg : VlGood L k) : GoodTo L (k + 1) := fun j hj => by
  by_cases e : j = k
  · subst e; exact hg
  · exact h j (by omega)
theorem good_all {L : List ValueR} (h : GoodTo L L.length) (hl : L.length ≤ 30) : vlB L = true := vlB_true ⟨hl, fun j => by
  by_cases hj : j < L.length
  · exact h j hj
  · intro r hr; rw [List.getElem?_eq_none (by omega)] at hr; cases hr⟩
end Go.Proofs.YthmababifgaejaaGreatDoor
