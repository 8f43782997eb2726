/- What the program's (Term).eval returns for a term that is valid and values. No condition. -/
import Derived.Test.YthmababifgaejaaGreatDoorEmApI
import Derived.Test.YthmababifgaejaaGreatDoorEmKd
import Derived.Test.YthmababifgaejaaGreatDoorEmAdd
namespace Go.Proofs.YthmababifgaejaaGreatDoor
open Go.ChangeShapes Go.WideShapes Go.ChangeAt Go.RowKit
open ValueR (all costs)
/-- the words stand at the head of three cells -/
def Pre3 (xs : List Int) (a0 a1 a2 : Int) : Prop := (∀ x, xs[0]? = some x → a0 = x) ∧ (∀ x, xs[1]? = some x → a1 = x) ∧ (∀ x, xs[2]? = some x → a2 = x)
theorem pre_snoc {xs : List Int} {a0 a1 a2 x : Int} (h : Pre3 xs a0 a1 a2) (hl : xs.length < 3) : Pre3 (xs ++ [x]) (if xs.length = 0 then x else a0) (if xs.length = 1 then x else a1) (if xs.length = 2 then x else a2) := by
  match xs, hl, h with
  | [], _, _ => exact ⟨fun y hy => by cases hy; rfl, fun y hy => by simp at hy, fun y hy => by simp at hy⟩
  | [p], _, ⟨h0, _, _⟩ => exact ⟨fun y hy => by cases hy; exact h0 p rfl, fun y hy => by cases hy; rfl, fun y hy => by simp at hy⟩
  | [p, q], _, ⟨h0, h1, _⟩ => exact ⟨fun y hy => by cases hy; exact h0 p rfl, fun y hy => by cases hy; exact h1 q rfl, fun y hy => by cases hy; rfl⟩
theorem i_apply {op wd n : Int} {nm : ByteArray} {k : Fo} {s : Value} {xs : List Int} {a0 a1 a2 : Int} {bw : Nat} {w : World} (his : (k.cs 64).Is w 0 5 k.len s) (hfit : fitB op wd n nm k.ws = true) (h0 : op ≠ 0) (h22 : op ≠ 22) (hall : k.allB = true) (hx : AreW k.ws xs)
    (hbw : bw < w.heap.size) (d0 : w.cell? ⟨bw, 0, none⟩ = some (.int .i64 a0)) (d1 : w.cell? ⟨bw, 1, none⟩ = some (.int .i64 a1)) (d2 : w.cell? ⟨bw, 2, none⟩ = some (.int .i64 a2)) (hp : Pre3 xs a0 a1 a2) :
    Calls Tryz.prog 52 #[.agg #[.int .i64 op, .int .i64 wd, .int .i64 n, .string nm, s], .slice (some ⟨bw, 0, none⟩) 3 3] w fun e w' => e = .returned (.int .i64 (appM op wd n k.ws xs)) ∧ Below w.heap.size w w' := by
  obtain ⟨hw, hs⟩ := fit_shape hfit h0 h22 (ws_ok k hall)
  obtain ⟨p0, p1, p2⟩ := hp
  rcases hs with ⟨ho, e⟩ | ⟨h1, h2, e⟩ | ⟨a, h1, h2, rfl, e, _, _⟩ | ⟨rfl, e⟩ | ⟨a, a2', rfl, e, hsum, _, _⟩ | ⟨a, rfl, e, hn0, hnw, _⟩ | ⟨a, ho, e, _, _⟩
  · rw [e] at hx ⊢
    obtain ⟨b, o, cap, rfl, hbl, hc⟩ := kid_ws his e (by simp)
    match xs, hx with
    | [x], ⟨⟨q1, q2, q3, q4⟩, _⟩ =>
      rw [p0 x rfl] at d0
      rw [app1, if_pos ho]
      rcases ho with rfl | rfl
      · exact i_ap_u1 wd n x nm b o cap bw w hbl hbw (hc 0 _ rfl) d0 q1 q2 q3 q4
      · exact i_ap_u2 wd n x nm b o cap bw w hbl hbw (hc 0 _ rfl) d0 q1 q2 q3 q4
  · rw [e] at hx ⊢
    obtain ⟨b, o, cap, rfl, hbl, hc⟩ := kid_ws his e (by simp)
    match xs, hx with
    | [x, y], ⟨⟨q1, q2, q3, q4⟩, ⟨_, _, r3, r4⟩, _⟩ =>
      rw [p0 x rfl] at d0
      rw [p1 y rfl] at d1
      rw [app2, if_neg (by omega)]
      exact i_ap_bin op wd n wd x y nm b o cap bw w hbl hbw (hc 0 _ rfl) d0 d1 h1 (by omega) q1 q2 q3 q4 r3 r4
  · rw [e] at hx ⊢
    obtain ⟨b, o, cap, rfl, hbl, hc⟩ := kid_ws his e (by simp)
    match xs, hx with
    | [x, y], ⟨⟨q1, q2, q3, q4⟩, ⟨_, _, r3, r4⟩, _⟩ =>
      rw [p0 x rfl] at d0
      rw [p1 y rfl] at d1
      rw [app2, if_neg (by omega)]
      exact i_ap_bin op 1 n a x y nm b o cap bw w hbl hbw (hc 0 _ rfl) d0 d1 (by omega) h2 q1 q2 q3 q4 r3 r4
  · rw [e] at hx ⊢
    obtain ⟨b, o, cap, rfl, hbl, hc⟩ := kid_ws his e (by simp)
    match xs, hx with
    | [x, y, z], _ =>
      rw [p0 x rfl] at d0
      rw [p1 y rfl] at d1
      rw [p2 z rfl] at d2
      rw [app3]
      exact i_ap_if wd n 1 x y z nm b o cap bw w hbl hbw (hc 0 _ rfl) d0 d1 d2
  · rw [e] at hx ⊢
    obtain ⟨b, o, cap, rfl, hbl, hc⟩ := kid_ws his e (by simp)
    match xs, hx with
    | [x, y], ⟨⟨q1, q2, q3, q4⟩, ⟨r1, r2, r3, r4⟩, _⟩ =>
      rw [p0 x rfl] at d0
      rw [p1 y rfl] at d1
      rw [app2, if_pos rfl]
      exact i_ap_join wd n a a2' x y nm b o cap bw w hbl hbw (hc 0 _ rfl) (hc 1 _ rfl) d0 d1 q1 q2 q3 q4 r1 r2 r3 r4 (by omega)
  · rw [e] at hx ⊢
    obtain ⟨b, o, cap, rfl, hbl, hc⟩ := kid_ws his e (by simp)
    match xs, hx with
    | [x], ⟨⟨q1, q2, q3, q4⟩, _⟩ =>
      rw [p0 x rfl] at d0
      rw [app1, if_neg (by decide), if_pos rfl]
      exact i_ap_cut wd n a x nm b o cap bw w hbl hbw (hc 0 _ rfl) d0 q1 q2 q3 q4 hn0 hw.1 hnw
  · rw [e] at hx ⊢
    obtain ⟨b, o, cap, rfl, hbl, hc⟩ := kid_ws his e (by simp)
    match xs, hx with
    | [x], ⟨⟨q1, q2, q3, q4⟩, _⟩ =>
      rw [p0 x rfl] at d0
      rw [app1, if_neg (by omega), if_neg (by omega)]
      rcases ho with rfl | rfl
      · exact i_ap_w20 wd n a x nm b o cap bw w hbl hbw (hc 0 _ rfl) d0 q1 q2 q3 q4 (by assumption) hw.2
      · exact i_ap_w21 wd n a x nm b o cap bw w hbl hbw (hc 0 _ rfl) d0 q1 q2 q3 q4 (by assumption) hw.2
end Go.Proofs.YthmababifgaejaaGreatDoor
