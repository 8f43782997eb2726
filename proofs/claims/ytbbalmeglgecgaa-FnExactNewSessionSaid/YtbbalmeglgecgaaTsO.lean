/- Lists of lists of ints as arguments of laws: how they come in, copies of them, their marks. No condition. -/
import Derived.Test.YtbbalmeglgecgaaMkSS
import Derived.Test.YtbbalmeglgecgaaIntSS
import Derived.Test.YtbbalmeglgecgaaPf
namespace Go.Proofs.Ytbbalmeglgecgaa
open Go.ChangeShapes Go.WideShapes Go.ChangeAt Go.RowKit
section
variable {H : Type} {enc : TypeId × Value → H} {w : World} {base b0 : Nat} {spare : Nat → Bool} {held : Bool} {r : Reach}
set_option maxRecDepth 100000 in
theorem tys_IntSS (m : Nat) (C : Cs) (h : Cs.Ty Try.prog m 25 C) : ∃ L : List (List Int), C = .sl 58 1 L.length (Cs.rows IntSS.c L) .nil ∧ IntSS.Ok L ∧ L.length ≤ maxLen := by
  cases m with
  | zero => exact h.elim
  | succ m =>
    unfold Cs.Ty at h
    rw [Try.underlying25] at h
    dsimp only at h
    have hC : Try.prog.cellsOf 58 = 1 := by kernel_rfl
    rw [hC] at h
    obtain ⟨n, k, rfl, hn, hr⟩ := h
    have key : ∀ (n : Nat) (k : Cs), Cs.Rows (Cs.Ty Try.prog m 58) n k → ∃ L : List (List Int), L.length = n ∧ k = Cs.rows IntSS.c L ∧ IntSS.Ok L := by
      intro n
      induction n with
      | zero => rintro k rfl; exact ⟨[], rfl, rfl, fun r h => by cases h⟩
      | succ n ihn =>
        rintro k ⟨c, q, rfl, hc, hq⟩
        obtain ⟨r, rfl, hok, hl⟩ := tys_Int m _ hc
        obtain ⟨L, rfl, rfl, hL⟩ := ihn _ hq
        exact ⟨r :: L, rfl, rfl, fun x hx => (List.mem_cons.1 hx).elim (fun e => by rw [e]; exact ⟨hok, hl⟩) (hL x)⟩
    obtain ⟨L, rfl, rfl, hL⟩ := key n k hr
    exact ⟨L, rfl, hL, hn⟩
theorem plain_IntSS : [25, 58, 3].all (Cs.plainAt Try.prog [25, 58, 3]) = true := by kernel_rfl
set_option maxRecDepth 100000 in
theorem open_IntSS {v : Value} {d : DataW H} {p : List MemPlace} (hv : Value.okWide Try.prog w r b0 25 v) (h : DataW.Trod enc Try.prog w base spare held 25 v d p) :
    ∃ L : List (List Int), (Cs.rows IntSS.c L).Is w base 1 L.length v ∧ IntSS.Ok L ∧ L.length ≤ maxLen := by
  obtain ⟨a, l, c, rfl⟩ := okWide_slice Try.underlying25 hv
  obtain ⟨m, C, h1, h2⟩ := Cs.open_arg (t := 25) plain_IntSS (List.mem_cons_self ..) h
  obtain ⟨L, rfl, hok, hl⟩ := tys_IntSS m C h2
  obtain ⟨s, xs, e, ⟨ys, hs, hys⟩, _⟩ := Cs.vs_sl.1 h1
  have e : [Value.slice a l c] = s :: xs := e
  obtain ⟨rfl, rfl⟩ := List.cons.inj e
  exact ⟨L, ⟨ys, hs, hys⟩, hok, hl⟩
end
def TsO (w : World) (base : Nat) (T : List (List Int)) (v : Value) (B : List Nat) : Prop := (Cs.rows IntSS.c T).Has w base 58 1 T.length v B ∧ B.Nodup
section
variable {w w' : World} {base : Nat} {T : List (List Int)} {v : Value} {B : List Nat}
theorem TsO.lt (h : TsO w base T v B) : ∀ g ∈ B, base ≤ g ∧ g < w.heap.size := h.1.lt
theorem TsO.same (h : TsO w base T v B) (hs : ∀ g ∈ B, w'.heap[g]? = w.heap[g]?) : TsO w' base T v B := ⟨h.1.same hs, h.2⟩
theorem TsO.keep (h : TsO w base T v B) (hb : Below w.heap.size w w') : TsO w' base T v B := h.same fun g hg => hb.block g (h.lt g hg).2
theorem TsO.shows (h : TsO w base T v B) : (Cs.rows IntSS.c T).Is w 0 1 T.length v := h.1.is.down (Nat.zero_le _)
end
theorem to_Ts (T : List (List Int)) (v : Value) (w : World) (hv : (Cs.rows IntSS.c T).Is w 0 1 T.length v) (hn : IntSS.costs T ≤ 1048576) :
    Calls Try.prog 51 #[v] w fun e w' => ∃ g B, e = .returned (.slice (some ⟨g, 0, none⟩) T.length T.length) ∧ TsO w' w.heap.size T (.slice (some ⟨g, 0, none⟩) T.length T.length) B ∧ Below w.heap.size w w' := by
  refine (to_IntSS T v w hv hn).mono ?_
  rintro e w' ⟨g, rfl, ⟨bs, h1, h2⟩, hb⟩
  exact ⟨g, bs, rfl, ⟨h1, h2⟩, hb⟩
theorem mark_Ts (T : List (List Int)) (v : Value) (k base : Nat) (B : List Nat) (w : World) (h : TsO w base T v B) (h1 : 1 ≤ k) (hk : k + IntSS.tot T ≤ 1000000000000) (hl : T.length ≤ 1000000000000) :
    Calls Try.prog 44 #[v, .int .i64 k] w fun e w' => e = .returned (.int .i64 ((k + IntSS.tot T : Nat) : Int)) ∧ True ∧ Apart B w w' := by
  refine (mark_IntSS T v k base B w h.1 h.2 h1 hk hl).mono ?_
  rintro e w' ⟨rfl, _, ha⟩
  exact ⟨rfl, trivial, ha⟩
theorem tot_le : ∀ T : List (List Int), IntSS.tot T ≤ IntSS.costs T
  | [] => Nat.le_refl _
  | l :: T => by
    have h := tot_le T
    have e1 : IntSS.tot (l :: T) = l.length + IntSS.tot T := by unfold IntSS.tot; simp [cntL]
    have e2 : IntSS.costs (l :: T) = 1 + l.length + IntSS.costs T := by unfold IntSS.costs; simp
    omega
end Go.Proofs.Ytbbalmeglgecgaa
