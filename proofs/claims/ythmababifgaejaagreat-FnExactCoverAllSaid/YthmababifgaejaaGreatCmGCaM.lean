/- The model of CoverAll: the edges of the runs of some tests. No condition. append of a slice of whatever length to an owned one. No condition. -/
import Derived.Test.YthmababifgaejaaGreatCmGIntSSb
import Derived.Test.YthmababifgaejaaGreatCmGRcL
import Derived.Test.YthmababifgaejaaGreatCmGFlat
import Derived.WalkKit
import Derived.ProofKit
import Derived.OpenShut
import Derived.Handy
import Derived.Lib.Hide
import Derived.Below
import Derived.IntWalk
import Derived.WalkLawsBesides
import Derived.Deep.QuietTactic
import Derived.BigQuiet
import Derived.OwnWalk
import Derived.Laws.OwnMore
import Derived.Deep.OwnRows
import Derived.Deep.MidRow
import Derived.Deep.Upon
import Derived.Deep.RegionWith
namespace Go.Proofs.YthmababifgaejaaGreat
open Go.ChangeShapes Go.WideShapes Go.ChangeAt Go.RowKit
/-- the edges of the first tests, put into a list one after the other -/
def caS (vw vm vi : Int) (L : List InsR) (fn : Nat) (T : List (List Int)) : Nat → List Int
  | 0 => []
  | n + 1 => insL (caS vw vm vi L fn T n) (cvN vw vm vi L (T.getD n []) fn)
/-- the covers of the first tests, one behind the other -/
def caI (vw vm vi : Int) (L : List InsR) (f : Int) (T : List (List Int)) : Nat → List Int
  | 0 => []
  | n + 1 => caI vw vm vi L f T n ++ cvV vw vm vi L (T.getD n []) f
def caV (vw vm vi : Int) (L : List InsR) (f : Int) (T : List (List Int)) : List Int := if (aoB vw vm vi L T && (decide (0 ≤ f) && decide (f ≤ 400))) = true then Lib.compact (sortI (caI vw vm vi L f T T.length)) else []
section
variable {vw vm vi f : Int} {L : List InsR} {T : List (List Int)}
theorem caS_asc {fn : Nat} : ∀ n, (caS vw vm vi L fn T n).Pairwise (· < ·)
  | 0 => List.Pairwise.nil
  | n + 1 => insL_asc _ _ (caS_asc n)
theorem caS_len {fn : Nat} : ∀ n, (caS vw vm vi L fn T n).length ≤ n * fn
  | 0 => by simp [caS]
  | n + 1 => by
    have h1 := caS_len (fn := fn) n
    have h2 := insL_len (cvN vw vm vi L (T.getD n []) fn) (caS vw vm vi L fn T n)
    have h3 := cvN_len (vw := vw) (vm := vm) (vi := vi) (L := L) (I := T.getD n []) fn
    show (insL _ _).length ≤ _
    rw [Nat.succ_mul]
    omega
theorem caI_len : ∀ n, (caI vw vm vi L f T n).length ≤ n * 400
  | 0 => by simp [caI]
  | n + 1 => by
    have h1 := caI_len n
    have h2 := cvV_len vw vm vi L (T.getD n []) f
    show (caI vw vm vi L f T n ++ cvV vw vm vi L (T.getD n []) f).length ≤ _
    rw [List.length_append, Nat.succ_mul]
    omega
theorem cvV_mem (h : aoB vw vm vi L T = true) {fn : Nat} (hf : fn ≤ 400) {n : Nat} (hn : n < T.length) (x : Int) : x ∈ cvV vw vm vi L (T.getD n []) fn ↔ x ∈ cvN vw vm vi L (T.getD n []) fn := by
  have hi : inB vw vm vi L (T.getD n []) = true := by
    rw [List.getD_eq_getElem?_getD, List.getElem?_eq_getElem hn]
    exact ao_at h n hn
  unfold cvV
  rw [(comp_sort _).2]
  unfold ceV
  rw [if_pos, Int.toNat_natCast]
  unfold rnB
  rw [hi, Bool.true_and, Bool.and_eq_true, decide_eq_true_eq, decide_eq_true_eq]
  omega
theorem ca_mem (h : aoB vw vm vi L T = true) {fn : Nat} (hf : fn ≤ 400) : ∀ n, n ≤ T.length → ∀ x, x ∈ caS vw vm vi L fn T n ↔ x ∈ caI vw vm vi L fn T n
  | 0, _, x => by simp [caS, caI]
  | n + 1, hn, x => by
    show x ∈ insL _ _ ↔ x ∈ _ ++ _
    rw [insL_mem, List.mem_append, ca_mem h hf n (by omega) x, cvV_mem h hf (by omega)]
/-- both sides give one list -/
theorem ca_eq (h : aoB vw vm vi L T = true) {fn : Nat} (hf : fn ≤ 400) : caS vw vm vi L fn T T.length = Lib.compact (sortI (caI vw vm vi L fn T T.length)) :=
  asc_eq _ _ (caS_asc _) (comp_sort _).1 fun x => by rw [ca_mem h hf _ (Nat.le_refl _), (comp_sort _).2]
/-- with a fuel that is out of range no run takes an edge -/
theorem cvV_out (hf : ¬ (0 ≤ f ∧ f ≤ 400)) (I : List Int) : cvV vw vm vi L I f = [] := by
  unfold cvV ceV
  rw [if_neg]
  · rw [← insL_comp]; rfl
  · unfold rnB
    simp only [Bool.and_eq_true, decide_eq_true_eq]
    exact fun g => hf g.2
theorem caI_out (hf : ¬ (0 ≤ f ∧ f ≤ 400)) : ∀ n, caI vw vm vi L f T n = []
  | 0 => rfl
  | n + 1 => by
    show caI vw vm vi L f T n ++ cvV vw vm vi L (T.getD n []) f = []
    rw [caI_out hf n, cvV_out hf]
    rfl
/-- what the program makes of tests that are all right, whatever the fuel -/
theorem caV_impl (h : aoB vw vm vi L T = true) : caV vw vm vi L f T = Lib.compact (sortI (caI vw vm vi L f T T.length)) := by
  unfold caV
  rw [h, Bool.true_and]
  by_cases hf : 0 ≤ f ∧ f ≤ 400
  · rw [if_pos (by rw [Bool.and_eq_true, decide_eq_true_eq, decide_eq_true_eq]; exact hf)]
  · rw [if_neg (by rw [Bool.and_eq_true, decide_eq_true_eq, decide_eq_true_eq]; exact hf), caI_out hf, ← insL_comp]
    rfl
end
/-- an edge is a small number -/
theorem cvN_small {vw vm vi : Int} {L : List InsR} {I : List Int} (h : inB vw vm vi L I = true) : ∀ n, ∀ x ∈ cvN vw vm vi L I n, 0 ≤ x ∧ x < (82 : Nat)
  | 0, x, hx => by cases hx
  | n + 1, x, hx => by
    by_cases hb : begunB L.length (stN vw vm vi L I n) = true ∧ (insV L (stN vw vm vi L I n)).f0 = 10
    · rw [cvN_yes rfl hb.1 hb.2, List.mem_append] at hx
      rcases hx with hx | hx
      · exact cvN_small h n x hx
      · rw [List.mem_singleton] at hx
        obtain ⟨⟨-, -, -, -, -, -, -, -, h40⟩, -⟩ := pr_in (in_of h).1
        have hp := (gd_N h n).pc
        rw [hx]
        unfold edV
        split <;> omega
    · rw [cvN_no rfl hb] at hx
      exact cvN_small h n x hx
theorem caS_in {vw vm vi : Int} {L : List InsR} {T : List (List Int)} (h : aoB vw vm vi L T = true) (fn : Nat) : ∀ n, n ≤ T.length → ∀ x ∈ caS vw vm vi L fn T n, 0 ≤ x ∧ x < (82 : Nat)
  | 0, _, x, hx => by cases hx
  | n + 1, hn, x, hx => by
    have hi : inB vw vm vi L (T.getD n []) = true := by
      rw [List.getD_eq_getElem?_getD, List.getElem?_eq_getElem (by omega)]
      exact ao_at h n (by omega)
    rcases (insL_mem _ _ _).1 hx with hx | hx
    · exact caS_in h fn n (by omega) x hx
    · exact cvN_small hi fn x hx
theorem caS_small {vw vm vi : Int} {L : List InsR} {T : List (List Int)} (h : aoB vw vm vi L T = true) (fn : Nat) (n : Nat) (hn : n ≤ T.length) : (caS vw vm vi L fn T n).length ≤ 82 :=
  nodup_len 82 _ ((caS_asc n).imp fun h => by omega) (caS_in h fn n hn)
theorem caV_len (vw vm vi : Int) (L : List InsR) (f : Int) (T : List (List Int)) : (caV vw vm vi L f T).length ≤ T.length * 400 := by
  unfold caV
  split
  · have h1 := caI_len (vw := vw) (vm := vm) (vi := vi) (L := L) (f := f) (T := T) T.length
    have h2 := insL_len (caI vw vm vi L f T T.length) []
    rw [insL_comp] at h2
    simp only [List.length_nil] at h2
    omega
  · simp
theorem caV_small (vw vm vi : Int) (L : List InsR) (f : Int) (T : List (List Int)) : (caV vw vm vi L f T).length ≤ 82 := by
  unfold caV
  split
  case isTrue h =>
    rw [Bool.and_eq_true, Bool.and_eq_true, decide_eq_true_eq, decide_eq_true_eq] at h
    obtain ⟨n, rfl⟩ : ∃ n : Nat, f = n := ⟨f.toNat, by omega⟩
    rw [← ca_eq h.1 (by omega)]
    exact caS_small h.1 n _ (Nat.le_refl _)
  case isFalse => simp
end Go.Proofs.YthmababifgaejaaGreat
namespace Go.Proofs.YthmababifgaejaaGreat
open Go.ChangeShapes Go.WideShapes Go.ChangeAt Go.RowKit
/-- append of a slice of whatever length to an owned one -/
theorem wpList_append_any {P : Program} {w : World} {ops : Array Oper} {rest : List Oper} {o : Oper} {a : Act} {Q : Exit → Act → World → Prop} (hgd : o.guard = none) (s x : Operand) (t : TypeId)
    (ho : o.op = .call { callee := .builtin .append, args := #[s, x], argTypes := #[t, t] })
    (base : Nat) (e : TypeId) (i : TypeInfo) (z : Value) (size bytes : Nat) (ht : P.underlying t = some (.slice e)) (hi : P.info? e = some i) (hz : i.zero = some z)
    (hsize : i.size = size) (hby : i.bytes = bytes) (hzs : z.cells.size = size) (hsz : 0 < size)
    (v : Value) (n : Nat) (xs : List Value) (hs : a.eval s = v) (hown : w.ownsRow base e size v n xs)
    (q : Option Addr) (m c : Nat) (news : List Value) (hx : a.eval x = .slice q m c) (hl : news.length = m * size) (hnews : 0 < m → ∃ ad, q = some ad ∧ ∀ j u, news[j]? = some u → w.cell? (ad.add j) = some u) (h1 : ∀ u ∈ news, u.oneCell' = true)
    (h63 : n + m ≤ maxLen) (hbytes : (n + m) * bytes ≤ 140737488355328) (hbase : base ≤ w.heap.size)
    (h : ∀ q' c' w', w'.ownsRow base e size (.slice q' (n + m) c') (n + m) (xs ++ news) → Below base w w' → wpList P ops Q rest (a.put o.dst (.slice q' (n + m) c')) w') : wpList P ops Q (o :: rest) a w := by
  rcases Nat.eq_zero_or_pos m with hm | hm
  · subst hm
    have hnil : news = [] := List.length_eq_zero_iff.1 (by omega)
    subst hnil
    obtain ⟨q0, c0, rfl, hc⟩ : ∃ q0 c0, v = .slice q0 n c0 ∧ n ≤ c0 := by
      rcases hown.2 with ⟨rfl, h⟩ | ⟨g, cap, _, rfl, _, _, h, _⟩
      · exact ⟨none, 0, by rw [h], by omega⟩
      · exact ⟨_, cap, rfl, h⟩
    refine wpList_plain hgd fun K hK => ?_
    have hr := run_append_nothing (P := P) w t t o.type e i ht hi q0 n c0 hc (.slice q 0 c) ⟨.inl ⟨e, ht⟩, fun _ => rfl, by cases q <;> simp [Builtin.firstCells, loadCells, loadCellsFrom], by cases q <;> simp [Builtin.firstCells, loadCells, loadCellsFrom], by simp, fun u hu => by cases hu⟩
    unfold Oper.wp execOp
    simp only [ho, resolve, invoke, builtin, Sem.run_bind, Sem.run_pure, Result.andThen_ok, List.map_toArray, List.map_cons, List.map_nil, hs, hx, hr]
    exact hK _ _ (h q0 c0 w (by simpa using hown) (Below.refl _ _))
  · obtain ⟨ad, rfl, hn⟩ := hnews hm
    refine wpList_append_own w hgd s x t ho base e i z size bytes ht hi hz hsize hby hzs hsz v n xs hs hown ad m c news hx hl hn h1 h63 hbytes hbase fun v' w' h2 h3 _ => ?_
    obtain ⟨q', c', rfl⟩ : ∃ q' c', v' = .slice q' (n + m) c' := by
      rcases h2.2 with ⟨_, h⟩ | ⟨g, cap, _, rfl, _⟩
      · omega
      · exact ⟨_, cap, rfl⟩
    exact h q' c' w' h2 ((Below.refl _ _).grown h3 hbase fun k hk => (hown.lt k hk).1)
theorem news_of' {w : World} {base n : Nat} {q : Option Addr} {c : Nat} {ys : List Value} (h : Cs.Shows w base 1 (.slice q n c) n ys) : 0 < n → ∃ ad, q = some ad ∧ ∀ i u, ys[i]? = some u → w.cell? (ad.add i) = some u := by
  intro hn
  rcases Cs.shows_cases h with ⟨h0, _⟩ | ⟨_, b, o, c', he, _, _, _, hr⟩
  · omega
  · cases he
    exact ⟨_, rfl, fun i u hu => by rw [Addr.add_mid]; exact hr i u hu⟩
theorem str_one (l : List ByteArray) : ∀ u ∈ l.map Value.string, u.oneCell' = true := by
  intro u hu
  obtain ⟨x, _, rfl⟩ := List.mem_map.1 hu
  rfl
/-- texts that are made, the first ones -/
def StrRel (T : List ByteArray) (w : World) (n j : Nat) (wr : World) : Prop := ∃ cur, wr.ownsRow w.heap.size 9 1 (.slice (some ⟨w.heap.size, 0, none⟩) n n) n cur ∧ cur.take j = (T.take j).map Value.string ∧ Below w.heap.size w wr
theorem str_step {T : List ByteArray} {w wr : World} {n j : Nat} (hj : j < T.length) (hn : T.length = n) (hr : StrRel T w n j wr) : StrRel T w n (j + 1) (wr.setCell ⟨w.heap.size, j, none⟩ (.string T[j])) := by
  obtain ⟨cur, ho, hc, hbw⟩ := hr
  have hlen := ho.1
  refine ⟨_, own_put [.string T[j]] j wr cur ho, ?_, hbw.setCell (Nat.le_refl _) _⟩
  rw [putAt_take cur j [.string T[j]] (j + 1) rfl (by omega), hc, List.take_succ_eq_append_getElem hj, List.map_append]
  rfl
theorem str_keep {T : List ByteArray} {w wr w' : World} {n j : Nat} (hr : StrRel T w n j wr) (hb : Below wr.heap.size wr w') : StrRel T w n j w' := by
  obtain ⟨cur, ho, hc, hbw⟩ := hr
  exact ⟨cur, own_keep ho hb, hc, hbw.trans (hb.mono hbw.size)⟩
end Go.Proofs.YthmababifgaejaaGreat
