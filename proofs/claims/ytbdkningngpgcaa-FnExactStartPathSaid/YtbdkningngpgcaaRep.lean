/- slices.Repeat of a list that holds one constant 0. No condition. -/
import Derived.Test.YtbdkningngpgcaaSpM
import Derived.Test.YtbdkningngpgcaaReg
import Derived.Test.YtbdkningngpgcaaShelf2
import Derived.Laws.IdiomCopy
import Derived.Laws.Append
import Derived.Deep.MidRow
namespace Go.Proofs.Ytbdkningngpgcaa
open Go.ChangeShapes Go.WideShapes Go.ChangeAt Go.RowKit
theorem rp_copy {P : Program} (w : World) (dT sT ty elem : TypeId) (b o dLen dCap : Nat) (a : Addr) (sLen sCap z n : Nat) (cs : List Value) (hu : P.underlying dT = some (.slice elem)) (hs : (P.info? elem).map (·.size) = some z)
    (hm : Nat.min sLen dLen = n) (hn : cs.length = n * z) (hsrc : ∀ j v, cs[j]? = some v → w.cell? (a.add j) = some v) (ht : w.there b o cs.length) (h1 : ∀ v ∈ cs, v.oneCell' = true) :
    (Builtin.copy_ #[dT, sT] ty #[.slice (some ⟨b, o, none⟩) dLen dCap, .slice (some a) sLen sCap]).run P w = .ok (goInt n) (w.setCells b o cs) := by
  have hst := run_storeCells_cells (P := P) b o cs 0 w (fun j hj => (ht j hj).1) (fun j hj => (ht j hj).2) h1
  have hf := run_firstCells_some (P := P) w z n a sLen sCap cs hn hsrc
  cases hq : P.info? elem with
  | none => simp [hq] at hs
  | some i =>
    have hi : i.size = z := by simpa [hq] using hs
    simp [Builtin.copy_, run_underlying hu, Builtin.lenOf, sizeOf, typeInfo, hq, hi, hm, hf, hst]
theorem rp_there {w : World} {base : Nat} {e : TypeId} {g n cap z : Nat} {xs : List Value} (h : w.ownsRow base e z (.slice (some ⟨g, 0, none⟩) n cap) n xs) (o m : Nat) (hm : o + m ≤ n * z) {w' : World} (hc : ∀ x, w'.cell? x = w.cell? x) (hf : ∀ x, w'.frozen? x = w.frozen? x) : w'.there g o m := fun j hj => by
  have hl := h.1
  refine ⟨?_, ?_⟩
  · rw [hc, h.cellAt (o + j) (by omega), List.getElem?_eq_getElem (by omega)]; rfl
  · rw [hf]; exact h.frozenAt (o + j)
/-- where the filling of a list of so many constants stands -/
def RpRel (w : World) (vw : Int) (n k : Nat) (wr : World) : Prop := ∃ cur, wr.ownsRow w.heap.size 87 5 (.slice (some ⟨w.heap.size, 0, none⟩) n n) n cur ∧ cur.take (k * 5) = zcs vw k ∧ Below w.heap.size w wr
theorem rp_step {w wr : World} {vw : Int} {n k m : Nat} (hk : k + m ≤ n) (hr : RpRel w vw n k wr) : RpRel w vw n (k + m) (wr.setCells w.heap.size (k * 5) (zcs vw m)) := by
  obtain ⟨cur, ho, hc, hb⟩ := hr
  have hl := ho.1
  refine ⟨_, own_put (zcs vw m) (k * 5) wr cur ho, ?_, below_setCells (Nat.le_refl _) _ _ hb⟩
  rw [putAt_take cur (k * 5) (zcs vw m) ((k + m) * 5) (by rw [zcs_len]; omega) (by omega), hc, zcs_add]
theorem rp_done {w wr : World} {vw : Int} {n : Nat} (hr : RpRel w vw n n wr) : wr.ownsRow w.heap.size 87 5 (.slice (some ⟨w.heap.size, 0, none⟩) n n) n (zcs vw n) ∧ Below w.heap.size w wr := by
  obtain ⟨cur, ho, hc, hb⟩ := hr
  have hl := ho.1
  rw [← hc, List.take_of_length_le (by omega)]
  exact ⟨ho, hb⟩
theorem rp_drew {w wr : World} {vw : Int} {n k : Nat} (hr : RpRel w vw n k wr) : RpRel w vw n k wr.drew := by
  obtain ⟨cur, ho, hc, hb⟩ := hr
  exact ⟨cur, ho.drew, hc, hb.drew⟩
theorem rp_size {w wr : World} {vw : Int} {n k : Nat} (hr : RpRel w vw n k wr) : w.heap.size < wr.heap.size := by
  obtain ⟨cur, ho, _, _⟩ := hr
  exact (own_lt ho (g := w.heap.size) (by simp [Value.ownBlock])).2
/-- the first copy -/
theorem rp_first {w w1 : World} {vw : Int} {gb n : Nat} {xs : List Value} (hg : w.heap[gb]? = some (.cells (zc vw).toArray 87 (0, 0))) (ho : w1.ownsRow w.heap.size 87 5 (.slice (some ⟨w.heap.size, 0, none⟩) n n) n xs) (hb : Below w.heap.size w w1) (ty : TypeId) :
    (Builtin.copy_ #[56, 56] ty #[.slice (some ⟨w.heap.size, 0, none⟩) n n, .slice (some ⟨gb, 0, none⟩) 1 1]).run Try.prog w1 = .ok (goInt ((min 1 n : Nat) : Int)) (w1.setCells w.heap.size 0 (zcs vw (min 1 n))) ∧ RpRel w vw n (min 1 n) (w1.setCells w.heap.size 0 (zcs vw (min 1 n))) := by
  have hl := ho.1
  refine ⟨rp_copy w1 _ _ ty 87 w.heap.size 0 n n ⟨gb, 0, none⟩ 1 1 5 (min 1 n) _ Try.underlying56 (by kernel_rfl) rfl (zcs_len _ _) (fun j u hj => ?_) ?_ (zcs_one _ _), ?_⟩
  · have hg1 := (hb.block gb (Array.getElem?_eq_some_iff.1 hg).1).trans hg
    rw [Addr.add_mid, Nat.zero_add, cell_of_row w1 gb j _ _ _ hg1]
    have hjl := (List.getElem?_eq_some_iff.1 hj).1
    rw [zcs_len] at hjl
    have h1 : min 1 n = 1 := by omega
    rw [h1] at hj
    simpa [zcs] using hj
  · exact rp_there ho 0 _ (by rw [zcs_len]; omega) (fun _ => rfl) (fun _ => rfl)
  · have := rp_step (w := w) (wr := w1) (vw := vw) (n := n) (k := 0) (m := min 1 n) (by omega) ⟨xs, ho, by simp [zcs], hb⟩
    simpa using this
/-- the copies that double -/
theorem rp_next {w wr : World} {vw : Int} {n k : Nat} (hk : k ≤ n) (hr : RpRel w vw n k wr) (ty : TypeId) (dc sc : Nat) :
    (Builtin.copy_ #[56, 56] ty #[.slice (some ⟨w.heap.size, k * 5, none⟩) (n - k) dc, .slice (some ⟨w.heap.size, 0, none⟩) k sc]).run Try.prog wr = .ok (goInt ((min k (n - k) : Nat) : Int)) (wr.setCells w.heap.size (k * 5) (zcs vw (min k (n - k)))) := by
  obtain ⟨cur, ho, hc, hb⟩ := hr
  have hl := ho.1
  refine rp_copy wr _ _ ty 87 w.heap.size (k * 5) (n - k) dc ⟨w.heap.size, 0, none⟩ k sc 5 (min k (n - k)) _ Try.underlying56 (by kernel_rfl) rfl (zcs_len _ _) (fun j u hj => ?_) ?_ (zcs_one _ _)
  · have hjl := (List.getElem?_eq_some_iff.1 hj).1
    rw [zcs_len] at hjl
    have hmk : min k (n - k) ≤ k := Nat.min_le_left _ _
    rw [Addr.add_mid, Nat.zero_add, ho.cellAt j (by omega)]
    have h2 : (cur.take (k * 5))[j]? = some u := by
      rw [hc, show k = min k (n - k) + (k - min k (n - k)) by omega, zcs_add, List.getElem?_append_left (by rw [zcs_len]; omega)]
      exact hj
    rw [List.getElem?_take_of_lt (by omega)] at h2
    exact h2
  · exact rp_there ho (k * 5) _ (by rw [zcs_len]; have := Nat.min_le_right k (n - k); omega) (fun _ => rfl) (fun _ => rfl)
set_option maxRecDepth 100000 in
set_option maxHeartbeats 4000000 in
theorem i_repeat (vw : Int) (n gb : Nat) (w : World) (hn : n ≤ 1048576) (hg : w.heap[gb]? = some (.cells (zc vw).toArray 87 (0, 0))) :
    Calls Try.prog 77 #[.slice (some ⟨gb, 0, none⟩) 1 1, .int .i64 n] w fun e w' => ∃ q, e = .returned (.slice q n n) ∧ w'.ownsRow w.heap.size 87 5 (.slice q n n) n (zcs vw n) ∧ Below w.heap.size w w' := by
  have hml : maxLen = 9223372036854775807 := rfl
  obtain ⟨i8, hi8, hz8, hzs8, hzb8⟩ := info_parts infoT
  have KM := Lib.hid (fun W => Try.bits_Mul 1 n (by omega) (by omega) W)
  rw [show (1 * n / 18446744073709551616 : Nat) = 0 by omega, show (1 * n % 18446744073709551616 : Nat) = n by omega] at KM
  have hn0 : ¬ ((n : Int) < 0) := by omega
  have hn1 : ¬ ((9223372036854775807 : Int) < (n : Int)) := by omega
  have HF := Lib.hid (fun (w1 : World) (xs : List Value) (ho : w1.ownsRow w.heap.size 87 5 (.slice (some ⟨w.heap.size, 0, none⟩) n n) n xs) (hb : Below w.heap.size w w1) (ty : TypeId) => rp_first hg ho hb ty)
  clear hg
  go_enter Try.func77, Try.ntmps77
  go_wp2_with fail
  refine (KM.out _).mono ?_
  rintro e w1 ⟨rfl, rfl⟩
  go_wp2_with (refine wpList_make_full _ rfl _ _ 56 rfl w1.heap.size 87 i8 _ 5 Try.underlying56 hi8 hz8 hzs8 .i64 .i64 _ _ n rfl rfl rfl rfl (by rw [hzb8]; omega) (by omega) (Nat.le_refl _) ?_; intro w2 hown hgrow; have hb1 := (Below.refl w1.heap.size w1).grown hgrow (Nat.le_refl _) (fun k e => by cases e); have hc0 := fun ty => (HF.out _ _ hown hb1 ty).1; have HR := Lib.hid (HF.out _ _ hown hb1 0).2; clear hown hgrow hb1)
  go_loopw [8] (fun kv wr => ∃ k : Nat, k ≤ n ∧ (0 < k ∨ n = 0) ∧ kv = .int .i64 k ∧ RpRel w1 vw n k wr) (fun kv _ => n - (intOf kv).toNat)
  case atStart => exact ⟨min 1 n, by omega, by omega, rfl, HR.out⟩
  case round =>
    clear hc0 HR
    obtain ⟨k, hk, hp, rfl, hr⟩ := hrel
    have HR := Lib.hid hr
    have hsz := rp_size hr
    clear hr
    by_cases hkn : k < n
    · have hji : (k : Int) < (n : Int) := by omega
      have hm1 := Nat.min_le_left k (n - k)
      have hm2 := Nat.min_le_right k (n - k)
      have hm3 : 0 < min k (n - k) := by omega
      have hcp := fun ty dc sc => rp_next hk (rp_drew HR.out) ty dc sc
      have HN := Lib.hid (rp_step (m := min k (n - k)) (by omega) (rp_drew HR.out))
      obtain ⟨m, hm⟩ : ∃ m, min k (n - k) = m := ⟨_, rfl⟩
      rw [hm] at hm1 hm2 hm3 hcp HN
      clear hm
      have hwi : IntKind.i64.wrap ((k : Int) + (m : Int)) = (k : Int) + m := IntWalk.i64_in _ (by omega)
      go_wp2
      go_region
      go_wp2
      go_roundw
      case rel => exact ⟨k + m, by omega, by omega, by go_num, HN.out⟩
      case measure => simp [intOf] <;> omega
    · have hke : k = n := by omega
      subst hke
      have hji : ¬ ((k : Int) < (k : Int)) := by omega
      go_wp2
      go_ret
      obtain ⟨h1, h2⟩ := rp_done HR.out
      exact ⟨_, rfl, h1, h2⟩
end Go.Proofs.Ytbdkningngpgcaa
