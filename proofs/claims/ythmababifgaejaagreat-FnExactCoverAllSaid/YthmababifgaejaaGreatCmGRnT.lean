/- The list that a run's function value writes. No condition. Contracts of Go's library at this translation, each by one application of a theorem of the kit. No walk. -/
import Derived.Test.YthmababifgaejaaGreatCmRnI
import Derived.Test.YthmababifgaejaaGreatCmGOwAt
import Derived.Shelf.Strconv.Itoa0
import Derived.Shelf.Sort.Plain
import Derived.Ground.Names2Prog
import Derived.Shelf.Slices.CompactI
import Derived.Shelf.Slices.In.SortNone
import Derived.Test.YthmababifgaejaaGreatProg
namespace Go.Proofs.YthmababifgaejaaGreat
open Go.ChangeShapes Go.WideShapes Go.ChangeAt Go.RowKit
/-- the list that a function value writes: the variable in the block g, and its row -/
def TrAt (V : Nat → List Int) (g base : Nat) (W : World) (B : List Nat) (j : Nat) : Prop := ∃ v, B = g :: v.ownBlock.toList ∧ W.heap[g]? = some (.cells #[v] 28 (0, 0)) ∧ base ≤ g ∧ W.ownsRow base 3 1 v (V j).length (IntL.all (V j))
theorem TrAt.lt {V : Nat → List Int} {g base : Nat} {W : World} {B : List Nat} {j : Nat} (h : TrAt V g base W B j) : ∀ k ∈ B, base ≤ k ∧ k < W.heap.size := by
  obtain ⟨v, rfl, hg, hb, ho⟩ := h
  intro k hk
  rcases List.mem_cons.1 hk with rfl | hk
  · exact ⟨hb, (Array.getElem?_eq_some_iff.1 hg).1⟩
  · exact own_lt ho hk
theorem TrAt.same {V : Nat → List Int} {g base : Nat} {W W' : World} {B : List Nat} {j : Nat} (h : TrAt V g base W B j) (hs : ∀ k ∈ B, W'.heap[k]? = W.heap[k]?) : TrAt V g base W' B j := by
  obtain ⟨v, rfl, hg, hb, ho⟩ := h
  exact ⟨v, rfl, (hs g List.mem_cons_self).trans hg, hb, own_same ho fun k hk => hs k (List.mem_cons_of_mem _ hk)⟩
theorem TrAt.next {V : Nat → List Int} {g base : Nat} {W : World} {B : List Nat} {j : Nat} (h : TrAt V g base W B j) (hv : V (j + 1) = V j) : TrAt V g base W B (j + 1) := by
  obtain ⟨v, hB, hg, hb, ho⟩ := h
  exact ⟨v, hB, hg, hb, by rw [hv]; exact ho⟩
/-- a number put behind the list -/
theorem TrAt.put {V : Nat → List Int} {g base : Nat} {W W1 : World} {v v' : Value} {j : Nat} {z : Int} (hg : W.heap[g]? = some (.cells #[v] 28 (0, 0))) (hb : base ≤ g) (ho : W.ownsRow base 3 1 v (V j).length (IntL.all (V j))) (hv : V (j + 1) = V j ++ [z])
    (hown : W1.ownsRow base 3 1 v' ((V j).length + 1) (IntL.all (V j) ++ [.int .i64 z])) (hgrow : (W.alloc (.cells #[.int .i64 z] 3)).grownBy W1 v.ownBlock) (hat : v'.ownBlock = v.ownBlock ∨ v'.ownBlock = some (W.heap.size + 1)) :
    TrAt V g base (W1.setCell ⟨g, 0, none⟩ v') (g :: v'.ownBlock.toList) (j + 1) ∧ Apart (g :: v.ownBlock.toList) W (W1.setCell ⟨g, 0, none⟩ v') ∧ ∀ k ∈ g :: v'.ownBlock.toList, k ∈ g :: v.ownBlock.toList ∨ W.heap.size ≤ k := by
  have hal : Below W.heap.size W (W.alloc (.cells #[.int .i64 z] 3)) := (Below.refl _ _).alloc (Nat.le_refl _) _
  have hgl : g < W.heap.size := (Array.getElem?_eq_some_iff.1 hg).1
  have hgn : g ∉ v.ownBlock.toList := own_off (T := 28) (by decide) ho hg
  have hg1 : W1.heap[g]? = some (.cells #[v] 28 (0, 0)) := (hgrow.block g (by simp; omega) (fun h => hgn (by rw [← h]; simp))).trans ((hal.block g hgl).trans hg)
  have hgn1 : g ∉ v'.ownBlock.toList := own_off (T := 28) (by decide) hown hg1
  refine ⟨⟨v', rfl, heap_setCell_same W1 g 0 _ _ _ hg1, hb, ?_⟩, ?_, ?_⟩
  · rw [hv, List.length_append, IntL.all_map, List.map_append, ← IntL.all_map]
    exact own_same hown fun k hk => heap_setCell_other _ _ _ _ (fun e => hgn1 (by have e : k = g := e; rw [← e]; exact hk))
  · exact ((Apart.of_below hal).grown hgrow (fun k hk => .inl (List.mem_cons_of_mem _ (by rw [hk]; simp)))).setCell (p := ⟨g, 0, none⟩) List.mem_cons_self _
  · intro k hk
    rcases List.mem_cons.1 hk with rfl | hk
    · exact .inl List.mem_cons_self
    · rcases hat with h | h
      · exact .inl (List.mem_cons_of_mem _ (by rw [← h]; exact hk))
      · rw [h] at hk
        simp at hk
        exact .inr (by omega)
end Go.Proofs.YthmababifgaejaaGreat
namespace Go.Proofs
open Go.Shelf
def Tryz.lays189_ren : Go.Shelf.Ren := ⟨fun | 189 => 41 | 125 => 56 | 257 => 55 | 128 => 76 | 129 => 77 | 294 => 67 | 295 => 68 | 296 => 69 | 297 => 70 | 298 => 71 | 299 => 72 | 216 => 73 | 300 => 74 | 301 => 75 | 328 => 96 | 329 => 97 | 330 => 98 | 331 => 99 | 332 => 100 | 215 => 101 | 343 => 106 | n => n, fun | 28 => 28 | 3 => 3 | 46 => 81 | 0 => 0 | 51 => 99 | 53 => 101 | 4 => 4 | 183 => 93 | 182 => 92 | 131 => 96 | 5 => 5 | 9 => 9 | 218 => 104 | 222 => 108 | 228 => 110 | 229 => 111 | n => n, fun | n => n⟩
theorem Tryz.lays189 : Go.Proofs.Lays.n189 Tryz.prog Tryz.lays189_ren := {
  mixed := by kernel_rfl
  f125 := Tryz.func56.trans (congrArg some (by kernel_rfl))
  f128 := Tryz.func76.trans (congrArg some (by kernel_rfl))
  f129 := Tryz.func77.trans (congrArg some (by kernel_rfl))
  f189 := Tryz.func41.trans (congrArg some (by kernel_rfl))
  f215 := Tryz.func101.trans (congrArg some (by kernel_rfl))
  f216 := Tryz.func73.trans (congrArg some (by kernel_rfl))
  f257 := Tryz.func55.trans (congrArg some (by kernel_rfl))
  f294 := Tryz.func67.trans (congrArg some (by kernel_rfl))
  f295 := Tryz.func68.trans (congrArg some (by kernel_rfl))
  f296 := Tryz.func69.trans (congrArg some (by kernel_rfl))
  f297 := Tryz.func70.trans (congrArg some (by kernel_rfl))
  f298 := Tryz.func71.trans (congrArg some (by kernel_rfl))
  f299 := Tryz.func72.trans (congrArg some (by kernel_rfl))
  f300 := Tryz.func74.trans (congrArg some (by kernel_rfl))
  f301 := Tryz.func75.trans (congrArg some (by kernel_rfl))
  f328 := Tryz.func96.trans (congrArg some (by kernel_rfl))
  f329 := Tryz.func97.trans (congrArg some (by kernel_rfl))
  f330 := Tryz.func98.trans (congrArg some (by kernel_rfl))
  f331 := Tryz.func99.trans (congrArg some (by kernel_rfl))
  f332 := Tryz.func100.trans (congrArg some (by kernel_rfl))
  f343 := Tryz.func106.trans (congrArg some (by kernel_rfl))
  t0 := Tryz.underlying0
  a0 := Tryz.isAgg0
  z0 := Tryz.sizeOf0
  v0 := Tryz.zeroValue0
  t3 := Tryz.underlying3
  a3 := Tryz.isAgg3
  z3 := Tryz.sizeOf3
  v3 := Tryz.zeroValue3
  t4 := Tryz.underlying4
  a4 := Tryz.isAgg4
  z4 := Tryz.sizeOf4
  v4 := Tryz.zeroValue4
  t5 := Tryz.underlying5
  a5 := Tryz.isAgg5
  z5 := Tryz.sizeOf5
  v5 := Tryz.zeroValue5
  t9 := Tryz.underlying9
  a9 := Tryz.isAgg9
  z9 := Tryz.sizeOf9
  v9 := Tryz.zeroValue9
  t28 := Tryz.underlying28
  a28 := Tryz.isAgg28
  z28 := Tryz.sizeOf28
  v28 := Tryz.zeroValue28
  t46 := Tryz.underlying81
  a46 := Tryz.isAgg81
  z46 := Tryz.sizeOf81
  v46 := Tryz.zeroValue81
  t51 := Tryz.underlying99
  a51 := Tryz.isAgg99
  z51 := Tryz.sizeOf99
  v51 := Tryz.zeroValue99
  t53 := Tryz.underlying101
  a53 := Tryz.isAgg101
  z53 := Tryz.sizeOf101
  v53 := Tryz.zeroValue101
  t131 := Tryz.underlying96
  a131 := Tryz.isAgg96
  z131 := Tryz.sizeOf96
  v131 := Tryz.zeroValue96
  t182 := Tryz.underlying92
  a182 := Tryz.isAgg92
  z182 := Tryz.sizeOf92
  v182 := Tryz.zeroValue92
  t183 := Tryz.underlying93
  a183 := Tryz.isAgg93
  z183 := Tryz.sizeOf93
  v183 := Tryz.zeroValue93
  t218 := Tryz.underlying104
  a218 := Tryz.isAgg104
  z218 := Tryz.sizeOf104
  v218 := Tryz.zeroValue104
  t222 := Tryz.underlying108
  a222 := Tryz.isAgg108
  z222 := Tryz.sizeOf108
  v222 := Tryz.zeroValue108
  t228 := Tryz.underlying110
  a228 := Tryz.isAgg110
  z228 := Tryz.sizeOf110
  v228 := Tryz.zeroValue110
  t229 := Tryz.underlying111
  a229 := Tryz.isAgg111
  z229 := Tryz.sizeOf111
  v229 := Tryz.zeroValue111 }
open Go.Sort Go.RowKit in
theorem Tryz.slices_Sort_int (blk off cap : Nat) (zs : List Int) (w : World) (hH : Holds (Value.int .i64) w blk off zs.toArray) (hblk : blk < w.heap.size) (hsz : zs.length < 4611686018427387904) :
    Calls Tryz.prog 41 #[.slice (some ⟨blk, off, none⟩) zs.length cap] w fun e w' =>
      e = .returned (.tuple #[]) ∧ ∃ n os, w' = grow (putRow (Value.int .i64) (Sort.ahead w n) blk off (zs.mergeSort fun x y => decide (x ≤ y)).toArray) os := Any.slices_Sort_int Tryz.lays189 blk off cap zs w hH hblk hsz
def Tryz.laysNm220_ren : Go.Shelf.Ren := ⟨fun | 20 => 42 | n => n, fun | 22 => 28 | 3 => 3 | 4 => 4 | 0 => 0 | n => n, fun | n => n⟩
theorem Tryz.laysNm220 : Go.Proofs.Lays2.n20 Tryz.prog Tryz.laysNm220_ren := {
  mixed := by kernel_rfl
  f20 := Tryz.func42.trans (congrArg some (by kernel_rfl))
  t0 := Tryz.underlying0
  a0 := Tryz.isAgg0
  z0 := Tryz.sizeOf0
  v0 := Tryz.zeroValue0
  t3 := Tryz.underlying3
  a3 := Tryz.isAgg3
  z3 := Tryz.sizeOf3
  v3 := Tryz.zeroValue3
  t4 := Tryz.underlying4
  a4 := Tryz.isAgg4
  z4 := Tryz.sizeOf4
  v4 := Tryz.zeroValue4
  t22 := Tryz.underlying28
  a22 := Tryz.isAgg28
  z22 := Tryz.sizeOf28
  v22 := Tryz.zeroValue28
  i3 := by kernel_rfl }
open Go.RowKit Go.Lib Go.Sort in
theorem Tryz.slices_Compact_int (blk off cap : Nat) (zs : List Int) (w : World) (hH : Holds (Value.int .i64) w blk off zs.toArray) (hsz : zs.length ≤ 9223372036854775807) (hcap : zs.length ≤ cap) :
    Calls Tryz.prog 42 #[.slice (some ⟨blk, off, none⟩) zs.length cap] w fun e w' => e = .returned (.slice (some ⟨blk, off, none⟩) (Lib.compact zs).length cap) ∧ ∃ q, w' = putRow (Value.int .i64) (Sort.ahead w q) blk off (Lib.compact zs ++ List.replicate (zs.length - (Lib.compact zs).length) 0).toArray := Any.slices_Compact_int Tryz.laysNm220 blk off cap zs w hH hsz hcap
open Go.RowKit Go.Lib Go.Sort in
theorem Tryz.slices_Compact_int_empty (a : Option Addr) (cap : Nat) (w : World) :
    Calls Tryz.prog 42 #[.slice a 0 cap] w fun e w' => e = .returned (.slice a 0 cap) ∧ w' = w := Any.slices_Compact_int_empty Tryz.laysNm220 a cap w
open Go.RowKit Go.Sort in
theorem Tryz.slices_Sort_int_none (p : Option Addr) (cap : Nat) (w : World) :
    Calls Tryz.prog 41 #[.slice p 0 cap] w fun e w' => e = .returned (.tuple #[]) ∧ w' = w := Any.slices_Sort_int_none Tryz.lays189 p cap w
end Go.Proofs
