/- The contracts of the Go functions sorting, compacting and searching lists of numbers, at this program. -/
import Derived.Shelf.SlGeneric
import Derived.Shelf.Spec.SlicesGrow
import Derived.Ground.Names8Prog
import Derived.Shelf.Spec.SlicesInsert
import Derived.Shelf.Spec.SlicesInsertGrow
import Derived.Shelf.Small.Wraps
import Derived.Shelf.Sort.Plain
import Derived.Shelf.Slices.Turned
import Derived.Ground.Names2Prog
import Derived.Shelf.Slices.Clone
import Derived.Shelf.Slices.CompactI
import Derived.Shelf.Slices.SearchI
import Derived.Shelf.Slices.Delete
import Derived.Shelf.Slices.In.SortNone
import Derived.Shelf.Slices.Empties
import Derived.Ground.SlgnProg
import Derived.Shelf.SlicesE.Clone
import Derived.Test.YtgpldlbmjakjhaaGreatProg
import Derived.Test.YtgpldlbmjakjhaaGreatQPlainWire
import Derived.Test.YtgpldlbmjakjhaaGreatQPlain
import Derived.Sort.OwnSortedInts
import Derived.Test.YtgpldlbmjakjhaaGreatQPlainTrust
namespace Go.Proofs
open Go.Shelf
def Tryz.lays189_ren : Go.Shelf.Ren := ⟨fun | 189 => 72 | 125 => 101 | 257 => 100 | 128 => 132 | 129 => 133 | 294 => 123 | 295 => 124 | 296 => 125 | 297 => 126 | 298 => 127 | 299 => 128 | 216 => 129 | 300 => 130 | 301 => 131 | 328 => 148 | 329 => 149 | 330 => 150 | 331 => 151 | 332 => 152 | 215 => 153 | 343 => 164 | n => n, fun | 28 => 28 | 3 => 3 | 46 => 139 | 0 => 0 | 51 => 192 | 53 => 194 | 4 => 4 | 183 => 185 | 182 => 184 | 131 => 189 | 5 => 5 | 9 => 9 | 218 => 212 | 222 => 216 | 228 => 226 | 229 => 227 | n => n, fun | n => n⟩
theorem Tryz.lays189 : Go.Proofs.Lays.n189 Tryz.prog Tryz.lays189_ren := {
  mixed := by kernel_rfl
  f125 := Tryz.func101.trans (congrArg some (by kernel_rfl))
  f128 := Tryz.func132.trans (congrArg some (by kernel_rfl))
  f129 := Tryz.func133.trans (congrArg some (by kernel_rfl))
  f189 := Tryz.func72.trans (congrArg some (by kernel_rfl))
  f215 := Tryz.func153.trans (congrArg some (by kernel_rfl))
  f216 := Tryz.func129.trans (congrArg some (by kernel_rfl))
  f257 := Tryz.func100.trans (congrArg some (by kernel_rfl))
  f294 := Tryz.func123.trans (congrArg some (by kernel_rfl))
  f295 := Tryz.func124.trans (congrArg some (by kernel_rfl))
  f296 := Tryz.func125.trans (congrArg some (by kernel_rfl))
  f297 := Tryz.func126.trans (congrArg some (by kernel_rfl))
  f298 := Tryz.func127.trans (congrArg some (by kernel_rfl))
  f299 := Tryz.func128.trans (congrArg some (by kernel_rfl))
  f300 := Tryz.func130.trans (congrArg some (by kernel_rfl))
  f301 := Tryz.func131.trans (congrArg some (by kernel_rfl))
  f328 := Tryz.func148.trans (congrArg some (by kernel_rfl))
  f329 := Tryz.func149.trans (congrArg some (by kernel_rfl))
  f330 := Tryz.func150.trans (congrArg some (by kernel_rfl))
  f331 := Tryz.func151.trans (congrArg some (by kernel_rfl))
  f332 := Tryz.func152.trans (congrArg some (by kernel_rfl))
  f343 := Tryz.func164.trans (congrArg some (by kernel_rfl))
  t0 := Tryz.underlying0
  a0 := Tryz.isAgg0
  z0 := Tryz.sizeOf0
  v0 := Tryz.zeroValue0
  t3 := Tryz.underlying3
  a3 := Tryz.isAgg3
  z3 := Tryz.sizeOf3
  v3 := Tryz.zeroValue3
  t4 := Tryz.underlying4
  a4 := Tryz.isAgg4
  z4 := Tryz.sizeOf4
  v4 := Tryz.zeroValue4
  t5 := Tryz.underlying5
  a5 := Tryz.isAgg5
  z5 := Tryz.sizeOf5
  v5 := Tryz.zeroValue5
  t9 := Tryz.underlying9
  a9 := Tryz.isAgg9
  z9 := Tryz.sizeOf9
  v9 := Tryz.zeroValue9
  t28 := Tryz.underlying28
  a28 := Tryz.isAgg28
  z28 := Tryz.sizeOf28
  v28 := Tryz.zeroValue28
  t46 := Tryz.underlying139
  a46 := Tryz.isAgg139
  z46 := Tryz.sizeOf139
  v46 := Tryz.zeroValue139
  t51 := Tryz.underlying192
  a51 := Tryz.isAgg192
  z51 := Tryz.sizeOf192
  v51 := Tryz.zeroValue192
  t53 := Tryz.underlying194
  a53 := Tryz.isAgg194
  z53 := Tryz.sizeOf194
  v53 := Tryz.zeroValue194
  t131 := Tryz.underlying189
  a131 := Tryz.isAgg189
  z131 := Tryz.sizeOf189
  v131 := Tryz.zeroValue189
  t182 := Tryz.underlying184
  a182 := Tryz.isAgg184
  z182 := Tryz.sizeOf184
  v182 := Tryz.zeroValue184
  t183 := Tryz.underlying185
  a183 := Tryz.isAgg185
  z183 := Tryz.sizeOf185
  v183 := Tryz.zeroValue185
  t218 := Tryz.underlying212
  a218 := Tryz.isAgg212
  z218 := Tryz.sizeOf212
  v218 := Tryz.zeroValue212
  t222 := Tryz.underlying216
  a222 := Tryz.isAgg216
  z222 := Tryz.sizeOf216
  v222 := Tryz.zeroValue216
  t228 := Tryz.underlying226
  a228 := Tryz.isAgg226
  z228 := Tryz.sizeOf226
  v228 := Tryz.zeroValue226
  t229 := Tryz.underlying227
  a229 := Tryz.isAgg227
  z229 := Tryz.sizeOf227
  v229 := Tryz.zeroValue227 }
open Go.Sort Go.RowKit in
theorem Tryz.slices_Sort_int (blk off cap : Nat) (zs : List Int) (w : World) (hH : Holds (Value.int .i64) w blk off zs.toArray) (hblk : blk < w.heap.size) (hsz : zs.length < 4611686018427387904) :
    Calls Tryz.prog 72 #[.slice (some ⟨blk, off, none⟩) zs.length cap] w fun e w' =>
      e = .returned (.tuple #[]) ∧ ∃ n os, w' = grow (putRow (Value.int .i64) (Sort.ahead w n) blk off (zs.mergeSort fun x y => decide (x ≤ y)).toArray) os := Any.slices_Sort_int Tryz.lays189 blk off cap zs w hH hblk hsz
def Tryz.lays107_ren : Go.Shelf.Ren := ⟨fun | 107 => 53 | 108 => 74 | n => n, fun | 28 => 28 | 3 => 3 | 4 => 4 | 0 => 0 | n => n, fun | n => n⟩
theorem Tryz.lays107 : Go.Proofs.Lays.n107 Tryz.prog Tryz.lays107_ren := {
  mixed := by kernel_rfl
  f107 := Tryz.func53.trans (congrArg some (by kernel_rfl))
  f108 := Tryz.func74.trans (congrArg some (by kernel_rfl))
  t0 := Tryz.underlying0
  a0 := Tryz.isAgg0
  z0 := Tryz.sizeOf0
  v0 := Tryz.zeroValue0
  t3 := Tryz.underlying3
  a3 := Tryz.isAgg3
  z3 := Tryz.sizeOf3
  v3 := Tryz.zeroValue3
  t4 := Tryz.underlying4
  a4 := Tryz.isAgg4
  z4 := Tryz.sizeOf4
  v4 := Tryz.zeroValue4
  t28 := Tryz.underlying28
  a28 := Tryz.isAgg28
  z28 := Tryz.sizeOf28
  v28 := Tryz.zeroValue28 }
open Go.Lib in
theorem Tryz.slices_Contains_int (b off n c : Nat) (zs : List Int) (x : Int) (w : World) (hz : n ≤ zs.length) (hbig : n ≤ 9223372036854775807) (hc : ∀ j, j < zs.length → w.cell? ⟨b, off + j, none⟩ = some (.int .i64 (zs.getD j 0))) :
    Calls Tryz.prog 53 #[.slice (some ⟨b, off, none⟩) n c, .int .i64 x] w fun e w' => e = .returned (.bool ((zs.take n).contains x)) ∧ w' = w := Any.slices_Contains_int Tryz.lays107 b off n c zs x w hz hbig hc
open Go.Lib in
theorem Tryz.slices_Contains_int_empty (a : Option Addr) (c : Nat) (x : Int) (w : World) :
    Calls Tryz.prog 53 #[.slice a 0 c, .int .i64 x] w fun e w' => e = .returned (.bool false) ∧ w' = w := Any.slices_Contains_int_empty Tryz.lays107 a c x w
def Tryz.laysNm220_ren : Go.Shelf.Ren := ⟨fun | 20 => 73 | n => n, fun | 22 => 28 | 3 => 3 | 4 => 4 | 0 => 0 | n => n, fun | n => n⟩
theorem Tryz.laysNm220 : Go.Proofs.Lays2.n20 Tryz.prog Tryz.laysNm220_ren := {
  mixed := by kernel_rfl
  f20 := Tryz.func73.trans (congrArg some (by kernel_rfl))
  t0 := Tryz.underlying0
  a0 := Tryz.isAgg0
  z0 := Tryz.sizeOf0
  v0 := Tryz.zeroValue0
  t3 := Tryz.underlying3
  a3 := Tryz.isAgg3
  z3 := Tryz.sizeOf3
  v3 := Tryz.zeroValue3
  t4 := Tryz.underlying4
  a4 := Tryz.isAgg4
  z4 := Tryz.sizeOf4
  v4 := Tryz.zeroValue4
  t22 := Tryz.underlying28
  a22 := Tryz.isAgg28
  z22 := Tryz.sizeOf28
  v22 := Tryz.zeroValue28
  i3 := by kernel_rfl }
open Go.RowKit Go.Lib Go.Sort in
theorem Tryz.slices_Compact_int (blk off cap : Nat) (zs : List Int) (w : World) (hH : Holds (Value.int .i64) w blk off zs.toArray) (hsz : zs.length ≤ 9223372036854775807) (hcap : zs.length ≤ cap) :
    Calls Tryz.prog 73 #[.slice (some ⟨blk, off, none⟩) zs.length cap] w fun e w' => e = .returned (.slice (some ⟨blk, off, none⟩) (Lib.compact zs).length cap) ∧ ∃ q, w' = putRow (Value.int .i64) (Sort.ahead w q) blk off (Lib.compact zs ++ List.replicate (zs.length - (Lib.compact zs).length) 0).toArray := Any.slices_Compact_int Tryz.laysNm220 blk off cap zs w hH hsz hcap
def Tryz.laysNm225_ren : Go.Shelf.Ren := ⟨fun | 25 => 136 | 31 => 129 | 32 => 155 | 37 => 153 | n => n, fun | 22 => 28 | 3 => 3 | 4 => 4 | 40 => 139 | 0 => 0 | n => n, fun | n => n⟩
theorem Tryz.laysNm225 : Go.Proofs.Lays2.n25 Tryz.prog Tryz.laysNm225_ren := {
  mixed := by kernel_rfl
  f25 := Tryz.func136.trans (congrArg some (by kernel_rfl))
  f31 := Tryz.func129.trans (congrArg some (by kernel_rfl))
  f32 := Tryz.func155.trans (congrArg some (by kernel_rfl))
  f37 := Tryz.func153.trans (congrArg some (by kernel_rfl))
  t0 := Tryz.underlying0
  a0 := Tryz.isAgg0
  z0 := Tryz.sizeOf0
  v0 := Tryz.zeroValue0
  t3 := Tryz.underlying3
  a3 := Tryz.isAgg3
  z3 := Tryz.sizeOf3
  v3 := Tryz.zeroValue3
  t4 := Tryz.underlying4
  a4 := Tryz.isAgg4
  z4 := Tryz.sizeOf4
  v4 := Tryz.zeroValue4
  t22 := Tryz.underlying28
  a22 := Tryz.isAgg28
  z22 := Tryz.sizeOf28
  v22 := Tryz.zeroValue28
  t40 := Tryz.underlying139
  a40 := Tryz.isAgg139
  z40 := Tryz.sizeOf139
  v40 := Tryz.zeroValue139 }
open Go.RowKit Go.Lib in
theorem Tryz.slices_BinarySearch_int (b off n c : Nat) (zs : List Int) (x : Int) (w : World) (hz : n ≤ zs.length) (hbig : n < 4611686018427387904) (hc : ∀ j, j < zs.length → w.cell? ⟨b, off + j, none⟩ = some (.int .i64 (zs.getD j 0))) (hs : (zs.take n).Pairwise (· ≤ ·)) :
    Calls Tryz.prog 136 #[.slice (some ⟨b, off, none⟩) n c, .int .i64 x] w fun e w' => e = .returned (.tuple #[.int .i64 ((zs.take n).countP (· < x) : Nat), .bool ((zs.take n).contains x)]) ∧ ∃ q, w' = w.drewN q := Any.slices_BinarySearch_int Tryz.laysNm225 b off n c zs x w hz hbig hc hs
open Go.RowKit Go.Lib in
theorem Tryz.slices_BinarySearch_int_empty (a : Option Addr) (c : Nat) (x : Int) (w : World) :
    Calls Tryz.prog 136 #[.slice a 0 c, .int .i64 x] w fun e w' => e = .returned (.tuple #[.int .i64 0, .bool false]) ∧ w' = w := Any.slices_BinarySearch_int_empty Tryz.laysNm225 a c x w
def Tryz.layGrow_ren : Go.Shelf.Ren := ⟨fun | 4 => 162 | n => n, fun | 22 => 27 | 25 => 74 | 3 => 3 | 4 => 4 | 9 => 9 | 20 => 20 | 0 => 0 | 2 => 3 | n => n, fun | n => n⟩
theorem Tryz.layGrow : Go.Proofs.Lays8.n4 Tryz.prog Tryz.layGrow_ren := {
  mixed := by kernel_rfl
  f4 := ⟨Tryz.f162.name, by decide, Tryz.func162.trans (congrArg some (by kernel_rfl))⟩
  t0 := Tryz.underlying0
  a0 := Tryz.isAgg0
  z0 := Tryz.sizeOf0
  v0 := Tryz.zeroValue0
  t3 := Tryz.underlying3
  a3 := Tryz.isAgg3
  z3 := Tryz.sizeOf3
  v3 := Tryz.zeroValue3
  t4 := Tryz.underlying4
  a4 := Tryz.isAgg4
  z4 := Tryz.sizeOf4
  v4 := Tryz.zeroValue4
  t9 := Tryz.underlying9
  a9 := Tryz.isAgg9
  z9 := Tryz.sizeOf9
  v9 := Tryz.zeroValue9
  t20 := Tryz.underlying20
  a20 := Tryz.isAgg20
  z20 := Tryz.sizeOf20
  v20 := Tryz.zeroValue20
  t22 := Tryz.underlying27
  a22 := Tryz.isAgg27
  z22 := Tryz.sizeOf27
  v22 := Tryz.zeroValue27 }
def Tryz.layGrowC_ren : Go.Shelf.Ren := ⟨fun | 4 => 156 | n => n, fun | 22 => 37 | 25 => 78 | 3 => 3 | 4 => 4 | 9 => 9 | 20 => 20 | 0 => 0 | n => n, fun | n => n⟩
theorem Tryz.layGrowC : Go.Proofs.Lays8.n4 Tryz.prog Tryz.layGrowC_ren := {
  mixed := by kernel_rfl
  f4 := ⟨Tryz.f156.name, by decide, Tryz.func156.trans (congrArg some (by kernel_rfl))⟩
  t0 := Tryz.underlying0
  a0 := Tryz.isAgg0
  z0 := Tryz.sizeOf0
  v0 := Tryz.zeroValue0
  t3 := Tryz.underlying3
  a3 := Tryz.isAgg3
  z3 := Tryz.sizeOf3
  v3 := Tryz.zeroValue3
  t4 := Tryz.underlying4
  a4 := Tryz.isAgg4
  z4 := Tryz.sizeOf4
  v4 := Tryz.zeroValue4
  t9 := Tryz.underlying9
  a9 := Tryz.isAgg9
  z9 := Tryz.sizeOf9
  v9 := Tryz.zeroValue9
  t20 := Tryz.underlying20
  a20 := Tryz.isAgg20
  z20 := Tryz.sizeOf20
  v20 := Tryz.zeroValue20
  t22 := Tryz.underlying37
  a22 := Tryz.isAgg37
  z22 := Tryz.sizeOf37
  v22 := Tryz.zeroValue37 }
def Tryz.layGrowS_ren : Go.Shelf.Ren := ⟨fun | 4 => 143 | n => n, fun | 22 => 86 | 25 => 176 | 3 => 3 | 4 => 4 | 9 => 9 | 20 => 20 | 0 => 0 | n => n, fun | n => n⟩
theorem Tryz.layGrowS : Go.Proofs.Lays8.n4 Tryz.prog Tryz.layGrowS_ren := {
  mixed := by kernel_rfl
  f4 := ⟨Tryz.f143.name, by decide, Tryz.func143.trans (congrArg some (by kernel_rfl))⟩
  t0 := Tryz.underlying0
  a0 := Tryz.isAgg0
  z0 := Tryz.sizeOf0
  v0 := Tryz.zeroValue0
  t3 := Tryz.underlying3
  a3 := Tryz.isAgg3
  z3 := Tryz.sizeOf3
  v3 := Tryz.zeroValue3
  t4 := Tryz.underlying4
  a4 := Tryz.isAgg4
  z4 := Tryz.sizeOf4
  v4 := Tryz.zeroValue4
  t9 := Tryz.underlying9
  a9 := Tryz.isAgg9
  z9 := Tryz.sizeOf9
  v9 := Tryz.zeroValue9
  t20 := Tryz.underlying20
  a20 := Tryz.isAgg20
  z20 := Tryz.sizeOf20
  v20 := Tryz.zeroValue20
  t22 := Tryz.underlying86
  a22 := Tryz.isAgg86
  z22 := Tryz.sizeOf86
  v22 := Tryz.zeroValue86 }
def Tryz.layInsert_ren : Go.Shelf.Ren := ⟨fun | 21 => 138 | 27 => 157 | 28 => 158 | 35 => 165 | 39 => 166 | n => n, fun | 22 => 28 | 3 => 3 | 4 => 4 | 0 => 0 | n => n, fun | n => n⟩
theorem Tryz.layInsert : Go.Proofs.Lays2.n21 Tryz.prog Tryz.layInsert_ren := {
  mixed := by kernel_rfl
  f21 := Tryz.func138.trans (congrArg some (by kernel_rfl))
  f27 := Tryz.func157.trans (congrArg some (by kernel_rfl))
  f28 := Tryz.func158.trans (congrArg some (by kernel_rfl))
  f35 := Tryz.func165.trans (congrArg some (by kernel_rfl))
  f39 := Tryz.func166.trans (congrArg some (by kernel_rfl))
  t0 := Tryz.underlying0
  a0 := Tryz.isAgg0
  z0 := Tryz.sizeOf0
  v0 := Tryz.zeroValue0
  t3 := Tryz.underlying3
  a3 := Tryz.isAgg3
  z3 := Tryz.sizeOf3
  v3 := Tryz.zeroValue3
  t4 := Tryz.underlying4
  a4 := Tryz.isAgg4
  z4 := Tryz.sizeOf4
  v4 := Tryz.zeroValue4
  t22 := Tryz.underlying28
  a22 := Tryz.isAgg28
  z22 := Tryz.sizeOf28
  v22 := Tryz.zeroValue28
  i3 := by kernel_rfl }
end Go.Proofs

namespace Go.Proofs.YtgpldlbmjakjhaaGreat
open Go.RowKit Go.Proofs.Parclose Go.Sort

/-- what a list of its own owns lies there as numbers -/
theorem ints_of_row {w : World} {base g n cap : Nat} {e : TypeId} {zs : List Int} (h : w.ownsRow base e 1 (.slice (some ⟨g, 0, none⟩) n cap) n (zs.map (Value.int .i64))) :
    ∃ cur, w.heap[g]? = some (.cells cur e (0, 0)) ∧ zs.length = n ∧ n ≤ cap ∧ cap ≤ maxLen ∧ cur.size = cap * 1 ∧ cur.toList.take zs.length = zs.map (Value.int .i64) ∧ base ≤ g := by
  obtain ⟨hl, h⟩ := h
  have hn : zs.length = n := by simpa using hl
  rcases h with ⟨h, _⟩ | ⟨g', cap', cur, hv, hb, hh, h1, h2, h3, h4⟩
  · cases h
  · cases hv
    exact ⟨cur, hh, hn, h1, h2, h3, by rw [hn]; simpa using h4, hb⟩

/-- behind the compacting the first cells are the compacted list -/
theorem cells_compact {w : World} {g q : Nat} {zs ys : List Int} (hH : Holds (Value.int .i64) w g 0 zs.toArray) (hy : ys.length ≤ zs.length) :
    Cells1 (putRow (Value.int .i64) (Sort.ahead w q) g 0 (ys ++ List.replicate (zs.length - ys.length) 0).toArray) g 0 ys := by
  intro j hj
  have h1 := cell?_putRow (Value.int .i64) (Sort.ahead w q) g 0 zs.toArray (ys ++ List.replicate (zs.length - ys.length) 0).toArray (holds_ahead _ _ _ _ _ _ hH) (by simp; omega) j (by simp; omega)
  rw [h1, getElem!_pos _ j (by simp; omega)]
  simp [List.getElem_append_left hj]

theorem below_putRow {w : World} {g q : Nat} {d : Array Int} {B : Nat} (hg : B ≤ g) : Below B w (putRow (Value.int .i64) (Sort.ahead w q) g 0 d) := by
  refine ⟨rfl, rfl, rfl, by simp, fun k hk => ?_⟩
  have : g ≠ k := by omega
  simp [putRow, mapBlock, Sort.ahead, Array.getElem?_modify, this]

theorem below_grow {w w1 : World} {B : Nat} (h : Below B w w1) (hB : B ≤ w1.heap.size) (os : Array Obj) : Below B w (grow w1 os) := by
  refine h.trans ⟨rfl, rfl, rfl, by simp [grow], fun k hk => ?_⟩
  exact heap_grow_old _ _ (by omega)

theorem sort_row (B g cap n : Nat) (zs : List Int) (w : World) (hn : zs.length = n) (hH : Holds (Value.int .i64) w g 0 zs.toArray) (hg : B ≤ g) (hlt : g < w.heap.size) (hsz : n < 4611686018427387904) :
    Calls Tryz.prog 72 #[.slice (some ⟨g, 0, none⟩) n cap] w fun e w' => e = .returned (.tuple #[]) ∧ Holds (Value.int .i64) w' g 0 (zs.mergeSort fun x y => decide (x ≤ y)).toArray ∧ Below B w w' := by
  subst hn
  refine (Tryz.slices_Sort_int g 0 cap zs w hH hlt hsz).mono ?_
  rintro e w' ⟨he, n, os, rfl⟩
  refine ⟨he, ?_, below_grow (below_putRow hg) (by simp; omega) os⟩
  exact holds_grow _ _ _ _ _ _ (by simpa using hlt) (holds_putRow (Value.int .i64) (Sort.ahead w n) g 0 zs.toArray (zs.mergeSort fun x y => decide (x ≤ y)).toArray (holds_ahead _ _ _ _ _ _ hH) (by simp))

theorem compact_row (B g cap n : Nat) (zs : List Int) (w : World) (hn : zs.length = n) (hH : Holds (Value.int .i64) w g 0 zs.toArray) (hg : B ≤ g) (hsz : n ≤ 9223372036854775807) (hcap : n ≤ cap) :
    Calls Tryz.prog 73 #[.slice (some ⟨g, 0, none⟩) n cap] w fun e w' => e = .returned (.slice (some ⟨g, 0, none⟩) (Lib.compact zs).length cap) ∧ Cells1 w' g 0 (Lib.compact zs) ∧ Below B w w' := by
  subst hn
  refine (Tryz.slices_Compact_int g 0 cap zs w hH hsz hcap).mono ?_
  rintro e w' ⟨he, q, rfl⟩
  refine ⟨he, cells_compact hH ?_, below_putRow hg⟩
  unfold Lib.compact Lib.compactUpTo
  have h1 := List.length_filter_le (Lib.keeps zs.toArray) (List.range zs.length)
  simp at h1 ⊢
  exact h1

set_option maxHeartbeats 1000000 in
theorem named_any (va vb : Value) (a b : List (Int × Int)) (w : World) (ha : LabAt w va a) (hb : LabAt w vb b) :
    Calls Tryz.prog 51 #[va, vb] w fun e w' => ∃ v, e = .returned v ∧ IntsAt w' v (catsL a b) ∧ Below w.heap.size w w' := by
  obtain ⟨p, cap, rfl, hlc, hcap, hca⟩ := ha
  obtain ⟨q, cap', rfl, hlc', hcap', hcb⟩ := hb
  obtain ⟨i0, hi, hz0, hz1, hz2⟩ := info_parts info_int
  go_enter Tryz.func51, Tryz.ntmps51
  go_wp2_with (at_make; refine wpList_make_own _ rfl _ _ 28 rfl w.heap.size 3 i0 (.int .i64 0) 1 Tryz.underlying28 hi hz0 hz1 _ _ _ (a.length + b.length) rfl rfl (by omega) ?b2 ?b3 (Nat.le_refl _) ?_)
  case b2 => rw [hz2]; omega
  case b3 => unfold maxLen; omega
  intro w0 hown0 hgrow0
  have hnx0 : Below w.heap.size w w0 := (Below.refl _ _).grown hgrow0 (Nat.le_refl _) (fun k h => by cases h)
  clear hgrow0
  go_wp2
  go_loopw [5, 18] (fun v i wr => ∃ k : Nat, k ≤ a.length ∧ i = .int .i64 k ∧ v = .slice (some ⟨w.heap.size, 0, none⟩) k (a.length + b.length) ∧
      wr.ownsRow w.heap.size 3 1 (.slice (some ⟨w.heap.size, 0, none⟩) k (a.length + b.length)) k (((a.map (·.1)).take k).map (Value.int .i64)) ∧ Below w.heap.size w wr)
    (fun _ i _ => a.length - (intOf i).toNat)
  case atStart => exact ⟨0, Nat.zero_le _, rfl, rfl, hown0, hnx0⟩
  case round =>
    obtain ⟨k, hk, rfl, rfl, hown, hnx⟩ := hrel
    by_cases hlt : k < a.length
    · obtain ⟨ba, oa, rfl, hcA⟩ := hca (by omega)
      obtain ⟨hc1, hc2⟩ := (hcA.below hnx) k hlt
      have hsz := hnx.size
      clear hca hcb hcA
      go_wp2_with (at_builtin; refine wpList_append_fits _ rfl _ _ 28 rfl w.heap.size 3 i0 1 Tryz.underlying28 hi hz1 w.heap.size k (a.length + b.length) _ rfl ((hown.alloc _).alloc _) ⟨wr.heap.size + 1, 0, none⟩ 1 1 [.int .i64 a[k].1] rfl rfl (by intro t u ht; match t, ht with | 0, ht => simp at ht; subst ht; simp [Addr.add]) (by intro u hu; simp at hu; subst hu; rfl) (by omega) ?_; intro w1 hown1 hgrow1)
      have hstep : ((a.map (·.1)).take (k + 1)) = (a.map (·.1)).take k ++ [a[k].1] := by
        rw [List.take_succ_eq_append_getElem (by simpa using hlt)]; simp
      go_roundw
      case rel => exact ⟨k + 1, hlt, by go_num, rfl, by rw [hstep, List.map_append]; exact hown1, (((hnx.alloc hsz _).alloc (by simp; omega) _).grown hgrow1 (by simp; omega) (fun k hk => by cases hk; exact Nat.le_refl _))⟩
      case measure => simp [intOf]; omega
    · have hka : k = a.length := by omega
      subst hka
      rw [List.take_of_length_le (by simp)] at hown
      clear hca
      go_wp2
      go_loopw [5, 30] (fun v i ws => ∃ m : Nat, m ≤ b.length ∧ i = .int .i64 m ∧ v = .slice (some ⟨w.heap.size, 0, none⟩) (a.length + m) (a.length + b.length) ∧
          ws.ownsRow w.heap.size 3 1 (.slice (some ⟨w.heap.size, 0, none⟩) (a.length + m) (a.length + b.length)) (a.length + m) ((a.map (·.1) ++ (b.map (·.1)).take m).map (Value.int .i64)) ∧ Below w.heap.size w ws)
        (fun _ i _ => b.length - (intOf i).toNat)
      case atStart => exact ⟨0, Nat.zero_le _, rfl, rfl, by simpa using hown, hnx⟩
      case round =>
        clear hown hnx
        obtain ⟨m, hm, rfl, rfl, hown, hnx⟩ := hrel
        by_cases hlt : m < b.length
        · obtain ⟨bb, ob, rfl, hcB⟩ := hcb (by omega)
          obtain ⟨hc1, hc2⟩ := (hcB.below hnx) m hlt
          have hsz := hnx.size
          clear hcb hcB
          go_wp2_with (at_builtin; refine wpList_append_fits _ rfl _ _ 28 rfl w.heap.size 3 i0 1 Tryz.underlying28 hi hz1 w.heap.size (a.length + m) (a.length + b.length) _ rfl ((hown.alloc _).alloc _) ⟨wr.heap.size + 1, 0, none⟩ 1 1 [.int .i64 b[m].1] rfl rfl (by intro t u ht; match t, ht with | 0, ht => simp at ht; subst ht; simp [Addr.add]) (by intro u hu; simp at hu; subst hu; rfl) (by omega) ?_; intro w1 hown1 hgrow1)
          have hstep : ((b.map (·.1)).take (m + 1)) = (b.map (·.1)).take m ++ [b[m].1] := by
            rw [List.take_succ_eq_append_getElem (by simpa using hlt)]; simp
          go_roundw
          case rel => exact ⟨m + 1, hlt, by go_num, rfl, by rw [hstep, ← List.append_assoc, List.map_append]; exact hown1, (((hnx.alloc hsz _).alloc (by simp; omega) _).grown hgrow1 (by simp; omega) (fun k hk => by cases hk; exact Nat.le_refl _))⟩
          case measure => simp [intOf]; omega
        · have hmb : m = b.length := by omega
          subst hmb
          rw [List.take_of_length_le (by simp)] at hown
          obtain ⟨cur, hcur, hn, h1, h2, h3, h4, h5⟩ := ints_of_row hown
          have hH := holds_of_blockI hcur h4
          have hlt2 := (Array.getElem?_eq_some_iff.1 hcur).1
          have hsort := sort_row w.heap.size w.heap.size (a.length + b.length) (a.length + b.length) (a.map (·.1) ++ b.map (·.1)) wr hn hH (Nat.le_refl _) hlt2 (by omega)
          clear hcb hown hown0 hH h4 hcur h3 h2 h5 h1
          go_wp2_with (go_at_call 72; refine hsort.mono ?_; rintro e w1 ⟨rfl, hH1, hb1⟩)
          have hcomp := compact_row w.heap.size w.heap.size (a.length + b.length) (a.length + b.length) _ w1 (by simp) hH1 (Nat.le_refl _) (by omega) (Nat.le_refl _)
          clear hsort hH1
          go_wp2_with (go_at_call 73; refine hcomp.mono ?_; rintro e w2 ⟨rfl, hcells, hb2⟩)
          clear hcomp
          go_ret
          refine ⟨_, rfl, ⟨_, _, rfl, ⟨?_, fun h => by cases h⟩, ?_, fun _ => ⟨_, _, rfl, hcells⟩⟩, (hnx.trans hb1).trans hb2⟩
          · exact catsL_length a b
          · have := catsL_length a b; omega
end Go.Proofs.YtgpldlbmjakjhaaGreat

namespace Go.Proofs.YtgpldlbmjakjhaaGreat
open Go.RowKit Go.Proofs.Parclose

theorem two_boxes (w : World) (o p : Obj) : Below w.heap.size w ((w.alloc o).alloc p) := (below_box w o).alloc (by simp) _

theorem st4_heap {w : World} {b : Nat} {a0 a1 a2 a3 : Value} {t : TypeId} {fr : Nat × Nat} (u0 u1 u2 u3 : Value) (h : w.heap[b]? = some (.cells #[a0, a1, a2, a3] t fr)) :
    ((((w.setCell ⟨b, 0, none⟩ u0).setCell ⟨b, 1, none⟩ u1).setCell ⟨b, 2, none⟩ u2).setCell ⟨b, 3, none⟩ u3).heap[b]? = some (.cells #[u0, u1, u2, u3] t fr) := by
  have h1 := heap_setCell (j := 3) (heap_setCell (j := 2) (heap_setCell (j := 1) (heap_setCell (j := 0) h u0) u1) u2) u3
  rw [h1]
  rfl
theorem st4_grown (w : World) (b : Nat) (u0 u1 u2 u3 : Value) : w.grownBy ((((w.setCell ⟨b, 0, none⟩ u0).setCell ⟨b, 1, none⟩ u1).setCell ⟨b, 2, none⟩ u2).setCell ⟨b, 3, none⟩ u3) (some b) :=
  grown_trans (grown_trans (grown_trans (grown_setCell w b 0 u0) (grown_setCell _ b 1 u1)) (grown_setCell _ b 2 u2)) (grown_setCell _ b 3 u3)

set_option maxHeartbeats 1600000 in
theorem trusted_none (v : Value) (l : List Crt) (c now : Int) (w : World) (hv : CrtsAt w v l) (hn : catB c = false ∨ (catB c = true ∧ csB l = false)) :
    Calls Tryz.prog 135 #[v, .int .i64 c, .int .i64 now] w fun e w' => e = .returned (trV l c now) ∧ Below w.heap.size w w' := by
  have hno : ∀ h, trB l c now h = false := fun h => by
    rcases hn with h1 | ⟨_, h1⟩
    · exact trB_nocat h1
    · exact trB_bad h1
  have HV : Hid (trV l c now = .agg #[.bool false, .bool false, .bool false, .bool false]) := hid (by unfold trV; rw [hno, hno, hno, hno])
  have hg := fun wx (h : Below w.heap.size w wx) => tgood_any v l wx (hv.below h)
  clear hno
  rcases hn with h1 | ⟨h1, h2⟩
  · go_enter Tryz.func135, Tryz.ntmps135
    go_wp2_with (go_at_call 35; refine (category_any _ _).mono ?_; rintro e w' ⟨rfl, rfl⟩)
    exact bodyPost_ret (results_cell_row rfl _ _ w.heap.size 196 _ (0, 0) _ rfl (heap_new (heap_alloc_new w _) _) Tryz.underlying196 rfl (by kernel_rfl)) rfl ⟨by rw [HV.out], two_boxes _ _ _⟩
  · go_enter Tryz.func135, Tryz.ntmps135
    go_wp2_with (first | (go_at_call 35; refine (category_any _ _).mono ?_; rintro e w' ⟨rfl, rfl⟩) | (go_at_call 11; refine (hg _ (two_boxes _ _ _)).mono ?_; rintro e w2 ⟨rfl, hw2⟩; have hT := heap_keep (heap_alloc_new (w.alloc _) _) hw2; rw [size_box] at hT; have hR := heap_keep (heap_new (heap_alloc_new w _) _) hw2; have c0 := heap_cell hT 0; have c1 := heap_cell hT 1; have c2 := heap_cell hT 2; have c3 := heap_cell hT 3; have f0 := heap_frozen hR 0; have f1 := heap_frozen hR 1; have f2 := heap_frozen hR 2; have f3 := heap_frozen hR 3; have d0 := heap_cell hR 0; have d1 := heap_cell hR 1; have d2 := heap_cell hR 2; have d3 := heap_cell hR 3; have HR := hid hR; have HB2 := hid (below_then (two_boxes _ _ _) hw2); clear hw2 hT hR))
    have hst := st4_heap (.bool false) (.bool false) (.bool false) (.bool false) HR.out
    have hgr := st4_grown w2 w.heap.size (.bool false) (.bool false) (.bool false) (.bool false)
    exact bodyPost_ret (results_cell_row rfl _ _ w.heap.size 196 _ (0, 0) _ rfl hst Tryz.underlying196 rfl (by kernel_rfl)) rfl ⟨by rw [HV.out], HB2.out.grown hgr (HB2.out.size) (fun k hk => by cases hk; exact Nat.le_refl _)⟩

theorem row_cell {w : World} {base g n cap : Nat} {row : List Int} (h : w.ownsRow base 3 1 (.slice (some ⟨g, 0, none⟩) n cap) n (flat1 row)) (k : Nat) (hk : k < row.length) : w.cell? ⟨g, k, none⟩ = some (.int .i64 row[k]) := by
  have := World.ownsRow.cells h (g := g) rfl k (.int .i64 row[k]) (by simp [flat1, hk])
  rwa [WideShapes.add_plain, Nat.zero_add] at this

theorem row_slice {w : World} {base : Nat} {v : Value} {row : List Int} (h : w.ownsRow base 3 1 v row.length (flat1 row)) (h0 : 0 < row.length) : ∃ g cap, v = .slice (some ⟨g, 0, none⟩) row.length cap ∧ row.length ≤ cap ∧ cap ≤ maxLen := by
  rcases h.2 with ⟨_, hn⟩ | ⟨g, cap, cur, e, _, _, h1, h2, _⟩
  · omega
  · exact ⟨g, cap, e, h1, h2⟩

theorem frozen_over {w : World} (ob : Obj) {b : Nat} {C : Array Value} {t : TypeId} (h : w.heap[b]? = some (.cells C t (0, 0))) (j : Nat) : (w.alloc ob).frozen? ⟨b, j, none⟩ = false := heap_frozen (heap_new h ob) j

theorem Inv.start {w w2 : World} {l : List Crt} {c now H : Int} (hT : w2.heap[w.heap.size + 1]? = some (.cells #[.bool false, .bool false, .bool false, .bool false] 196 (0, 0)))
    (hR : w2.heap[w.heap.size]? = some (.cells #[.bool false, .bool false, .bool false, .bool false] 196 (0, 0))) (hb : Below w.heap.size w w2) (hs : w.heap.size + 2 ≤ w2.heap.size) (hH : c / 20 = H) (hcat : catB c = true) :
    Inv w l c now ((w2.setCell ⟨w.heap.size + 1, H.toNat, none⟩ (.bool true)).alloc (.cells #[.int .i64 H] 3)) (.slice (some ⟨w2.heap.size, 0, none⟩) 1 1) [H] (withH (fun _ => false) H) 0 := by
  have hc : 0 ≤ c ∧ c < 80 := of_decide_eq_true hcat
  have hz : (w2.setCell ⟨w.heap.size + 1, H.toNat, none⟩ (.bool true)).heap.size = w2.heap.size := by simp
  have hn := heap_alloc_new (w2.setCell ⟨w.heap.size + 1, H.toNat, none⟩ (.bool true)) (.cells #[.int .i64 H] 3)
  rw [hz] at hn
  refine ⟨⟨rfl, Or.inr ⟨w2.heap.size, 1, #[.int .i64 H], rfl, hs, hn, Nat.le_refl _, by unfold maxLen; omega, rfl, rfl⟩⟩, ?_, fun m h hm => absurd hm (Nat.not_lt_zero _), heap_new (tr_put (B := fun _ => false) hT (by omega) (by omega)) _, heap_new (heap_store hR (by omega) _ _) _, ?_, by simp; omega⟩
  · rw [← hH]
    exact Work.start hcat _ (fun h _ _ => by simp [withH])
  · refine Below.alloc ?_ (by simp; omega) _
    exact hb.grown (grown_setCell w2 _ _ _) (by omega) (fun j hj => by have := Option.some.inj hj; omega)

theorem Inv.pos {w : World} {l : List Crt} {c now : Int} {wr : World} {v : Value} {row : List Int} {B : Int → Bool} {k : Nat} (h : Inv w l c now wr v row B k) (hcat : catB c = true) : 0 < row.length := by
  have hc : 0 ≤ c ∧ c < 80 := of_decide_eq_true hcat
  exact List.length_pos_of_mem ((h.work.mark (c / 20) (by omega) (by omega)).1 h.work.home)

theorem cert_parts {x : Crt} (h : certB x = true) : (0 ≤ x.b ∧ x.b < 4) ∧ (0 ≤ x.h ∧ x.h < 4) := by
  unfold certB twoB hostB at h
  simp only [Bool.and_eq_true, decide_eq_true_iff] at h
  exact ⟨h.1.2.1.1, h.1.2.1.2⟩

set_option maxRecDepth 100000 in
set_option maxHeartbeats 6400000 in
theorem trusted_some (v : Value) (l : List Crt) (c now : Int) (w : World) (hv : CrtsAt w v l) (hcat : catB c = true) (hcs : csB l = true) :
    Calls Tryz.prog 135 #[v, .int .i64 c, .int .i64 now] w fun e w' => e = .returned (trV l c now) ∧ Below w.heap.size w w' := by
  have hgood := fun wx (h : Below w.heap.size w wx) => tgood_any v l wx (hv.below h)
  have hgd : goodCs l := of_decide_eq_true hcs
  have hc80 : 0 ≤ c ∧ c < 80 := of_decide_eq_true hcat
  have hhome := fun wx => home_any c wx hc80.1 (by omega)
  have HGD := hid hgd
  have h24 : l.length ≤ 24 := hgd.1
  obtain ⟨p, cap, rfl, hlc, hcap, hcells⟩ := hv
  have HCL := hid hcells
  obtain ⟨i0, hi, hz0, hz1, hz2⟩ := info_parts info_int
  have hh0 : 0 ≤ c / 20 := by omega
  have hh1 : c / 20 < 4 := by omega
  obtain ⟨H, hH⟩ : ∃ H, c / 20 = H := ⟨_, rfl⟩
  rw [hH] at hhome hh0 hh1
  have HH := hid hH
  have HCAT := hid hcat
  clear hH hgd hcells
  go_enter Tryz.func135, Tryz.ntmps135
  go_wp2_with (first | (go_at_call 35; refine (category_any _ _).mono ?_; rintro e w' ⟨rfl, rfl⟩) | (go_at_call 11; refine (hgood _ (two_boxes _ _ _)).mono ?_; rintro e w2 ⟨rfl, hw2⟩; have hT := heap_keep (heap_alloc_new (w.alloc _) _) hw2; rw [size_box] at hT; have hR := heap_keep (heap_new (heap_alloc_new w _) _) hw2; have f0 := heap_frozen hT H.toNat; have c0 := tr_cells (B := fun _ => false) hT hh0 hh1; have HT := hid hT; have HR := hid hR; have HB2 := hid (below_then (two_boxes _ _ _) hw2); have hs2 := hw2.size; rw [size_box, size_box] at hs2; clear hw2 hT hR) | (go_at_call 154; refine (hhome _).mono ?_; rintro e w' ⟨rfl, hq⟩; have hq2 := hq.symm; clear hq; subst hq2))
  have HST := hid (Inv.start (l := l) (now := now) HT.out HR.out HB2.out (by omega) HH.out HCAT.out)
  clear HT HR HB2 hs2 f0 c0 hhome hgood hcat hcs
  go_loopw [8, 9] (fun v i wr => ∃ (row : List Int) (B : Int → Bool) (k : Nat), k ≤ row.length ∧ i = .int .i64 k ∧ Inv w l c now wr v row B k) (fun _ i _ => 4 - (intOf i).toNat)
  case atStart => exact ⟨_, _, 0, Nat.zero_le _, rfl, HST.out⟩
  case round =>
    obtain ⟨row, B, k, hk, rfl, hinv⟩ := hrel
    clear HST
    have h4 := hinv.work.four
    obtain ⟨g, rc, rfl, hrc, hmx⟩ := row_slice hinv.own (hinv.pos HCAT.out)
    unfold maxLen at hmx
    by_cases hlt : k < row.length
    rotate_left
    · have hT := hinv.tr
      have hR := hinv.res
      have c0 := heap_cell hT 0
      have c1 := heap_cell hT 1
      have c2 := heap_cell hT 2
      have c3 := heap_cell hT 3
      have f0 := heap_frozen hR 0
      have f1 := heap_frozen hR 1
      have f2 := heap_frozen hR 2
      have f3 := heap_frozen hR 3
      have d0 := heap_cell hR 0
      have d1 := heap_cell hR 1
      have d2 := heap_cell hR 2
      have d3 := heap_cell hR 3
      have HDONE : Hid (∀ h, 0 ≤ h → h < 4 → B h = trB l c now h) := hid (fun h g1 g2 => hinv.work.done HCAT.out HGD.out (fun y hy x hx => by
        obtain ⟨m, hm, e⟩ := List.mem_iff_getElem.1 hy
        exact hinv.past m y (by omega) (by rw [← e]; exact List.getElem?_eq_getElem hm) x hx) h g1 g2)
      have HR := hid hR
      have HBB := hid hinv.below
      clear hinv hT hR
      go_wp2
      have hst := st4_heap (.bool (B 0)) (.bool (B 1)) (.bool (B 2)) (.bool (B 3)) HR.out
      have hgr := st4_grown wr w.heap.size (.bool (B 0)) (.bool (B 1)) (.bool (B 2)) (.bool (B 3))
      exact bodyPost_ret (results_cell_row rfl _ _ w.heap.size 196 _ (0, 0) _ rfl hst Tryz.underlying196 rfl (by kernel_rfl)) rfl ⟨by rw [HDONE.out 0 (by omega) (by omega), HDONE.out 1 (by omega) (by omega), HDONE.out 2 (by omega) (by omega), HDONE.out 3 (by omega) (by omega)]; rfl, HBB.out.grown hgr (HBB.out.size) (fun k hk => by cases hk; exact Nat.le_refl _)⟩
    · have HIN := hid hinv
      obtain ⟨h0, HK0⟩ : ∃ h0, Hid (row[k]? = some h0) := ⟨row[k], hid (List.getElem?_eq_getElem hlt)⟩
      clear hinv
      go_wp2
      go_loopw [8, 35] (fun v j wr => ∃ (row : List Int) (B : Int → Bool) (m : Nat), m ≤ l.length ∧ j = .int .i64 m ∧ Inv w l c now wr v row B k ∧ row[k]? = some h0 ∧ (∀ i (_ : i < m) (hl : i < l.length), Asked c now B h0 l[i])) (fun _ j _ => l.length - (intOf j).toNat)
      case atStart => exact ⟨row, B, 0, Nat.zero_le _, rfl, HIN.out, HK0.out, fun i hi => absurd hi (Nat.not_lt_zero _)⟩
      case round =>
        clear HIN HK0
        obtain ⟨row2, B2, m, hm, rfl, hinv2, hk0, hask⟩ := hrel
        have HASK := hid hask
        have HK0 := hid hk0
        have HIN := hid hinv2
        have h42 := hinv2.work.four
        have hkl : k < row2.length := (List.getElem?_eq_some_iff.1 hk0).1
        have hke : row2[k] = h0 := (List.getElem?_eq_some_iff.1 hk0).2
        by_cases hltm : m < l.length
        · obtain ⟨b, o, rfl, hc⟩ := HCL.out (by omega)
          obtain ⟨g1, g2, g3, g4⟩ := hc.below hinv2.below m hltm
          obtain ⟨hx3, hx4⟩ := cert_parts (HGD.out.2.1 l[m] (List.getElem_mem hltm))
          have HX := hid (List.getElem_mem hltm)
          have HAN := fun (Bn : Int → Bool) (h1 : ∀ i (_ : i < m) (hl : i < l.length), Asked c now Bn h0 l[i]) (h2 : Asked c now Bn h0 l[m]) => (fun i (hi : i < m + 1) (hl : i < l.length) => (by
            by_cases e : i = m
            · subst e; exact h2
            · exact h1 i (by omega) hl : Asked c now Bn h0 l[i]))
          have HANX := hid HAN
          clear HAN
          generalize l[m] = x at *
          obtain ⟨gg, rc2, rfl, hrc2, hmx2⟩ := row_slice hinv2.own (by omega)
          unfold maxLen at hmx2
          have hrow := row_cell hinv2.own k hkl
          rw [hke] at hrow
          have hrow2 := fun ob => cell_over ob hrow
          have htr := fun ob => cell_over ob (tr_cells hinv2.tr hx4.1 hx4.2)
          have hsz2 := hinv2.size
          have hfr := fun ob => frozen_over ob hinv2.tr x.h.toNat
          obtain ⟨hx41, hx42⟩ := hx4
          have hb1 : (k : Int) < (row2.length : Int) := by omega
          have hb2 : (0 : Int) ≤ (k : Int) := by omega
          clear hc hinv2 hask hk0 hke hrow
          cases hA : (x.c == c) with
          | false =>
            have HNEW : Hid (Asked c now B2 h0 x) := hid (fun e1 _ _ => by rw [e1] at hA; simp at hA)
            go_wp2
            go_quiet (fail)
            go_wp2
            go_roundw
            case rel => exact ⟨row2, B2, m + 1, hltm, by go_num, HIN.out.more (below_then (below_box _ _) (below_drewN _ _)), HK0.out, HANX.out B2 HASK.out HNEW.out⟩
            case measure => simp [intOf]; omega
          | true =>
            cases hB : (x.b == h0) with
            | false =>
              have HNEW : Hid (Asked c now B2 h0 x) := hid (fun _ e1 _ => by rw [e1] at hB; simp at hB)
              go_wp2
              go_quiet (fail)
              go_wp2
              go_roundw
              case rel => exact ⟨row2, B2, m + 1, hltm, by go_num, HIN.out.more (below_then (below_box _ _) (below_drewN _ _)), HK0.out, HANX.out B2 HASK.out HNEW.out⟩
              case measure => simp [intOf]; omega
            | true =>
              cases hU : decide (now ≤ x.u) with
              | false =>
                have HNEW : Hid (Asked c now B2 h0 x) := hid (fun _ _ e1 => absurd e1 (of_decide_eq_false hU))
                go_wp2
                go_quiet (fail)
                go_wp2
                go_roundw
                case rel => exact ⟨row2, B2, m + 1, hltm, by go_num, HIN.out.more (below_then (below_box _ _) (below_drewN _ _)), HK0.out, HANX.out B2 HASK.out HNEW.out⟩
                case measure => simp [intOf]; omega
              | true =>
                cases hT : B2 x.h with
                | true =>
                  have HNEW : Hid (Asked c now B2 h0 x) := hid (fun _ _ _ => hT)
                  rw [hT] at htr
                  go_wp2
                  go_quiet (fail)
                  go_wp2
                  go_roundw
                  case rel => exact ⟨row2, B2, m + 1, hltm, by go_num, HIN.out.more (below_then (below_box _ _) (below_drewN _ _)), HK0.out, HANX.out B2 HASK.out HNEW.out⟩
                  case measure => simp [intOf]; omega
                | false =>
                  rw [hT] at htr
                  have INVN := hid (fun n => HIN.out.more (below_then (below_box wr (.cells #[.int .i64 x.c, .int .i64 x.b, .int .i64 x.h, .int .i64 x.u] 78)) (below_drewN _ n)))
                  have OWN := hid (fun n => (own_store (INVN.out n).own (INVN.out n).tr (by decide) x.h.toNat (.bool true)).alloc (.cells #[.int .i64 x.h] 3))
                  have HPUT := hid (fun (n : Nat) w6 v6 h6 hg6 => (INVN.out n).put (w2 := w6) (v2 := v6) HX.out (beq_iff_eq.1 hA) (by rw [beq_iff_eq.1 hB, ← (List.getElem?_eq_some_iff.1 HK0.out).2]; exact List.getElem_mem hkl) (of_decide_eq_true hU) hT ⟨hx41, hx42⟩ HCAT.out hkl (.cells #[.int .i64 x.h] 3) h6 hg6)
                  have HNEW : Hid (Asked c now (withH B2 x.h) h0 x) := hid (fun _ _ _ => by simp [withH])
                  have HKN : Hid ((row2 ++ [x.h])[k]? = some h0) := hid (by rw [List.getElem?_append_left hkl]; exact HK0.out)
                  go_wp2
                  go_quiet (fail)
                  go_wp2_with (at_builtin; refine wpList_append_own _ rfl _ _ 28 rfl (w.heap.size + 2) 3 i0 _ 1 8 Tryz.underlying28 hi hz0 hz1 hz2 rfl (by decide) _ row2.length (flat1 row2) rfl (OWN.out nq) ⟨wr.heap.size + 1, 0, none⟩ 1 1 [.int .i64 x.h] rfl rfl (news1 (by simp) _ _) (by intro u hu; simp at hu; subst hu; rfl) (by unfold maxLen; omega) (by omega) (by simp; omega) ?_; intro v6 w6 hown6 hgrow6 _)
                  go_roundw
                  case rel => exact ⟨row2 ++ [x.h], withH B2 x.h, m + 1, hltm, by go_num, HPUT.out nq w6 v6 hown6 hgrow6, HKN.out, HANX.out _ (fun i hi hl => asked_more (HASK.out i hi hl)) HNEW.out⟩
                  case measure => simp [intOf]; omega
        · have HNEXT : Hid (Inv w l c now wr _ row2 B2 (k + 1)) := hid ⟨hinv2.own, hinv2.work, fun j h hj he x hx => by
            by_cases e : j = k
            · subst e
              rw [hk0] at he
              have := Option.some.inj he
              subst this
              obtain ⟨i, hi, rfl⟩ := List.mem_iff_getElem.1 hx
              exact hask i (by omega) hi
            · exact hinv2.past j h (by omega) he x hx, hinv2.tr, hinv2.res, hinv2.below, hinv2.size⟩
          clear hinv2 hask hk0 hke
          go_wp2
          go_roundw
          case rel => exact ⟨row2, B2, k + 1, hkl, by go_num, HNEXT.out⟩
          case measure => simp [intOf]; omega

theorem trusted_any (v : Value) (l : List Crt) (c now : Int) (w : World) (hv : CrtsAt w v l) :
    Calls Tryz.prog 135 #[v, .int .i64 c, .int .i64 now] w fun e w' => e = .returned (trV l c now) ∧ Below w.heap.size w w' := by
  cases h1 : catB c with
  | false => exact trusted_none v l c now w hv (Or.inl h1)
  | true =>
    cases h2 : csB l with
    | false => exact trusted_none v l c now w hv (Or.inr ⟨h1, h2⟩)
    | true => exact trusted_some v l c now w hv h1 h2
end Go.Proofs.YtgpldlbmjakjhaaGreat

namespace Go.Proofs.YtgpldlbmjakjhaaGreat
open Go.RowKit Go.Proofs.Parclose

theorem flat4_len (l : List Crt) : (flat4 l).length = l.length * 4 := by
  induction l with
  | nil => rfl
  | cons x r ih =>
    have e : flat4 (x :: r) = .int .i64 x.c :: .int .i64 x.b :: .int .i64 x.h :: .int .i64 x.u :: flat4 r := rfl
    rw [e]
    simp only [List.length_cons, ih]
    omega
theorem flat4_app (a b : List Crt) : flat4 (a ++ b) = flat4 a ++ flat4 b := by simp [flat4]
theorem flat4_cell {w : World} {b o : Nat} {l : List Crt} (h : Cells4 w b o l) : ∀ j u, (flat4 l)[j]? = some u → w.cell? ((⟨b, o, none⟩ : Addr).add j) = some u := by
  intro j u hu
  have hj : j < l.length * 4 := by
    have := (List.getElem?_eq_some_iff.1 hu).1
    rwa [flat4_len] at this
  obtain ⟨h1, h2, h3, h4⟩ := h (j / 4) (by omega)
  obtain ⟨g1, g2, g3, g4⟩ := flat4_get l (j / 4) (by omega)
  rw [WideShapes.add_plain]
  have hc : j % 4 = 0 ∨ j % 4 = 1 ∨ j % 4 = 2 ∨ j % 4 = 3 := by omega
  rcases hc with hp | hp | hp | hp
  · have e : j = j / 4 * 4 := by omega
    rw [e] at hu ⊢
    rw [g1] at hu
    rw [h1, ← hu]
  · have e : j = j / 4 * 4 + 1 := by omega
    rw [e] at hu ⊢
    rw [g2] at hu
    rw [← Nat.add_assoc, h2, ← hu]
  · have e : j = j / 4 * 4 + 2 := by omega
    rw [e] at hu ⊢
    rw [g3] at hu
    rw [← Nat.add_assoc, h3, ← hu]
  · have e : j = j / 4 * 4 + 3 := by omega
    rw [e] at hu ⊢
    rw [g4] at hu
    rw [← Nat.add_assoc, h4, ← hu]

/-- v is a slice whose elements are the lists ls of certs -/
def CrtssAt (w : World) (v : Value) (ls : List (List Crt)) : Prop :=
  ∃ b o cap, v = .slice (some ⟨b, o, none⟩) ls.length cap ∧ ∀ j (_ : j < ls.length), ∃ u, w.cell? ⟨b, o + j, none⟩ = some u ∧ CrtsAt w u ls[j]

/-- append of a label, nil or not, to a list of its own -/
theorem wpList_append_crts {w : World} {ops : Array Oper} {rest : List Oper} {o : Oper} {a : Act} {Q : Exit → Act → World → Prop} (hgd : o.guard = none) (s x : Operand)
    (ho : o.op = .call { callee := .builtin .append, args := #[s, x], argTypes := #[37, 37] }) (base : Nat) (v : Value) (n : Nat) (xs : List Value) (hs : a.eval s = v) (hown : w.ownsRow base 78 4 v n xs)
    (u : Value) (l : List Crt) (hx : a.eval x = u) (hu : CrtsAt w u l) (hn : n + l.length ≤ 4398046511104) (hbase : base ≤ w.heap.size)
    (h : ∀ v' w', w'.ownsRow base 78 4 v' (n + l.length) (xs ++ flat4 l) → w.grownBy w' v.ownBlock → wpList Tryz.prog ops Q rest (a.put o.dst v') w') : wpList Tryz.prog ops Q (o :: rest) a w := by
  obtain ⟨i0, hi, hz0, hz1, hz2⟩ := info_parts info_cert
  obtain ⟨p, cap, rfl, hlc, hcap, hcells⟩ := hu
  cases p with
  | none =>
    have e : l = [] := by
      by_cases h0 : 0 < l.length
      · obtain ⟨b, o, e, _⟩ := hcells h0
        cases e
      · exact List.length_eq_zero_iff.1 (by omega)
    subst e
    have ec : cap = 0 := hlc.2 rfl
    subst ec
    exact wpList_append_own_none hgd s x 37 ho base 78 i0 4 Tryz.underlying37 hi v n xs hs hown hx (h v w (by simpa [flat4] using hown) ⟨rfl, rfl, rfl, Nat.le_refl _, fun _ _ _ => rfl⟩)
  | some ad =>
    have hnews : ∀ j u, (flat4 l)[j]? = some u → w.cell? (ad.add j) = some u := by
      by_cases h0 : 0 < l.length
      · obtain ⟨b, o, e, hc⟩ := hcells h0
        cases e
        exact flat4_cell hc
      · have e : l = [] := List.length_eq_zero_iff.1 (by omega)
        subst e
        intro j u hu
        simp [flat4] at hu
    exact wpList_append_own w hgd s x 37 ho base 78 i0 _ 4 32 Tryz.underlying37 hi hz0 hz1 hz2 rfl (by decide) v n xs hs hown ad l.length cap (flat4 l) hx (flat4_len l) hnews (flat4_one l) (by unfold maxLen; omega) (by omega) hbase
      (fun v' w' h1 h2 _ => h v' w' h1 h2)

theorem zeroCellsC_size (z : Array Value) (n : Nat) : (Builtin.zeroCells z n).size = n * z.size := by
  unfold Builtin.zeroCells
  simp

theorem growC_any (n : Nat) (w : World) (hn : n ≤ 1000) :
    Calls Tryz.prog 156 #[.slice none 0 0, .int .i64 n] w fun e w' => ∃ v, e = .returned v ∧ w'.ownsRow w.heap.size 78 4 v 0 [] ∧ Below w.heap.size w w' := by
  obtain ⟨i0, hi, hz0, hz1, hz2⟩ := info_parts info_cert
  by_cases h0 : n = 0
  · subst h0
    refine (Any8.slices_Grow_room Tryz.layGrowC none 0 0 0 w (Nat.le_refl _) (by omega) (by omega) (by omega)).mono ?_
    rintro e w' ⟨rfl, rfl⟩
    exact ⟨_, rfl, World.ownsRow_nil _ _ _ _, Below.refl _ _⟩
  · refine (Any8.slices_Grow_grow Tryz.layGrowC i0 _ hi hz0 (by omega) none 0 0 n [] w (Nat.le_refl _) (by omega) (by rw [hz2]; omega) (by omega) (by simp) (fun _ => rfl) (fun a h => by cases h)).mono ?_
    rintro e w' ⟨rfl, rfl⟩
    have hG := grownCap_ge w (0 + n) 0 78
    have hM := grownCap_le_maxLen w (0 + n) 0 78 (by unfold maxLen; omega)
    have hzc : (Value.agg #[.int .i64 0, .int .i64 0, .int .i64 0, .int .i64 0]).cells.size = 4 := rfl
    refine ⟨_, rfl, ⟨rfl, Or.inr ⟨w.heap.size, grownCap w (0 + n) 0 78, _, rfl, Nat.le_refl _, heap_alloc_new w.drew _, Nat.zero_le _, hM, ?_, by simp⟩⟩, (Below.refl _ w).drew.alloc (Nat.le_refl _) _⟩
    show ([].toArray ++ Builtin.zeroCells (Value.agg #[.int .i64 0, .int .i64 0, .int .i64 0, .int .i64 0]).cells (0 + n - 0) ++ Builtin.zeroCells (Value.agg #[.int .i64 0, .int .i64 0, .int .i64 0, .int .i64 0]).cells (grownCap w (0 + n) 0 78 - (0 + n))).size = _
    generalize grownCap w (0 + n) 0 78 = G at *
    simp only [Array.size_append, zeroCellsC_size, hzc]
    simp
    omega

theorem crtss_elem {w : World} {b o : Nat} {ls : List (List Crt)} (h : ∀ j (_ : j < ls.length), ∃ u, w.cell? ⟨b, o + j, none⟩ = some u ∧ CrtsAt w u ls[j]) (j : Nat) (hj : j < ls.length) {wr : World} (hb : Below w.heap.size w wr) :
    ∃ p cap, wr.cell? ⟨b, o + j, none⟩ = some (.slice p ls[j].length cap) ∧ CrtsAt wr (.slice p ls[j].length cap) ls[j] := by
  obtain ⟨u, h1, h2⟩ := h j hj
  have h3 := h2.below hb
  obtain ⟨p, cap, rfl, _⟩ := id h3
  exact ⟨p, cap, by rw [hb.cell (cell_block h1), h1], h3⟩

/-- how many levels the labels have in all -/
def flenC (ls : List (List Crt)) : Nat := ls.flatten.length

theorem flattenC_take (ls : List (List Crt)) (k : Nat) (hk : k < ls.length) : (ls.take (k + 1)).flatten = (ls.take k).flatten ++ ls[k] := by
  rw [List.take_succ_eq_append_getElem hk, List.flatten_append]; simp

theorem lenC_flatten_take {ls : List (List Crt)} (h : ∀ l ∈ ls, l.length ≤ 24) (k : Nat) : (ls.take k).flatten.length ≤ k * 24 := by
  induction k with
  | zero => simp
  | succ k ih =>
    by_cases hk : k < ls.length
    · rw [flattenC_take ls k hk, List.length_append]
      have := h ls[k] (List.getElem_mem hk)
      omega
    · rw [List.take_of_length_le (by omega)]
      rw [List.take_of_length_le (by omega)] at ih
      omega

/-- a label that lies in blocks from B on -/
def CrtsNew (B : Nat) (w : World) (v : Value) (l : List Crt) : Prop := CrtsAt w v l ∧ ∀ k, v.ownBlock = some k → B ≤ k

set_option maxHeartbeats 1000000 in
theorem concatC_new (v : Value) (ls : List (List Crt)) (w : World) (hv : CrtssAt w v ls) (hls : ls.length ≤ 4) (h9 : ∀ l ∈ ls, l.length ≤ 24) :
    Calls Tryz.prog 137 #[v] w fun e w' => ∃ v', e = .returned v' ∧ CrtsNew w.heap.size w' v' ls.flatten ∧ Below w.heap.size w w' := by
  obtain ⟨b, o, cap, rfl, hcells⟩ := hv
  have HT : Hid (∀ k (hk : k < ls.length), (ls.take (k + 1)).flatten = (ls.take k).flatten ++ ls[k]) := flattenC_take ls
  have HN : Hid (∀ k, (ls.take k).flatten.length ≤ k * 24) := lenC_flatten_take h9
  have H9 : Hid (∀ l ∈ ls, l.length ≤ 24) := h9
  clear h9
  go_enter Tryz.func137, Tryz.ntmps137
  go_wp2
  go_loopw [3, 11] (fun s i wr => ∃ k : Nat, k ≤ ls.length ∧ i = .int .i64 k ∧ s = .int .i64 (flenC (ls.take k) : Nat) ∧ w = wr) (fun _ i _ => ls.length - (intOf i).toNat)
  case atStart => exact ⟨0, Nat.zero_le _, rfl, rfl, rfl⟩
  case round =>
    obtain ⟨k, hk, rfl, rfl, rfl⟩ := hrel
    have hnk : flenC (ls.take k) ≤ k * 24 := HN.out k
    by_cases hlt : k < ls.length
    · obtain ⟨p, cp, hc1, hl1⟩ := crtss_elem hcells k hlt (Below.refl _ _)
      have h9k := H9.out ls[k] (List.getElem_mem hlt)
      have HS : Hid (flenC (ls.take (k + 1)) = flenC (ls.take k) + ls[k].length) := by
        show (ls.take (k + 1)).flatten.length = (ls.take k).flatten.length + ls[k].length
        rw [HT.out k hlt, List.length_append]
      clear hcells hl1
      generalize flenC (ls.take k) = n at *
      generalize ls[k].length = m at *
      go_wp2
      all_goals go_roundw
      case rel => exact ⟨k + 1, hlt, by go_num, by rw [HS.out]; go_num, by first | rfl | trivial⟩
      case measure => simp [intOf]; omega
    · have hkl : k = ls.length := by omega
      subst hkl
      rw [List.take_length]
      rw [List.take_length] at hnk
      have hgrow := growC_any (flenC ls) w (by omega)
      go_wp2_with fail
      refine hgrow.mono ?_
      rintro e w1 ⟨v1, rfl, hown1, hw1⟩
      clear hgrow
      go_wp2
      go_loopw [6, 27] (fun v i wr => ∃ k : Nat, k ≤ ls.length ∧ i = .int .i64 k ∧ wr.ownsRow w.heap.size 78 4 v (ls.take k).flatten.length (flat4 (ls.take k).flatten) ∧ Below w.heap.size w wr) (fun _ i _ => ls.length - (intOf i).toNat)
      case atStart => exact ⟨0, Nat.zero_le _, rfl, hown1, hw1⟩
      case round =>
        clear hown1 hw1 hnk
        obtain ⟨k, hk, rfl, hown, hb⟩ := hrel
        have hnk := HN.out k
        have hsz := hb.size
        by_cases hlt2 : k < ls.length
        · obtain ⟨p, cp, hc1, hl1⟩ := crtss_elem hcells k hlt2 hb
          have h9k := H9.out ls[k] (List.getElem_mem hlt2)
          have HS := HT.out k hlt2
          have HS2 : Hid ((ls.take (k + 1)).flatten = (ls.take k).flatten ++ ls[k]) := HS
          clear HS hcells
          generalize (ls.take k).flatten = out at *
          generalize ls[k] = l at *
          go_wp2_with (at_builtin; refine wpList_append_crts rfl _ _ rfl w.heap.size _ _ _ rfl hown _ l rfl hl1 (by omega) hsz ?_; intro v2 w2 hown2 hgrow2)
          go_roundw
          case rel => exact ⟨k + 1, hlt2, by go_num, by rw [HS2.out, flat4_app, List.length_append]; exact hown2, hb.grown hgrow2 hsz (fun j hj => own_base hown hj)⟩
          case measure => simp [intOf]; omega
        · have hkl : k = ls.length := by omega
          subst hkl
          rw [List.take_length] at hown hnk
          go_wp2
          go_ret
          exact ⟨_, rfl, ⟨crts_of_own hown (by omega), fun k hk => own_base hown hk⟩, hb⟩
end Go.Proofs.YtgpldlbmjakjhaaGreat
