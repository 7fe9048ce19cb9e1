/-
  DERIVED: THE SHELF's CONTRACTS AT THIS DUMP, IN PLAIN WORDS (tools/lay-plain.mjs out of 'TryzShelf.lean', which tools/lay-shelf.mjs wrote): THE SAME DECLARATIONS UNDER THE SAME NAMES: 'import', 'namespace', 'open', 'def', 'theorem' AND NOTHING ELSE: no command of the shelf's: FOR A HAND-IN. Each laying: the table of numbers ('.._ren') and one theorem, a field a fact of the dump's own or the kernel's comparison; each contract: ONE APPLICATION.
-/
import Derived.Shelf.Strconv.Itoa0
import Derived.Shelf.Strconv.Itoa1
import Derived.Shelf.LaysM
import Derived.Shelf.Strconv.Itoa2
import Derived.Shelf.Strconv.Itoa3
import Derived.Ground.MpProg
import Derived.Shelf.Pu.ParseUintPublic10
import Derived.Shelf.Pu.ErrVarParseUint
import Derived.Shelf.Strings.Prefix
import Derived.Shelf.Slices.Turned
import Derived.Shelf.Slices.Equal
import Derived.Ground.Names2Prog
import Derived.Shelf.Slices.Clone
import Derived.Shelf.Slices.Empties2
import Derived.Test.YtbilfdapmbahgaaGreatDoorProg
namespace Go.Proofs
open Go.Shelf
def Tryz.laysPu14_ren : Go.Shelf.Ren := ⟨fun | 14 => 247 | 16 => 304 | 17 => 305 | 19 => 326 | 20 => 327 | 21 => 328 | 22 => 329 | 23 => 330 | 24 => 331 | 25 => 342 | 27 => 344 | 26 => 343 | 28 => 352 | 29 => 357 | 30 => 358 | 31 => 359 | 32 => 360 | 33 => 361 | 35 => 363 | 34 => 362 | 36 => 364 | 37 => 365 | 38 => 366 | 39 => 367 | 40 => 368 | n => n, fun | 9 => 9 | 3 => 3 | 22 => 221 | 24 => 320 | 25 => 321 | 4 => 4 | 34 => 346 | 5 => 5 | 36 => 348 | 37 => 25 | 0 => 0 | 39 => 349 | 21 => 21 | 44 => 359 | 47 => 365 | 50 => 368 | 48 => 366 | 2 => 2 | 52 => 370 | 55 => 373 | 59 => 376 | 60 => 377 | 20 => 20 | 61 => 378 | 65 => 381 | 66 => 382 | 67 => 233 | n => n, fun | 0 => 0 | 1 => 1 | 2 => 2 | 3 => 3 | 4 => 4 | n => n⟩
theorem Tryz.laysPu14 : Go.Proofs.LaysPu.n14 Tryz.prog Tryz.laysPu14_ren := {
  mixed := by kernel_rfl
  f14 := Tryz.func247.trans (congrArg some (by kernel_rfl))
  f16 := Tryz.func304.trans (congrArg some (by kernel_rfl))
  f17 := Tryz.func305.trans (congrArg some (by kernel_rfl))
  f19 := Tryz.func326.trans (congrArg some (by kernel_rfl))
  f20 := Tryz.func327.trans (congrArg some (by kernel_rfl))
  f21 := Tryz.func328.trans (congrArg some (by kernel_rfl))
  f22 := Tryz.func329.trans (congrArg some (by kernel_rfl))
  f23 := Tryz.func330.trans (congrArg some (by kernel_rfl))
  f24 := Tryz.func331.trans (congrArg some (by kernel_rfl))
  f25 := Tryz.func342.trans (congrArg some (by kernel_rfl))
  f26 := Tryz.func343.trans (congrArg some (by kernel_rfl))
  f27 := Tryz.func344.trans (congrArg some (by kernel_rfl))
  f28 := Tryz.func352.trans (congrArg some (by kernel_rfl))
  f29 := Tryz.func357.trans (congrArg some (by kernel_rfl))
  f30 := Tryz.func358.trans (congrArg some (by kernel_rfl))
  f31 := Tryz.func359.trans (congrArg some (by kernel_rfl))
  f32 := Tryz.func360.trans (congrArg some (by kernel_rfl))
  f33 := Tryz.func361.trans (congrArg some (by kernel_rfl))
  f34 := Tryz.func362.trans (congrArg some (by kernel_rfl))
  f35 := Tryz.func363.trans (congrArg some (by kernel_rfl))
  f36 := Tryz.func364.trans (congrArg some (by kernel_rfl))
  f37 := Tryz.func365.trans (congrArg some (by kernel_rfl))
  f38 := Tryz.func366.trans (congrArg some (by kernel_rfl))
  f39 := Tryz.func367.trans (congrArg some (by kernel_rfl))
  f40 := Tryz.func368.trans (congrArg some (by kernel_rfl))
  t0 := Tryz.underlying0
  a0 := Tryz.isAgg0
  z0 := Tryz.sizeOf0
  v0 := Tryz.zeroValue0
  i0 := by kernel_rfl
  t2 := Tryz.underlying2
  a2 := Tryz.isAgg2
  z2 := Tryz.sizeOf2
  v2 := Tryz.zeroValue2
  i2 := by kernel_rfl
  t3 := Tryz.underlying3
  a3 := Tryz.isAgg3
  z3 := Tryz.sizeOf3
  v3 := Tryz.zeroValue3
  i3 := by kernel_rfl
  t4 := Tryz.underlying4
  a4 := Tryz.isAgg4
  z4 := Tryz.sizeOf4
  v4 := Tryz.zeroValue4
  i4 := by kernel_rfl
  t5 := Tryz.underlying5
  a5 := Tryz.isAgg5
  z5 := Tryz.sizeOf5
  v5 := Tryz.zeroValue5
  i5 := by kernel_rfl
  t9 := Tryz.underlying9
  a9 := Tryz.isAgg9
  z9 := Tryz.sizeOf9
  v9 := Tryz.zeroValue9
  i9 := by kernel_rfl
  t20 := Tryz.underlying20
  a20 := Tryz.isAgg20
  z20 := Tryz.sizeOf20
  v20 := Tryz.zeroValue20
  i20 := by kernel_rfl
  t21 := Tryz.underlying21
  a21 := Tryz.isAgg21
  z21 := Tryz.sizeOf21
  v21 := Tryz.zeroValue21
  i21 := by kernel_rfl
  t22 := Tryz.underlying221
  a22 := Tryz.isAgg221
  z22 := Tryz.sizeOf221
  v22 := Tryz.zeroValue221
  i22 := by kernel_rfl
  t24 := Tryz.underlying320
  a24 := Tryz.isAgg320
  z24 := Tryz.sizeOf320
  v24 := Tryz.zeroValue320
  i24 := by kernel_rfl
  t25 := Tryz.underlying321
  a25 := Tryz.isAgg321
  z25 := Tryz.sizeOf321
  v25 := Tryz.zeroValue321
  i25 := by kernel_rfl
  t34 := Tryz.underlying346
  a34 := Tryz.isAgg346
  z34 := Tryz.sizeOf346
  v34 := Tryz.zeroValue346
  i34 := by kernel_rfl
  c34 := by kernel_rfl
  t36 := Tryz.underlying348
  a36 := Tryz.isAgg348
  z36 := Tryz.sizeOf348
  v36 := Tryz.zeroValue348
  i36 := by kernel_rfl
  t37 := Tryz.underlying25
  a37 := Tryz.isAgg25
  z37 := Tryz.sizeOf25
  v37 := Tryz.zeroValue25
  i37 := by kernel_rfl
  t39 := Tryz.underlying349
  a39 := Tryz.isAgg349
  z39 := Tryz.sizeOf349
  v39 := Tryz.zeroValue349
  i39 := by kernel_rfl
  t44 := Tryz.underlying359
  a44 := Tryz.isAgg359
  z44 := Tryz.sizeOf359
  v44 := Tryz.zeroValue359
  i44 := by kernel_rfl
  t47 := Tryz.underlying365
  a47 := Tryz.isAgg365
  z47 := Tryz.sizeOf365
  v47 := Tryz.zeroValue365
  i47 := by kernel_rfl
  t48 := Tryz.underlying366
  a48 := Tryz.isAgg366
  z48 := Tryz.sizeOf366
  v48 := Tryz.zeroValue366
  i48 := by kernel_rfl
  t50 := Tryz.underlying368
  a50 := Tryz.isAgg368
  z50 := Tryz.sizeOf368
  v50 := Tryz.zeroValue368
  i50 := by kernel_rfl
  t52 := Tryz.underlying370
  a52 := Tryz.isAgg370
  z52 := Tryz.sizeOf370
  v52 := Tryz.zeroValue370
  i52 := by kernel_rfl
  t55 := Tryz.underlying373
  a55 := Tryz.isAgg373
  z55 := Tryz.sizeOf373
  v55 := Tryz.zeroValue373
  i55 := by kernel_rfl
  t59 := Tryz.underlying376
  a59 := Tryz.isAgg376
  z59 := Tryz.sizeOf376
  v59 := Tryz.zeroValue376
  i59 := by kernel_rfl
  t60 := Tryz.underlying377
  a60 := Tryz.isAgg377
  z60 := Tryz.sizeOf377
  v60 := Tryz.zeroValue377
  i60 := by kernel_rfl
  t61 := Tryz.underlying378
  a61 := Tryz.isAgg378
  z61 := Tryz.sizeOf378
  t65 := Tryz.underlying381
  a65 := Tryz.isAgg381
  z65 := Tryz.sizeOf381
  v65 := Tryz.zeroValue381
  i65 := by kernel_rfl
  t66 := Tryz.underlying382
  a66 := Tryz.isAgg382
  z66 := Tryz.sizeOf382
  v66 := Tryz.zeroValue382
  i66 := by kernel_rfl
  t67 := Tryz.underlying233
  a67 := Tryz.isAgg233
  z67 := Tryz.sizeOf233
  v67 := Tryz.zeroValue233
  i67 := by kernel_rfl
  g0 := by kernel_rfl
  m0 := by kernel_rfl
  g1 := by kernel_rfl
  m1 := by kernel_rfl
  g2 := by kernel_rfl
  m2 := by kernel_rfl
  g3 := by kernel_rfl
  m3 := by kernel_rfl
  g4 := by kernel_rfl
  m4 := by kernel_rfl }
open Go.RowKit in
theorem Tryz.strconv_ParseUint_10_at64_ok (s : ByteArray) (hmax : s.size ≤ 9223372036854775806) (u : Nat) (h : Lib.parseUintB 64 s.data.toList = .ok u) (w : World) :
    Calls Tryz.prog 247 #[.string s, .int .i64 10, .int .i64 64] w fun e w' => e = .returned (.tuple #[.int .u64 u, .nilIface]) ∧ (w' = w ∨ w' = Lib.bytesWorld w 5 s) := Any.strconv_ParseUint_10_at64_ok Tryz.laysPu14 s hmax u h w
open Go.RowKit in
theorem Tryz.strconv_ParseUint_10_at64_range_var (s : ByteArray) (hlim : s.size ≤ 281474976710656) (h : Lib.parseUintB 64 s.data.toList = .range) (tp : TypeId) (p : Value) (w : World) (hvar : w.var? Tryz.prog "strconv.ErrRange" = some #[.iface tp p]) :
    Calls Tryz.prog 247 #[.string s, .int .i64 10, .int .i64 64] w fun e w' => ∃ N, e = .returned (.tuple #[.int .u64 18446744073709551615, .iface 349 (.pointer (some ⟨N, 0, none⟩))]) ∧ w.heap.size ≤ N ∧ w'.heap[N]? = some (.cells #[.string ⟨#[80, 97, 114, 115, 101, 85, 105, 110, 116]⟩, .string s, .iface tp p] 359 (0, 0)) ∧ Below w.heap.size w w' := Any.strconv_ParseUint_10_at64_range_var Tryz.laysPu14 s hlim h tp p w hvar
def Tryz.lays99_ren : Go.Shelf.Ren := ⟨fun | 99 => 248 | 206 => 306 | n => n, fun | 9 => 9 | 4 => 4 | 3 => 3 | n => n, fun | n => n⟩
theorem Tryz.lays99 : Go.Proofs.Lays.n99 Tryz.prog Tryz.lays99_ren := {
  mixed := by kernel_rfl
  f99 := Tryz.func248.trans (congrArg some (by kernel_rfl))
  f206 := Tryz.func306.trans (congrArg some (by kernel_rfl))
  t3 := Tryz.underlying3
  a3 := Tryz.isAgg3
  z3 := Tryz.sizeOf3
  v3 := Tryz.zeroValue3
  t4 := Tryz.underlying4
  a4 := Tryz.isAgg4
  z4 := Tryz.sizeOf4
  v4 := Tryz.zeroValue4
  t9 := Tryz.underlying9
  a9 := Tryz.isAgg9
  z9 := Tryz.sizeOf9
  v9 := Tryz.zeroValue9 }
open Go.RowKit Go.Lib in
theorem Tryz.strings_HasPrefix (s p : ByteArray) (w : World) :
    Calls Tryz.prog 248 #[.string s, .string p] w fun e w' => e = .returned (.bool (Lib.hasPrefix s.data.toList p.data.toList)) ∧ w' = w := Any.strings_HasPrefix Tryz.lays99 s p w
def Tryz.lays110_ren : Go.Shelf.Ren := ⟨fun | 110 => 236 | 109 => 276 | n => n, fun | 31 => 32 | 9 => 9 | 4 => 4 | 3 => 3 | 0 => 0 | n => n, fun | n => n⟩
theorem Tryz.lays110 : Go.Proofs.Lays.n110 Tryz.prog Tryz.lays110_ren := {
  mixed := by kernel_rfl
  f109 := Tryz.func276.trans (congrArg some (by kernel_rfl))
  f110 := Tryz.func236.trans (congrArg some (by kernel_rfl))
  t0 := Tryz.underlying0
  a0 := Tryz.isAgg0
  z0 := Tryz.sizeOf0
  v0 := Tryz.zeroValue0
  t3 := Tryz.underlying3
  a3 := Tryz.isAgg3
  z3 := Tryz.sizeOf3
  v3 := Tryz.zeroValue3
  t4 := Tryz.underlying4
  a4 := Tryz.isAgg4
  z4 := Tryz.sizeOf4
  v4 := Tryz.zeroValue4
  t9 := Tryz.underlying9
  a9 := Tryz.isAgg9
  z9 := Tryz.sizeOf9
  v9 := Tryz.zeroValue9
  t31 := Tryz.underlying32
  a31 := Tryz.isAgg32
  z31 := Tryz.sizeOf32
  v31 := Tryz.zeroValue32 }
open Go.Lib in
theorem Tryz.slices_Contains_string (b off n c : Nat) (zs : List ByteArray) (x : ByteArray) (w : World) (hz : n ≤ zs.length) (hbig : n ≤ 9223372036854775807) (hc : ∀ j, j < zs.length → w.cell? ⟨b, off + j, none⟩ = some (.string (zs.getD j ByteArray.empty))) :
    Calls Tryz.prog 236 #[.slice (some ⟨b, off, none⟩) n c, .string x] w fun e w' => e = .returned (.bool (Lib.containsS (zs.take n) x)) ∧ w' = w := Any.slices_Contains_string Tryz.lays110 b off n c zs x w hz hbig hc
open Go.Lib in
theorem Tryz.slices_Contains_string_empty (a : Option Addr) (c : Nat) (x : ByteArray) (w : World) :
    Calls Tryz.prog 236 #[.slice a 0 c, .string x] w fun e w' => e = .returned (.bool false) ∧ w' = w := Any.slices_Contains_string_empty Tryz.lays110 a c x w
def Tryz.laysNm216_ren : Go.Shelf.Ren := ⟨fun | 16 => 258 | n => n, fun | 24 => 32 | 9 => 9 | 4 => 4 | n => n, fun | n => n⟩
theorem Tryz.laysNm216 : Go.Proofs.Lays2.n16 Tryz.prog Tryz.laysNm216_ren := {
  mixed := by kernel_rfl
  f16 := Tryz.func258.trans (congrArg some (by kernel_rfl))
  t4 := Tryz.underlying4
  a4 := Tryz.isAgg4
  z4 := Tryz.sizeOf4
  v4 := Tryz.zeroValue4
  t9 := Tryz.underlying9
  a9 := Tryz.isAgg9
  z9 := Tryz.sizeOf9
  v9 := Tryz.zeroValue9
  t24 := Tryz.underlying32
  a24 := Tryz.isAgg32
  z24 := Tryz.sizeOf32
  v24 := Tryz.zeroValue32
  i9 := by kernel_rfl }
open Go.RowKit Go.Lib in
theorem Tryz.slices_Clone_string (b off n c : Nat) (zs : List ByteArray) (w : World) (hz : n ≤ zs.length) (hbig : n * 16 ≤ 140737488355328) (hc : ∀ j, j < zs.length → w.cell? ⟨b, off + j, none⟩ = some (.string (zs.getD j ByteArray.empty))) :
    Calls Tryz.prog 258 #[.slice (some ⟨b, off, none⟩) n c] w fun e w' => ∃ v', e = .returned v' ∧ w'.ownsRow w.heap.size 9 1 v' n ((zs.take n).map (Value.string)) ∧ v' ≠ .slice none 0 0 ∧ Below w.heap.size w w' := Any.slices_Clone_string Tryz.laysNm216 b off n c zs w hz hbig hc
open Go.RowKit Go.Lib in
theorem Tryz.slices_Clone_string_nil (n c : Nat) (w : World) :
    Calls Tryz.prog 258 #[.slice none n c] w fun e w' => e = .returned (.slice none 0 0) ∧ w' = w := Any.slices_Clone_string_nil Tryz.laysNm216 n c w
open Go.RowKit Go.Lib in
theorem Tryz.slices_Clone_string_zero (a : Addr) (c : Nat) (w : World) :
    Calls Tryz.prog 258 #[.slice (some a) 0 c] w fun e w' => ∃ v', e = .returned v' ∧ w'.ownsRow w.heap.size 9 1 v' 0 [] ∧ v' ≠ .slice none 0 0 ∧ Below w.heap.size w w' := Any.slices_Clone_string_zero Tryz.laysNm216 a c w
end Go.Proofs
