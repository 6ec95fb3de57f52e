/-
  Facts on the types of this program, and what its single operations do at them. They hold as they stand: each is calculated from the program itself.
-/
import Derived.Test.YtpmilegookiifaaKernX
import Derived.Test.YtpmilegookiifaaProg
namespace Go.Proofs.Ytpmilegookiifaa
open Go Kern
noncomputable abbrev TT : Tab := tabOf Try.prog (some 13)
theorem fits : tabFits Try.prog = true := by kernel_rfl
theorem tabOk : TabOk Try.prog TT := tabOf_ok fits
theorem und_0 : TT.und 0 = some (Go.TypeDesc.tuple #[]) := by kernel_rfl
theorem size_0 : TT.size 0 = some 1 := by kernel_rfl
@[simp] theorem agg_0 : aggN TT 0 = some none := by kernel_rfl
theorem bytes_0 : TT.bytes 0 = some 0 := by kernel_rfl
theorem und_1 : TT.und 1 = some (Go.TypeDesc.func #[] #[] Bool.false) := by kernel_rfl
theorem size_1 : TT.size 1 = some 1 := by kernel_rfl
@[simp] theorem agg_1 : aggN TT 1 = some none := by kernel_rfl
theorem bytes_1 : TT.bytes 1 = some 8 := by kernel_rfl
theorem zero_1 : TT.zero 1 = some .nilFunc := by kernel_rfl
theorem und_2 : TT.und 2 = some (Go.TypeDesc.int Go.IntKind.i64) := by kernel_rfl
theorem size_2 : TT.size 2 = some 1 := by kernel_rfl
@[simp] theorem agg_2 : aggN TT 2 = some none := by kernel_rfl
theorem bytes_2 : TT.bytes 2 = some 8 := by kernel_rfl
theorem zero_2 : TT.zero 2 = some (.int .i64 0) := by kernel_rfl
theorem und_3 : TT.und 3 = some (Go.TypeDesc.int Go.IntKind.i64) := by kernel_rfl
theorem size_3 : TT.size 3 = some 1 := by kernel_rfl
@[simp] theorem agg_3 : aggN TT 3 = some none := by kernel_rfl
theorem bytes_3 : TT.bytes 3 = some 8 := by kernel_rfl
theorem zero_3 : TT.zero 3 = some (.int .i64 0) := by kernel_rfl
theorem und_4 : TT.und 4 = some Go.TypeDesc.bool := by kernel_rfl
theorem size_4 : TT.size 4 = some 1 := by kernel_rfl
@[simp] theorem agg_4 : aggN TT 4 = some none := by kernel_rfl
theorem bytes_4 : TT.bytes 4 = some 1 := by kernel_rfl
theorem zero_4 : TT.zero 4 = some (.bool false) := by kernel_rfl
theorem und_5 : TT.und 5 = some (Go.TypeDesc.int Go.IntKind.u8) := by kernel_rfl
theorem size_5 : TT.size 5 = some 1 := by kernel_rfl
@[simp] theorem agg_5 : aggN TT 5 = some none := by kernel_rfl
theorem bytes_5 : TT.bytes 5 = some 1 := by kernel_rfl
theorem zero_5 : TT.zero 5 = some (.int .u8 0) := by kernel_rfl
theorem und_6 : TT.und 6 = some (Go.TypeDesc.int Go.IntKind.u8) := by kernel_rfl
theorem size_6 : TT.size 6 = some 1 := by kernel_rfl
@[simp] theorem agg_6 : aggN TT 6 = some none := by kernel_rfl
theorem bytes_6 : TT.bytes 6 = some 1 := by kernel_rfl
theorem zero_6 : TT.zero 6 = some (.int .u8 0) := by kernel_rfl
theorem und_7 : TT.und 7 = some (Go.TypeDesc.struct #[{ name := "x", type := 2, offset := 0, embedded := Bool.false, tag := "", pkgPath := "runtime", byteOffset := 0 }, { name := "y", type := 3, offset := 1, embedded := Bool.false, tag := "", pkgPath := "runtime", byteOffset := 8 }, { name := "signed", type := 4, offset := 2, embedded := Bool.false, tag := "", pkgPath := "runtime", byteOffset := 16 }, { name := "code", type := 6, offset := 3, embedded := Bool.false, tag := "", pkgPath := "runtime", byteOffset := 17 }]) := by kernel_rfl
theorem size_7 : TT.size 7 = some 4 := by kernel_rfl
@[simp] theorem agg_7 : aggN TT 7 = some (some 4) := by kernel_rfl
theorem bytes_7 : TT.bytes 7 = some 24 := by kernel_rfl
theorem zero_7 : TT.zero 7 = some (.agg #[(.int .i64 0), (.int .i64 0), (.bool false), (.int .u8 0)]) := by kernel_rfl
theorem und_8 : TT.und 8 = some (Go.TypeDesc.struct #[{ name := "x", type := 2, offset := 0, embedded := Bool.false, tag := "", pkgPath := "runtime", byteOffset := 0 }, { name := "y", type := 3, offset := 1, embedded := Bool.false, tag := "", pkgPath := "runtime", byteOffset := 8 }, { name := "signed", type := 4, offset := 2, embedded := Bool.false, tag := "", pkgPath := "runtime", byteOffset := 16 }, { name := "code", type := 6, offset := 3, embedded := Bool.false, tag := "", pkgPath := "runtime", byteOffset := 17 }]) := by kernel_rfl
theorem size_8 : TT.size 8 = some 4 := by kernel_rfl
@[simp] theorem agg_8 : aggN TT 8 = some (some 4) := by kernel_rfl
theorem bytes_8 : TT.bytes 8 = some 24 := by kernel_rfl
theorem zero_8 : TT.zero 8 = some (.agg #[(.int .i64 0), (.int .i64 0), (.bool false), (.int .u8 0)]) := by kernel_rfl
theorem und_9 : TT.und 9 = some Go.TypeDesc.string := by kernel_rfl
theorem size_9 : TT.size 9 = some 1 := by kernel_rfl
@[simp] theorem agg_9 : aggN TT 9 = some none := by kernel_rfl
theorem bytes_9 : TT.bytes 9 = some 16 := by kernel_rfl
theorem zero_9 : TT.zero 9 = some (.string ⟨#[]⟩) := by kernel_rfl
theorem und_10 : TT.und 10 = some Go.TypeDesc.string := by kernel_rfl
theorem size_10 : TT.size 10 = some 1 := by kernel_rfl
@[simp] theorem agg_10 : aggN TT 10 = some none := by kernel_rfl
theorem bytes_10 : TT.bytes 10 = some 16 := by kernel_rfl
theorem zero_10 : TT.zero 10 = some (.string ⟨#[]⟩) := by kernel_rfl
theorem und_11 : TT.und 11 = some Go.TypeDesc.string := by kernel_rfl
theorem size_11 : TT.size 11 = some 1 := by kernel_rfl
@[simp] theorem agg_11 : aggN TT 11 = some none := by kernel_rfl
theorem bytes_11 : TT.bytes 11 = some 16 := by kernel_rfl
theorem zero_11 : TT.zero 11 = some (.string ⟨#[]⟩) := by kernel_rfl
theorem und_12 : TT.und 12 = some (Go.TypeDesc.int Go.IntKind.u64) := by kernel_rfl
theorem size_12 : TT.size 12 = some 1 := by kernel_rfl
@[simp] theorem agg_12 : aggN TT 12 = some none := by kernel_rfl
theorem bytes_12 : TT.bytes 12 = some 8 := by kernel_rfl
theorem zero_12 : TT.zero 12 = some (.int .u64 0) := by kernel_rfl
theorem und_13 : TT.und 13 = some (Go.TypeDesc.struct #[{ name := "msg", type := 9, offset := 0, embedded := Bool.false, tag := "", pkgPath := "runtime", byteOffset := 0 }, { name := "addr", type := 12, offset := 1, embedded := Bool.false, tag := "", pkgPath := "runtime", byteOffset := 16 }]) := by kernel_rfl
theorem size_13 : TT.size 13 = some 2 := by kernel_rfl
@[simp] theorem agg_13 : aggN TT 13 = some (some 2) := by kernel_rfl
theorem bytes_13 : TT.bytes 13 = some 24 := by kernel_rfl
theorem zero_13 : TT.zero 13 = some (.agg #[(.string ⟨#[]⟩), (.int .u64 0)]) := by kernel_rfl
theorem und_14 : TT.und 14 = some (Go.TypeDesc.struct #[{ name := "msg", type := 9, offset := 0, embedded := Bool.false, tag := "", pkgPath := "runtime", byteOffset := 0 }, { name := "addr", type := 12, offset := 1, embedded := Bool.false, tag := "", pkgPath := "runtime", byteOffset := 16 }]) := by kernel_rfl
theorem size_14 : TT.size 14 = some 2 := by kernel_rfl
@[simp] theorem agg_14 : aggN TT 14 = some (some 2) := by kernel_rfl
theorem bytes_14 : TT.bytes 14 = some 24 := by kernel_rfl
theorem zero_14 : TT.zero 14 = some (.agg #[(.string ⟨#[]⟩), (.int .u64 0)]) := by kernel_rfl
theorem und_15 : TT.und 15 = some (Go.TypeDesc.pointer 136) := by kernel_rfl
theorem size_15 : TT.size 15 = some 1 := by kernel_rfl
@[simp] theorem agg_15 : aggN TT 15 = some none := by kernel_rfl
theorem bytes_15 : TT.bytes 15 = some 8 := by kernel_rfl
theorem zero_15 : TT.zero 15 = some (.pointer none) := by kernel_rfl
theorem und_16 : TT.und 16 = some (Go.TypeDesc.pointer 139) := by kernel_rfl
theorem size_16 : TT.size 16 = some 1 := by kernel_rfl
@[simp] theorem agg_16 : aggN TT 16 = some none := by kernel_rfl
theorem bytes_16 : TT.bytes 16 = some 8 := by kernel_rfl
theorem zero_16 : TT.zero 16 = some (.pointer none) := by kernel_rfl
theorem und_17 : TT.und 17 = some (Go.TypeDesc.pointer 149) := by kernel_rfl
theorem size_17 : TT.size 17 = some 1 := by kernel_rfl
@[simp] theorem agg_17 : aggN TT 17 = some none := by kernel_rfl
theorem bytes_17 : TT.bytes 17 = some 8 := by kernel_rfl
theorem zero_17 : TT.zero 17 = some (.pointer none) := by kernel_rfl
theorem und_18 : TT.und 18 = some (Go.TypeDesc.struct #[{ name := "typ", type := 17, offset := 0, embedded := Bool.false, tag := "", pkgPath := "internal/runtime/maps", byteOffset := 0 }]) := by kernel_rfl
theorem size_18 : TT.size 18 = some 1 := by kernel_rfl
@[simp] theorem agg_18 : aggN TT 18 = some (some 1) := by kernel_rfl
theorem bytes_18 : TT.bytes 18 = some 8 := by kernel_rfl
theorem zero_18 : TT.zero 18 = some (.agg #[(.pointer none)]) := by kernel_rfl
theorem und_19 : TT.und 19 = some (Go.TypeDesc.struct #[{ name := "typ", type := 17, offset := 0, embedded := Bool.false, tag := "", pkgPath := "internal/runtime/maps", byteOffset := 0 }]) := by kernel_rfl
theorem size_19 : TT.size 19 = some 1 := by kernel_rfl
@[simp] theorem agg_19 : aggN TT 19 = some (some 1) := by kernel_rfl
theorem bytes_19 : TT.bytes 19 = some 8 := by kernel_rfl
theorem zero_19 : TT.zero 19 = some (.agg #[(.pointer none)]) := by kernel_rfl
theorem und_20 : TT.und 20 = some (Go.TypeDesc.interface #[]) := by kernel_rfl
theorem size_20 : TT.size 20 = some 1 := by kernel_rfl
@[simp] theorem agg_20 : aggN TT 20 = some none := by kernel_rfl
theorem bytes_20 : TT.bytes 20 = some 16 := by kernel_rfl
theorem zero_20 : TT.zero 20 = some .nilIface := by kernel_rfl
theorem und_21 : TT.und 21 = some (Go.TypeDesc.int Go.IntKind.i32) := by kernel_rfl
theorem size_21 : TT.size 21 = some 1 := by kernel_rfl
@[simp] theorem agg_21 : aggN TT 21 = some none := by kernel_rfl
theorem bytes_21 : TT.bytes 21 = some 4 := by kernel_rfl
theorem zero_21 : TT.zero 21 = some (.int .i32 0) := by kernel_rfl
theorem und_22 : TT.und 22 = some (Go.TypeDesc.slice 82) := by kernel_rfl
theorem size_22 : TT.size 22 = some 1 := by kernel_rfl
@[simp] theorem agg_22 : aggN TT 22 = some none := by kernel_rfl
theorem bytes_22 : TT.bytes 22 = some 24 := by kernel_rfl
theorem zero_22 : TT.zero 22 = some (.slice none 0 0) := by kernel_rfl
theorem und_23 : TT.und 23 = some (Go.TypeDesc.struct #[{ name := "Units", type := 3, offset := 0, embedded := Bool.false, tag := "", pkgPath := "", byteOffset := 0 }, { name := "Flows", type := 22, offset := 1, embedded := Bool.false, tag := "", pkgPath := "", byteOffset := 8 }]) := by kernel_rfl
theorem size_23 : TT.size 23 = some 2 := by kernel_rfl
@[simp] theorem agg_23 : aggN TT 23 = some (some 2) := by kernel_rfl
theorem bytes_23 : TT.bytes 23 = some 32 := by kernel_rfl
theorem zero_23 : TT.zero 23 = some (.agg #[(.int .i64 0), (.slice none 0 0)]) := by kernel_rfl
theorem und_24 : TT.und 24 = some (Go.TypeDesc.struct #[{ name := "Units", type := 3, offset := 0, embedded := Bool.false, tag := "", pkgPath := "", byteOffset := 0 }, { name := "Flows", type := 22, offset := 1, embedded := Bool.false, tag := "", pkgPath := "", byteOffset := 8 }]) := by kernel_rfl
theorem size_24 : TT.size 24 = some 2 := by kernel_rfl
@[simp] theorem agg_24 : aggN TT 24 = some (some 2) := by kernel_rfl
theorem bytes_24 : TT.bytes 24 = some 32 := by kernel_rfl
theorem zero_24 : TT.zero 24 = some (.agg #[(.int .i64 0), (.slice none 0 0)]) := by kernel_rfl
theorem und_25 : TT.und 25 = some (Go.TypeDesc.slice 3) := by kernel_rfl
theorem size_25 : TT.size 25 = some 1 := by kernel_rfl
@[simp] theorem agg_25 : aggN TT 25 = some none := by kernel_rfl
theorem bytes_25 : TT.bytes 25 = some 24 := by kernel_rfl
theorem zero_25 : TT.zero 25 = some (.slice none 0 0) := by kernel_rfl
theorem und_26 : TT.und 26 = some (Go.TypeDesc.func #[] #[4] Bool.false) := by kernel_rfl
theorem size_26 : TT.size 26 = some 1 := by kernel_rfl
@[simp] theorem agg_26 : aggN TT 26 = some none := by kernel_rfl
theorem bytes_26 : TT.bytes 26 = some 8 := by kernel_rfl
theorem zero_26 : TT.zero 26 = some .nilFunc := by kernel_rfl
theorem und_27 : TT.und 27 = some (Go.TypeDesc.int Go.IntKind.i64) := by kernel_rfl
theorem size_27 : TT.size 27 = some 1 := by kernel_rfl
@[simp] theorem agg_27 : aggN TT 27 = some none := by kernel_rfl
theorem bytes_27 : TT.bytes 27 = some 8 := by kernel_rfl
theorem zero_27 : TT.zero 27 = some (.int .i64 0) := by kernel_rfl
theorem und_28 : TT.und 28 = some (Go.TypeDesc.tuple #[25, 27]) := by kernel_rfl
theorem size_28 : TT.size 28 = some 1 := by kernel_rfl
@[simp] theorem agg_28 : aggN TT 28 = some none := by kernel_rfl
theorem bytes_28 : TT.bytes 28 = some 0 := by kernel_rfl
theorem und_29 : TT.und 29 = some (Go.TypeDesc.func #[24] #[25, 27] Bool.false) := by kernel_rfl
theorem size_29 : TT.size 29 = some 1 := by kernel_rfl
@[simp] theorem agg_29 : aggN TT 29 = some none := by kernel_rfl
theorem bytes_29 : TT.bytes 29 = some 8 := by kernel_rfl
theorem zero_29 : TT.zero 29 = some .nilFunc := by kernel_rfl
theorem und_30 : TT.und 30 = some (Go.TypeDesc.func #[33] #[25, 27] Bool.false) := by kernel_rfl
theorem size_30 : TT.size 30 = some 1 := by kernel_rfl
@[simp] theorem agg_30 : aggN TT 30 = some none := by kernel_rfl
theorem bytes_30 : TT.bytes 30 = some 8 := by kernel_rfl
theorem zero_30 : TT.zero 30 = some .nilFunc := by kernel_rfl
theorem und_31 : TT.und 31 = some (Go.TypeDesc.slice 96) := by kernel_rfl
theorem size_31 : TT.size 31 = some 1 := by kernel_rfl
@[simp] theorem agg_31 : aggN TT 31 = some none := by kernel_rfl
theorem bytes_31 : TT.bytes 31 = some 24 := by kernel_rfl
theorem zero_31 : TT.zero 31 = some (.slice none 0 0) := by kernel_rfl
theorem und_32 : TT.und 32 = some (Go.TypeDesc.struct #[{ name := "Units", type := 3, offset := 0, embedded := Bool.false, tag := "", pkgPath := "", byteOffset := 0 }, { name := "Flows", type := 31, offset := 1, embedded := Bool.false, tag := "", pkgPath := "", byteOffset := 8 }]) := by kernel_rfl
theorem size_32 : TT.size 32 = some 2 := by kernel_rfl
@[simp] theorem agg_32 : aggN TT 32 = some (some 2) := by kernel_rfl
theorem bytes_32 : TT.bytes 32 = some 32 := by kernel_rfl
theorem zero_32 : TT.zero 32 = some (.agg #[(.int .i64 0), (.slice none 0 0)]) := by kernel_rfl
theorem und_33 : TT.und 33 = some (Go.TypeDesc.struct #[{ name := "Units", type := 3, offset := 0, embedded := Bool.false, tag := "", pkgPath := "", byteOffset := 0 }, { name := "Flows", type := 31, offset := 1, embedded := Bool.false, tag := "", pkgPath := "", byteOffset := 8 }]) := by kernel_rfl
theorem size_33 : TT.size 33 = some 2 := by kernel_rfl
@[simp] theorem agg_33 : aggN TT 33 = some (some 2) := by kernel_rfl
theorem bytes_33 : TT.bytes 33 = some 32 := by kernel_rfl
theorem zero_33 : TT.zero 33 = some (.agg #[(.int .i64 0), (.slice none 0 0)]) := by kernel_rfl
theorem und_34 : TT.und 34 = some (Go.TypeDesc.func #[24] #[33] Bool.false) := by kernel_rfl
theorem size_34 : TT.size 34 = some 1 := by kernel_rfl
@[simp] theorem agg_34 : aggN TT 34 = some none := by kernel_rfl
theorem bytes_34 : TT.bytes 34 = some 8 := by kernel_rfl
theorem zero_34 : TT.zero 34 = some .nilFunc := by kernel_rfl
theorem und_35 : TT.und 35 = some (Go.TypeDesc.array 4 3) := by kernel_rfl
theorem size_35 : TT.size 35 = some 4 := by kernel_rfl
@[simp] theorem agg_35 : aggN TT 35 = some (some 4) := by kernel_rfl
theorem bytes_35 : TT.bytes 35 = some 32 := by kernel_rfl
theorem zero_35 : TT.zero 35 = some (.agg #[(.int .i64 0), (.int .i64 0), (.int .i64 0), (.int .i64 0)]) := by kernel_rfl
theorem und_36 : TT.und 36 = some (Go.TypeDesc.array 4 3) := by kernel_rfl
theorem size_36 : TT.size 36 = some 4 := by kernel_rfl
@[simp] theorem agg_36 : aggN TT 36 = some (some 4) := by kernel_rfl
theorem bytes_36 : TT.bytes 36 = some 32 := by kernel_rfl
theorem zero_36 : TT.zero 36 = some (.agg #[(.int .i64 0), (.int .i64 0), (.int .i64 0), (.int .i64 0)]) := by kernel_rfl
theorem und_37 : TT.und 37 = some (Go.TypeDesc.tuple #[36, 27]) := by kernel_rfl
theorem size_37 : TT.size 37 = some 1 := by kernel_rfl
@[simp] theorem agg_37 : aggN TT 37 = some none := by kernel_rfl
theorem bytes_37 : TT.bytes 37 = some 0 := by kernel_rfl
theorem und_38 : TT.und 38 = some (Go.TypeDesc.func #[24, 25] #[36, 27] Bool.false) := by kernel_rfl
theorem size_38 : TT.size 38 = some 1 := by kernel_rfl
@[simp] theorem agg_38 : aggN TT 38 = some none := by kernel_rfl
theorem bytes_38 : TT.bytes 38 = some 8 := by kernel_rfl
theorem zero_38 : TT.zero 38 = some .nilFunc := by kernel_rfl
theorem und_39 : TT.und 39 = some (Go.TypeDesc.array 4 3) := by kernel_rfl
theorem size_39 : TT.size 39 = some 4 := by kernel_rfl
@[simp] theorem agg_39 : aggN TT 39 = some (some 4) := by kernel_rfl
theorem bytes_39 : TT.bytes 39 = some 32 := by kernel_rfl
theorem zero_39 : TT.zero 39 = some (.agg #[(.int .i64 0), (.int .i64 0), (.int .i64 0), (.int .i64 0)]) := by kernel_rfl
theorem und_40 : TT.und 40 = some (Go.TypeDesc.tuple #[39, 27]) := by kernel_rfl
theorem size_40 : TT.size 40 = some 1 := by kernel_rfl
@[simp] theorem agg_40 : aggN TT 40 = some none := by kernel_rfl
theorem bytes_40 : TT.bytes 40 = some 0 := by kernel_rfl
theorem und_41 : TT.und 41 = some (Go.TypeDesc.func #[33, 25] #[39, 27] Bool.false) := by kernel_rfl
theorem size_41 : TT.size 41 = some 1 := by kernel_rfl
@[simp] theorem agg_41 : aggN TT 41 = some none := by kernel_rfl
theorem bytes_41 : TT.bytes 41 = some 8 := by kernel_rfl
theorem zero_41 : TT.zero 41 = some .nilFunc := by kernel_rfl
theorem und_42 : TT.und 42 = some (Go.TypeDesc.func #[9] #[4] Bool.false) := by kernel_rfl
theorem size_42 : TT.size 42 = some 1 := by kernel_rfl
@[simp] theorem agg_42 : aggN TT 42 = some none := by kernel_rfl
theorem bytes_42 : TT.bytes 42 = some 8 := by kernel_rfl
theorem zero_42 : TT.zero 42 = some .nilFunc := by kernel_rfl
theorem und_43 : TT.und 43 = some (Go.TypeDesc.func #[24] #[27] Bool.false) := by kernel_rfl
theorem size_43 : TT.size 43 = some 1 := by kernel_rfl
@[simp] theorem agg_43 : aggN TT 43 = some none := by kernel_rfl
theorem bytes_43 : TT.bytes 43 = some 8 := by kernel_rfl
theorem zero_43 : TT.zero 43 = some .nilFunc := by kernel_rfl
theorem und_44 : TT.und 44 = some (Go.TypeDesc.func #[33] #[27] Bool.false) := by kernel_rfl
theorem size_44 : TT.size 44 = some 1 := by kernel_rfl
@[simp] theorem agg_44 : aggN TT 44 = some none := by kernel_rfl
theorem bytes_44 : TT.bytes 44 = some 8 := by kernel_rfl
theorem zero_44 : TT.zero 44 = some .nilFunc := by kernel_rfl
theorem und_45 : TT.und 45 = some (Go.TypeDesc.func #[25, 25] #[4] Bool.false) := by kernel_rfl
theorem size_45 : TT.size 45 = some 1 := by kernel_rfl
@[simp] theorem agg_45 : aggN TT 45 = some none := by kernel_rfl
theorem bytes_45 : TT.bytes 45 = some 8 := by kernel_rfl
theorem zero_45 : TT.zero 45 = some .nilFunc := by kernel_rfl
theorem und_46 : TT.und 46 = some (Go.TypeDesc.func #[9, 24, 25] #[4] Bool.false) := by kernel_rfl
theorem size_46 : TT.size 46 = some 1 := by kernel_rfl
@[simp] theorem agg_46 : aggN TT 46 = some none := by kernel_rfl
theorem bytes_46 : TT.bytes 46 = some 8 := by kernel_rfl
theorem zero_46 : TT.zero 46 = some .nilFunc := by kernel_rfl
theorem und_47 : TT.und 47 = some (Go.TypeDesc.slice 54) := by kernel_rfl
theorem size_47 : TT.size 47 = some 1 := by kernel_rfl
@[simp] theorem agg_47 : aggN TT 47 = some none := by kernel_rfl
theorem bytes_47 : TT.bytes 47 = some 24 := by kernel_rfl
theorem zero_47 : TT.zero 47 = some (.slice none 0 0) := by kernel_rfl
theorem und_48 : TT.und 48 = some (Go.TypeDesc.tuple #[47, 27]) := by kernel_rfl
theorem size_48 : TT.size 48 = some 1 := by kernel_rfl
@[simp] theorem agg_48 : aggN TT 48 = some none := by kernel_rfl
theorem bytes_48 : TT.bytes 48 = some 0 := by kernel_rfl
theorem und_49 : TT.und 49 = some (Go.TypeDesc.func #[24] #[47, 27] Bool.false) := by kernel_rfl
theorem size_49 : TT.size 49 = some 1 := by kernel_rfl
@[simp] theorem agg_49 : aggN TT 49 = some none := by kernel_rfl
theorem bytes_49 : TT.bytes 49 = some 8 := by kernel_rfl
theorem zero_49 : TT.zero 49 = some .nilFunc := by kernel_rfl
theorem und_50 : TT.und 50 = some (Go.TypeDesc.slice 56) := by kernel_rfl
theorem size_50 : TT.size 50 = some 1 := by kernel_rfl
@[simp] theorem agg_50 : aggN TT 50 = some none := by kernel_rfl
theorem bytes_50 : TT.bytes 50 = some 24 := by kernel_rfl
theorem zero_50 : TT.zero 50 = some (.slice none 0 0) := by kernel_rfl
theorem und_51 : TT.und 51 = some (Go.TypeDesc.tuple #[50, 27]) := by kernel_rfl
theorem size_51 : TT.size 51 = some 1 := by kernel_rfl
@[simp] theorem agg_51 : aggN TT 51 = some none := by kernel_rfl
theorem bytes_51 : TT.bytes 51 = some 0 := by kernel_rfl
theorem und_52 : TT.und 52 = some (Go.TypeDesc.func #[33] #[50, 27] Bool.false) := by kernel_rfl
theorem size_52 : TT.size 52 = some 1 := by kernel_rfl
@[simp] theorem agg_52 : aggN TT 52 = some none := by kernel_rfl
theorem bytes_52 : TT.bytes 52 = some 8 := by kernel_rfl
theorem zero_52 : TT.zero 52 = some .nilFunc := by kernel_rfl
theorem und_53 : TT.und 53 = some (Go.TypeDesc.struct #[{ name := "State", type := 3, offset := 0, embedded := Bool.false, tag := "", pkgPath := "", byteOffset := 0 }, { name := "Mass", type := 36, offset := 1, embedded := Bool.false, tag := "", pkgPath := "", byteOffset := 8 }]) := by kernel_rfl
theorem size_53 : TT.size 53 = some 5 := by kernel_rfl
@[simp] theorem agg_53 : aggN TT 53 = some (some 5) := by kernel_rfl
theorem bytes_53 : TT.bytes 53 = some 40 := by kernel_rfl
theorem zero_53 : TT.zero 53 = some (.agg #[(.int .i64 0), (.int .i64 0), (.int .i64 0), (.int .i64 0), (.int .i64 0)]) := by kernel_rfl
theorem und_54 : TT.und 54 = some (Go.TypeDesc.struct #[{ name := "State", type := 3, offset := 0, embedded := Bool.false, tag := "", pkgPath := "", byteOffset := 0 }, { name := "Mass", type := 36, offset := 1, embedded := Bool.false, tag := "", pkgPath := "", byteOffset := 8 }]) := by kernel_rfl
theorem size_54 : TT.size 54 = some 5 := by kernel_rfl
@[simp] theorem agg_54 : aggN TT 54 = some (some 5) := by kernel_rfl
theorem bytes_54 : TT.bytes 54 = some 40 := by kernel_rfl
theorem zero_54 : TT.zero 54 = some (.agg #[(.int .i64 0), (.int .i64 0), (.int .i64 0), (.int .i64 0), (.int .i64 0)]) := by kernel_rfl
theorem und_55 : TT.und 55 = some (Go.TypeDesc.struct #[{ name := "State", type := 3, offset := 0, embedded := Bool.false, tag := "", pkgPath := "", byteOffset := 0 }, { name := "Mass", type := 39, offset := 1, embedded := Bool.false, tag := "", pkgPath := "", byteOffset := 8 }]) := by kernel_rfl
theorem size_55 : TT.size 55 = some 5 := by kernel_rfl
@[simp] theorem agg_55 : aggN TT 55 = some (some 5) := by kernel_rfl
theorem bytes_55 : TT.bytes 55 = some 40 := by kernel_rfl
theorem zero_55 : TT.zero 55 = some (.agg #[(.int .i64 0), (.int .i64 0), (.int .i64 0), (.int .i64 0), (.int .i64 0)]) := by kernel_rfl
theorem und_56 : TT.und 56 = some (Go.TypeDesc.struct #[{ name := "State", type := 3, offset := 0, embedded := Bool.false, tag := "", pkgPath := "", byteOffset := 0 }, { name := "Mass", type := 39, offset := 1, embedded := Bool.false, tag := "", pkgPath := "", byteOffset := 8 }]) := by kernel_rfl
theorem size_56 : TT.size 56 = some 5 := by kernel_rfl
@[simp] theorem agg_56 : aggN TT 56 = some (some 5) := by kernel_rfl
theorem bytes_56 : TT.bytes 56 = some 40 := by kernel_rfl
theorem zero_56 : TT.zero 56 = some (.agg #[(.int .i64 0), (.int .i64 0), (.int .i64 0), (.int .i64 0), (.int .i64 0)]) := by kernel_rfl
theorem und_57 : TT.und 57 = some (Go.TypeDesc.func #[24] #[4] Bool.false) := by kernel_rfl
theorem size_57 : TT.size 57 = some 1 := by kernel_rfl
@[simp] theorem agg_57 : aggN TT 57 = some none := by kernel_rfl
theorem bytes_57 : TT.bytes 57 = some 8 := by kernel_rfl
theorem zero_57 : TT.zero 57 = some .nilFunc := by kernel_rfl
theorem und_58 : TT.und 58 = some (Go.TypeDesc.slice 36) := by kernel_rfl
theorem size_58 : TT.size 58 = some 1 := by kernel_rfl
@[simp] theorem agg_58 : aggN TT 58 = some none := by kernel_rfl
theorem bytes_58 : TT.bytes 58 = some 24 := by kernel_rfl
theorem zero_58 : TT.zero 58 = some (.slice none 0 0) := by kernel_rfl
theorem und_59 : TT.und 59 = some (Go.TypeDesc.tuple #[58, 27]) := by kernel_rfl
theorem size_59 : TT.size 59 = some 1 := by kernel_rfl
@[simp] theorem agg_59 : aggN TT 59 = some none := by kernel_rfl
theorem bytes_59 : TT.bytes 59 = some 0 := by kernel_rfl
theorem und_60 : TT.und 60 = some (Go.TypeDesc.func #[24, 3, 36] #[58, 27] Bool.false) := by kernel_rfl
theorem size_60 : TT.size 60 = some 1 := by kernel_rfl
@[simp] theorem agg_60 : aggN TT 60 = some none := by kernel_rfl
theorem bytes_60 : TT.bytes 60 = some 8 := by kernel_rfl
theorem zero_60 : TT.zero 60 = some .nilFunc := by kernel_rfl
theorem und_61 : TT.und 61 = some (Go.TypeDesc.slice 39) := by kernel_rfl
theorem size_61 : TT.size 61 = some 1 := by kernel_rfl
@[simp] theorem agg_61 : aggN TT 61 = some none := by kernel_rfl
theorem bytes_61 : TT.bytes 61 = some 24 := by kernel_rfl
theorem zero_61 : TT.zero 61 = some (.slice none 0 0) := by kernel_rfl
theorem und_62 : TT.und 62 = some (Go.TypeDesc.tuple #[61, 27]) := by kernel_rfl
theorem size_62 : TT.size 62 = some 1 := by kernel_rfl
@[simp] theorem agg_62 : aggN TT 62 = some none := by kernel_rfl
theorem bytes_62 : TT.bytes 62 = some 0 := by kernel_rfl
theorem und_63 : TT.und 63 = some (Go.TypeDesc.func #[33, 3, 39] #[61, 27] Bool.false) := by kernel_rfl
theorem size_63 : TT.size 63 = some 1 := by kernel_rfl
@[simp] theorem agg_63 : aggN TT 63 = some none := by kernel_rfl
theorem bytes_63 : TT.bytes 63 = some 8 := by kernel_rfl
theorem zero_63 : TT.zero 63 = some .nilFunc := by kernel_rfl
theorem und_64 : TT.und 64 = some (Go.TypeDesc.tuple #[3, 27]) := by kernel_rfl
theorem size_64 : TT.size 64 = some 1 := by kernel_rfl
@[simp] theorem agg_64 : aggN TT 64 = some none := by kernel_rfl
theorem bytes_64 : TT.bytes 64 = some 0 := by kernel_rfl
theorem und_65 : TT.und 65 = some (Go.TypeDesc.func #[33, 61] #[3, 27] Bool.false) := by kernel_rfl
theorem size_65 : TT.size 65 = some 1 := by kernel_rfl
@[simp] theorem agg_65 : aggN TT 65 = some none := by kernel_rfl
theorem bytes_65 : TT.bytes 65 = some 8 := by kernel_rfl
theorem zero_65 : TT.zero 65 = some .nilFunc := by kernel_rfl
theorem und_66 : TT.und 66 = some (Go.TypeDesc.func #[24, 58] #[3, 27] Bool.false) := by kernel_rfl
theorem size_66 : TT.size 66 = some 1 := by kernel_rfl
@[simp] theorem agg_66 : aggN TT 66 = some none := by kernel_rfl
theorem bytes_66 : TT.bytes 66 = some 8 := by kernel_rfl
theorem zero_66 : TT.zero 66 = some .nilFunc := by kernel_rfl
theorem und_67 : TT.und 67 = some (Go.TypeDesc.func #[24, 3, 36, 58] #[4] Bool.false) := by kernel_rfl
theorem size_67 : TT.size 67 = some 1 := by kernel_rfl
@[simp] theorem agg_67 : aggN TT 67 = some none := by kernel_rfl
theorem bytes_67 : TT.bytes 67 = some 8 := by kernel_rfl
theorem zero_67 : TT.zero 67 = some .nilFunc := by kernel_rfl
theorem und_68 : TT.und 68 = some (Go.TypeDesc.tuple #[25, 3, 27]) := by kernel_rfl
theorem size_68 : TT.size 68 = some 1 := by kernel_rfl
@[simp] theorem agg_68 : aggN TT 68 = some none := by kernel_rfl
theorem bytes_68 : TT.bytes 68 = some 0 := by kernel_rfl
theorem und_69 : TT.und 69 = some (Go.TypeDesc.func #[24] #[25, 3, 27] Bool.false) := by kernel_rfl
theorem size_69 : TT.size 69 = some 1 := by kernel_rfl
@[simp] theorem agg_69 : aggN TT 69 = some none := by kernel_rfl
theorem bytes_69 : TT.bytes 69 = some 8 := by kernel_rfl
theorem zero_69 : TT.zero 69 = some .nilFunc := by kernel_rfl
theorem und_70 : TT.und 70 = some (Go.TypeDesc.func #[33] #[25, 3, 27] Bool.false) := by kernel_rfl
theorem size_70 : TT.size 70 = some 1 := by kernel_rfl
@[simp] theorem agg_70 : aggN TT 70 = some none := by kernel_rfl
theorem bytes_70 : TT.bytes 70 = some 8 := by kernel_rfl
theorem zero_70 : TT.zero 70 = some .nilFunc := by kernel_rfl
theorem und_71 : TT.und 71 = some (Go.TypeDesc.func #[33, 25, 3] #[27] Bool.false) := by kernel_rfl
theorem size_71 : TT.size 71 = some 1 := by kernel_rfl
@[simp] theorem agg_71 : aggN TT 71 = some none := by kernel_rfl
theorem bytes_71 : TT.bytes 71 = some 8 := by kernel_rfl
theorem zero_71 : TT.zero 71 = some .nilFunc := by kernel_rfl
theorem und_72 : TT.und 72 = some (Go.TypeDesc.func #[24, 25, 3] #[27] Bool.false) := by kernel_rfl
theorem size_72 : TT.size 72 = some 1 := by kernel_rfl
@[simp] theorem agg_72 : aggN TT 72 = some none := by kernel_rfl
theorem bytes_72 : TT.bytes 72 = some 8 := by kernel_rfl
theorem zero_72 : TT.zero 72 = some .nilFunc := by kernel_rfl
theorem und_73 : TT.und 73 = some (Go.TypeDesc.func #[24, 25, 3] #[4] Bool.false) := by kernel_rfl
theorem size_73 : TT.size 73 = some 1 := by kernel_rfl
@[simp] theorem agg_73 : aggN TT 73 = some none := by kernel_rfl
theorem bytes_73 : TT.bytes 73 = some 8 := by kernel_rfl
theorem zero_73 : TT.zero 73 = some .nilFunc := by kernel_rfl
theorem und_74 : TT.und 74 = some (Go.TypeDesc.slice 122) := by kernel_rfl
theorem size_74 : TT.size 74 = some 1 := by kernel_rfl
@[simp] theorem agg_74 : aggN TT 74 = some none := by kernel_rfl
theorem bytes_74 : TT.bytes 74 = some 24 := by kernel_rfl
theorem zero_74 : TT.zero 74 = some (.slice none 0 0) := by kernel_rfl
theorem und_75 : TT.und 75 = some (Go.TypeDesc.slice 5) := by kernel_rfl
theorem size_75 : TT.size 75 = some 1 := by kernel_rfl
@[simp] theorem agg_75 : aggN TT 75 = some none := by kernel_rfl
theorem bytes_75 : TT.bytes 75 = some 24 := by kernel_rfl
theorem zero_75 : TT.zero 75 = some (.slice none 0 0) := by kernel_rfl
theorem und_76 : TT.und 76 = some (Go.TypeDesc.int Go.IntKind.u16) := by kernel_rfl
theorem size_76 : TT.size 76 = some 1 := by kernel_rfl
@[simp] theorem agg_76 : aggN TT 76 = some none := by kernel_rfl
theorem bytes_76 : TT.bytes 76 = some 2 := by kernel_rfl
theorem zero_76 : TT.zero 76 = some (.int .u16 0) := by kernel_rfl
theorem und_77 : TT.und 77 = some (Go.TypeDesc.struct #[{ name := "Units", type := 5, offset := 0, embedded := Bool.false, tag := "", pkgPath := "", byteOffset := 0 }, { name := "Ends", type := 74, offset := 1, embedded := Bool.false, tag := "", pkgPath := "", byteOffset := 8 }, { name := "Mass", type := 75, offset := 2, embedded := Bool.false, tag := "", pkgPath := "", byteOffset := 32 }, { name := "Known", type := 76, offset := 3, embedded := Bool.false, tag := "", pkgPath := "", byteOffset := 56 }]) := by kernel_rfl
theorem size_77 : TT.size 77 = some 4 := by kernel_rfl
@[simp] theorem agg_77 : aggN TT 77 = some (some 4) := by kernel_rfl
theorem bytes_77 : TT.bytes 77 = some 64 := by kernel_rfl
theorem zero_77 : TT.zero 77 = some (.agg #[(.int .u8 0), (.slice none 0 0), (.slice none 0 0), (.int .u16 0)]) := by kernel_rfl
theorem und_78 : TT.und 78 = some (Go.TypeDesc.struct #[{ name := "Units", type := 5, offset := 0, embedded := Bool.false, tag := "", pkgPath := "", byteOffset := 0 }, { name := "Ends", type := 74, offset := 1, embedded := Bool.false, tag := "", pkgPath := "", byteOffset := 8 }, { name := "Mass", type := 75, offset := 2, embedded := Bool.false, tag := "", pkgPath := "", byteOffset := 32 }, { name := "Known", type := 76, offset := 3, embedded := Bool.false, tag := "", pkgPath := "", byteOffset := 56 }]) := by kernel_rfl
theorem size_78 : TT.size 78 = some 4 := by kernel_rfl
@[simp] theorem agg_78 : aggN TT 78 = some (some 4) := by kernel_rfl
theorem bytes_78 : TT.bytes 78 = some 64 := by kernel_rfl
theorem zero_78 : TT.zero 78 = some (.agg #[(.int .u8 0), (.slice none 0 0), (.slice none 0 0), (.int .u16 0)]) := by kernel_rfl
theorem und_79 : TT.und 79 = some (Go.TypeDesc.tuple #[24, 58]) := by kernel_rfl
theorem size_79 : TT.size 79 = some 1 := by kernel_rfl
@[simp] theorem agg_79 : aggN TT 79 = some none := by kernel_rfl
theorem bytes_79 : TT.bytes 79 = some 0 := by kernel_rfl
theorem und_80 : TT.und 80 = some (Go.TypeDesc.func #[] #[24, 58] Bool.false) := by kernel_rfl
theorem size_80 : TT.size 80 = some 1 := by kernel_rfl
@[simp] theorem agg_80 : aggN TT 80 = some none := by kernel_rfl
theorem bytes_80 : TT.bytes 80 = some 8 := by kernel_rfl
theorem zero_80 : TT.zero 80 = some .nilFunc := by kernel_rfl
theorem und_81 : TT.und 81 = some (Go.TypeDesc.struct #[{ name := "From", type := 3, offset := 0, embedded := Bool.false, tag := "", pkgPath := "", byteOffset := 0 }, { name := "To", type := 3, offset := 1, embedded := Bool.false, tag := "", pkgPath := "", byteOffset := 8 }, { name := "Measured", type := 4, offset := 2, embedded := Bool.false, tag := "", pkgPath := "", byteOffset := 16 }, { name := "Mass", type := 36, offset := 3, embedded := Bool.false, tag := "", pkgPath := "", byteOffset := 24 }]) := by kernel_rfl
theorem size_81 : TT.size 81 = some 7 := by kernel_rfl
@[simp] theorem agg_81 : aggN TT 81 = some (some 7) := by kernel_rfl
theorem bytes_81 : TT.bytes 81 = some 56 := by kernel_rfl
theorem zero_81 : TT.zero 81 = some (.agg #[(.int .i64 0), (.int .i64 0), (.bool false), (.int .i64 0), (.int .i64 0), (.int .i64 0), (.int .i64 0)]) := by kernel_rfl
theorem und_82 : TT.und 82 = some (Go.TypeDesc.struct #[{ name := "From", type := 3, offset := 0, embedded := Bool.false, tag := "", pkgPath := "", byteOffset := 0 }, { name := "To", type := 3, offset := 1, embedded := Bool.false, tag := "", pkgPath := "", byteOffset := 8 }, { name := "Measured", type := 4, offset := 2, embedded := Bool.false, tag := "", pkgPath := "", byteOffset := 16 }, { name := "Mass", type := 36, offset := 3, embedded := Bool.false, tag := "", pkgPath := "", byteOffset := 24 }]) := by kernel_rfl
theorem size_82 : TT.size 82 = some 7 := by kernel_rfl
@[simp] theorem agg_82 : aggN TT 82 = some (some 7) := by kernel_rfl
theorem bytes_82 : TT.bytes 82 = some 56 := by kernel_rfl
theorem zero_82 : TT.zero 82 = some (.agg #[(.int .i64 0), (.int .i64 0), (.bool false), (.int .i64 0), (.int .i64 0), (.int .i64 0), (.int .i64 0)]) := by kernel_rfl
theorem und_83 : TT.und 83 = some (Go.TypeDesc.func #[24, 3, 3, 3] #[4] Bool.false) := by kernel_rfl
theorem size_83 : TT.size 83 = some 1 := by kernel_rfl
@[simp] theorem agg_83 : aggN TT 83 = some none := by kernel_rfl
theorem bytes_83 : TT.bytes 83 = some 8 := by kernel_rfl
theorem zero_83 : TT.zero 83 = some .nilFunc := by kernel_rfl
theorem und_84 : TT.und 84 = some (Go.TypeDesc.func #[78, 5, 5] #[4] Bool.false) := by kernel_rfl
theorem size_84 : TT.size 84 = some 1 := by kernel_rfl
@[simp] theorem agg_84 : aggN TT 84 = some none := by kernel_rfl
theorem bytes_84 : TT.bytes 84 = some 8 := by kernel_rfl
theorem zero_84 : TT.zero 84 = some .nilFunc := by kernel_rfl
theorem und_85 : TT.und 85 = some (Go.TypeDesc.func #[78, 75, 5, 5] #[4] Bool.false) := by kernel_rfl
theorem size_85 : TT.size 85 = some 1 := by kernel_rfl
@[simp] theorem agg_85 : aggN TT 85 = some none := by kernel_rfl
theorem bytes_85 : TT.bytes 85 = some 8 := by kernel_rfl
theorem zero_85 : TT.zero 85 = some .nilFunc := by kernel_rfl
theorem und_86 : TT.und 86 = some (Go.TypeDesc.array 4 5) := by kernel_rfl
theorem size_86 : TT.size 86 = some 4 := by kernel_rfl
@[simp] theorem agg_86 : aggN TT 86 = some (some 4) := by kernel_rfl
theorem bytes_86 : TT.bytes 86 = some 4 := by kernel_rfl
theorem zero_86 : TT.zero 86 = some (.agg #[(.int .u8 0), (.int .u8 0), (.int .u8 0), (.int .u8 0)]) := by kernel_rfl
theorem und_87 : TT.und 87 = some (Go.TypeDesc.func #[78, 5, 86] #[4] Bool.false) := by kernel_rfl
theorem size_87 : TT.size 87 = some 1 := by kernel_rfl
@[simp] theorem agg_87 : aggN TT 87 = some none := by kernel_rfl
theorem bytes_87 : TT.bytes 87 = some 8 := by kernel_rfl
theorem zero_87 : TT.zero 87 = some .nilFunc := by kernel_rfl
theorem und_88 : TT.und 88 = some (Go.TypeDesc.func #[3] #[3] Bool.false) := by kernel_rfl
theorem size_88 : TT.size 88 = some 1 := by kernel_rfl
@[simp] theorem agg_88 : aggN TT 88 = some none := by kernel_rfl
theorem bytes_88 : TT.bytes 88 = some 8 := by kernel_rfl
theorem zero_88 : TT.zero 88 = some .nilFunc := by kernel_rfl
theorem und_89 : TT.und 89 = some (Go.TypeDesc.func #[78, 5, 5, 5] #[4] Bool.false) := by kernel_rfl
theorem size_89 : TT.size 89 = some 1 := by kernel_rfl
@[simp] theorem agg_89 : aggN TT 89 = some none := by kernel_rfl
theorem bytes_89 : TT.bytes 89 = some 8 := by kernel_rfl
theorem zero_89 : TT.zero 89 = some .nilFunc := by kernel_rfl
theorem und_90 : TT.und 90 = some (Go.TypeDesc.func #[] #[24] Bool.false) := by kernel_rfl
theorem size_90 : TT.size 90 = some 1 := by kernel_rfl
@[simp] theorem agg_90 : aggN TT 90 = some none := by kernel_rfl
theorem bytes_90 : TT.bytes 90 = some 8 := by kernel_rfl
theorem zero_90 : TT.zero 90 = some .nilFunc := by kernel_rfl
theorem und_91 : TT.und 91 = some (Go.TypeDesc.func #[123] #[] Bool.false) := by kernel_rfl
theorem size_91 : TT.size 91 = some 1 := by kernel_rfl
@[simp] theorem agg_91 : aggN TT 91 = some none := by kernel_rfl
theorem bytes_91 : TT.bytes 91 = some 8 := by kernel_rfl
theorem zero_91 : TT.zero 91 = some .nilFunc := by kernel_rfl
theorem und_92 : TT.und 92 = some (Go.TypeDesc.func #[123] #[] Bool.false) := by kernel_rfl
theorem size_92 : TT.size 92 = some 1 := by kernel_rfl
@[simp] theorem agg_92 : aggN TT 92 = some none := by kernel_rfl
theorem bytes_92 : TT.bytes 92 = some 8 := by kernel_rfl
theorem zero_92 : TT.zero 92 = some .nilFunc := by kernel_rfl
theorem und_93 : TT.und 93 = some (Go.TypeDesc.func #[24] #[92] Bool.false) := by kernel_rfl
theorem size_93 : TT.size 93 = some 1 := by kernel_rfl
@[simp] theorem agg_93 : aggN TT 93 = some none := by kernel_rfl
theorem bytes_93 : TT.bytes 93 = some 8 := by kernel_rfl
theorem zero_93 : TT.zero 93 = some .nilFunc := by kernel_rfl
theorem und_94 : TT.und 94 = some (Go.TypeDesc.func #[33, 3] #[25] Bool.false) := by kernel_rfl
theorem size_94 : TT.size 94 = some 1 := by kernel_rfl
@[simp] theorem agg_94 : aggN TT 94 = some none := by kernel_rfl
theorem bytes_94 : TT.bytes 94 = some 8 := by kernel_rfl
theorem zero_94 : TT.zero 94 = some .nilFunc := by kernel_rfl
theorem und_95 : TT.und 95 = some (Go.TypeDesc.struct #[{ name := "From", type := 3, offset := 0, embedded := Bool.false, tag := "", pkgPath := "", byteOffset := 0 }, { name := "To", type := 3, offset := 1, embedded := Bool.false, tag := "", pkgPath := "", byteOffset := 8 }, { name := "Measured", type := 4, offset := 2, embedded := Bool.false, tag := "", pkgPath := "", byteOffset := 16 }, { name := "Mass", type := 39, offset := 3, embedded := Bool.false, tag := "", pkgPath := "", byteOffset := 24 }]) := by kernel_rfl
theorem size_95 : TT.size 95 = some 7 := by kernel_rfl
@[simp] theorem agg_95 : aggN TT 95 = some (some 7) := by kernel_rfl
theorem bytes_95 : TT.bytes 95 = some 56 := by kernel_rfl
theorem zero_95 : TT.zero 95 = some (.agg #[(.int .i64 0), (.int .i64 0), (.bool false), (.int .i64 0), (.int .i64 0), (.int .i64 0), (.int .i64 0)]) := by kernel_rfl
theorem und_96 : TT.und 96 = some (Go.TypeDesc.struct #[{ name := "From", type := 3, offset := 0, embedded := Bool.false, tag := "", pkgPath := "", byteOffset := 0 }, { name := "To", type := 3, offset := 1, embedded := Bool.false, tag := "", pkgPath := "", byteOffset := 8 }, { name := "Measured", type := 4, offset := 2, embedded := Bool.false, tag := "", pkgPath := "", byteOffset := 16 }, { name := "Mass", type := 39, offset := 3, embedded := Bool.false, tag := "", pkgPath := "", byteOffset := 24 }]) := by kernel_rfl
theorem size_96 : TT.size 96 = some 7 := by kernel_rfl
@[simp] theorem agg_96 : aggN TT 96 = some (some 7) := by kernel_rfl
theorem bytes_96 : TT.bytes 96 = some 56 := by kernel_rfl
theorem zero_96 : TT.zero 96 = some (.agg #[(.int .i64 0), (.int .i64 0), (.bool false), (.int .i64 0), (.int .i64 0), (.int .i64 0), (.int .i64 0)]) := by kernel_rfl
theorem und_97 : TT.und 97 = some (Go.TypeDesc.func #[3] #[4] Bool.false) := by kernel_rfl
theorem size_97 : TT.size 97 = some 1 := by kernel_rfl
@[simp] theorem agg_97 : aggN TT 97 = some none := by kernel_rfl
theorem bytes_97 : TT.bytes 97 = some 8 := by kernel_rfl
theorem zero_97 : TT.zero 97 = some .nilFunc := by kernel_rfl
theorem und_98 : TT.und 98 = some (Go.TypeDesc.func #[24, 25] #[36] Bool.false) := by kernel_rfl
theorem size_98 : TT.size 98 = some 1 := by kernel_rfl
@[simp] theorem agg_98 : aggN TT 98 = some none := by kernel_rfl
theorem bytes_98 : TT.bytes 98 = some 8 := by kernel_rfl
theorem zero_98 : TT.zero 98 = some .nilFunc := by kernel_rfl
theorem und_99 : TT.und 99 = some (Go.TypeDesc.slice 4) := by kernel_rfl
theorem size_99 : TT.size 99 = some 1 := by kernel_rfl
@[simp] theorem agg_99 : aggN TT 99 = some none := by kernel_rfl
theorem bytes_99 : TT.bytes 99 = some 24 := by kernel_rfl
theorem zero_99 : TT.zero 99 = some (.slice none 0 0) := by kernel_rfl
theorem und_100 : TT.und 100 = some (Go.TypeDesc.tuple #[99, 27]) := by kernel_rfl
theorem size_100 : TT.size 100 = some 1 := by kernel_rfl
@[simp] theorem agg_100 : aggN TT 100 = some none := by kernel_rfl
theorem bytes_100 : TT.bytes 100 = some 0 := by kernel_rfl
theorem und_101 : TT.und 101 = some (Go.TypeDesc.func #[33, 25] #[99, 27] Bool.false) := by kernel_rfl
theorem size_101 : TT.size 101 = some 1 := by kernel_rfl
@[simp] theorem agg_101 : aggN TT 101 = some none := by kernel_rfl
theorem bytes_101 : TT.bytes 101 = some 8 := by kernel_rfl
theorem zero_101 : TT.zero 101 = some .nilFunc := by kernel_rfl
theorem und_102 : TT.und 102 = some (Go.TypeDesc.func #[33, 99] #[39] Bool.false) := by kernel_rfl
theorem size_102 : TT.size 102 = some 1 := by kernel_rfl
@[simp] theorem agg_102 : aggN TT 102 = some none := by kernel_rfl
theorem bytes_102 : TT.bytes 102 = some 8 := by kernel_rfl
theorem zero_102 : TT.zero 102 = some .nilFunc := by kernel_rfl
theorem und_103 : TT.und 103 = some (Go.TypeDesc.func #[22, 104] #[27] Bool.false) := by kernel_rfl
theorem size_103 : TT.size 103 = some 1 := by kernel_rfl
@[simp] theorem agg_103 : aggN TT 103 = some none := by kernel_rfl
theorem bytes_103 : TT.bytes 103 = some 8 := by kernel_rfl
theorem zero_103 : TT.zero 103 = some .nilFunc := by kernel_rfl
theorem und_104 : TT.und 104 = some (Go.TypeDesc.func #[82] #[27] Bool.false) := by kernel_rfl
theorem size_104 : TT.size 104 = some 1 := by kernel_rfl
@[simp] theorem agg_104 : aggN TT 104 = some none := by kernel_rfl
theorem bytes_104 : TT.bytes 104 = some 8 := by kernel_rfl
theorem zero_104 : TT.zero 104 = some .nilFunc := by kernel_rfl
theorem und_105 : TT.und 105 = some (Go.TypeDesc.func #[3, 3, 3] #[4] Bool.false) := by kernel_rfl
theorem size_105 : TT.size 105 = some 1 := by kernel_rfl
@[simp] theorem agg_105 : aggN TT 105 = some none := by kernel_rfl
theorem bytes_105 : TT.bytes 105 = some 8 := by kernel_rfl
theorem zero_105 : TT.zero 105 = some .nilFunc := by kernel_rfl
theorem und_106 : TT.und 106 = some (Go.TypeDesc.func #[39, 3, 3] #[4] Bool.false) := by kernel_rfl
theorem size_106 : TT.size 106 = some 1 := by kernel_rfl
@[simp] theorem agg_106 : aggN TT 106 = some none := by kernel_rfl
theorem bytes_106 : TT.bytes 106 = some 8 := by kernel_rfl
theorem zero_106 : TT.zero 106 = some .nilFunc := by kernel_rfl
theorem und_107 : TT.und 107 = some (Go.TypeDesc.func #[24] #[58] Bool.false) := by kernel_rfl
theorem size_107 : TT.size 107 = some 1 := by kernel_rfl
@[simp] theorem agg_107 : aggN TT 107 = some none := by kernel_rfl
theorem bytes_107 : TT.bytes 107 = some 8 := by kernel_rfl
theorem zero_107 : TT.zero 107 = some .nilFunc := by kernel_rfl
theorem und_108 : TT.und 108 = some (Go.TypeDesc.map 3 3) := by kernel_rfl
theorem size_108 : TT.size 108 = some 1 := by kernel_rfl
@[simp] theorem agg_108 : aggN TT 108 = some none := by kernel_rfl
theorem bytes_108 : TT.bytes 108 = some 8 := by kernel_rfl
theorem zero_108 : TT.zero 108 = some (.map none) := by kernel_rfl
theorem und_109 : TT.und 109 = some (Go.TypeDesc.struct #[{ name := "above", type := 108, offset := 0, embedded := Bool.false, tag := "", pkgPath := "zafra/bulk", byteOffset := 0 }]) := by kernel_rfl
theorem size_109 : TT.size 109 = some 1 := by kernel_rfl
@[simp] theorem agg_109 : aggN TT 109 = some (some 1) := by kernel_rfl
theorem bytes_109 : TT.bytes 109 = some 8 := by kernel_rfl
theorem zero_109 : TT.zero 109 = some (.agg #[(.map none)]) := by kernel_rfl
theorem und_110 : TT.und 110 = some (Go.TypeDesc.struct #[{ name := "above", type := 108, offset := 0, embedded := Bool.false, tag := "", pkgPath := "zafra/bulk", byteOffset := 0 }]) := by kernel_rfl
theorem size_110 : TT.size 110 = some 1 := by kernel_rfl
@[simp] theorem agg_110 : aggN TT 110 = some (some 1) := by kernel_rfl
theorem bytes_110 : TT.bytes 110 = some 8 := by kernel_rfl
theorem zero_110 : TT.zero 110 = some (.agg #[(.map none)]) := by kernel_rfl
theorem und_111 : TT.und 111 = some (Go.TypeDesc.func #[24, 3] #[110] Bool.false) := by kernel_rfl
theorem size_111 : TT.size 111 = some 1 := by kernel_rfl
@[simp] theorem agg_111 : aggN TT 111 = some none := by kernel_rfl
theorem bytes_111 : TT.bytes 111 = some 8 := by kernel_rfl
theorem zero_111 : TT.zero 111 = some .nilFunc := by kernel_rfl
theorem und_112 : TT.und 112 = some (Go.TypeDesc.func #[3, 3] #[4] Bool.false) := by kernel_rfl
theorem size_112 : TT.size 112 = some 1 := by kernel_rfl
@[simp] theorem agg_112 : aggN TT 112 = some none := by kernel_rfl
theorem bytes_112 : TT.bytes 112 = some 8 := by kernel_rfl
theorem zero_112 : TT.zero 112 = some .nilFunc := by kernel_rfl
theorem und_113 : TT.und 113 = some (Go.TypeDesc.tuple #[25, 3]) := by kernel_rfl
theorem size_113 : TT.size 113 = some 1 := by kernel_rfl
@[simp] theorem agg_113 : aggN TT 113 = some none := by kernel_rfl
theorem bytes_113 : TT.bytes 113 = some 0 := by kernel_rfl
theorem und_114 : TT.und 114 = some (Go.TypeDesc.func #[33] #[25, 3] Bool.false) := by kernel_rfl
theorem size_114 : TT.size 114 = some 1 := by kernel_rfl
@[simp] theorem agg_114 : aggN TT 114 = some none := by kernel_rfl
theorem bytes_114 : TT.bytes 114 = some 8 := by kernel_rfl
theorem zero_114 : TT.zero 114 = some .nilFunc := by kernel_rfl
theorem und_115 : TT.und 115 = some (Go.TypeDesc.func #[25, 3] #[99] Bool.false) := by kernel_rfl
theorem size_115 : TT.size 115 = some 1 := by kernel_rfl
@[simp] theorem agg_115 : aggN TT 115 = some none := by kernel_rfl
theorem bytes_115 : TT.bytes 115 = some 8 := by kernel_rfl
theorem zero_115 : TT.zero 115 = some .nilFunc := by kernel_rfl
theorem und_116 : TT.und 116 = some (Go.TypeDesc.func #[39, 3, 39] #[39] Bool.false) := by kernel_rfl
theorem size_116 : TT.size 116 = some 1 := by kernel_rfl
@[simp] theorem agg_116 : aggN TT 116 = some none := by kernel_rfl
theorem bytes_116 : TT.bytes 116 = some 8 := by kernel_rfl
theorem zero_116 : TT.zero 116 = some .nilFunc := by kernel_rfl
theorem und_117 : TT.und 117 = some (Go.TypeDesc.func #[22] #[22] Bool.false) := by kernel_rfl
theorem size_117 : TT.size 117 = some 1 := by kernel_rfl
@[simp] theorem agg_117 : aggN TT 117 = some none := by kernel_rfl
theorem bytes_117 : TT.bytes 117 = some 8 := by kernel_rfl
theorem zero_117 : TT.zero 117 = some .nilFunc := by kernel_rfl
theorem und_118 : TT.und 118 = some (Go.TypeDesc.func #[33, 3] #[33] Bool.false) := by kernel_rfl
theorem size_118 : TT.size 118 = some 1 := by kernel_rfl
@[simp] theorem agg_118 : aggN TT 118 = some none := by kernel_rfl
theorem bytes_118 : TT.bytes 118 = some 8 := by kernel_rfl
theorem zero_118 : TT.zero 118 = some .nilFunc := by kernel_rfl
theorem und_119 : TT.und 119 = some (Go.TypeDesc.func #[24, 25] #[4] Bool.false) := by kernel_rfl
theorem size_119 : TT.size 119 = some 1 := by kernel_rfl
@[simp] theorem agg_119 : aggN TT 119 = some none := by kernel_rfl
theorem bytes_119 : TT.bytes 119 = some 8 := by kernel_rfl
theorem zero_119 : TT.zero 119 = some .nilFunc := by kernel_rfl
theorem und_120 : TT.und 120 = some (Go.TypeDesc.array 4 36) := by kernel_rfl
theorem size_120 : TT.size 120 = some 16 := by kernel_rfl
@[simp] theorem agg_120 : aggN TT 120 = some (some 16) := by kernel_rfl
theorem bytes_120 : TT.bytes 120 = some 128 := by kernel_rfl
theorem zero_120 : TT.zero 120 = some (.agg #[(.int .i64 0), (.int .i64 0), (.int .i64 0), (.int .i64 0), (.int .i64 0), (.int .i64 0), (.int .i64 0), (.int .i64 0), (.int .i64 0), (.int .i64 0), (.int .i64 0), (.int .i64 0), (.int .i64 0), (.int .i64 0), (.int .i64 0), (.int .i64 0)]) := by kernel_rfl
theorem und_121 : TT.und 121 = some (Go.TypeDesc.func #[3, 3] #[3] Bool.false) := by kernel_rfl
theorem size_121 : TT.size 121 = some 1 := by kernel_rfl
@[simp] theorem agg_121 : aggN TT 121 = some none := by kernel_rfl
theorem bytes_121 : TT.bytes 121 = some 8 := by kernel_rfl
theorem zero_121 : TT.zero 121 = some .nilFunc := by kernel_rfl
theorem und_122 : TT.und 122 = some (Go.TypeDesc.array 2 5) := by kernel_rfl
theorem size_122 : TT.size 122 = some 2 := by kernel_rfl
@[simp] theorem agg_122 : aggN TT 122 = some (some 2) := by kernel_rfl
theorem bytes_122 : TT.bytes 122 = some 2 := by kernel_rfl
theorem zero_122 : TT.zero 122 = some (.agg #[(.int .u8 0), (.int .u8 0)]) := by kernel_rfl
theorem und_123 : TT.und 123 = some (Go.TypeDesc.func #[3, 25] #[4] Bool.false) := by kernel_rfl
theorem size_123 : TT.size 123 = some 1 := by kernel_rfl
@[simp] theorem agg_123 : aggN TT 123 = some none := by kernel_rfl
theorem bytes_123 : TT.bytes 123 = some 8 := by kernel_rfl
theorem zero_123 : TT.zero 123 = some .nilFunc := by kernel_rfl
theorem und_124 : TT.und 124 = some (Go.TypeDesc.func #[25, 3] #[4] Bool.false) := by kernel_rfl
theorem size_124 : TT.size 124 = some 1 := by kernel_rfl
@[simp] theorem agg_124 : aggN TT 124 = some none := by kernel_rfl
theorem bytes_124 : TT.bytes 124 = some 8 := by kernel_rfl
theorem zero_124 : TT.zero 124 = some .nilFunc := by kernel_rfl
theorem und_125 : TT.und 125 = some (Go.TypeDesc.func #[36] #[36] Bool.false) := by kernel_rfl
theorem size_125 : TT.size 125 = some 1 := by kernel_rfl
@[simp] theorem agg_125 : aggN TT 125 = some none := by kernel_rfl
theorem bytes_125 : TT.bytes 125 = some 8 := by kernel_rfl
theorem zero_125 : TT.zero 125 = some .nilFunc := by kernel_rfl
theorem und_126 : TT.und 126 = some (Go.TypeDesc.func #[24] #[99] Bool.false) := by kernel_rfl
theorem size_126 : TT.size 126 = some 1 := by kernel_rfl
@[simp] theorem agg_126 : aggN TT 126 = some none := by kernel_rfl
theorem bytes_126 : TT.bytes 126 = some 8 := by kernel_rfl
theorem zero_126 : TT.zero 126 = some .nilFunc := by kernel_rfl
theorem und_127 : TT.und 127 = some (Go.TypeDesc.array 9 4) := by kernel_rfl
theorem size_127 : TT.size 127 = some 9 := by kernel_rfl
@[simp] theorem agg_127 : aggN TT 127 = some (some 9) := by kernel_rfl
theorem bytes_127 : TT.bytes 127 = some 9 := by kernel_rfl
theorem zero_127 : TT.zero 127 = some (.agg #[(.bool false), (.bool false), (.bool false), (.bool false), (.bool false), (.bool false), (.bool false), (.bool false), (.bool false)]) := by kernel_rfl
theorem und_128 : TT.und 128 = some (Go.TypeDesc.func #[3, 3] #[36] Bool.false) := by kernel_rfl
theorem size_128 : TT.size 128 = some 1 := by kernel_rfl
@[simp] theorem agg_128 : aggN TT 128 = some none := by kernel_rfl
theorem bytes_128 : TT.bytes 128 = some 8 := by kernel_rfl
theorem zero_128 : TT.zero 128 = some .nilFunc := by kernel_rfl
theorem und_129 : TT.und 129 = some (Go.TypeDesc.func #[22, 130] #[4] Bool.false) := by kernel_rfl
theorem size_129 : TT.size 129 = some 1 := by kernel_rfl
@[simp] theorem agg_129 : aggN TT 129 = some none := by kernel_rfl
theorem bytes_129 : TT.bytes 129 = some 8 := by kernel_rfl
theorem zero_129 : TT.zero 129 = some .nilFunc := by kernel_rfl
theorem und_130 : TT.und 130 = some (Go.TypeDesc.func #[82] #[4] Bool.false) := by kernel_rfl
theorem size_130 : TT.size 130 = some 1 := by kernel_rfl
@[simp] theorem agg_130 : aggN TT 130 = some none := by kernel_rfl
theorem bytes_130 : TT.bytes 130 = some 8 := by kernel_rfl
theorem zero_130 : TT.zero 130 = some .nilFunc := by kernel_rfl
theorem und_131 : TT.und 131 = some (Go.TypeDesc.func #[25, 3] #[3] Bool.false) := by kernel_rfl
theorem size_131 : TT.size 131 = some 1 := by kernel_rfl
@[simp] theorem agg_131 : aggN TT 131 = some none := by kernel_rfl
theorem bytes_131 : TT.bytes 131 = some 8 := by kernel_rfl
theorem zero_131 : TT.zero 131 = some .nilFunc := by kernel_rfl
theorem und_132 : TT.und 132 = some (Go.TypeDesc.tuple #[3, 4]) := by kernel_rfl
theorem size_132 : TT.size 132 = some 1 := by kernel_rfl
@[simp] theorem agg_132 : aggN TT 132 = some none := by kernel_rfl
theorem bytes_132 : TT.bytes 132 = some 0 := by kernel_rfl
theorem und_133 : TT.und 133 = some (Go.TypeDesc.func #[22, 130] #[3] Bool.false) := by kernel_rfl
theorem size_133 : TT.size 133 = some 1 := by kernel_rfl
@[simp] theorem agg_133 : aggN TT 133 = some none := by kernel_rfl
theorem bytes_133 : TT.bytes 133 = some 8 := by kernel_rfl
theorem zero_133 : TT.zero 133 = some .nilFunc := by kernel_rfl
theorem und_134 : TT.und 134 = some (Go.TypeDesc.func #[] #[9] Bool.false) := by kernel_rfl
theorem size_134 : TT.size 134 = some 1 := by kernel_rfl
@[simp] theorem agg_134 : aggN TT 134 = some none := by kernel_rfl
theorem bytes_134 : TT.bytes 134 = some 8 := by kernel_rfl
theorem zero_134 : TT.zero 134 = some .nilFunc := by kernel_rfl
theorem und_135 : TT.und 135 = some (Go.TypeDesc.struct #[{ name := "_interface", type := 17, offset := 0, embedded := Bool.false, tag := "", pkgPath := "runtime", byteOffset := 0 }, { name := "concrete", type := 17, offset := 1, embedded := Bool.false, tag := "", pkgPath := "runtime", byteOffset := 8 }, { name := "asserted", type := 17, offset := 2, embedded := Bool.false, tag := "", pkgPath := "runtime", byteOffset := 16 }, { name := "missingMethod", type := 9, offset := 3, embedded := Bool.false, tag := "", pkgPath := "runtime", byteOffset := 24 }]) := by kernel_rfl
theorem size_135 : TT.size 135 = some 4 := by kernel_rfl
@[simp] theorem agg_135 : aggN TT 135 = some (some 4) := by kernel_rfl
theorem bytes_135 : TT.bytes 135 = some 40 := by kernel_rfl
theorem zero_135 : TT.zero 135 = some (.agg #[(.pointer none), (.pointer none), (.pointer none), (.string ⟨#[]⟩)]) := by kernel_rfl
theorem und_136 : TT.und 136 = some (Go.TypeDesc.struct #[{ name := "_interface", type := 17, offset := 0, embedded := Bool.false, tag := "", pkgPath := "runtime", byteOffset := 0 }, { name := "concrete", type := 17, offset := 1, embedded := Bool.false, tag := "", pkgPath := "runtime", byteOffset := 8 }, { name := "asserted", type := 17, offset := 2, embedded := Bool.false, tag := "", pkgPath := "runtime", byteOffset := 16 }, { name := "missingMethod", type := 9, offset := 3, embedded := Bool.false, tag := "", pkgPath := "runtime", byteOffset := 24 }]) := by kernel_rfl
theorem size_136 : TT.size 136 = some 4 := by kernel_rfl
@[simp] theorem agg_136 : aggN TT 136 = some (some 4) := by kernel_rfl
theorem bytes_136 : TT.bytes 136 = some 40 := by kernel_rfl
theorem zero_136 : TT.zero 136 = some (.agg #[(.pointer none), (.pointer none), (.pointer none), (.string ⟨#[]⟩)]) := by kernel_rfl
theorem und_137 : TT.und 137 = some (Go.TypeDesc.array 0 16) := by kernel_rfl
theorem size_137 : TT.size 137 = some 0 := by kernel_rfl
@[simp] theorem agg_137 : aggN TT 137 = some (some 0) := by kernel_rfl
theorem bytes_137 : TT.bytes 137 = some 0 := by kernel_rfl
theorem zero_137 : TT.zero 137 = some (.agg #[]) := by kernel_rfl
theorem und_138 : TT.und 138 = some (Go.TypeDesc.struct #[{ name := "_", type := 137, offset := 0, embedded := Bool.false, tag := "", pkgPath := "runtime", byteOffset := 0 }]) := by kernel_rfl
theorem size_138 : TT.size 138 = some 0 := by kernel_rfl
@[simp] theorem agg_138 : aggN TT 138 = some (some 0) := by kernel_rfl
theorem bytes_138 : TT.bytes 138 = some 0 := by kernel_rfl
theorem zero_138 : TT.zero 138 = some (.agg #[]) := by kernel_rfl
theorem und_139 : TT.und 139 = some (Go.TypeDesc.struct #[{ name := "_", type := 137, offset := 0, embedded := Bool.false, tag := "", pkgPath := "runtime", byteOffset := 0 }]) := by kernel_rfl
theorem size_139 : TT.size 139 = some 0 := by kernel_rfl
@[simp] theorem agg_139 : aggN TT 139 = some (some 0) := by kernel_rfl
theorem bytes_139 : TT.bytes 139 = some 0 := by kernel_rfl
theorem zero_139 : TT.zero 139 = some (.agg #[]) := by kernel_rfl
theorem und_140 : TT.und 140 = some (Go.TypeDesc.func #[] #[3] Bool.false) := by kernel_rfl
theorem size_140 : TT.size 140 = some 1 := by kernel_rfl
@[simp] theorem agg_140 : aggN TT 140 = some none := by kernel_rfl
theorem bytes_140 : TT.bytes 140 = some 8 := by kernel_rfl
theorem zero_140 : TT.zero 140 = some .nilFunc := by kernel_rfl
theorem und_141 : TT.und 141 = some (Go.TypeDesc.int Go.IntKind.u32) := by kernel_rfl
theorem size_141 : TT.size 141 = some 1 := by kernel_rfl
@[simp] theorem agg_141 : aggN TT 141 = some none := by kernel_rfl
theorem bytes_141 : TT.bytes 141 = some 4 := by kernel_rfl
theorem zero_141 : TT.zero 141 = some (.int .u32 0) := by kernel_rfl
theorem und_142 : TT.und 142 = some (Go.TypeDesc.int Go.IntKind.u8) := by kernel_rfl
theorem size_142 : TT.size 142 = some 1 := by kernel_rfl
@[simp] theorem agg_142 : aggN TT 142 = some none := by kernel_rfl
theorem bytes_142 : TT.bytes 142 = some 1 := by kernel_rfl
theorem zero_142 : TT.zero 142 = some (.int .u8 0) := by kernel_rfl
theorem und_143 : TT.und 143 = some (Go.TypeDesc.int Go.IntKind.u8) := by kernel_rfl
theorem size_143 : TT.size 143 = some 1 := by kernel_rfl
@[simp] theorem agg_143 : aggN TT 143 = some none := by kernel_rfl
theorem bytes_143 : TT.bytes 143 = some 1 := by kernel_rfl
theorem zero_143 : TT.zero 143 = some (.int .u8 0) := by kernel_rfl
theorem und_144 : TT.und 144 = some (Go.TypeDesc.func #[150, 150] #[4] Bool.false) := by kernel_rfl
theorem size_144 : TT.size 144 = some 1 := by kernel_rfl
@[simp] theorem agg_144 : aggN TT 144 = some none := by kernel_rfl
theorem bytes_144 : TT.bytes 144 = some 8 := by kernel_rfl
theorem zero_144 : TT.zero 144 = some .nilFunc := by kernel_rfl
theorem und_145 : TT.und 145 = some (Go.TypeDesc.pointer 5) := by kernel_rfl
theorem size_145 : TT.size 145 = some 1 := by kernel_rfl
@[simp] theorem agg_145 : aggN TT 145 = some none := by kernel_rfl
theorem bytes_145 : TT.bytes 145 = some 8 := by kernel_rfl
theorem zero_145 : TT.zero 145 = some (.pointer none) := by kernel_rfl
theorem und_146 : TT.und 146 = some (Go.TypeDesc.int Go.IntKind.i32) := by kernel_rfl
theorem size_146 : TT.size 146 = some 1 := by kernel_rfl
@[simp] theorem agg_146 : aggN TT 146 = some none := by kernel_rfl
theorem bytes_146 : TT.bytes 146 = some 4 := by kernel_rfl
theorem zero_146 : TT.zero 146 = some (.int .i32 0) := by kernel_rfl
theorem und_147 : TT.und 147 = some (Go.TypeDesc.int Go.IntKind.i32) := by kernel_rfl
theorem size_147 : TT.size 147 = some 1 := by kernel_rfl
@[simp] theorem agg_147 : aggN TT 147 = some none := by kernel_rfl
theorem bytes_147 : TT.bytes 147 = some 4 := by kernel_rfl
theorem zero_147 : TT.zero 147 = some (.int .i32 0) := by kernel_rfl
theorem und_148 : TT.und 148 = some (Go.TypeDesc.struct #[{ name := "Size_", type := 12, offset := 0, embedded := Bool.false, tag := "", pkgPath := "", byteOffset := 0 }, { name := "PtrBytes", type := 12, offset := 1, embedded := Bool.false, tag := "", pkgPath := "", byteOffset := 8 }, { name := "Hash", type := 141, offset := 2, embedded := Bool.false, tag := "", pkgPath := "", byteOffset := 16 }, { name := "TFlag", type := 142, offset := 3, embedded := Bool.false, tag := "", pkgPath := "", byteOffset := 20 }, { name := "Align_", type := 5, offset := 4, embedded := Bool.false, tag := "", pkgPath := "", byteOffset := 21 }, { name := "FieldAlign_", type := 5, offset := 5, embedded := Bool.false, tag := "", pkgPath := "", byteOffset := 22 }, { name := "Kind_", type := 143, offset := 6, embedded := Bool.false, tag := "", pkgPath := "", byteOffset := 23 }, { name := "Equal", type := 144, offset := 7, embedded := Bool.false, tag := "", pkgPath := "", byteOffset := 24 }, { name := "GCData", type := 145, offset := 8, embedded := Bool.false, tag := "", pkgPath := "", byteOffset := 32 }, { name := "Str", type := 146, offset := 9, embedded := Bool.false, tag := "", pkgPath := "", byteOffset := 40 }, { name := "PtrToThis", type := 147, offset := 10, embedded := Bool.false, tag := "", pkgPath := "", byteOffset := 44 }]) := by kernel_rfl
theorem size_148 : TT.size 148 = some 11 := by kernel_rfl
@[simp] theorem agg_148 : aggN TT 148 = some (some 11) := by kernel_rfl
theorem bytes_148 : TT.bytes 148 = some 48 := by kernel_rfl
theorem zero_148 : TT.zero 148 = some (.agg #[(.int .u64 0), (.int .u64 0), (.int .u32 0), (.int .u8 0), (.int .u8 0), (.int .u8 0), (.int .u8 0), .nilFunc, (.pointer none), (.int .i32 0), (.int .i32 0)]) := by kernel_rfl
theorem und_149 : TT.und 149 = some (Go.TypeDesc.struct #[{ name := "Size_", type := 12, offset := 0, embedded := Bool.false, tag := "", pkgPath := "", byteOffset := 0 }, { name := "PtrBytes", type := 12, offset := 1, embedded := Bool.false, tag := "", pkgPath := "", byteOffset := 8 }, { name := "Hash", type := 141, offset := 2, embedded := Bool.false, tag := "", pkgPath := "", byteOffset := 16 }, { name := "TFlag", type := 142, offset := 3, embedded := Bool.false, tag := "", pkgPath := "", byteOffset := 20 }, { name := "Align_", type := 5, offset := 4, embedded := Bool.false, tag := "", pkgPath := "", byteOffset := 21 }, { name := "FieldAlign_", type := 5, offset := 5, embedded := Bool.false, tag := "", pkgPath := "", byteOffset := 22 }, { name := "Kind_", type := 143, offset := 6, embedded := Bool.false, tag := "", pkgPath := "", byteOffset := 23 }, { name := "Equal", type := 144, offset := 7, embedded := Bool.false, tag := "", pkgPath := "", byteOffset := 24 }, { name := "GCData", type := 145, offset := 8, embedded := Bool.false, tag := "", pkgPath := "", byteOffset := 32 }, { name := "Str", type := 146, offset := 9, embedded := Bool.false, tag := "", pkgPath := "", byteOffset := 40 }, { name := "PtrToThis", type := 147, offset := 10, embedded := Bool.false, tag := "", pkgPath := "", byteOffset := 44 }]) := by kernel_rfl
theorem size_149 : TT.size 149 = some 11 := by kernel_rfl
@[simp] theorem agg_149 : aggN TT 149 = some (some 11) := by kernel_rfl
theorem bytes_149 : TT.bytes 149 = some 48 := by kernel_rfl
theorem zero_149 : TT.zero 149 = some (.agg #[(.int .u64 0), (.int .u64 0), (.int .u32 0), (.int .u8 0), (.int .u8 0), (.int .u8 0), (.int .u8 0), .nilFunc, (.pointer none), (.int .i32 0), (.int .i32 0)]) := by kernel_rfl
theorem und_150 : TT.und 150 = some Go.TypeDesc.unsafePointer := by kernel_rfl
theorem size_150 : TT.size 150 = some 1 := by kernel_rfl
@[simp] theorem agg_150 : aggN TT 150 = some none := by kernel_rfl
theorem bytes_150 : TT.bytes 150 = some 8 := by kernel_rfl
theorem zero_150 : TT.zero 150 = some (.pointer none) := by kernel_rfl
section
variable {self : Self} {f : Fr} {s : St}
@[simp] theorem o_load_0 {x : Operand} : actO TT self (.load 0 x) f s = pureR (vLoad none x f.eval s.heap) s := by rw [act_load, agg_0]; rfl
@[simp] theorem o_store_0 {a x : Operand} : actO TT self (.store 0 a x) f s = eStore 1 a x self f.eval s := by rw [act_store, size_0]; rfl
@[simp] theorem o_load_1 {x : Operand} : actO TT self (.load 1 x) f s = pureR (vLoad none x f.eval s.heap) s := by rw [act_load, agg_1]; rfl
@[simp] theorem o_store_1 {a x : Operand} : actO TT self (.store 1 a x) f s = eStore 1 a x self f.eval s := by rw [act_store, size_1]; rfl
@[simp] theorem o_alloc_1 : actO TT self (.alloc 1) f s = exNew s (.cells (.nilFunc : Value).cells.toList none) ptrTo := by rw [act_alloc, zero_1]; rfl
@[simp] theorem o_bin_1 {op : BinOp} {x y : Operand} {u : TypeId} : actO TT self (.binOp op 1 x y u) f s = pureR (binV TT (Go.TypeDesc.func #[] #[] Bool.false) 1 (TT.prog.keyTypeAt 20 1 && !TT.prog.eqGuardType TT.prog.depth 1) op x y f.eval s.heap) s := by rw [act_bin, und_1]; rfl
@[simp] theorem o_load_2 {x : Operand} : actO TT self (.load 2 x) f s = pureR (vLoad none x f.eval s.heap) s := by rw [act_load, agg_2]; rfl
@[simp] theorem o_store_2 {a x : Operand} : actO TT self (.store 2 a x) f s = eStore 1 a x self f.eval s := by rw [act_store, size_2]; rfl
@[simp] theorem o_alloc_2 : actO TT self (.alloc 2) f s = exNew s (.cells ((.int .i64 0) : Value).cells.toList none) ptrTo := by rw [act_alloc, zero_2]; rfl
@[simp] theorem o_bin_2 {op : BinOp} {x y : Operand} {u : TypeId} : actO TT self (.binOp op 2 x y u) f s = pureR (binV TT (Go.TypeDesc.int Go.IntKind.i64) 2 (TT.prog.keyTypeAt 20 2 && !TT.prog.eqGuardType TT.prog.depth 2) op x y f.eval s.heap) s := by rw [act_bin, und_2]; rfl
@[simp] theorem o_convert_2 {a : TypeId} {x : Operand} (h : (TT.und a).isSome = true) : actO TT self (.convert a 2 x) f s = pureR (vConv .i64 x f.eval s.heap) s := act_convert a 2 x h und_2
@[simp] theorem o_load_3 {x : Operand} : actO TT self (.load 3 x) f s = pureR (vLoad none x f.eval s.heap) s := by rw [act_load, agg_3]; rfl
@[simp] theorem o_store_3 {a x : Operand} : actO TT self (.store 3 a x) f s = eStore 1 a x self f.eval s := by rw [act_store, size_3]; rfl
@[simp] theorem o_alloc_3 : actO TT self (.alloc 3) f s = exNew s (.cells ((.int .i64 0) : Value).cells.toList none) ptrTo := by rw [act_alloc, zero_3]; rfl
@[simp] theorem o_bin_3 {op : BinOp} {x y : Operand} {u : TypeId} : actO TT self (.binOp op 3 x y u) f s = pureR (binV TT (Go.TypeDesc.int Go.IntKind.i64) 3 (TT.prog.keyTypeAt 20 3 && !TT.prog.eqGuardType TT.prog.depth 3) op x y f.eval s.heap) s := by rw [act_bin, und_3]; rfl
@[simp] theorem o_convert_3 {a : TypeId} {x : Operand} (h : (TT.und a).isSome = true) : actO TT self (.convert a 3 x) f s = pureR (vConv .i64 x f.eval s.heap) s := act_convert a 3 x h und_3
@[simp] theorem o_load_4 {x : Operand} : actO TT self (.load 4 x) f s = pureR (vLoad none x f.eval s.heap) s := by rw [act_load, agg_4]; rfl
@[simp] theorem o_store_4 {a x : Operand} : actO TT self (.store 4 a x) f s = eStore 1 a x self f.eval s := by rw [act_store, size_4]; rfl
@[simp] theorem o_alloc_4 : actO TT self (.alloc 4) f s = exNew s (.cells ((.bool false) : Value).cells.toList none) ptrTo := by rw [act_alloc, zero_4]; rfl
@[simp] theorem o_bin_4 {op : BinOp} {x y : Operand} {u : TypeId} : actO TT self (.binOp op 4 x y u) f s = pureR (binV TT Go.TypeDesc.bool 4 (TT.prog.keyTypeAt 20 4 && !TT.prog.eqGuardType TT.prog.depth 4) op x y f.eval s.heap) s := by rw [act_bin, und_4]; rfl
@[simp] theorem o_load_5 {x : Operand} : actO TT self (.load 5 x) f s = pureR (vLoad none x f.eval s.heap) s := by rw [act_load, agg_5]; rfl
@[simp] theorem o_store_5 {a x : Operand} : actO TT self (.store 5 a x) f s = eStore 1 a x self f.eval s := by rw [act_store, size_5]; rfl
@[simp] theorem o_alloc_5 : actO TT self (.alloc 5) f s = exNew s (.cells ((.int .u8 0) : Value).cells.toList none) ptrTo := by rw [act_alloc, zero_5]; rfl
@[simp] theorem o_bin_5 {op : BinOp} {x y : Operand} {u : TypeId} : actO TT self (.binOp op 5 x y u) f s = pureR (binV TT (Go.TypeDesc.int Go.IntKind.u8) 5 (TT.prog.keyTypeAt 20 5 && !TT.prog.eqGuardType TT.prog.depth 5) op x y f.eval s.heap) s := by rw [act_bin, und_5]; rfl
@[simp] theorem o_convert_5 {a : TypeId} {x : Operand} (h : (TT.und a).isSome = true) : actO TT self (.convert a 5 x) f s = pureR (vConv .u8 x f.eval s.heap) s := act_convert a 5 x h und_5
@[simp] theorem o_load_6 {x : Operand} : actO TT self (.load 6 x) f s = pureR (vLoad none x f.eval s.heap) s := by rw [act_load, agg_6]; rfl
@[simp] theorem o_store_6 {a x : Operand} : actO TT self (.store 6 a x) f s = eStore 1 a x self f.eval s := by rw [act_store, size_6]; rfl
@[simp] theorem o_alloc_6 : actO TT self (.alloc 6) f s = exNew s (.cells ((.int .u8 0) : Value).cells.toList none) ptrTo := by rw [act_alloc, zero_6]; rfl
@[simp] theorem o_bin_6 {op : BinOp} {x y : Operand} {u : TypeId} : actO TT self (.binOp op 6 x y u) f s = pureR (binV TT (Go.TypeDesc.int Go.IntKind.u8) 6 (TT.prog.keyTypeAt 20 6 && !TT.prog.eqGuardType TT.prog.depth 6) op x y f.eval s.heap) s := by rw [act_bin, und_6]; rfl
@[simp] theorem o_convert_6 {a : TypeId} {x : Operand} (h : (TT.und a).isSome = true) : actO TT self (.convert a 6 x) f s = pureR (vConv .u8 x f.eval s.heap) s := act_convert a 6 x h und_6
@[simp] theorem o_load_7 {x : Operand} : actO TT self (.load 7 x) f s = pureR (vLoad (some 4) x f.eval s.heap) s := by rw [act_load, agg_7]; rfl
@[simp] theorem o_store_7 {a x : Operand} : actO TT self (.store 7 a x) f s = eStore 4 a x self f.eval s := by rw [act_store, size_7]; rfl
@[simp] theorem o_alloc_7 : actO TT self (.alloc 7) f s = exNew s (.cells ((.agg #[(.int .i64 0), (.int .i64 0), (.bool false), (.int .u8 0)]) : Value).cells.toList none) ptrTo := by rw [act_alloc, zero_7]; rfl
theorem flag_7 : (TT.prog.keyTypeAt 20 7 && !TT.prog.eqGuardType TT.prog.depth 7) = (TT.prog.keyTypeAt 20 7 && !TT.prog.eqGuardType TT.prog.depth 7) := rfl
@[simp] theorem o_bin_7 {op : BinOp} {x y : Operand} {u : TypeId} : actO TT self (.binOp op 7 x y u) f s = pureR (binV TT (Go.TypeDesc.struct #[{ name := "x", type := 2, offset := 0, embedded := Bool.false, tag := "", pkgPath := "runtime", byteOffset := 0 }, { name := "y", type := 3, offset := 1, embedded := Bool.false, tag := "", pkgPath := "runtime", byteOffset := 8 }, { name := "signed", type := 4, offset := 2, embedded := Bool.false, tag := "", pkgPath := "runtime", byteOffset := 16 }, { name := "code", type := 6, offset := 3, embedded := Bool.false, tag := "", pkgPath := "runtime", byteOffset := 17 }]) 7 (TT.prog.keyTypeAt 20 7 && !TT.prog.eqGuardType TT.prog.depth 7) op x y f.eval s.heap) s := by rw [act_bin, und_7]; rfl
@[simp] theorem o_fieldAddr_7_0 {x : Operand} : actO TT self (.fieldAddr 7 x 0) f s = pureR (vFieldAddr 0 x f.eval s.heap) s := act_fieldAddr 7 x 0 und_7 rfl size_2 rfl
@[simp] theorem o_field_7_0 {x : Operand} : actO TT self (.field 7 x 0) f s = pureR (vField 0 none x f.eval s.heap) s := act_field 7 x 0 und_7 rfl agg_2
@[simp] theorem o_fieldAddr_7_1 {x : Operand} : actO TT self (.fieldAddr 7 x 1) f s = pureR (vFieldAddr 1 x f.eval s.heap) s := act_fieldAddr 7 x 1 und_7 rfl size_3 rfl
@[simp] theorem o_field_7_1 {x : Operand} : actO TT self (.field 7 x 1) f s = pureR (vField 1 none x f.eval s.heap) s := act_field 7 x 1 und_7 rfl agg_3
@[simp] theorem o_fieldAddr_7_2 {x : Operand} : actO TT self (.fieldAddr 7 x 2) f s = pureR (vFieldAddr 2 x f.eval s.heap) s := act_fieldAddr 7 x 2 und_7 rfl size_4 rfl
@[simp] theorem o_field_7_2 {x : Operand} : actO TT self (.field 7 x 2) f s = pureR (vField 2 none x f.eval s.heap) s := act_field 7 x 2 und_7 rfl agg_4
@[simp] theorem o_fieldAddr_7_3 {x : Operand} : actO TT self (.fieldAddr 7 x 3) f s = pureR (vFieldAddr 3 x f.eval s.heap) s := act_fieldAddr 7 x 3 und_7 rfl size_6 rfl
@[simp] theorem o_field_7_3 {x : Operand} : actO TT self (.field 7 x 3) f s = pureR (vField 3 none x f.eval s.heap) s := act_field 7 x 3 und_7 rfl agg_6
@[simp] theorem o_build_7 {pl0 : Array (Nat × Operand)} : actO TT self (.build 7 pl0) f s = ob (placesS [(0, 1), (1, 1), (2, 1), (3, 1)] pl0.toList) fun l => pureR (aggV (fillL f.eval l ((.agg #[(.int .i64 0), (.int .i64 0), (.bool false), (.int .u8 0)]) : Value).cells.toList)) s := act_buildS 7 pl0 zero_7 und_7 (by kernel_rfl)
@[simp] theorem o_load_8 {x : Operand} : actO TT self (.load 8 x) f s = pureR (vLoad (some 4) x f.eval s.heap) s := by rw [act_load, agg_8]; rfl
@[simp] theorem o_store_8 {a x : Operand} : actO TT self (.store 8 a x) f s = eStore 4 a x self f.eval s := by rw [act_store, size_8]; rfl
@[simp] theorem o_alloc_8 : actO TT self (.alloc 8) f s = exNew s (.cells ((.agg #[(.int .i64 0), (.int .i64 0), (.bool false), (.int .u8 0)]) : Value).cells.toList none) ptrTo := by rw [act_alloc, zero_8]; rfl
theorem flag_8 : (TT.prog.keyTypeAt 20 8 && !TT.prog.eqGuardType TT.prog.depth 8) = (TT.prog.keyTypeAt 20 8 && !TT.prog.eqGuardType TT.prog.depth 8) := rfl
@[simp] theorem o_bin_8 {op : BinOp} {x y : Operand} {u : TypeId} : actO TT self (.binOp op 8 x y u) f s = pureR (binV TT (Go.TypeDesc.struct #[{ name := "x", type := 2, offset := 0, embedded := Bool.false, tag := "", pkgPath := "runtime", byteOffset := 0 }, { name := "y", type := 3, offset := 1, embedded := Bool.false, tag := "", pkgPath := "runtime", byteOffset := 8 }, { name := "signed", type := 4, offset := 2, embedded := Bool.false, tag := "", pkgPath := "runtime", byteOffset := 16 }, { name := "code", type := 6, offset := 3, embedded := Bool.false, tag := "", pkgPath := "runtime", byteOffset := 17 }]) 8 (TT.prog.keyTypeAt 20 8 && !TT.prog.eqGuardType TT.prog.depth 8) op x y f.eval s.heap) s := by rw [act_bin, und_8]; rfl
@[simp] theorem o_fieldAddr_8_0 {x : Operand} : actO TT self (.fieldAddr 8 x 0) f s = pureR (vFieldAddr 0 x f.eval s.heap) s := act_fieldAddr 8 x 0 und_8 rfl size_2 rfl
@[simp] theorem o_field_8_0 {x : Operand} : actO TT self (.field 8 x 0) f s = pureR (vField 0 none x f.eval s.heap) s := act_field 8 x 0 und_8 rfl agg_2
@[simp] theorem o_fieldAddr_8_1 {x : Operand} : actO TT self (.fieldAddr 8 x 1) f s = pureR (vFieldAddr 1 x f.eval s.heap) s := act_fieldAddr 8 x 1 und_8 rfl size_3 rfl
@[simp] theorem o_field_8_1 {x : Operand} : actO TT self (.field 8 x 1) f s = pureR (vField 1 none x f.eval s.heap) s := act_field 8 x 1 und_8 rfl agg_3
@[simp] theorem o_fieldAddr_8_2 {x : Operand} : actO TT self (.fieldAddr 8 x 2) f s = pureR (vFieldAddr 2 x f.eval s.heap) s := act_fieldAddr 8 x 2 und_8 rfl size_4 rfl
@[simp] theorem o_field_8_2 {x : Operand} : actO TT self (.field 8 x 2) f s = pureR (vField 2 none x f.eval s.heap) s := act_field 8 x 2 und_8 rfl agg_4
@[simp] theorem o_fieldAddr_8_3 {x : Operand} : actO TT self (.fieldAddr 8 x 3) f s = pureR (vFieldAddr 3 x f.eval s.heap) s := act_fieldAddr 8 x 3 und_8 rfl size_6 rfl
@[simp] theorem o_field_8_3 {x : Operand} : actO TT self (.field 8 x 3) f s = pureR (vField 3 none x f.eval s.heap) s := act_field 8 x 3 und_8 rfl agg_6
@[simp] theorem o_build_8 {pl0 : Array (Nat × Operand)} : actO TT self (.build 8 pl0) f s = ob (placesS [(0, 1), (1, 1), (2, 1), (3, 1)] pl0.toList) fun l => pureR (aggV (fillL f.eval l ((.agg #[(.int .i64 0), (.int .i64 0), (.bool false), (.int .u8 0)]) : Value).cells.toList)) s := act_buildS 8 pl0 zero_8 und_8 (by kernel_rfl)
@[simp] theorem o_load_9 {x : Operand} : actO TT self (.load 9 x) f s = pureR (vLoad none x f.eval s.heap) s := by rw [act_load, agg_9]; rfl
@[simp] theorem o_store_9 {a x : Operand} : actO TT self (.store 9 a x) f s = eStore 1 a x self f.eval s := by rw [act_store, size_9]; rfl
@[simp] theorem o_alloc_9 : actO TT self (.alloc 9) f s = exNew s (.cells ((.string ⟨#[]⟩) : Value).cells.toList none) ptrTo := by rw [act_alloc, zero_9]; rfl
@[simp] theorem o_bin_9 {op : BinOp} {x y : Operand} {u : TypeId} : actO TT self (.binOp op 9 x y u) f s = pureR (binV TT Go.TypeDesc.string 9 (TT.prog.keyTypeAt 20 9 && !TT.prog.eqGuardType TT.prog.depth 9) op x y f.eval s.heap) s := by rw [act_bin, und_9]; rfl
@[simp] theorem o_index_9 {x i : Operand} : actO TT self (.index 9 x i) f s = pureR (vIndexStr x i f.eval s.heap) s := act_indexStr 9 x i und_9
@[simp] theorem o_len_9 {x : Operand} : actO TT self (.call ⟨.builtin .len, #[x], #[9]⟩) f s = pureR (vLenStr x f.eval s.heap) s := act_lenStr x und_9
@[simp] theorem o_load_10 {x : Operand} : actO TT self (.load 10 x) f s = pureR (vLoad none x f.eval s.heap) s := by rw [act_load, agg_10]; rfl
@[simp] theorem o_store_10 {a x : Operand} : actO TT self (.store 10 a x) f s = eStore 1 a x self f.eval s := by rw [act_store, size_10]; rfl
@[simp] theorem o_alloc_10 : actO TT self (.alloc 10) f s = exNew s (.cells ((.string ⟨#[]⟩) : Value).cells.toList none) ptrTo := by rw [act_alloc, zero_10]; rfl
@[simp] theorem o_bin_10 {op : BinOp} {x y : Operand} {u : TypeId} : actO TT self (.binOp op 10 x y u) f s = pureR (binV TT Go.TypeDesc.string 10 (TT.prog.keyTypeAt 20 10 && !TT.prog.eqGuardType TT.prog.depth 10) op x y f.eval s.heap) s := by rw [act_bin, und_10]; rfl
@[simp] theorem o_index_10 {x i : Operand} : actO TT self (.index 10 x i) f s = pureR (vIndexStr x i f.eval s.heap) s := act_indexStr 10 x i und_10
@[simp] theorem o_len_10 {x : Operand} : actO TT self (.call ⟨.builtin .len, #[x], #[10]⟩) f s = pureR (vLenStr x f.eval s.heap) s := act_lenStr x und_10
@[simp] theorem o_load_11 {x : Operand} : actO TT self (.load 11 x) f s = pureR (vLoad none x f.eval s.heap) s := by rw [act_load, agg_11]; rfl
@[simp] theorem o_store_11 {a x : Operand} : actO TT self (.store 11 a x) f s = eStore 1 a x self f.eval s := by rw [act_store, size_11]; rfl
@[simp] theorem o_alloc_11 : actO TT self (.alloc 11) f s = exNew s (.cells ((.string ⟨#[]⟩) : Value).cells.toList none) ptrTo := by rw [act_alloc, zero_11]; rfl
@[simp] theorem o_bin_11 {op : BinOp} {x y : Operand} {u : TypeId} : actO TT self (.binOp op 11 x y u) f s = pureR (binV TT Go.TypeDesc.string 11 (TT.prog.keyTypeAt 20 11 && !TT.prog.eqGuardType TT.prog.depth 11) op x y f.eval s.heap) s := by rw [act_bin, und_11]; rfl
@[simp] theorem o_index_11 {x i : Operand} : actO TT self (.index 11 x i) f s = pureR (vIndexStr x i f.eval s.heap) s := act_indexStr 11 x i und_11
@[simp] theorem o_len_11 {x : Operand} : actO TT self (.call ⟨.builtin .len, #[x], #[11]⟩) f s = pureR (vLenStr x f.eval s.heap) s := act_lenStr x und_11
@[simp] theorem o_load_12 {x : Operand} : actO TT self (.load 12 x) f s = pureR (vLoad none x f.eval s.heap) s := by rw [act_load, agg_12]; rfl
@[simp] theorem o_store_12 {a x : Operand} : actO TT self (.store 12 a x) f s = eStore 1 a x self f.eval s := by rw [act_store, size_12]; rfl
@[simp] theorem o_alloc_12 : actO TT self (.alloc 12) f s = exNew s (.cells ((.int .u64 0) : Value).cells.toList none) ptrTo := by rw [act_alloc, zero_12]; rfl
@[simp] theorem o_bin_12 {op : BinOp} {x y : Operand} {u : TypeId} : actO TT self (.binOp op 12 x y u) f s = pureR (binV TT (Go.TypeDesc.int Go.IntKind.u64) 12 (TT.prog.keyTypeAt 20 12 && !TT.prog.eqGuardType TT.prog.depth 12) op x y f.eval s.heap) s := by rw [act_bin, und_12]; rfl
@[simp] theorem o_convert_12 {a : TypeId} {x : Operand} (h : (TT.und a).isSome = true) : actO TT self (.convert a 12 x) f s = pureR (vConv .u64 x f.eval s.heap) s := act_convert a 12 x h und_12
@[simp] theorem o_load_13 {x : Operand} : actO TT self (.load 13 x) f s = pureR (vLoad (some 2) x f.eval s.heap) s := by rw [act_load, agg_13]; rfl
@[simp] theorem o_store_13 {a x : Operand} : actO TT self (.store 13 a x) f s = eStore 2 a x self f.eval s := by rw [act_store, size_13]; rfl
@[simp] theorem o_alloc_13 : actO TT self (.alloc 13) f s = exNew s (.cells ((.agg #[(.string ⟨#[]⟩), (.int .u64 0)]) : Value).cells.toList none) ptrTo := by rw [act_alloc, zero_13]; rfl
theorem flag_13 : (TT.prog.keyTypeAt 20 13 && !TT.prog.eqGuardType TT.prog.depth 13) = (TT.prog.keyTypeAt 20 13 && !TT.prog.eqGuardType TT.prog.depth 13) := rfl
@[simp] theorem o_bin_13 {op : BinOp} {x y : Operand} {u : TypeId} : actO TT self (.binOp op 13 x y u) f s = pureR (binV TT (Go.TypeDesc.struct #[{ name := "msg", type := 9, offset := 0, embedded := Bool.false, tag := "", pkgPath := "runtime", byteOffset := 0 }, { name := "addr", type := 12, offset := 1, embedded := Bool.false, tag := "", pkgPath := "runtime", byteOffset := 16 }]) 13 (TT.prog.keyTypeAt 20 13 && !TT.prog.eqGuardType TT.prog.depth 13) op x y f.eval s.heap) s := by rw [act_bin, und_13]; rfl
@[simp] theorem o_fieldAddr_13_0 {x : Operand} : actO TT self (.fieldAddr 13 x 0) f s = pureR (vFieldAddr 0 x f.eval s.heap) s := act_fieldAddr 13 x 0 und_13 rfl size_9 rfl
@[simp] theorem o_field_13_0 {x : Operand} : actO TT self (.field 13 x 0) f s = pureR (vField 0 none x f.eval s.heap) s := act_field 13 x 0 und_13 rfl agg_9
@[simp] theorem o_fieldAddr_13_1 {x : Operand} : actO TT self (.fieldAddr 13 x 1) f s = pureR (vFieldAddr 1 x f.eval s.heap) s := act_fieldAddr 13 x 1 und_13 rfl size_12 rfl
@[simp] theorem o_field_13_1 {x : Operand} : actO TT self (.field 13 x 1) f s = pureR (vField 1 none x f.eval s.heap) s := act_field 13 x 1 und_13 rfl agg_12
@[simp] theorem o_build_13 {pl0 : Array (Nat × Operand)} : actO TT self (.build 13 pl0) f s = ob (placesS [(0, 1), (1, 1)] pl0.toList) fun l => pureR (aggV (fillL f.eval l ((.agg #[(.string ⟨#[]⟩), (.int .u64 0)]) : Value).cells.toList)) s := act_buildS 13 pl0 zero_13 und_13 (by kernel_rfl)
@[simp] theorem o_load_14 {x : Operand} : actO TT self (.load 14 x) f s = pureR (vLoad (some 2) x f.eval s.heap) s := by rw [act_load, agg_14]; rfl
@[simp] theorem o_store_14 {a x : Operand} : actO TT self (.store 14 a x) f s = eStore 2 a x self f.eval s := by rw [act_store, size_14]; rfl
@[simp] theorem o_alloc_14 : actO TT self (.alloc 14) f s = exNew s (.cells ((.agg #[(.string ⟨#[]⟩), (.int .u64 0)]) : Value).cells.toList none) ptrTo := by rw [act_alloc, zero_14]; rfl
theorem flag_14 : (TT.prog.keyTypeAt 20 14 && !TT.prog.eqGuardType TT.prog.depth 14) = (TT.prog.keyTypeAt 20 14 && !TT.prog.eqGuardType TT.prog.depth 14) := rfl
@[simp] theorem o_bin_14 {op : BinOp} {x y : Operand} {u : TypeId} : actO TT self (.binOp op 14 x y u) f s = pureR (binV TT (Go.TypeDesc.struct #[{ name := "msg", type := 9, offset := 0, embedded := Bool.false, tag := "", pkgPath := "runtime", byteOffset := 0 }, { name := "addr", type := 12, offset := 1, embedded := Bool.false, tag := "", pkgPath := "runtime", byteOffset := 16 }]) 14 (TT.prog.keyTypeAt 20 14 && !TT.prog.eqGuardType TT.prog.depth 14) op x y f.eval s.heap) s := by rw [act_bin, und_14]; rfl
@[simp] theorem o_fieldAddr_14_0 {x : Operand} : actO TT self (.fieldAddr 14 x 0) f s = pureR (vFieldAddr 0 x f.eval s.heap) s := act_fieldAddr 14 x 0 und_14 rfl size_9 rfl
@[simp] theorem o_field_14_0 {x : Operand} : actO TT self (.field 14 x 0) f s = pureR (vField 0 none x f.eval s.heap) s := act_field 14 x 0 und_14 rfl agg_9
@[simp] theorem o_fieldAddr_14_1 {x : Operand} : actO TT self (.fieldAddr 14 x 1) f s = pureR (vFieldAddr 1 x f.eval s.heap) s := act_fieldAddr 14 x 1 und_14 rfl size_12 rfl
@[simp] theorem o_field_14_1 {x : Operand} : actO TT self (.field 14 x 1) f s = pureR (vField 1 none x f.eval s.heap) s := act_field 14 x 1 und_14 rfl agg_12
@[simp] theorem o_build_14 {pl0 : Array (Nat × Operand)} : actO TT self (.build 14 pl0) f s = ob (placesS [(0, 1), (1, 1)] pl0.toList) fun l => pureR (aggV (fillL f.eval l ((.agg #[(.string ⟨#[]⟩), (.int .u64 0)]) : Value).cells.toList)) s := act_buildS 14 pl0 zero_14 und_14 (by kernel_rfl)
@[simp] theorem o_load_15 {x : Operand} : actO TT self (.load 15 x) f s = pureR (vLoad none x f.eval s.heap) s := by rw [act_load, agg_15]; rfl
@[simp] theorem o_store_15 {a x : Operand} : actO TT self (.store 15 a x) f s = eStore 1 a x self f.eval s := by rw [act_store, size_15]; rfl
@[simp] theorem o_alloc_15 : actO TT self (.alloc 15) f s = exNew s (.cells ((.pointer none) : Value).cells.toList none) ptrTo := by rw [act_alloc, zero_15]; rfl
@[simp] theorem o_bin_15 {op : BinOp} {x y : Operand} {u : TypeId} : actO TT self (.binOp op 15 x y u) f s = pureR (binV TT (Go.TypeDesc.pointer 136) 15 (TT.prog.keyTypeAt 20 15 && !TT.prog.eqGuardType TT.prog.depth 15) op x y f.eval s.heap) s := by rw [act_bin, und_15]; rfl
@[simp] theorem o_load_16 {x : Operand} : actO TT self (.load 16 x) f s = pureR (vLoad none x f.eval s.heap) s := by rw [act_load, agg_16]; rfl
@[simp] theorem o_store_16 {a x : Operand} : actO TT self (.store 16 a x) f s = eStore 1 a x self f.eval s := by rw [act_store, size_16]; rfl
@[simp] theorem o_alloc_16 : actO TT self (.alloc 16) f s = exNew s (.cells ((.pointer none) : Value).cells.toList none) ptrTo := by rw [act_alloc, zero_16]; rfl
@[simp] theorem o_bin_16 {op : BinOp} {x y : Operand} {u : TypeId} : actO TT self (.binOp op 16 x y u) f s = pureR (binV TT (Go.TypeDesc.pointer 139) 16 (TT.prog.keyTypeAt 20 16 && !TT.prog.eqGuardType TT.prog.depth 16) op x y f.eval s.heap) s := by rw [act_bin, und_16]; rfl
@[simp] theorem o_load_17 {x : Operand} : actO TT self (.load 17 x) f s = pureR (vLoad none x f.eval s.heap) s := by rw [act_load, agg_17]; rfl
@[simp] theorem o_store_17 {a x : Operand} : actO TT self (.store 17 a x) f s = eStore 1 a x self f.eval s := by rw [act_store, size_17]; rfl
@[simp] theorem o_alloc_17 : actO TT self (.alloc 17) f s = exNew s (.cells ((.pointer none) : Value).cells.toList none) ptrTo := by rw [act_alloc, zero_17]; rfl
@[simp] theorem o_bin_17 {op : BinOp} {x y : Operand} {u : TypeId} : actO TT self (.binOp op 17 x y u) f s = pureR (binV TT (Go.TypeDesc.pointer 149) 17 (TT.prog.keyTypeAt 20 17 && !TT.prog.eqGuardType TT.prog.depth 17) op x y f.eval s.heap) s := by rw [act_bin, und_17]; rfl
@[simp] theorem o_load_18 {x : Operand} : actO TT self (.load 18 x) f s = pureR (vLoad (some 1) x f.eval s.heap) s := by rw [act_load, agg_18]; rfl
@[simp] theorem o_store_18 {a x : Operand} : actO TT self (.store 18 a x) f s = eStore 1 a x self f.eval s := by rw [act_store, size_18]; rfl
@[simp] theorem o_alloc_18 : actO TT self (.alloc 18) f s = exNew s (.cells ((.agg #[(.pointer none)]) : Value).cells.toList none) ptrTo := by rw [act_alloc, zero_18]; rfl
theorem flag_18 : (TT.prog.keyTypeAt 20 18 && !TT.prog.eqGuardType TT.prog.depth 18) = (TT.prog.keyTypeAt 20 18 && !TT.prog.eqGuardType TT.prog.depth 18) := rfl
@[simp] theorem o_bin_18 {op : BinOp} {x y : Operand} {u : TypeId} : actO TT self (.binOp op 18 x y u) f s = pureR (binV TT (Go.TypeDesc.struct #[{ name := "typ", type := 17, offset := 0, embedded := Bool.false, tag := "", pkgPath := "internal/runtime/maps", byteOffset := 0 }]) 18 (TT.prog.keyTypeAt 20 18 && !TT.prog.eqGuardType TT.prog.depth 18) op x y f.eval s.heap) s := by rw [act_bin, und_18]; rfl
@[simp] theorem o_fieldAddr_18_0 {x : Operand} : actO TT self (.fieldAddr 18 x 0) f s = pureR (vFieldAddr 0 x f.eval s.heap) s := act_fieldAddr 18 x 0 und_18 rfl size_17 rfl
@[simp] theorem o_field_18_0 {x : Operand} : actO TT self (.field 18 x 0) f s = pureR (vField 0 none x f.eval s.heap) s := act_field 18 x 0 und_18 rfl agg_17
@[simp] theorem o_build_18 {pl0 : Array (Nat × Operand)} : actO TT self (.build 18 pl0) f s = ob (placesS [(0, 1)] pl0.toList) fun l => pureR (aggV (fillL f.eval l ((.agg #[(.pointer none)]) : Value).cells.toList)) s := act_buildS 18 pl0 zero_18 und_18 (by kernel_rfl)
@[simp] theorem o_load_19 {x : Operand} : actO TT self (.load 19 x) f s = pureR (vLoad (some 1) x f.eval s.heap) s := by rw [act_load, agg_19]; rfl
@[simp] theorem o_store_19 {a x : Operand} : actO TT self (.store 19 a x) f s = eStore 1 a x self f.eval s := by rw [act_store, size_19]; rfl
@[simp] theorem o_alloc_19 : actO TT self (.alloc 19) f s = exNew s (.cells ((.agg #[(.pointer none)]) : Value).cells.toList none) ptrTo := by rw [act_alloc, zero_19]; rfl
theorem flag_19 : (TT.prog.keyTypeAt 20 19 && !TT.prog.eqGuardType TT.prog.depth 19) = (TT.prog.keyTypeAt 20 19 && !TT.prog.eqGuardType TT.prog.depth 19) := rfl
@[simp] theorem o_bin_19 {op : BinOp} {x y : Operand} {u : TypeId} : actO TT self (.binOp op 19 x y u) f s = pureR (binV TT (Go.TypeDesc.struct #[{ name := "typ", type := 17, offset := 0, embedded := Bool.false, tag := "", pkgPath := "internal/runtime/maps", byteOffset := 0 }]) 19 (TT.prog.keyTypeAt 20 19 && !TT.prog.eqGuardType TT.prog.depth 19) op x y f.eval s.heap) s := by rw [act_bin, und_19]; rfl
@[simp] theorem o_fieldAddr_19_0 {x : Operand} : actO TT self (.fieldAddr 19 x 0) f s = pureR (vFieldAddr 0 x f.eval s.heap) s := act_fieldAddr 19 x 0 und_19 rfl size_17 rfl
@[simp] theorem o_field_19_0 {x : Operand} : actO TT self (.field 19 x 0) f s = pureR (vField 0 none x f.eval s.heap) s := act_field 19 x 0 und_19 rfl agg_17
@[simp] theorem o_build_19 {pl0 : Array (Nat × Operand)} : actO TT self (.build 19 pl0) f s = ob (placesS [(0, 1)] pl0.toList) fun l => pureR (aggV (fillL f.eval l ((.agg #[(.pointer none)]) : Value).cells.toList)) s := act_buildS 19 pl0 zero_19 und_19 (by kernel_rfl)
@[simp] theorem o_load_20 {x : Operand} : actO TT self (.load 20 x) f s = pureR (vLoad none x f.eval s.heap) s := by rw [act_load, agg_20]; rfl
@[simp] theorem o_store_20 {a x : Operand} : actO TT self (.store 20 a x) f s = eStore 1 a x self f.eval s := by rw [act_store, size_20]; rfl
@[simp] theorem o_alloc_20 : actO TT self (.alloc 20) f s = exNew s (.cells (.nilIface : Value).cells.toList none) ptrTo := by rw [act_alloc, zero_20]; rfl
@[simp] theorem o_bin_20 {op : BinOp} {x y : Operand} {u : TypeId} : actO TT self (.binOp op 20 x y u) f s = pureR (binV TT (Go.TypeDesc.interface #[]) 20 (TT.prog.keyTypeAt 20 20 && !TT.prog.eqGuardType TT.prog.depth 20) op x y f.eval s.heap) s := by rw [act_bin, und_20]; rfl
@[simp] theorem o_load_21 {x : Operand} : actO TT self (.load 21 x) f s = pureR (vLoad none x f.eval s.heap) s := by rw [act_load, agg_21]; rfl
@[simp] theorem o_store_21 {a x : Operand} : actO TT self (.store 21 a x) f s = eStore 1 a x self f.eval s := by rw [act_store, size_21]; rfl
@[simp] theorem o_alloc_21 : actO TT self (.alloc 21) f s = exNew s (.cells ((.int .i32 0) : Value).cells.toList none) ptrTo := by rw [act_alloc, zero_21]; rfl
@[simp] theorem o_bin_21 {op : BinOp} {x y : Operand} {u : TypeId} : actO TT self (.binOp op 21 x y u) f s = pureR (binV TT (Go.TypeDesc.int Go.IntKind.i32) 21 (TT.prog.keyTypeAt 20 21 && !TT.prog.eqGuardType TT.prog.depth 21) op x y f.eval s.heap) s := by rw [act_bin, und_21]; rfl
@[simp] theorem o_convert_21 {a : TypeId} {x : Operand} (h : (TT.und a).isSome = true) : actO TT self (.convert a 21 x) f s = pureR (vConv .i32 x f.eval s.heap) s := act_convert a 21 x h und_21
@[simp] theorem o_load_22 {x : Operand} : actO TT self (.load 22 x) f s = pureR (vLoad none x f.eval s.heap) s := by rw [act_load, agg_22]; rfl
@[simp] theorem o_store_22 {a x : Operand} : actO TT self (.store 22 a x) f s = eStore 1 a x self f.eval s := by rw [act_store, size_22]; rfl
@[simp] theorem o_alloc_22 : actO TT self (.alloc 22) f s = exNew s (.cells ((.slice none 0 0) : Value).cells.toList none) ptrTo := by rw [act_alloc, zero_22]; rfl
@[simp] theorem o_bin_22 {op : BinOp} {x y : Operand} {u : TypeId} : actO TT self (.binOp op 22 x y u) f s = pureR (binV TT (Go.TypeDesc.slice 82) 22 (TT.prog.keyTypeAt 20 22 && !TT.prog.eqGuardType TT.prog.depth 22) op x y f.eval s.heap) s := by rw [act_bin, und_22]; rfl
@[simp] theorem o_indexAddr_22 {x i : Operand} : actO TT self (.indexAddr 22 x i) f s = pureR (vIndexAddrS 7 x i f.eval s.heap) s := act_indexAddrS 22 x i und_22 size_82
@[simp] theorem o_len_22 {x : Operand} : actO TT self (.call ⟨.builtin .len, #[x], #[22]⟩) f s = pureR (vLenSl x f.eval s.heap) s := act_lenSl x und_22
@[simp] theorem o_append_22 {x y : Operand} : actO TT self (.call ⟨.builtin .append, #[x, y], #[22, 22]⟩) f s = eAppend 7 x y self f.eval s := act_append x y und_22 und_22 size_82 bytes_82 zero_82 rfl
@[simp] theorem o_makeSlice_22 {l c : Operand} : actO TT self (.makeSlice 22 l c) f s = ob (eMakeSl ((.agg #[(.int .i64 0), (.int .i64 0), (.bool false), (.int .i64 0), (.int .i64 0), (.int .i64 0), (.int .i64 0)]) : Value).cells.toList 7 l c f.eval) fun p => exNew s p.1 p.2 := act_makeSlice 22 l c und_22 size_82 bytes_82 zero_82 rfl
@[simp] theorem o_buildSlice_22 {len : Nat} {pl0 : Array (Nat × Operand)} (h : len * 7 ≤ 16777216) : actO TT self (.buildSlice 22 len pl0) f s = ob (fillL f.eval (placesA 7 pl0.toList) (repeatL ((.agg #[(.int .i64 0), (.int .i64 0), (.bool false), (.int .i64 0), (.int .i64 0), (.int .i64 0), (.int .i64 0)]) : Value).cells.toList len)) fun c => exNew s (.cells c none) fun i => .slice (some ⟨i, 0, none⟩) len len := act_buildSlice 22 len pl0 und_22 size_82 zero_82 (by rw [show Nat.beq (lenL ((.agg #[(.int .i64 0), (.int .i64 0), (.bool false), (.int .i64 0), (.int .i64 0), (.int .i64 0), (.int .i64 0)]) : Value).cells.toList) 7 = true from rfl, Nat.ble_eq_true_of_le h]; rfl)
@[simp] theorem o_load_23 {x : Operand} : actO TT self (.load 23 x) f s = pureR (vLoad (some 2) x f.eval s.heap) s := by rw [act_load, agg_23]; rfl
@[simp] theorem o_store_23 {a x : Operand} : actO TT self (.store 23 a x) f s = eStore 2 a x self f.eval s := by rw [act_store, size_23]; rfl
@[simp] theorem o_alloc_23 : actO TT self (.alloc 23) f s = exNew s (.cells ((.agg #[(.int .i64 0), (.slice none 0 0)]) : Value).cells.toList none) ptrTo := by rw [act_alloc, zero_23]; rfl
theorem flag_23 : (TT.prog.keyTypeAt 20 23 && !TT.prog.eqGuardType TT.prog.depth 23) = (TT.prog.keyTypeAt 20 23 && !TT.prog.eqGuardType TT.prog.depth 23) := rfl
@[simp] theorem o_bin_23 {op : BinOp} {x y : Operand} {u : TypeId} : actO TT self (.binOp op 23 x y u) f s = pureR (binV TT (Go.TypeDesc.struct #[{ name := "Units", type := 3, offset := 0, embedded := Bool.false, tag := "", pkgPath := "", byteOffset := 0 }, { name := "Flows", type := 22, offset := 1, embedded := Bool.false, tag := "", pkgPath := "", byteOffset := 8 }]) 23 (TT.prog.keyTypeAt 20 23 && !TT.prog.eqGuardType TT.prog.depth 23) op x y f.eval s.heap) s := by rw [act_bin, und_23]; rfl
@[simp] theorem o_fieldAddr_23_0 {x : Operand} : actO TT self (.fieldAddr 23 x 0) f s = pureR (vFieldAddr 0 x f.eval s.heap) s := act_fieldAddr 23 x 0 und_23 rfl size_3 rfl
@[simp] theorem o_field_23_0 {x : Operand} : actO TT self (.field 23 x 0) f s = pureR (vField 0 none x f.eval s.heap) s := act_field 23 x 0 und_23 rfl agg_3
@[simp] theorem o_fieldAddr_23_1 {x : Operand} : actO TT self (.fieldAddr 23 x 1) f s = pureR (vFieldAddr 1 x f.eval s.heap) s := act_fieldAddr 23 x 1 und_23 rfl size_22 rfl
@[simp] theorem o_field_23_1 {x : Operand} : actO TT self (.field 23 x 1) f s = pureR (vField 1 none x f.eval s.heap) s := act_field 23 x 1 und_23 rfl agg_22
@[simp] theorem o_build_23 {pl0 : Array (Nat × Operand)} : actO TT self (.build 23 pl0) f s = ob (placesS [(0, 1), (1, 1)] pl0.toList) fun l => pureR (aggV (fillL f.eval l ((.agg #[(.int .i64 0), (.slice none 0 0)]) : Value).cells.toList)) s := act_buildS 23 pl0 zero_23 und_23 (by kernel_rfl)
@[simp] theorem o_load_24 {x : Operand} : actO TT self (.load 24 x) f s = pureR (vLoad (some 2) x f.eval s.heap) s := by rw [act_load, agg_24]; rfl
@[simp] theorem o_store_24 {a x : Operand} : actO TT self (.store 24 a x) f s = eStore 2 a x self f.eval s := by rw [act_store, size_24]; rfl
@[simp] theorem o_alloc_24 : actO TT self (.alloc 24) f s = exNew s (.cells ((.agg #[(.int .i64 0), (.slice none 0 0)]) : Value).cells.toList none) ptrTo := by rw [act_alloc, zero_24]; rfl
theorem flag_24 : (TT.prog.keyTypeAt 20 24 && !TT.prog.eqGuardType TT.prog.depth 24) = (TT.prog.keyTypeAt 20 24 && !TT.prog.eqGuardType TT.prog.depth 24) := rfl
@[simp] theorem o_bin_24 {op : BinOp} {x y : Operand} {u : TypeId} : actO TT self (.binOp op 24 x y u) f s = pureR (binV TT (Go.TypeDesc.struct #[{ name := "Units", type := 3, offset := 0, embedded := Bool.false, tag := "", pkgPath := "", byteOffset := 0 }, { name := "Flows", type := 22, offset := 1, embedded := Bool.false, tag := "", pkgPath := "", byteOffset := 8 }]) 24 (TT.prog.keyTypeAt 20 24 && !TT.prog.eqGuardType TT.prog.depth 24) op x y f.eval s.heap) s := by rw [act_bin, und_24]; rfl
@[simp] theorem o_fieldAddr_24_0 {x : Operand} : actO TT self (.fieldAddr 24 x 0) f s = pureR (vFieldAddr 0 x f.eval s.heap) s := act_fieldAddr 24 x 0 und_24 rfl size_3 rfl
@[simp] theorem o_field_24_0 {x : Operand} : actO TT self (.field 24 x 0) f s = pureR (vField 0 none x f.eval s.heap) s := act_field 24 x 0 und_24 rfl agg_3
@[simp] theorem o_fieldAddr_24_1 {x : Operand} : actO TT self (.fieldAddr 24 x 1) f s = pureR (vFieldAddr 1 x f.eval s.heap) s := act_fieldAddr 24 x 1 und_24 rfl size_22 rfl
@[simp] theorem o_field_24_1 {x : Operand} : actO TT self (.field 24 x 1) f s = pureR (vField 1 none x f.eval s.heap) s := act_field 24 x 1 und_24 rfl agg_22
@[simp] theorem o_build_24 {pl0 : Array (Nat × Operand)} : actO TT self (.build 24 pl0) f s = ob (placesS [(0, 1), (1, 1)] pl0.toList) fun l => pureR (aggV (fillL f.eval l ((.agg #[(.int .i64 0), (.slice none 0 0)]) : Value).cells.toList)) s := act_buildS 24 pl0 zero_24 und_24 (by kernel_rfl)
@[simp] theorem o_load_25 {x : Operand} : actO TT self (.load 25 x) f s = pureR (vLoad none x f.eval s.heap) s := by rw [act_load, agg_25]; rfl
@[simp] theorem o_store_25 {a x : Operand} : actO TT self (.store 25 a x) f s = eStore 1 a x self f.eval s := by rw [act_store, size_25]; rfl
@[simp] theorem o_alloc_25 : actO TT self (.alloc 25) f s = exNew s (.cells ((.slice none 0 0) : Value).cells.toList none) ptrTo := by rw [act_alloc, zero_25]; rfl
@[simp] theorem o_bin_25 {op : BinOp} {x y : Operand} {u : TypeId} : actO TT self (.binOp op 25 x y u) f s = pureR (binV TT (Go.TypeDesc.slice 3) 25 (TT.prog.keyTypeAt 20 25 && !TT.prog.eqGuardType TT.prog.depth 25) op x y f.eval s.heap) s := by rw [act_bin, und_25]; rfl
@[simp] theorem o_indexAddr_25 {x i : Operand} : actO TT self (.indexAddr 25 x i) f s = pureR (vIndexAddrS 1 x i f.eval s.heap) s := act_indexAddrS 25 x i und_25 size_3
@[simp] theorem o_len_25 {x : Operand} : actO TT self (.call ⟨.builtin .len, #[x], #[25]⟩) f s = pureR (vLenSl x f.eval s.heap) s := act_lenSl x und_25
@[simp] theorem o_append_25 {x y : Operand} : actO TT self (.call ⟨.builtin .append, #[x, y], #[25, 25]⟩) f s = eAppend 1 x y self f.eval s := act_append x y und_25 und_25 size_3 bytes_3 zero_3 rfl
@[simp] theorem o_makeSlice_25 {l c : Operand} : actO TT self (.makeSlice 25 l c) f s = ob (eMakeSl ((.int .i64 0) : Value).cells.toList 1 l c f.eval) fun p => exNew s p.1 p.2 := act_makeSlice 25 l c und_25 size_3 bytes_3 zero_3 rfl
@[simp] theorem o_buildSlice_25 {len : Nat} {pl0 : Array (Nat × Operand)} (h : len * 1 ≤ 16777216) : actO TT self (.buildSlice 25 len pl0) f s = ob (fillL f.eval (placesA 1 pl0.toList) (repeatL ((.int .i64 0) : Value).cells.toList len)) fun c => exNew s (.cells c none) fun i => .slice (some ⟨i, 0, none⟩) len len := act_buildSlice 25 len pl0 und_25 size_3 zero_3 (by rw [show Nat.beq (lenL ((.int .i64 0) : Value).cells.toList) 1 = true from rfl, Nat.ble_eq_true_of_le h]; rfl)
@[simp] theorem o_load_26 {x : Operand} : actO TT self (.load 26 x) f s = pureR (vLoad none x f.eval s.heap) s := by rw [act_load, agg_26]; rfl
@[simp] theorem o_store_26 {a x : Operand} : actO TT self (.store 26 a x) f s = eStore 1 a x self f.eval s := by rw [act_store, size_26]; rfl
@[simp] theorem o_alloc_26 : actO TT self (.alloc 26) f s = exNew s (.cells (.nilFunc : Value).cells.toList none) ptrTo := by rw [act_alloc, zero_26]; rfl
@[simp] theorem o_bin_26 {op : BinOp} {x y : Operand} {u : TypeId} : actO TT self (.binOp op 26 x y u) f s = pureR (binV TT (Go.TypeDesc.func #[] #[4] Bool.false) 26 (TT.prog.keyTypeAt 20 26 && !TT.prog.eqGuardType TT.prog.depth 26) op x y f.eval s.heap) s := by rw [act_bin, und_26]; rfl
@[simp] theorem o_load_27 {x : Operand} : actO TT self (.load 27 x) f s = pureR (vLoad none x f.eval s.heap) s := by rw [act_load, agg_27]; rfl
@[simp] theorem o_store_27 {a x : Operand} : actO TT self (.store 27 a x) f s = eStore 1 a x self f.eval s := by rw [act_store, size_27]; rfl
@[simp] theorem o_alloc_27 : actO TT self (.alloc 27) f s = exNew s (.cells ((.int .i64 0) : Value).cells.toList none) ptrTo := by rw [act_alloc, zero_27]; rfl
@[simp] theorem o_bin_27 {op : BinOp} {x y : Operand} {u : TypeId} : actO TT self (.binOp op 27 x y u) f s = pureR (binV TT (Go.TypeDesc.int Go.IntKind.i64) 27 (TT.prog.keyTypeAt 20 27 && !TT.prog.eqGuardType TT.prog.depth 27) op x y f.eval s.heap) s := by rw [act_bin, und_27]; rfl
@[simp] theorem o_convert_27 {a : TypeId} {x : Operand} (h : (TT.und a).isSome = true) : actO TT self (.convert a 27 x) f s = pureR (vConv .i64 x f.eval s.heap) s := act_convert a 27 x h und_27
@[simp] theorem o_load_28 {x : Operand} : actO TT self (.load 28 x) f s = pureR (vLoad none x f.eval s.heap) s := by rw [act_load, agg_28]; rfl
@[simp] theorem o_store_28 {a x : Operand} : actO TT self (.store 28 a x) f s = eStore 1 a x self f.eval s := by rw [act_store, size_28]; rfl
@[simp] theorem o_load_29 {x : Operand} : actO TT self (.load 29 x) f s = pureR (vLoad none x f.eval s.heap) s := by rw [act_load, agg_29]; rfl
@[simp] theorem o_store_29 {a x : Operand} : actO TT self (.store 29 a x) f s = eStore 1 a x self f.eval s := by rw [act_store, size_29]; rfl
@[simp] theorem o_alloc_29 : actO TT self (.alloc 29) f s = exNew s (.cells (.nilFunc : Value).cells.toList none) ptrTo := by rw [act_alloc, zero_29]; rfl
@[simp] theorem o_bin_29 {op : BinOp} {x y : Operand} {u : TypeId} : actO TT self (.binOp op 29 x y u) f s = pureR (binV TT (Go.TypeDesc.func #[24] #[25, 27] Bool.false) 29 (TT.prog.keyTypeAt 20 29 && !TT.prog.eqGuardType TT.prog.depth 29) op x y f.eval s.heap) s := by rw [act_bin, und_29]; rfl
@[simp] theorem o_load_30 {x : Operand} : actO TT self (.load 30 x) f s = pureR (vLoad none x f.eval s.heap) s := by rw [act_load, agg_30]; rfl
@[simp] theorem o_store_30 {a x : Operand} : actO TT self (.store 30 a x) f s = eStore 1 a x self f.eval s := by rw [act_store, size_30]; rfl
@[simp] theorem o_alloc_30 : actO TT self (.alloc 30) f s = exNew s (.cells (.nilFunc : Value).cells.toList none) ptrTo := by rw [act_alloc, zero_30]; rfl
@[simp] theorem o_bin_30 {op : BinOp} {x y : Operand} {u : TypeId} : actO TT self (.binOp op 30 x y u) f s = pureR (binV TT (Go.TypeDesc.func #[33] #[25, 27] Bool.false) 30 (TT.prog.keyTypeAt 20 30 && !TT.prog.eqGuardType TT.prog.depth 30) op x y f.eval s.heap) s := by rw [act_bin, und_30]; rfl
@[simp] theorem o_load_31 {x : Operand} : actO TT self (.load 31 x) f s = pureR (vLoad none x f.eval s.heap) s := by rw [act_load, agg_31]; rfl
@[simp] theorem o_store_31 {a x : Operand} : actO TT self (.store 31 a x) f s = eStore 1 a x self f.eval s := by rw [act_store, size_31]; rfl
@[simp] theorem o_alloc_31 : actO TT self (.alloc 31) f s = exNew s (.cells ((.slice none 0 0) : Value).cells.toList none) ptrTo := by rw [act_alloc, zero_31]; rfl
@[simp] theorem o_bin_31 {op : BinOp} {x y : Operand} {u : TypeId} : actO TT self (.binOp op 31 x y u) f s = pureR (binV TT (Go.TypeDesc.slice 96) 31 (TT.prog.keyTypeAt 20 31 && !TT.prog.eqGuardType TT.prog.depth 31) op x y f.eval s.heap) s := by rw [act_bin, und_31]; rfl
@[simp] theorem o_indexAddr_31 {x i : Operand} : actO TT self (.indexAddr 31 x i) f s = pureR (vIndexAddrS 7 x i f.eval s.heap) s := act_indexAddrS 31 x i und_31 size_96
@[simp] theorem o_len_31 {x : Operand} : actO TT self (.call ⟨.builtin .len, #[x], #[31]⟩) f s = pureR (vLenSl x f.eval s.heap) s := act_lenSl x und_31
@[simp] theorem o_append_31 {x y : Operand} : actO TT self (.call ⟨.builtin .append, #[x, y], #[31, 31]⟩) f s = eAppend 7 x y self f.eval s := act_append x y und_31 und_31 size_96 bytes_96 zero_96 rfl
@[simp] theorem o_makeSlice_31 {l c : Operand} : actO TT self (.makeSlice 31 l c) f s = ob (eMakeSl ((.agg #[(.int .i64 0), (.int .i64 0), (.bool false), (.int .i64 0), (.int .i64 0), (.int .i64 0), (.int .i64 0)]) : Value).cells.toList 7 l c f.eval) fun p => exNew s p.1 p.2 := act_makeSlice 31 l c und_31 size_96 bytes_96 zero_96 rfl
@[simp] theorem o_buildSlice_31 {len : Nat} {pl0 : Array (Nat × Operand)} (h : len * 7 ≤ 16777216) : actO TT self (.buildSlice 31 len pl0) f s = ob (fillL f.eval (placesA 7 pl0.toList) (repeatL ((.agg #[(.int .i64 0), (.int .i64 0), (.bool false), (.int .i64 0), (.int .i64 0), (.int .i64 0), (.int .i64 0)]) : Value).cells.toList len)) fun c => exNew s (.cells c none) fun i => .slice (some ⟨i, 0, none⟩) len len := act_buildSlice 31 len pl0 und_31 size_96 zero_96 (by rw [show Nat.beq (lenL ((.agg #[(.int .i64 0), (.int .i64 0), (.bool false), (.int .i64 0), (.int .i64 0), (.int .i64 0), (.int .i64 0)]) : Value).cells.toList) 7 = true from rfl, Nat.ble_eq_true_of_le h]; rfl)
@[simp] theorem o_load_32 {x : Operand} : actO TT self (.load 32 x) f s = pureR (vLoad (some 2) x f.eval s.heap) s := by rw [act_load, agg_32]; rfl
@[simp] theorem o_store_32 {a x : Operand} : actO TT self (.store 32 a x) f s = eStore 2 a x self f.eval s := by rw [act_store, size_32]; rfl
@[simp] theorem o_alloc_32 : actO TT self (.alloc 32) f s = exNew s (.cells ((.agg #[(.int .i64 0), (.slice none 0 0)]) : Value).cells.toList none) ptrTo := by rw [act_alloc, zero_32]; rfl
theorem flag_32 : (TT.prog.keyTypeAt 20 32 && !TT.prog.eqGuardType TT.prog.depth 32) = (TT.prog.keyTypeAt 20 32 && !TT.prog.eqGuardType TT.prog.depth 32) := rfl
@[simp] theorem o_bin_32 {op : BinOp} {x y : Operand} {u : TypeId} : actO TT self (.binOp op 32 x y u) f s = pureR (binV TT (Go.TypeDesc.struct #[{ name := "Units", type := 3, offset := 0, embedded := Bool.false, tag := "", pkgPath := "", byteOffset := 0 }, { name := "Flows", type := 31, offset := 1, embedded := Bool.false, tag := "", pkgPath := "", byteOffset := 8 }]) 32 (TT.prog.keyTypeAt 20 32 && !TT.prog.eqGuardType TT.prog.depth 32) op x y f.eval s.heap) s := by rw [act_bin, und_32]; rfl
@[simp] theorem o_fieldAddr_32_0 {x : Operand} : actO TT self (.fieldAddr 32 x 0) f s = pureR (vFieldAddr 0 x f.eval s.heap) s := act_fieldAddr 32 x 0 und_32 rfl size_3 rfl
@[simp] theorem o_field_32_0 {x : Operand} : actO TT self (.field 32 x 0) f s = pureR (vField 0 none x f.eval s.heap) s := act_field 32 x 0 und_32 rfl agg_3
@[simp] theorem o_fieldAddr_32_1 {x : Operand} : actO TT self (.fieldAddr 32 x 1) f s = pureR (vFieldAddr 1 x f.eval s.heap) s := act_fieldAddr 32 x 1 und_32 rfl size_31 rfl
@[simp] theorem o_field_32_1 {x : Operand} : actO TT self (.field 32 x 1) f s = pureR (vField 1 none x f.eval s.heap) s := act_field 32 x 1 und_32 rfl agg_31
@[simp] theorem o_build_32 {pl0 : Array (Nat × Operand)} : actO TT self (.build 32 pl0) f s = ob (placesS [(0, 1), (1, 1)] pl0.toList) fun l => pureR (aggV (fillL f.eval l ((.agg #[(.int .i64 0), (.slice none 0 0)]) : Value).cells.toList)) s := act_buildS 32 pl0 zero_32 und_32 (by kernel_rfl)
@[simp] theorem o_load_33 {x : Operand} : actO TT self (.load 33 x) f s = pureR (vLoad (some 2) x f.eval s.heap) s := by rw [act_load, agg_33]; rfl
@[simp] theorem o_store_33 {a x : Operand} : actO TT self (.store 33 a x) f s = eStore 2 a x self f.eval s := by rw [act_store, size_33]; rfl
@[simp] theorem o_alloc_33 : actO TT self (.alloc 33) f s = exNew s (.cells ((.agg #[(.int .i64 0), (.slice none 0 0)]) : Value).cells.toList none) ptrTo := by rw [act_alloc, zero_33]; rfl
theorem flag_33 : (TT.prog.keyTypeAt 20 33 && !TT.prog.eqGuardType TT.prog.depth 33) = (TT.prog.keyTypeAt 20 33 && !TT.prog.eqGuardType TT.prog.depth 33) := rfl
@[simp] theorem o_bin_33 {op : BinOp} {x y : Operand} {u : TypeId} : actO TT self (.binOp op 33 x y u) f s = pureR (binV TT (Go.TypeDesc.struct #[{ name := "Units", type := 3, offset := 0, embedded := Bool.false, tag := "", pkgPath := "", byteOffset := 0 }, { name := "Flows", type := 31, offset := 1, embedded := Bool.false, tag := "", pkgPath := "", byteOffset := 8 }]) 33 (TT.prog.keyTypeAt 20 33 && !TT.prog.eqGuardType TT.prog.depth 33) op x y f.eval s.heap) s := by rw [act_bin, und_33]; rfl
@[simp] theorem o_fieldAddr_33_0 {x : Operand} : actO TT self (.fieldAddr 33 x 0) f s = pureR (vFieldAddr 0 x f.eval s.heap) s := act_fieldAddr 33 x 0 und_33 rfl size_3 rfl
@[simp] theorem o_field_33_0 {x : Operand} : actO TT self (.field 33 x 0) f s = pureR (vField 0 none x f.eval s.heap) s := act_field 33 x 0 und_33 rfl agg_3
@[simp] theorem o_fieldAddr_33_1 {x : Operand} : actO TT self (.fieldAddr 33 x 1) f s = pureR (vFieldAddr 1 x f.eval s.heap) s := act_fieldAddr 33 x 1 und_33 rfl size_31 rfl
@[simp] theorem o_field_33_1 {x : Operand} : actO TT self (.field 33 x 1) f s = pureR (vField 1 none x f.eval s.heap) s := act_field 33 x 1 und_33 rfl agg_31
@[simp] theorem o_build_33 {pl0 : Array (Nat × Operand)} : actO TT self (.build 33 pl0) f s = ob (placesS [(0, 1), (1, 1)] pl0.toList) fun l => pureR (aggV (fillL f.eval l ((.agg #[(.int .i64 0), (.slice none 0 0)]) : Value).cells.toList)) s := act_buildS 33 pl0 zero_33 und_33 (by kernel_rfl)
@[simp] theorem o_load_34 {x : Operand} : actO TT self (.load 34 x) f s = pureR (vLoad none x f.eval s.heap) s := by rw [act_load, agg_34]; rfl
@[simp] theorem o_store_34 {a x : Operand} : actO TT self (.store 34 a x) f s = eStore 1 a x self f.eval s := by rw [act_store, size_34]; rfl
@[simp] theorem o_alloc_34 : actO TT self (.alloc 34) f s = exNew s (.cells (.nilFunc : Value).cells.toList none) ptrTo := by rw [act_alloc, zero_34]; rfl
@[simp] theorem o_bin_34 {op : BinOp} {x y : Operand} {u : TypeId} : actO TT self (.binOp op 34 x y u) f s = pureR (binV TT (Go.TypeDesc.func #[24] #[33] Bool.false) 34 (TT.prog.keyTypeAt 20 34 && !TT.prog.eqGuardType TT.prog.depth 34) op x y f.eval s.heap) s := by rw [act_bin, und_34]; rfl
@[simp] theorem o_load_35 {x : Operand} : actO TT self (.load 35 x) f s = pureR (vLoad (some 4) x f.eval s.heap) s := by rw [act_load, agg_35]; rfl
@[simp] theorem o_store_35 {a x : Operand} : actO TT self (.store 35 a x) f s = eStore 4 a x self f.eval s := by rw [act_store, size_35]; rfl
@[simp] theorem o_alloc_35 : actO TT self (.alloc 35) f s = exNew s (.cells ((.agg #[(.int .i64 0), (.int .i64 0), (.int .i64 0), (.int .i64 0)]) : Value).cells.toList none) ptrTo := by rw [act_alloc, zero_35]; rfl
theorem flag_35 : (TT.prog.keyTypeAt 20 35 && !TT.prog.eqGuardType TT.prog.depth 35) = (TT.prog.keyTypeAt 20 35 && !TT.prog.eqGuardType TT.prog.depth 35) := rfl
@[simp] theorem o_bin_35 {op : BinOp} {x y : Operand} {u : TypeId} : actO TT self (.binOp op 35 x y u) f s = pureR (binV TT (Go.TypeDesc.array 4 3) 35 (TT.prog.keyTypeAt 20 35 && !TT.prog.eqGuardType TT.prog.depth 35) op x y f.eval s.heap) s := by rw [act_bin, und_35]; rfl
@[simp] theorem o_indexAddr_35 {x i : Operand} : actO TT self (.indexAddr 35 x i) f s = pureR (vIndexAddrA 4 1 x i f.eval s.heap) s := act_indexAddrA 35 x i und_35 size_3
@[simp] theorem o_index_35 {x i : Operand} : actO TT self (.index 35 x i) f s = pureR (vIndexA 4 1 none x i f.eval s.heap) s := act_indexA 35 x i und_35 size_3 agg_3
@[simp] theorem o_len_35 {x : Operand} : actO TT self (.call ⟨.builtin .len, #[x], #[35]⟩) f s = some (.int .i64 (.ofNat 4), s) := act_lenArr x und_35
@[simp] theorem o_build_35 {pl0 : Array (Nat × Operand)} : actO TT self (.build 35 pl0) f s = pureR (aggV (fillL f.eval (placesA 1 pl0.toList) ((.agg #[(.int .i64 0), (.int .i64 0), (.int .i64 0), (.int .i64 0)]) : Value).cells.toList)) s := act_buildA 35 pl0 zero_35 und_35 size_3
@[simp] theorem o_load_36 {x : Operand} : actO TT self (.load 36 x) f s = pureR (vLoad (some 4) x f.eval s.heap) s := by rw [act_load, agg_36]; rfl
@[simp] theorem o_store_36 {a x : Operand} : actO TT self (.store 36 a x) f s = eStore 4 a x self f.eval s := by rw [act_store, size_36]; rfl
@[simp] theorem o_alloc_36 : actO TT self (.alloc 36) f s = exNew s (.cells ((.agg #[(.int .i64 0), (.int .i64 0), (.int .i64 0), (.int .i64 0)]) : Value).cells.toList none) ptrTo := by rw [act_alloc, zero_36]; rfl
theorem flag_36 : (TT.prog.keyTypeAt 20 36 && !TT.prog.eqGuardType TT.prog.depth 36) = (TT.prog.keyTypeAt 20 36 && !TT.prog.eqGuardType TT.prog.depth 36) := rfl
@[simp] theorem o_bin_36 {op : BinOp} {x y : Operand} {u : TypeId} : actO TT self (.binOp op 36 x y u) f s = pureR (binV TT (Go.TypeDesc.array 4 3) 36 (TT.prog.keyTypeAt 20 36 && !TT.prog.eqGuardType TT.prog.depth 36) op x y f.eval s.heap) s := by rw [act_bin, und_36]; rfl
@[simp] theorem o_indexAddr_36 {x i : Operand} : actO TT self (.indexAddr 36 x i) f s = pureR (vIndexAddrA 4 1 x i f.eval s.heap) s := act_indexAddrA 36 x i und_36 size_3
@[simp] theorem o_index_36 {x i : Operand} : actO TT self (.index 36 x i) f s = pureR (vIndexA 4 1 none x i f.eval s.heap) s := act_indexA 36 x i und_36 size_3 agg_3
@[simp] theorem o_len_36 {x : Operand} : actO TT self (.call ⟨.builtin .len, #[x], #[36]⟩) f s = some (.int .i64 (.ofNat 4), s) := act_lenArr x und_36
@[simp] theorem o_build_36 {pl0 : Array (Nat × Operand)} : actO TT self (.build 36 pl0) f s = pureR (aggV (fillL f.eval (placesA 1 pl0.toList) ((.agg #[(.int .i64 0), (.int .i64 0), (.int .i64 0), (.int .i64 0)]) : Value).cells.toList)) s := act_buildA 36 pl0 zero_36 und_36 size_3
@[simp] theorem o_load_37 {x : Operand} : actO TT self (.load 37 x) f s = pureR (vLoad none x f.eval s.heap) s := by rw [act_load, agg_37]; rfl
@[simp] theorem o_store_37 {a x : Operand} : actO TT self (.store 37 a x) f s = eStore 1 a x self f.eval s := by rw [act_store, size_37]; rfl
@[simp] theorem o_load_38 {x : Operand} : actO TT self (.load 38 x) f s = pureR (vLoad none x f.eval s.heap) s := by rw [act_load, agg_38]; rfl
@[simp] theorem o_store_38 {a x : Operand} : actO TT self (.store 38 a x) f s = eStore 1 a x self f.eval s := by rw [act_store, size_38]; rfl
@[simp] theorem o_alloc_38 : actO TT self (.alloc 38) f s = exNew s (.cells (.nilFunc : Value).cells.toList none) ptrTo := by rw [act_alloc, zero_38]; rfl
@[simp] theorem o_bin_38 {op : BinOp} {x y : Operand} {u : TypeId} : actO TT self (.binOp op 38 x y u) f s = pureR (binV TT (Go.TypeDesc.func #[24, 25] #[36, 27] Bool.false) 38 (TT.prog.keyTypeAt 20 38 && !TT.prog.eqGuardType TT.prog.depth 38) op x y f.eval s.heap) s := by rw [act_bin, und_38]; rfl
@[simp] theorem o_load_39 {x : Operand} : actO TT self (.load 39 x) f s = pureR (vLoad (some 4) x f.eval s.heap) s := by rw [act_load, agg_39]; rfl
@[simp] theorem o_store_39 {a x : Operand} : actO TT self (.store 39 a x) f s = eStore 4 a x self f.eval s := by rw [act_store, size_39]; rfl
@[simp] theorem o_alloc_39 : actO TT self (.alloc 39) f s = exNew s (.cells ((.agg #[(.int .i64 0), (.int .i64 0), (.int .i64 0), (.int .i64 0)]) : Value).cells.toList none) ptrTo := by rw [act_alloc, zero_39]; rfl
theorem flag_39 : (TT.prog.keyTypeAt 20 39 && !TT.prog.eqGuardType TT.prog.depth 39) = (TT.prog.keyTypeAt 20 39 && !TT.prog.eqGuardType TT.prog.depth 39) := rfl
@[simp] theorem o_bin_39 {op : BinOp} {x y : Operand} {u : TypeId} : actO TT self (.binOp op 39 x y u) f s = pureR (binV TT (Go.TypeDesc.array 4 3) 39 (TT.prog.keyTypeAt 20 39 && !TT.prog.eqGuardType TT.prog.depth 39) op x y f.eval s.heap) s := by rw [act_bin, und_39]; rfl
@[simp] theorem o_indexAddr_39 {x i : Operand} : actO TT self (.indexAddr 39 x i) f s = pureR (vIndexAddrA 4 1 x i f.eval s.heap) s := act_indexAddrA 39 x i und_39 size_3
@[simp] theorem o_index_39 {x i : Operand} : actO TT self (.index 39 x i) f s = pureR (vIndexA 4 1 none x i f.eval s.heap) s := act_indexA 39 x i und_39 size_3 agg_3
@[simp] theorem o_len_39 {x : Operand} : actO TT self (.call ⟨.builtin .len, #[x], #[39]⟩) f s = some (.int .i64 (.ofNat 4), s) := act_lenArr x und_39
@[simp] theorem o_build_39 {pl0 : Array (Nat × Operand)} : actO TT self (.build 39 pl0) f s = pureR (aggV (fillL f.eval (placesA 1 pl0.toList) ((.agg #[(.int .i64 0), (.int .i64 0), (.int .i64 0), (.int .i64 0)]) : Value).cells.toList)) s := act_buildA 39 pl0 zero_39 und_39 size_3
@[simp] theorem o_load_40 {x : Operand} : actO TT self (.load 40 x) f s = pureR (vLoad none x f.eval s.heap) s := by rw [act_load, agg_40]; rfl
@[simp] theorem o_store_40 {a x : Operand} : actO TT self (.store 40 a x) f s = eStore 1 a x self f.eval s := by rw [act_store, size_40]; rfl
@[simp] theorem o_load_41 {x : Operand} : actO TT self (.load 41 x) f s = pureR (vLoad none x f.eval s.heap) s := by rw [act_load, agg_41]; rfl
@[simp] theorem o_store_41 {a x : Operand} : actO TT self (.store 41 a x) f s = eStore 1 a x self f.eval s := by rw [act_store, size_41]; rfl
@[simp] theorem o_alloc_41 : actO TT self (.alloc 41) f s = exNew s (.cells (.nilFunc : Value).cells.toList none) ptrTo := by rw [act_alloc, zero_41]; rfl
@[simp] theorem o_bin_41 {op : BinOp} {x y : Operand} {u : TypeId} : actO TT self (.binOp op 41 x y u) f s = pureR (binV TT (Go.TypeDesc.func #[33, 25] #[39, 27] Bool.false) 41 (TT.prog.keyTypeAt 20 41 && !TT.prog.eqGuardType TT.prog.depth 41) op x y f.eval s.heap) s := by rw [act_bin, und_41]; rfl
@[simp] theorem o_load_42 {x : Operand} : actO TT self (.load 42 x) f s = pureR (vLoad none x f.eval s.heap) s := by rw [act_load, agg_42]; rfl
@[simp] theorem o_store_42 {a x : Operand} : actO TT self (.store 42 a x) f s = eStore 1 a x self f.eval s := by rw [act_store, size_42]; rfl
@[simp] theorem o_alloc_42 : actO TT self (.alloc 42) f s = exNew s (.cells (.nilFunc : Value).cells.toList none) ptrTo := by rw [act_alloc, zero_42]; rfl
@[simp] theorem o_bin_42 {op : BinOp} {x y : Operand} {u : TypeId} : actO TT self (.binOp op 42 x y u) f s = pureR (binV TT (Go.TypeDesc.func #[9] #[4] Bool.false) 42 (TT.prog.keyTypeAt 20 42 && !TT.prog.eqGuardType TT.prog.depth 42) op x y f.eval s.heap) s := by rw [act_bin, und_42]; rfl
@[simp] theorem o_load_43 {x : Operand} : actO TT self (.load 43 x) f s = pureR (vLoad none x f.eval s.heap) s := by rw [act_load, agg_43]; rfl
@[simp] theorem o_store_43 {a x : Operand} : actO TT self (.store 43 a x) f s = eStore 1 a x self f.eval s := by rw [act_store, size_43]; rfl
@[simp] theorem o_alloc_43 : actO TT self (.alloc 43) f s = exNew s (.cells (.nilFunc : Value).cells.toList none) ptrTo := by rw [act_alloc, zero_43]; rfl
@[simp] theorem o_bin_43 {op : BinOp} {x y : Operand} {u : TypeId} : actO TT self (.binOp op 43 x y u) f s = pureR (binV TT (Go.TypeDesc.func #[24] #[27] Bool.false) 43 (TT.prog.keyTypeAt 20 43 && !TT.prog.eqGuardType TT.prog.depth 43) op x y f.eval s.heap) s := by rw [act_bin, und_43]; rfl
@[simp] theorem o_load_44 {x : Operand} : actO TT self (.load 44 x) f s = pureR (vLoad none x f.eval s.heap) s := by rw [act_load, agg_44]; rfl
@[simp] theorem o_store_44 {a x : Operand} : actO TT self (.store 44 a x) f s = eStore 1 a x self f.eval s := by rw [act_store, size_44]; rfl
@[simp] theorem o_alloc_44 : actO TT self (.alloc 44) f s = exNew s (.cells (.nilFunc : Value).cells.toList none) ptrTo := by rw [act_alloc, zero_44]; rfl
@[simp] theorem o_bin_44 {op : BinOp} {x y : Operand} {u : TypeId} : actO TT self (.binOp op 44 x y u) f s = pureR (binV TT (Go.TypeDesc.func #[33] #[27] Bool.false) 44 (TT.prog.keyTypeAt 20 44 && !TT.prog.eqGuardType TT.prog.depth 44) op x y f.eval s.heap) s := by rw [act_bin, und_44]; rfl
@[simp] theorem o_load_45 {x : Operand} : actO TT self (.load 45 x) f s = pureR (vLoad none x f.eval s.heap) s := by rw [act_load, agg_45]; rfl
@[simp] theorem o_store_45 {a x : Operand} : actO TT self (.store 45 a x) f s = eStore 1 a x self f.eval s := by rw [act_store, size_45]; rfl
@[simp] theorem o_alloc_45 : actO TT self (.alloc 45) f s = exNew s (.cells (.nilFunc : Value).cells.toList none) ptrTo := by rw [act_alloc, zero_45]; rfl
@[simp] theorem o_bin_45 {op : BinOp} {x y : Operand} {u : TypeId} : actO TT self (.binOp op 45 x y u) f s = pureR (binV TT (Go.TypeDesc.func #[25, 25] #[4] Bool.false) 45 (TT.prog.keyTypeAt 20 45 && !TT.prog.eqGuardType TT.prog.depth 45) op x y f.eval s.heap) s := by rw [act_bin, und_45]; rfl
@[simp] theorem o_load_46 {x : Operand} : actO TT self (.load 46 x) f s = pureR (vLoad none x f.eval s.heap) s := by rw [act_load, agg_46]; rfl
@[simp] theorem o_store_46 {a x : Operand} : actO TT self (.store 46 a x) f s = eStore 1 a x self f.eval s := by rw [act_store, size_46]; rfl
@[simp] theorem o_alloc_46 : actO TT self (.alloc 46) f s = exNew s (.cells (.nilFunc : Value).cells.toList none) ptrTo := by rw [act_alloc, zero_46]; rfl
@[simp] theorem o_bin_46 {op : BinOp} {x y : Operand} {u : TypeId} : actO TT self (.binOp op 46 x y u) f s = pureR (binV TT (Go.TypeDesc.func #[9, 24, 25] #[4] Bool.false) 46 (TT.prog.keyTypeAt 20 46 && !TT.prog.eqGuardType TT.prog.depth 46) op x y f.eval s.heap) s := by rw [act_bin, und_46]; rfl
@[simp] theorem o_load_47 {x : Operand} : actO TT self (.load 47 x) f s = pureR (vLoad none x f.eval s.heap) s := by rw [act_load, agg_47]; rfl
@[simp] theorem o_store_47 {a x : Operand} : actO TT self (.store 47 a x) f s = eStore 1 a x self f.eval s := by rw [act_store, size_47]; rfl
@[simp] theorem o_alloc_47 : actO TT self (.alloc 47) f s = exNew s (.cells ((.slice none 0 0) : Value).cells.toList none) ptrTo := by rw [act_alloc, zero_47]; rfl
@[simp] theorem o_bin_47 {op : BinOp} {x y : Operand} {u : TypeId} : actO TT self (.binOp op 47 x y u) f s = pureR (binV TT (Go.TypeDesc.slice 54) 47 (TT.prog.keyTypeAt 20 47 && !TT.prog.eqGuardType TT.prog.depth 47) op x y f.eval s.heap) s := by rw [act_bin, und_47]; rfl
@[simp] theorem o_indexAddr_47 {x i : Operand} : actO TT self (.indexAddr 47 x i) f s = pureR (vIndexAddrS 5 x i f.eval s.heap) s := act_indexAddrS 47 x i und_47 size_54
@[simp] theorem o_len_47 {x : Operand} : actO TT self (.call ⟨.builtin .len, #[x], #[47]⟩) f s = pureR (vLenSl x f.eval s.heap) s := act_lenSl x und_47
@[simp] theorem o_append_47 {x y : Operand} : actO TT self (.call ⟨.builtin .append, #[x, y], #[47, 47]⟩) f s = eAppend 5 x y self f.eval s := act_append x y und_47 und_47 size_54 bytes_54 zero_54 rfl
@[simp] theorem o_makeSlice_47 {l c : Operand} : actO TT self (.makeSlice 47 l c) f s = ob (eMakeSl ((.agg #[(.int .i64 0), (.int .i64 0), (.int .i64 0), (.int .i64 0), (.int .i64 0)]) : Value).cells.toList 5 l c f.eval) fun p => exNew s p.1 p.2 := act_makeSlice 47 l c und_47 size_54 bytes_54 zero_54 rfl
@[simp] theorem o_buildSlice_47 {len : Nat} {pl0 : Array (Nat × Operand)} (h : len * 5 ≤ 16777216) : actO TT self (.buildSlice 47 len pl0) f s = ob (fillL f.eval (placesA 5 pl0.toList) (repeatL ((.agg #[(.int .i64 0), (.int .i64 0), (.int .i64 0), (.int .i64 0), (.int .i64 0)]) : Value).cells.toList len)) fun c => exNew s (.cells c none) fun i => .slice (some ⟨i, 0, none⟩) len len := act_buildSlice 47 len pl0 und_47 size_54 zero_54 (by rw [show Nat.beq (lenL ((.agg #[(.int .i64 0), (.int .i64 0), (.int .i64 0), (.int .i64 0), (.int .i64 0)]) : Value).cells.toList) 5 = true from rfl, Nat.ble_eq_true_of_le h]; rfl)
@[simp] theorem o_load_48 {x : Operand} : actO TT self (.load 48 x) f s = pureR (vLoad none x f.eval s.heap) s := by rw [act_load, agg_48]; rfl
@[simp] theorem o_store_48 {a x : Operand} : actO TT self (.store 48 a x) f s = eStore 1 a x self f.eval s := by rw [act_store, size_48]; rfl
@[simp] theorem o_load_49 {x : Operand} : actO TT self (.load 49 x) f s = pureR (vLoad none x f.eval s.heap) s := by rw [act_load, agg_49]; rfl
@[simp] theorem o_store_49 {a x : Operand} : actO TT self (.store 49 a x) f s = eStore 1 a x self f.eval s := by rw [act_store, size_49]; rfl
@[simp] theorem o_alloc_49 : actO TT self (.alloc 49) f s = exNew s (.cells (.nilFunc : Value).cells.toList none) ptrTo := by rw [act_alloc, zero_49]; rfl
@[simp] theorem o_bin_49 {op : BinOp} {x y : Operand} {u : TypeId} : actO TT self (.binOp op 49 x y u) f s = pureR (binV TT (Go.TypeDesc.func #[24] #[47, 27] Bool.false) 49 (TT.prog.keyTypeAt 20 49 && !TT.prog.eqGuardType TT.prog.depth 49) op x y f.eval s.heap) s := by rw [act_bin, und_49]; rfl
@[simp] theorem o_load_50 {x : Operand} : actO TT self (.load 50 x) f s = pureR (vLoad none x f.eval s.heap) s := by rw [act_load, agg_50]; rfl
@[simp] theorem o_store_50 {a x : Operand} : actO TT self (.store 50 a x) f s = eStore 1 a x self f.eval s := by rw [act_store, size_50]; rfl
@[simp] theorem o_alloc_50 : actO TT self (.alloc 50) f s = exNew s (.cells ((.slice none 0 0) : Value).cells.toList none) ptrTo := by rw [act_alloc, zero_50]; rfl
@[simp] theorem o_bin_50 {op : BinOp} {x y : Operand} {u : TypeId} : actO TT self (.binOp op 50 x y u) f s = pureR (binV TT (Go.TypeDesc.slice 56) 50 (TT.prog.keyTypeAt 20 50 && !TT.prog.eqGuardType TT.prog.depth 50) op x y f.eval s.heap) s := by rw [act_bin, und_50]; rfl
@[simp] theorem o_indexAddr_50 {x i : Operand} : actO TT self (.indexAddr 50 x i) f s = pureR (vIndexAddrS 5 x i f.eval s.heap) s := act_indexAddrS 50 x i und_50 size_56
@[simp] theorem o_len_50 {x : Operand} : actO TT self (.call ⟨.builtin .len, #[x], #[50]⟩) f s = pureR (vLenSl x f.eval s.heap) s := act_lenSl x und_50
@[simp] theorem o_append_50 {x y : Operand} : actO TT self (.call ⟨.builtin .append, #[x, y], #[50, 50]⟩) f s = eAppend 5 x y self f.eval s := act_append x y und_50 und_50 size_56 bytes_56 zero_56 rfl
@[simp] theorem o_makeSlice_50 {l c : Operand} : actO TT self (.makeSlice 50 l c) f s = ob (eMakeSl ((.agg #[(.int .i64 0), (.int .i64 0), (.int .i64 0), (.int .i64 0), (.int .i64 0)]) : Value).cells.toList 5 l c f.eval) fun p => exNew s p.1 p.2 := act_makeSlice 50 l c und_50 size_56 bytes_56 zero_56 rfl
@[simp] theorem o_buildSlice_50 {len : Nat} {pl0 : Array (Nat × Operand)} (h : len * 5 ≤ 16777216) : actO TT self (.buildSlice 50 len pl0) f s = ob (fillL f.eval (placesA 5 pl0.toList) (repeatL ((.agg #[(.int .i64 0), (.int .i64 0), (.int .i64 0), (.int .i64 0), (.int .i64 0)]) : Value).cells.toList len)) fun c => exNew s (.cells c none) fun i => .slice (some ⟨i, 0, none⟩) len len := act_buildSlice 50 len pl0 und_50 size_56 zero_56 (by rw [show Nat.beq (lenL ((.agg #[(.int .i64 0), (.int .i64 0), (.int .i64 0), (.int .i64 0), (.int .i64 0)]) : Value).cells.toList) 5 = true from rfl, Nat.ble_eq_true_of_le h]; rfl)
@[simp] theorem o_load_51 {x : Operand} : actO TT self (.load 51 x) f s = pureR (vLoad none x f.eval s.heap) s := by rw [act_load, agg_51]; rfl
@[simp] theorem o_store_51 {a x : Operand} : actO TT self (.store 51 a x) f s = eStore 1 a x self f.eval s := by rw [act_store, size_51]; rfl
@[simp] theorem o_load_52 {x : Operand} : actO TT self (.load 52 x) f s = pureR (vLoad none x f.eval s.heap) s := by rw [act_load, agg_52]; rfl
@[simp] theorem o_store_52 {a x : Operand} : actO TT self (.store 52 a x) f s = eStore 1 a x self f.eval s := by rw [act_store, size_52]; rfl
@[simp] theorem o_alloc_52 : actO TT self (.alloc 52) f s = exNew s (.cells (.nilFunc : Value).cells.toList none) ptrTo := by rw [act_alloc, zero_52]; rfl
@[simp] theorem o_bin_52 {op : BinOp} {x y : Operand} {u : TypeId} : actO TT self (.binOp op 52 x y u) f s = pureR (binV TT (Go.TypeDesc.func #[33] #[50, 27] Bool.false) 52 (TT.prog.keyTypeAt 20 52 && !TT.prog.eqGuardType TT.prog.depth 52) op x y f.eval s.heap) s := by rw [act_bin, und_52]; rfl
@[simp] theorem o_load_53 {x : Operand} : actO TT self (.load 53 x) f s = pureR (vLoad (some 5) x f.eval s.heap) s := by rw [act_load, agg_53]; rfl
@[simp] theorem o_store_53 {a x : Operand} : actO TT self (.store 53 a x) f s = eStore 5 a x self f.eval s := by rw [act_store, size_53]; rfl
@[simp] theorem o_alloc_53 : actO TT self (.alloc 53) f s = exNew s (.cells ((.agg #[(.int .i64 0), (.int .i64 0), (.int .i64 0), (.int .i64 0), (.int .i64 0)]) : Value).cells.toList none) ptrTo := by rw [act_alloc, zero_53]; rfl
theorem flag_53 : (TT.prog.keyTypeAt 20 53 && !TT.prog.eqGuardType TT.prog.depth 53) = (TT.prog.keyTypeAt 20 53 && !TT.prog.eqGuardType TT.prog.depth 53) := rfl
@[simp] theorem o_bin_53 {op : BinOp} {x y : Operand} {u : TypeId} : actO TT self (.binOp op 53 x y u) f s = pureR (binV TT (Go.TypeDesc.struct #[{ name := "State", type := 3, offset := 0, embedded := Bool.false, tag := "", pkgPath := "", byteOffset := 0 }, { name := "Mass", type := 36, offset := 1, embedded := Bool.false, tag := "", pkgPath := "", byteOffset := 8 }]) 53 (TT.prog.keyTypeAt 20 53 && !TT.prog.eqGuardType TT.prog.depth 53) op x y f.eval s.heap) s := by rw [act_bin, und_53]; rfl
@[simp] theorem o_fieldAddr_53_0 {x : Operand} : actO TT self (.fieldAddr 53 x 0) f s = pureR (vFieldAddr 0 x f.eval s.heap) s := act_fieldAddr 53 x 0 und_53 rfl size_3 rfl
@[simp] theorem o_field_53_0 {x : Operand} : actO TT self (.field 53 x 0) f s = pureR (vField 0 none x f.eval s.heap) s := act_field 53 x 0 und_53 rfl agg_3
@[simp] theorem o_fieldAddr_53_1 {x : Operand} : actO TT self (.fieldAddr 53 x 1) f s = pureR (vFieldAddr 1 x f.eval s.heap) s := act_fieldAddr 53 x 1 und_53 rfl size_36 rfl
@[simp] theorem o_field_53_1 {x : Operand} : actO TT self (.field 53 x 1) f s = pureR (vField 1 (some 4) x f.eval s.heap) s := act_field 53 x 1 und_53 rfl agg_36
@[simp] theorem o_build_53 {pl0 : Array (Nat × Operand)} : actO TT self (.build 53 pl0) f s = ob (placesS [(0, 1), (1, 4)] pl0.toList) fun l => pureR (aggV (fillL f.eval l ((.agg #[(.int .i64 0), (.int .i64 0), (.int .i64 0), (.int .i64 0), (.int .i64 0)]) : Value).cells.toList)) s := act_buildS 53 pl0 zero_53 und_53 (by kernel_rfl)
@[simp] theorem o_load_54 {x : Operand} : actO TT self (.load 54 x) f s = pureR (vLoad (some 5) x f.eval s.heap) s := by rw [act_load, agg_54]; rfl
@[simp] theorem o_store_54 {a x : Operand} : actO TT self (.store 54 a x) f s = eStore 5 a x self f.eval s := by rw [act_store, size_54]; rfl
@[simp] theorem o_alloc_54 : actO TT self (.alloc 54) f s = exNew s (.cells ((.agg #[(.int .i64 0), (.int .i64 0), (.int .i64 0), (.int .i64 0), (.int .i64 0)]) : Value).cells.toList none) ptrTo := by rw [act_alloc, zero_54]; rfl
theorem flag_54 : (TT.prog.keyTypeAt 20 54 && !TT.prog.eqGuardType TT.prog.depth 54) = (TT.prog.keyTypeAt 20 54 && !TT.prog.eqGuardType TT.prog.depth 54) := rfl
@[simp] theorem o_bin_54 {op : BinOp} {x y : Operand} {u : TypeId} : actO TT self (.binOp op 54 x y u) f s = pureR (binV TT (Go.TypeDesc.struct #[{ name := "State", type := 3, offset := 0, embedded := Bool.false, tag := "", pkgPath := "", byteOffset := 0 }, { name := "Mass", type := 36, offset := 1, embedded := Bool.false, tag := "", pkgPath := "", byteOffset := 8 }]) 54 (TT.prog.keyTypeAt 20 54 && !TT.prog.eqGuardType TT.prog.depth 54) op x y f.eval s.heap) s := by rw [act_bin, und_54]; rfl
@[simp] theorem o_fieldAddr_54_0 {x : Operand} : actO TT self (.fieldAddr 54 x 0) f s = pureR (vFieldAddr 0 x f.eval s.heap) s := act_fieldAddr 54 x 0 und_54 rfl size_3 rfl
@[simp] theorem o_field_54_0 {x : Operand} : actO TT self (.field 54 x 0) f s = pureR (vField 0 none x f.eval s.heap) s := act_field 54 x 0 und_54 rfl agg_3
@[simp] theorem o_fieldAddr_54_1 {x : Operand} : actO TT self (.fieldAddr 54 x 1) f s = pureR (vFieldAddr 1 x f.eval s.heap) s := act_fieldAddr 54 x 1 und_54 rfl size_36 rfl
@[simp] theorem o_field_54_1 {x : Operand} : actO TT self (.field 54 x 1) f s = pureR (vField 1 (some 4) x f.eval s.heap) s := act_field 54 x 1 und_54 rfl agg_36
@[simp] theorem o_build_54 {pl0 : Array (Nat × Operand)} : actO TT self (.build 54 pl0) f s = ob (placesS [(0, 1), (1, 4)] pl0.toList) fun l => pureR (aggV (fillL f.eval l ((.agg #[(.int .i64 0), (.int .i64 0), (.int .i64 0), (.int .i64 0), (.int .i64 0)]) : Value).cells.toList)) s := act_buildS 54 pl0 zero_54 und_54 (by kernel_rfl)
@[simp] theorem o_load_55 {x : Operand} : actO TT self (.load 55 x) f s = pureR (vLoad (some 5) x f.eval s.heap) s := by rw [act_load, agg_55]; rfl
@[simp] theorem o_store_55 {a x : Operand} : actO TT self (.store 55 a x) f s = eStore 5 a x self f.eval s := by rw [act_store, size_55]; rfl
@[simp] theorem o_alloc_55 : actO TT self (.alloc 55) f s = exNew s (.cells ((.agg #[(.int .i64 0), (.int .i64 0), (.int .i64 0), (.int .i64 0), (.int .i64 0)]) : Value).cells.toList none) ptrTo := by rw [act_alloc, zero_55]; rfl
theorem flag_55 : (TT.prog.keyTypeAt 20 55 && !TT.prog.eqGuardType TT.prog.depth 55) = (TT.prog.keyTypeAt 20 55 && !TT.prog.eqGuardType TT.prog.depth 55) := rfl
@[simp] theorem o_bin_55 {op : BinOp} {x y : Operand} {u : TypeId} : actO TT self (.binOp op 55 x y u) f s = pureR (binV TT (Go.TypeDesc.struct #[{ name := "State", type := 3, offset := 0, embedded := Bool.false, tag := "", pkgPath := "", byteOffset := 0 }, { name := "Mass", type := 39, offset := 1, embedded := Bool.false, tag := "", pkgPath := "", byteOffset := 8 }]) 55 (TT.prog.keyTypeAt 20 55 && !TT.prog.eqGuardType TT.prog.depth 55) op x y f.eval s.heap) s := by rw [act_bin, und_55]; rfl
@[simp] theorem o_fieldAddr_55_0 {x : Operand} : actO TT self (.fieldAddr 55 x 0) f s = pureR (vFieldAddr 0 x f.eval s.heap) s := act_fieldAddr 55 x 0 und_55 rfl size_3 rfl
@[simp] theorem o_field_55_0 {x : Operand} : actO TT self (.field 55 x 0) f s = pureR (vField 0 none x f.eval s.heap) s := act_field 55 x 0 und_55 rfl agg_3
@[simp] theorem o_fieldAddr_55_1 {x : Operand} : actO TT self (.fieldAddr 55 x 1) f s = pureR (vFieldAddr 1 x f.eval s.heap) s := act_fieldAddr 55 x 1 und_55 rfl size_39 rfl
@[simp] theorem o_field_55_1 {x : Operand} : actO TT self (.field 55 x 1) f s = pureR (vField 1 (some 4) x f.eval s.heap) s := act_field 55 x 1 und_55 rfl agg_39
@[simp] theorem o_build_55 {pl0 : Array (Nat × Operand)} : actO TT self (.build 55 pl0) f s = ob (placesS [(0, 1), (1, 4)] pl0.toList) fun l => pureR (aggV (fillL f.eval l ((.agg #[(.int .i64 0), (.int .i64 0), (.int .i64 0), (.int .i64 0), (.int .i64 0)]) : Value).cells.toList)) s := act_buildS 55 pl0 zero_55 und_55 (by kernel_rfl)
@[simp] theorem o_load_56 {x : Operand} : actO TT self (.load 56 x) f s = pureR (vLoad (some 5) x f.eval s.heap) s := by rw [act_load, agg_56]; rfl
@[simp] theorem o_store_56 {a x : Operand} : actO TT self (.store 56 a x) f s = eStore 5 a x self f.eval s := by rw [act_store, size_56]; rfl
@[simp] theorem o_alloc_56 : actO TT self (.alloc 56) f s = exNew s (.cells ((.agg #[(.int .i64 0), (.int .i64 0), (.int .i64 0), (.int .i64 0), (.int .i64 0)]) : Value).cells.toList none) ptrTo := by rw [act_alloc, zero_56]; rfl
theorem flag_56 : (TT.prog.keyTypeAt 20 56 && !TT.prog.eqGuardType TT.prog.depth 56) = (TT.prog.keyTypeAt 20 56 && !TT.prog.eqGuardType TT.prog.depth 56) := rfl
@[simp] theorem o_bin_56 {op : BinOp} {x y : Operand} {u : TypeId} : actO TT self (.binOp op 56 x y u) f s = pureR (binV TT (Go.TypeDesc.struct #[{ name := "State", type := 3, offset := 0, embedded := Bool.false, tag := "", pkgPath := "", byteOffset := 0 }, { name := "Mass", type := 39, offset := 1, embedded := Bool.false, tag := "", pkgPath := "", byteOffset := 8 }]) 56 (TT.prog.keyTypeAt 20 56 && !TT.prog.eqGuardType TT.prog.depth 56) op x y f.eval s.heap) s := by rw [act_bin, und_56]; rfl
@[simp] theorem o_fieldAddr_56_0 {x : Operand} : actO TT self (.fieldAddr 56 x 0) f s = pureR (vFieldAddr 0 x f.eval s.heap) s := act_fieldAddr 56 x 0 und_56 rfl size_3 rfl
@[simp] theorem o_field_56_0 {x : Operand} : actO TT self (.field 56 x 0) f s = pureR (vField 0 none x f.eval s.heap) s := act_field 56 x 0 und_56 rfl agg_3
@[simp] theorem o_fieldAddr_56_1 {x : Operand} : actO TT self (.fieldAddr 56 x 1) f s = pureR (vFieldAddr 1 x f.eval s.heap) s := act_fieldAddr 56 x 1 und_56 rfl size_39 rfl
@[simp] theorem o_field_56_1 {x : Operand} : actO TT self (.field 56 x 1) f s = pureR (vField 1 (some 4) x f.eval s.heap) s := act_field 56 x 1 und_56 rfl agg_39
@[simp] theorem o_build_56 {pl0 : Array (Nat × Operand)} : actO TT self (.build 56 pl0) f s = ob (placesS [(0, 1), (1, 4)] pl0.toList) fun l => pureR (aggV (fillL f.eval l ((.agg #[(.int .i64 0), (.int .i64 0), (.int .i64 0), (.int .i64 0), (.int .i64 0)]) : Value).cells.toList)) s := act_buildS 56 pl0 zero_56 und_56 (by kernel_rfl)
@[simp] theorem o_load_57 {x : Operand} : actO TT self (.load 57 x) f s = pureR (vLoad none x f.eval s.heap) s := by rw [act_load, agg_57]; rfl
@[simp] theorem o_store_57 {a x : Operand} : actO TT self (.store 57 a x) f s = eStore 1 a x self f.eval s := by rw [act_store, size_57]; rfl
@[simp] theorem o_alloc_57 : actO TT self (.alloc 57) f s = exNew s (.cells (.nilFunc : Value).cells.toList none) ptrTo := by rw [act_alloc, zero_57]; rfl
@[simp] theorem o_bin_57 {op : BinOp} {x y : Operand} {u : TypeId} : actO TT self (.binOp op 57 x y u) f s = pureR (binV TT (Go.TypeDesc.func #[24] #[4] Bool.false) 57 (TT.prog.keyTypeAt 20 57 && !TT.prog.eqGuardType TT.prog.depth 57) op x y f.eval s.heap) s := by rw [act_bin, und_57]; rfl
@[simp] theorem o_load_58 {x : Operand} : actO TT self (.load 58 x) f s = pureR (vLoad none x f.eval s.heap) s := by rw [act_load, agg_58]; rfl
@[simp] theorem o_store_58 {a x : Operand} : actO TT self (.store 58 a x) f s = eStore 1 a x self f.eval s := by rw [act_store, size_58]; rfl
@[simp] theorem o_alloc_58 : actO TT self (.alloc 58) f s = exNew s (.cells ((.slice none 0 0) : Value).cells.toList none) ptrTo := by rw [act_alloc, zero_58]; rfl
@[simp] theorem o_bin_58 {op : BinOp} {x y : Operand} {u : TypeId} : actO TT self (.binOp op 58 x y u) f s = pureR (binV TT (Go.TypeDesc.slice 36) 58 (TT.prog.keyTypeAt 20 58 && !TT.prog.eqGuardType TT.prog.depth 58) op x y f.eval s.heap) s := by rw [act_bin, und_58]; rfl
@[simp] theorem o_indexAddr_58 {x i : Operand} : actO TT self (.indexAddr 58 x i) f s = pureR (vIndexAddrS 4 x i f.eval s.heap) s := act_indexAddrS 58 x i und_58 size_36
@[simp] theorem o_len_58 {x : Operand} : actO TT self (.call ⟨.builtin .len, #[x], #[58]⟩) f s = pureR (vLenSl x f.eval s.heap) s := act_lenSl x und_58
@[simp] theorem o_append_58 {x y : Operand} : actO TT self (.call ⟨.builtin .append, #[x, y], #[58, 58]⟩) f s = eAppend 4 x y self f.eval s := act_append x y und_58 und_58 size_36 bytes_36 zero_36 rfl
@[simp] theorem o_makeSlice_58 {l c : Operand} : actO TT self (.makeSlice 58 l c) f s = ob (eMakeSl ((.agg #[(.int .i64 0), (.int .i64 0), (.int .i64 0), (.int .i64 0)]) : Value).cells.toList 4 l c f.eval) fun p => exNew s p.1 p.2 := act_makeSlice 58 l c und_58 size_36 bytes_36 zero_36 rfl
@[simp] theorem o_buildSlice_58 {len : Nat} {pl0 : Array (Nat × Operand)} (h : len * 4 ≤ 16777216) : actO TT self (.buildSlice 58 len pl0) f s = ob (fillL f.eval (placesA 4 pl0.toList) (repeatL ((.agg #[(.int .i64 0), (.int .i64 0), (.int .i64 0), (.int .i64 0)]) : Value).cells.toList len)) fun c => exNew s (.cells c none) fun i => .slice (some ⟨i, 0, none⟩) len len := act_buildSlice 58 len pl0 und_58 size_36 zero_36 (by rw [show Nat.beq (lenL ((.agg #[(.int .i64 0), (.int .i64 0), (.int .i64 0), (.int .i64 0)]) : Value).cells.toList) 4 = true from rfl, Nat.ble_eq_true_of_le h]; rfl)
@[simp] theorem o_load_59 {x : Operand} : actO TT self (.load 59 x) f s = pureR (vLoad none x f.eval s.heap) s := by rw [act_load, agg_59]; rfl
@[simp] theorem o_store_59 {a x : Operand} : actO TT self (.store 59 a x) f s = eStore 1 a x self f.eval s := by rw [act_store, size_59]; rfl
@[simp] theorem o_load_60 {x : Operand} : actO TT self (.load 60 x) f s = pureR (vLoad none x f.eval s.heap) s := by rw [act_load, agg_60]; rfl
@[simp] theorem o_store_60 {a x : Operand} : actO TT self (.store 60 a x) f s = eStore 1 a x self f.eval s := by rw [act_store, size_60]; rfl
@[simp] theorem o_alloc_60 : actO TT self (.alloc 60) f s = exNew s (.cells (.nilFunc : Value).cells.toList none) ptrTo := by rw [act_alloc, zero_60]; rfl
@[simp] theorem o_bin_60 {op : BinOp} {x y : Operand} {u : TypeId} : actO TT self (.binOp op 60 x y u) f s = pureR (binV TT (Go.TypeDesc.func #[24, 3, 36] #[58, 27] Bool.false) 60 (TT.prog.keyTypeAt 20 60 && !TT.prog.eqGuardType TT.prog.depth 60) op x y f.eval s.heap) s := by rw [act_bin, und_60]; rfl
@[simp] theorem o_load_61 {x : Operand} : actO TT self (.load 61 x) f s = pureR (vLoad none x f.eval s.heap) s := by rw [act_load, agg_61]; rfl
@[simp] theorem o_store_61 {a x : Operand} : actO TT self (.store 61 a x) f s = eStore 1 a x self f.eval s := by rw [act_store, size_61]; rfl
@[simp] theorem o_alloc_61 : actO TT self (.alloc 61) f s = exNew s (.cells ((.slice none 0 0) : Value).cells.toList none) ptrTo := by rw [act_alloc, zero_61]; rfl
@[simp] theorem o_bin_61 {op : BinOp} {x y : Operand} {u : TypeId} : actO TT self (.binOp op 61 x y u) f s = pureR (binV TT (Go.TypeDesc.slice 39) 61 (TT.prog.keyTypeAt 20 61 && !TT.prog.eqGuardType TT.prog.depth 61) op x y f.eval s.heap) s := by rw [act_bin, und_61]; rfl
@[simp] theorem o_indexAddr_61 {x i : Operand} : actO TT self (.indexAddr 61 x i) f s = pureR (vIndexAddrS 4 x i f.eval s.heap) s := act_indexAddrS 61 x i und_61 size_39
@[simp] theorem o_len_61 {x : Operand} : actO TT self (.call ⟨.builtin .len, #[x], #[61]⟩) f s = pureR (vLenSl x f.eval s.heap) s := act_lenSl x und_61
@[simp] theorem o_append_61 {x y : Operand} : actO TT self (.call ⟨.builtin .append, #[x, y], #[61, 61]⟩) f s = eAppend 4 x y self f.eval s := act_append x y und_61 und_61 size_39 bytes_39 zero_39 rfl
@[simp] theorem o_makeSlice_61 {l c : Operand} : actO TT self (.makeSlice 61 l c) f s = ob (eMakeSl ((.agg #[(.int .i64 0), (.int .i64 0), (.int .i64 0), (.int .i64 0)]) : Value).cells.toList 4 l c f.eval) fun p => exNew s p.1 p.2 := act_makeSlice 61 l c und_61 size_39 bytes_39 zero_39 rfl
@[simp] theorem o_buildSlice_61 {len : Nat} {pl0 : Array (Nat × Operand)} (h : len * 4 ≤ 16777216) : actO TT self (.buildSlice 61 len pl0) f s = ob (fillL f.eval (placesA 4 pl0.toList) (repeatL ((.agg #[(.int .i64 0), (.int .i64 0), (.int .i64 0), (.int .i64 0)]) : Value).cells.toList len)) fun c => exNew s (.cells c none) fun i => .slice (some ⟨i, 0, none⟩) len len := act_buildSlice 61 len pl0 und_61 size_39 zero_39 (by rw [show Nat.beq (lenL ((.agg #[(.int .i64 0), (.int .i64 0), (.int .i64 0), (.int .i64 0)]) : Value).cells.toList) 4 = true from rfl, Nat.ble_eq_true_of_le h]; rfl)
@[simp] theorem o_load_62 {x : Operand} : actO TT self (.load 62 x) f s = pureR (vLoad none x f.eval s.heap) s := by rw [act_load, agg_62]; rfl
@[simp] theorem o_store_62 {a x : Operand} : actO TT self (.store 62 a x) f s = eStore 1 a x self f.eval s := by rw [act_store, size_62]; rfl
@[simp] theorem o_load_63 {x : Operand} : actO TT self (.load 63 x) f s = pureR (vLoad none x f.eval s.heap) s := by rw [act_load, agg_63]; rfl
@[simp] theorem o_store_63 {a x : Operand} : actO TT self (.store 63 a x) f s = eStore 1 a x self f.eval s := by rw [act_store, size_63]; rfl
@[simp] theorem o_alloc_63 : actO TT self (.alloc 63) f s = exNew s (.cells (.nilFunc : Value).cells.toList none) ptrTo := by rw [act_alloc, zero_63]; rfl
@[simp] theorem o_bin_63 {op : BinOp} {x y : Operand} {u : TypeId} : actO TT self (.binOp op 63 x y u) f s = pureR (binV TT (Go.TypeDesc.func #[33, 3, 39] #[61, 27] Bool.false) 63 (TT.prog.keyTypeAt 20 63 && !TT.prog.eqGuardType TT.prog.depth 63) op x y f.eval s.heap) s := by rw [act_bin, und_63]; rfl
@[simp] theorem o_load_64 {x : Operand} : actO TT self (.load 64 x) f s = pureR (vLoad none x f.eval s.heap) s := by rw [act_load, agg_64]; rfl
@[simp] theorem o_store_64 {a x : Operand} : actO TT self (.store 64 a x) f s = eStore 1 a x self f.eval s := by rw [act_store, size_64]; rfl
@[simp] theorem o_load_65 {x : Operand} : actO TT self (.load 65 x) f s = pureR (vLoad none x f.eval s.heap) s := by rw [act_load, agg_65]; rfl
@[simp] theorem o_store_65 {a x : Operand} : actO TT self (.store 65 a x) f s = eStore 1 a x self f.eval s := by rw [act_store, size_65]; rfl
@[simp] theorem o_alloc_65 : actO TT self (.alloc 65) f s = exNew s (.cells (.nilFunc : Value).cells.toList none) ptrTo := by rw [act_alloc, zero_65]; rfl
@[simp] theorem o_bin_65 {op : BinOp} {x y : Operand} {u : TypeId} : actO TT self (.binOp op 65 x y u) f s = pureR (binV TT (Go.TypeDesc.func #[33, 61] #[3, 27] Bool.false) 65 (TT.prog.keyTypeAt 20 65 && !TT.prog.eqGuardType TT.prog.depth 65) op x y f.eval s.heap) s := by rw [act_bin, und_65]; rfl
@[simp] theorem o_load_66 {x : Operand} : actO TT self (.load 66 x) f s = pureR (vLoad none x f.eval s.heap) s := by rw [act_load, agg_66]; rfl
@[simp] theorem o_store_66 {a x : Operand} : actO TT self (.store 66 a x) f s = eStore 1 a x self f.eval s := by rw [act_store, size_66]; rfl
@[simp] theorem o_alloc_66 : actO TT self (.alloc 66) f s = exNew s (.cells (.nilFunc : Value).cells.toList none) ptrTo := by rw [act_alloc, zero_66]; rfl
@[simp] theorem o_bin_66 {op : BinOp} {x y : Operand} {u : TypeId} : actO TT self (.binOp op 66 x y u) f s = pureR (binV TT (Go.TypeDesc.func #[24, 58] #[3, 27] Bool.false) 66 (TT.prog.keyTypeAt 20 66 && !TT.prog.eqGuardType TT.prog.depth 66) op x y f.eval s.heap) s := by rw [act_bin, und_66]; rfl
@[simp] theorem o_load_67 {x : Operand} : actO TT self (.load 67 x) f s = pureR (vLoad none x f.eval s.heap) s := by rw [act_load, agg_67]; rfl
@[simp] theorem o_store_67 {a x : Operand} : actO TT self (.store 67 a x) f s = eStore 1 a x self f.eval s := by rw [act_store, size_67]; rfl
@[simp] theorem o_alloc_67 : actO TT self (.alloc 67) f s = exNew s (.cells (.nilFunc : Value).cells.toList none) ptrTo := by rw [act_alloc, zero_67]; rfl
@[simp] theorem o_bin_67 {op : BinOp} {x y : Operand} {u : TypeId} : actO TT self (.binOp op 67 x y u) f s = pureR (binV TT (Go.TypeDesc.func #[24, 3, 36, 58] #[4] Bool.false) 67 (TT.prog.keyTypeAt 20 67 && !TT.prog.eqGuardType TT.prog.depth 67) op x y f.eval s.heap) s := by rw [act_bin, und_67]; rfl
@[simp] theorem o_load_68 {x : Operand} : actO TT self (.load 68 x) f s = pureR (vLoad none x f.eval s.heap) s := by rw [act_load, agg_68]; rfl
@[simp] theorem o_store_68 {a x : Operand} : actO TT self (.store 68 a x) f s = eStore 1 a x self f.eval s := by rw [act_store, size_68]; rfl
@[simp] theorem o_load_69 {x : Operand} : actO TT self (.load 69 x) f s = pureR (vLoad none x f.eval s.heap) s := by rw [act_load, agg_69]; rfl
@[simp] theorem o_store_69 {a x : Operand} : actO TT self (.store 69 a x) f s = eStore 1 a x self f.eval s := by rw [act_store, size_69]; rfl
@[simp] theorem o_alloc_69 : actO TT self (.alloc 69) f s = exNew s (.cells (.nilFunc : Value).cells.toList none) ptrTo := by rw [act_alloc, zero_69]; rfl
@[simp] theorem o_bin_69 {op : BinOp} {x y : Operand} {u : TypeId} : actO TT self (.binOp op 69 x y u) f s = pureR (binV TT (Go.TypeDesc.func #[24] #[25, 3, 27] Bool.false) 69 (TT.prog.keyTypeAt 20 69 && !TT.prog.eqGuardType TT.prog.depth 69) op x y f.eval s.heap) s := by rw [act_bin, und_69]; rfl
@[simp] theorem o_load_70 {x : Operand} : actO TT self (.load 70 x) f s = pureR (vLoad none x f.eval s.heap) s := by rw [act_load, agg_70]; rfl
@[simp] theorem o_store_70 {a x : Operand} : actO TT self (.store 70 a x) f s = eStore 1 a x self f.eval s := by rw [act_store, size_70]; rfl
@[simp] theorem o_alloc_70 : actO TT self (.alloc 70) f s = exNew s (.cells (.nilFunc : Value).cells.toList none) ptrTo := by rw [act_alloc, zero_70]; rfl
@[simp] theorem o_bin_70 {op : BinOp} {x y : Operand} {u : TypeId} : actO TT self (.binOp op 70 x y u) f s = pureR (binV TT (Go.TypeDesc.func #[33] #[25, 3, 27] Bool.false) 70 (TT.prog.keyTypeAt 20 70 && !TT.prog.eqGuardType TT.prog.depth 70) op x y f.eval s.heap) s := by rw [act_bin, und_70]; rfl
@[simp] theorem o_load_71 {x : Operand} : actO TT self (.load 71 x) f s = pureR (vLoad none x f.eval s.heap) s := by rw [act_load, agg_71]; rfl
@[simp] theorem o_store_71 {a x : Operand} : actO TT self (.store 71 a x) f s = eStore 1 a x self f.eval s := by rw [act_store, size_71]; rfl
@[simp] theorem o_alloc_71 : actO TT self (.alloc 71) f s = exNew s (.cells (.nilFunc : Value).cells.toList none) ptrTo := by rw [act_alloc, zero_71]; rfl
@[simp] theorem o_bin_71 {op : BinOp} {x y : Operand} {u : TypeId} : actO TT self (.binOp op 71 x y u) f s = pureR (binV TT (Go.TypeDesc.func #[33, 25, 3] #[27] Bool.false) 71 (TT.prog.keyTypeAt 20 71 && !TT.prog.eqGuardType TT.prog.depth 71) op x y f.eval s.heap) s := by rw [act_bin, und_71]; rfl
@[simp] theorem o_load_72 {x : Operand} : actO TT self (.load 72 x) f s = pureR (vLoad none x f.eval s.heap) s := by rw [act_load, agg_72]; rfl
@[simp] theorem o_store_72 {a x : Operand} : actO TT self (.store 72 a x) f s = eStore 1 a x self f.eval s := by rw [act_store, size_72]; rfl
@[simp] theorem o_alloc_72 : actO TT self (.alloc 72) f s = exNew s (.cells (.nilFunc : Value).cells.toList none) ptrTo := by rw [act_alloc, zero_72]; rfl
@[simp] theorem o_bin_72 {op : BinOp} {x y : Operand} {u : TypeId} : actO TT self (.binOp op 72 x y u) f s = pureR (binV TT (Go.TypeDesc.func #[24, 25, 3] #[27] Bool.false) 72 (TT.prog.keyTypeAt 20 72 && !TT.prog.eqGuardType TT.prog.depth 72) op x y f.eval s.heap) s := by rw [act_bin, und_72]; rfl
@[simp] theorem o_load_73 {x : Operand} : actO TT self (.load 73 x) f s = pureR (vLoad none x f.eval s.heap) s := by rw [act_load, agg_73]; rfl
@[simp] theorem o_store_73 {a x : Operand} : actO TT self (.store 73 a x) f s = eStore 1 a x self f.eval s := by rw [act_store, size_73]; rfl
@[simp] theorem o_alloc_73 : actO TT self (.alloc 73) f s = exNew s (.cells (.nilFunc : Value).cells.toList none) ptrTo := by rw [act_alloc, zero_73]; rfl
@[simp] theorem o_bin_73 {op : BinOp} {x y : Operand} {u : TypeId} : actO TT self (.binOp op 73 x y u) f s = pureR (binV TT (Go.TypeDesc.func #[24, 25, 3] #[4] Bool.false) 73 (TT.prog.keyTypeAt 20 73 && !TT.prog.eqGuardType TT.prog.depth 73) op x y f.eval s.heap) s := by rw [act_bin, und_73]; rfl
@[simp] theorem o_load_74 {x : Operand} : actO TT self (.load 74 x) f s = pureR (vLoad none x f.eval s.heap) s := by rw [act_load, agg_74]; rfl
@[simp] theorem o_store_74 {a x : Operand} : actO TT self (.store 74 a x) f s = eStore 1 a x self f.eval s := by rw [act_store, size_74]; rfl
@[simp] theorem o_alloc_74 : actO TT self (.alloc 74) f s = exNew s (.cells ((.slice none 0 0) : Value).cells.toList none) ptrTo := by rw [act_alloc, zero_74]; rfl
@[simp] theorem o_bin_74 {op : BinOp} {x y : Operand} {u : TypeId} : actO TT self (.binOp op 74 x y u) f s = pureR (binV TT (Go.TypeDesc.slice 122) 74 (TT.prog.keyTypeAt 20 74 && !TT.prog.eqGuardType TT.prog.depth 74) op x y f.eval s.heap) s := by rw [act_bin, und_74]; rfl
@[simp] theorem o_indexAddr_74 {x i : Operand} : actO TT self (.indexAddr 74 x i) f s = pureR (vIndexAddrS 2 x i f.eval s.heap) s := act_indexAddrS 74 x i und_74 size_122
@[simp] theorem o_len_74 {x : Operand} : actO TT self (.call ⟨.builtin .len, #[x], #[74]⟩) f s = pureR (vLenSl x f.eval s.heap) s := act_lenSl x und_74
@[simp] theorem o_append_74 {x y : Operand} : actO TT self (.call ⟨.builtin .append, #[x, y], #[74, 74]⟩) f s = eAppend 2 x y self f.eval s := act_append x y und_74 und_74 size_122 bytes_122 zero_122 rfl
@[simp] theorem o_makeSlice_74 {l c : Operand} : actO TT self (.makeSlice 74 l c) f s = ob (eMakeSl ((.agg #[(.int .u8 0), (.int .u8 0)]) : Value).cells.toList 2 l c f.eval) fun p => exNew s p.1 p.2 := act_makeSlice 74 l c und_74 size_122 bytes_122 zero_122 rfl
@[simp] theorem o_buildSlice_74 {len : Nat} {pl0 : Array (Nat × Operand)} (h : len * 2 ≤ 16777216) : actO TT self (.buildSlice 74 len pl0) f s = ob (fillL f.eval (placesA 2 pl0.toList) (repeatL ((.agg #[(.int .u8 0), (.int .u8 0)]) : Value).cells.toList len)) fun c => exNew s (.cells c none) fun i => .slice (some ⟨i, 0, none⟩) len len := act_buildSlice 74 len pl0 und_74 size_122 zero_122 (by rw [show Nat.beq (lenL ((.agg #[(.int .u8 0), (.int .u8 0)]) : Value).cells.toList) 2 = true from rfl, Nat.ble_eq_true_of_le h]; rfl)
@[simp] theorem o_load_75 {x : Operand} : actO TT self (.load 75 x) f s = pureR (vLoad none x f.eval s.heap) s := by rw [act_load, agg_75]; rfl
@[simp] theorem o_store_75 {a x : Operand} : actO TT self (.store 75 a x) f s = eStore 1 a x self f.eval s := by rw [act_store, size_75]; rfl
@[simp] theorem o_alloc_75 : actO TT self (.alloc 75) f s = exNew s (.cells ((.slice none 0 0) : Value).cells.toList none) ptrTo := by rw [act_alloc, zero_75]; rfl
@[simp] theorem o_bin_75 {op : BinOp} {x y : Operand} {u : TypeId} : actO TT self (.binOp op 75 x y u) f s = pureR (binV TT (Go.TypeDesc.slice 5) 75 (TT.prog.keyTypeAt 20 75 && !TT.prog.eqGuardType TT.prog.depth 75) op x y f.eval s.heap) s := by rw [act_bin, und_75]; rfl
@[simp] theorem o_indexAddr_75 {x i : Operand} : actO TT self (.indexAddr 75 x i) f s = pureR (vIndexAddrS 1 x i f.eval s.heap) s := act_indexAddrS 75 x i und_75 size_5
@[simp] theorem o_len_75 {x : Operand} : actO TT self (.call ⟨.builtin .len, #[x], #[75]⟩) f s = pureR (vLenSl x f.eval s.heap) s := act_lenSl x und_75
@[simp] theorem o_append_75 {x y : Operand} : actO TT self (.call ⟨.builtin .append, #[x, y], #[75, 75]⟩) f s = eAppend 1 x y self f.eval s := act_append x y und_75 und_75 size_5 bytes_5 zero_5 rfl
@[simp] theorem o_makeSlice_75 {l c : Operand} : actO TT self (.makeSlice 75 l c) f s = ob (eMakeSl ((.int .u8 0) : Value).cells.toList 1 l c f.eval) fun p => exNew s p.1 p.2 := act_makeSlice 75 l c und_75 size_5 bytes_5 zero_5 rfl
@[simp] theorem o_buildSlice_75 {len : Nat} {pl0 : Array (Nat × Operand)} (h : len * 1 ≤ 16777216) : actO TT self (.buildSlice 75 len pl0) f s = ob (fillL f.eval (placesA 1 pl0.toList) (repeatL ((.int .u8 0) : Value).cells.toList len)) fun c => exNew s (.cells c none) fun i => .slice (some ⟨i, 0, none⟩) len len := act_buildSlice 75 len pl0 und_75 size_5 zero_5 (by rw [show Nat.beq (lenL ((.int .u8 0) : Value).cells.toList) 1 = true from rfl, Nat.ble_eq_true_of_le h]; rfl)
@[simp] theorem o_load_76 {x : Operand} : actO TT self (.load 76 x) f s = pureR (vLoad none x f.eval s.heap) s := by rw [act_load, agg_76]; rfl
@[simp] theorem o_store_76 {a x : Operand} : actO TT self (.store 76 a x) f s = eStore 1 a x self f.eval s := by rw [act_store, size_76]; rfl
@[simp] theorem o_alloc_76 : actO TT self (.alloc 76) f s = exNew s (.cells ((.int .u16 0) : Value).cells.toList none) ptrTo := by rw [act_alloc, zero_76]; rfl
@[simp] theorem o_bin_76 {op : BinOp} {x y : Operand} {u : TypeId} : actO TT self (.binOp op 76 x y u) f s = pureR (binV TT (Go.TypeDesc.int Go.IntKind.u16) 76 (TT.prog.keyTypeAt 20 76 && !TT.prog.eqGuardType TT.prog.depth 76) op x y f.eval s.heap) s := by rw [act_bin, und_76]; rfl
@[simp] theorem o_convert_76 {a : TypeId} {x : Operand} (h : (TT.und a).isSome = true) : actO TT self (.convert a 76 x) f s = pureR (vConv .u16 x f.eval s.heap) s := act_convert a 76 x h und_76
@[simp] theorem o_load_77 {x : Operand} : actO TT self (.load 77 x) f s = pureR (vLoad (some 4) x f.eval s.heap) s := by rw [act_load, agg_77]; rfl
@[simp] theorem o_store_77 {a x : Operand} : actO TT self (.store 77 a x) f s = eStore 4 a x self f.eval s := by rw [act_store, size_77]; rfl
@[simp] theorem o_alloc_77 : actO TT self (.alloc 77) f s = exNew s (.cells ((.agg #[(.int .u8 0), (.slice none 0 0), (.slice none 0 0), (.int .u16 0)]) : Value).cells.toList none) ptrTo := by rw [act_alloc, zero_77]; rfl
theorem flag_77 : (TT.prog.keyTypeAt 20 77 && !TT.prog.eqGuardType TT.prog.depth 77) = (TT.prog.keyTypeAt 20 77 && !TT.prog.eqGuardType TT.prog.depth 77) := rfl
@[simp] theorem o_bin_77 {op : BinOp} {x y : Operand} {u : TypeId} : actO TT self (.binOp op 77 x y u) f s = pureR (binV TT (Go.TypeDesc.struct #[{ name := "Units", type := 5, offset := 0, embedded := Bool.false, tag := "", pkgPath := "", byteOffset := 0 }, { name := "Ends", type := 74, offset := 1, embedded := Bool.false, tag := "", pkgPath := "", byteOffset := 8 }, { name := "Mass", type := 75, offset := 2, embedded := Bool.false, tag := "", pkgPath := "", byteOffset := 32 }, { name := "Known", type := 76, offset := 3, embedded := Bool.false, tag := "", pkgPath := "", byteOffset := 56 }]) 77 (TT.prog.keyTypeAt 20 77 && !TT.prog.eqGuardType TT.prog.depth 77) op x y f.eval s.heap) s := by rw [act_bin, und_77]; rfl
@[simp] theorem o_fieldAddr_77_0 {x : Operand} : actO TT self (.fieldAddr 77 x 0) f s = pureR (vFieldAddr 0 x f.eval s.heap) s := act_fieldAddr 77 x 0 und_77 rfl size_5 rfl
@[simp] theorem o_field_77_0 {x : Operand} : actO TT self (.field 77 x 0) f s = pureR (vField 0 none x f.eval s.heap) s := act_field 77 x 0 und_77 rfl agg_5
@[simp] theorem o_fieldAddr_77_1 {x : Operand} : actO TT self (.fieldAddr 77 x 1) f s = pureR (vFieldAddr 1 x f.eval s.heap) s := act_fieldAddr 77 x 1 und_77 rfl size_74 rfl
@[simp] theorem o_field_77_1 {x : Operand} : actO TT self (.field 77 x 1) f s = pureR (vField 1 none x f.eval s.heap) s := act_field 77 x 1 und_77 rfl agg_74
@[simp] theorem o_fieldAddr_77_2 {x : Operand} : actO TT self (.fieldAddr 77 x 2) f s = pureR (vFieldAddr 2 x f.eval s.heap) s := act_fieldAddr 77 x 2 und_77 rfl size_75 rfl
@[simp] theorem o_field_77_2 {x : Operand} : actO TT self (.field 77 x 2) f s = pureR (vField 2 none x f.eval s.heap) s := act_field 77 x 2 und_77 rfl agg_75
@[simp] theorem o_fieldAddr_77_3 {x : Operand} : actO TT self (.fieldAddr 77 x 3) f s = pureR (vFieldAddr 3 x f.eval s.heap) s := act_fieldAddr 77 x 3 und_77 rfl size_76 rfl
@[simp] theorem o_field_77_3 {x : Operand} : actO TT self (.field 77 x 3) f s = pureR (vField 3 none x f.eval s.heap) s := act_field 77 x 3 und_77 rfl agg_76
@[simp] theorem o_build_77 {pl0 : Array (Nat × Operand)} : actO TT self (.build 77 pl0) f s = ob (placesS [(0, 1), (1, 1), (2, 1), (3, 1)] pl0.toList) fun l => pureR (aggV (fillL f.eval l ((.agg #[(.int .u8 0), (.slice none 0 0), (.slice none 0 0), (.int .u16 0)]) : Value).cells.toList)) s := act_buildS 77 pl0 zero_77 und_77 (by kernel_rfl)
@[simp] theorem o_load_78 {x : Operand} : actO TT self (.load 78 x) f s = pureR (vLoad (some 4) x f.eval s.heap) s := by rw [act_load, agg_78]; rfl
@[simp] theorem o_store_78 {a x : Operand} : actO TT self (.store 78 a x) f s = eStore 4 a x self f.eval s := by rw [act_store, size_78]; rfl
@[simp] theorem o_alloc_78 : actO TT self (.alloc 78) f s = exNew s (.cells ((.agg #[(.int .u8 0), (.slice none 0 0), (.slice none 0 0), (.int .u16 0)]) : Value).cells.toList none) ptrTo := by rw [act_alloc, zero_78]; rfl
theorem flag_78 : (TT.prog.keyTypeAt 20 78 && !TT.prog.eqGuardType TT.prog.depth 78) = (TT.prog.keyTypeAt 20 78 && !TT.prog.eqGuardType TT.prog.depth 78) := rfl
@[simp] theorem o_bin_78 {op : BinOp} {x y : Operand} {u : TypeId} : actO TT self (.binOp op 78 x y u) f s = pureR (binV TT (Go.TypeDesc.struct #[{ name := "Units", type := 5, offset := 0, embedded := Bool.false, tag := "", pkgPath := "", byteOffset := 0 }, { name := "Ends", type := 74, offset := 1, embedded := Bool.false, tag := "", pkgPath := "", byteOffset := 8 }, { name := "Mass", type := 75, offset := 2, embedded := Bool.false, tag := "", pkgPath := "", byteOffset := 32 }, { name := "Known", type := 76, offset := 3, embedded := Bool.false, tag := "", pkgPath := "", byteOffset := 56 }]) 78 (TT.prog.keyTypeAt 20 78 && !TT.prog.eqGuardType TT.prog.depth 78) op x y f.eval s.heap) s := by rw [act_bin, und_78]; rfl
@[simp] theorem o_fieldAddr_78_0 {x : Operand} : actO TT self (.fieldAddr 78 x 0) f s = pureR (vFieldAddr 0 x f.eval s.heap) s := act_fieldAddr 78 x 0 und_78 rfl size_5 rfl
@[simp] theorem o_field_78_0 {x : Operand} : actO TT self (.field 78 x 0) f s = pureR (vField 0 none x f.eval s.heap) s := act_field 78 x 0 und_78 rfl agg_5
@[simp] theorem o_fieldAddr_78_1 {x : Operand} : actO TT self (.fieldAddr 78 x 1) f s = pureR (vFieldAddr 1 x f.eval s.heap) s := act_fieldAddr 78 x 1 und_78 rfl size_74 rfl
@[simp] theorem o_field_78_1 {x : Operand} : actO TT self (.field 78 x 1) f s = pureR (vField 1 none x f.eval s.heap) s := act_field 78 x 1 und_78 rfl agg_74
@[simp] theorem o_fieldAddr_78_2 {x : Operand} : actO TT self (.fieldAddr 78 x 2) f s = pureR (vFieldAddr 2 x f.eval s.heap) s := act_fieldAddr 78 x 2 und_78 rfl size_75 rfl
@[simp] theorem o_field_78_2 {x : Operand} : actO TT self (.field 78 x 2) f s = pureR (vField 2 none x f.eval s.heap) s := act_field 78 x 2 und_78 rfl agg_75
@[simp] theorem o_fieldAddr_78_3 {x : Operand} : actO TT self (.fieldAddr 78 x 3) f s = pureR (vFieldAddr 3 x f.eval s.heap) s := act_fieldAddr 78 x 3 und_78 rfl size_76 rfl
@[simp] theorem o_field_78_3 {x : Operand} : actO TT self (.field 78 x 3) f s = pureR (vField 3 none x f.eval s.heap) s := act_field 78 x 3 und_78 rfl agg_76
@[simp] theorem o_build_78 {pl0 : Array (Nat × Operand)} : actO TT self (.build 78 pl0) f s = ob (placesS [(0, 1), (1, 1), (2, 1), (3, 1)] pl0.toList) fun l => pureR (aggV (fillL f.eval l ((.agg #[(.int .u8 0), (.slice none 0 0), (.slice none 0 0), (.int .u16 0)]) : Value).cells.toList)) s := act_buildS 78 pl0 zero_78 und_78 (by kernel_rfl)
@[simp] theorem o_load_79 {x : Operand} : actO TT self (.load 79 x) f s = pureR (vLoad none x f.eval s.heap) s := by rw [act_load, agg_79]; rfl
@[simp] theorem o_store_79 {a x : Operand} : actO TT self (.store 79 a x) f s = eStore 1 a x self f.eval s := by rw [act_store, size_79]; rfl
@[simp] theorem o_load_80 {x : Operand} : actO TT self (.load 80 x) f s = pureR (vLoad none x f.eval s.heap) s := by rw [act_load, agg_80]; rfl
@[simp] theorem o_store_80 {a x : Operand} : actO TT self (.store 80 a x) f s = eStore 1 a x self f.eval s := by rw [act_store, size_80]; rfl
@[simp] theorem o_alloc_80 : actO TT self (.alloc 80) f s = exNew s (.cells (.nilFunc : Value).cells.toList none) ptrTo := by rw [act_alloc, zero_80]; rfl
@[simp] theorem o_bin_80 {op : BinOp} {x y : Operand} {u : TypeId} : actO TT self (.binOp op 80 x y u) f s = pureR (binV TT (Go.TypeDesc.func #[] #[24, 58] Bool.false) 80 (TT.prog.keyTypeAt 20 80 && !TT.prog.eqGuardType TT.prog.depth 80) op x y f.eval s.heap) s := by rw [act_bin, und_80]; rfl
@[simp] theorem o_load_81 {x : Operand} : actO TT self (.load 81 x) f s = pureR (vLoad (some 7) x f.eval s.heap) s := by rw [act_load, agg_81]; rfl
@[simp] theorem o_store_81 {a x : Operand} : actO TT self (.store 81 a x) f s = eStore 7 a x self f.eval s := by rw [act_store, size_81]; rfl
@[simp] theorem o_alloc_81 : actO TT self (.alloc 81) f s = exNew s (.cells ((.agg #[(.int .i64 0), (.int .i64 0), (.bool false), (.int .i64 0), (.int .i64 0), (.int .i64 0), (.int .i64 0)]) : Value).cells.toList none) ptrTo := by rw [act_alloc, zero_81]; rfl
theorem flag_81 : (TT.prog.keyTypeAt 20 81 && !TT.prog.eqGuardType TT.prog.depth 81) = (TT.prog.keyTypeAt 20 81 && !TT.prog.eqGuardType TT.prog.depth 81) := rfl
@[simp] theorem o_bin_81 {op : BinOp} {x y : Operand} {u : TypeId} : actO TT self (.binOp op 81 x y u) f s = pureR (binV TT (Go.TypeDesc.struct #[{ name := "From", type := 3, offset := 0, embedded := Bool.false, tag := "", pkgPath := "", byteOffset := 0 }, { name := "To", type := 3, offset := 1, embedded := Bool.false, tag := "", pkgPath := "", byteOffset := 8 }, { name := "Measured", type := 4, offset := 2, embedded := Bool.false, tag := "", pkgPath := "", byteOffset := 16 }, { name := "Mass", type := 36, offset := 3, embedded := Bool.false, tag := "", pkgPath := "", byteOffset := 24 }]) 81 (TT.prog.keyTypeAt 20 81 && !TT.prog.eqGuardType TT.prog.depth 81) op x y f.eval s.heap) s := by rw [act_bin, und_81]; rfl
@[simp] theorem o_fieldAddr_81_0 {x : Operand} : actO TT self (.fieldAddr 81 x 0) f s = pureR (vFieldAddr 0 x f.eval s.heap) s := act_fieldAddr 81 x 0 und_81 rfl size_3 rfl
@[simp] theorem o_field_81_0 {x : Operand} : actO TT self (.field 81 x 0) f s = pureR (vField 0 none x f.eval s.heap) s := act_field 81 x 0 und_81 rfl agg_3
@[simp] theorem o_fieldAddr_81_1 {x : Operand} : actO TT self (.fieldAddr 81 x 1) f s = pureR (vFieldAddr 1 x f.eval s.heap) s := act_fieldAddr 81 x 1 und_81 rfl size_3 rfl
@[simp] theorem o_field_81_1 {x : Operand} : actO TT self (.field 81 x 1) f s = pureR (vField 1 none x f.eval s.heap) s := act_field 81 x 1 und_81 rfl agg_3
@[simp] theorem o_fieldAddr_81_2 {x : Operand} : actO TT self (.fieldAddr 81 x 2) f s = pureR (vFieldAddr 2 x f.eval s.heap) s := act_fieldAddr 81 x 2 und_81 rfl size_4 rfl
@[simp] theorem o_field_81_2 {x : Operand} : actO TT self (.field 81 x 2) f s = pureR (vField 2 none x f.eval s.heap) s := act_field 81 x 2 und_81 rfl agg_4
@[simp] theorem o_fieldAddr_81_3 {x : Operand} : actO TT self (.fieldAddr 81 x 3) f s = pureR (vFieldAddr 3 x f.eval s.heap) s := act_fieldAddr 81 x 3 und_81 rfl size_36 rfl
@[simp] theorem o_field_81_3 {x : Operand} : actO TT self (.field 81 x 3) f s = pureR (vField 3 (some 4) x f.eval s.heap) s := act_field 81 x 3 und_81 rfl agg_36
@[simp] theorem o_build_81 {pl0 : Array (Nat × Operand)} : actO TT self (.build 81 pl0) f s = ob (placesS [(0, 1), (1, 1), (2, 1), (3, 4)] pl0.toList) fun l => pureR (aggV (fillL f.eval l ((.agg #[(.int .i64 0), (.int .i64 0), (.bool false), (.int .i64 0), (.int .i64 0), (.int .i64 0), (.int .i64 0)]) : Value).cells.toList)) s := act_buildS 81 pl0 zero_81 und_81 (by kernel_rfl)
@[simp] theorem o_load_82 {x : Operand} : actO TT self (.load 82 x) f s = pureR (vLoad (some 7) x f.eval s.heap) s := by rw [act_load, agg_82]; rfl
@[simp] theorem o_store_82 {a x : Operand} : actO TT self (.store 82 a x) f s = eStore 7 a x self f.eval s := by rw [act_store, size_82]; rfl
@[simp] theorem o_alloc_82 : actO TT self (.alloc 82) f s = exNew s (.cells ((.agg #[(.int .i64 0), (.int .i64 0), (.bool false), (.int .i64 0), (.int .i64 0), (.int .i64 0), (.int .i64 0)]) : Value).cells.toList none) ptrTo := by rw [act_alloc, zero_82]; rfl
theorem flag_82 : (TT.prog.keyTypeAt 20 82 && !TT.prog.eqGuardType TT.prog.depth 82) = (TT.prog.keyTypeAt 20 82 && !TT.prog.eqGuardType TT.prog.depth 82) := rfl
@[simp] theorem o_bin_82 {op : BinOp} {x y : Operand} {u : TypeId} : actO TT self (.binOp op 82 x y u) f s = pureR (binV TT (Go.TypeDesc.struct #[{ name := "From", type := 3, offset := 0, embedded := Bool.false, tag := "", pkgPath := "", byteOffset := 0 }, { name := "To", type := 3, offset := 1, embedded := Bool.false, tag := "", pkgPath := "", byteOffset := 8 }, { name := "Measured", type := 4, offset := 2, embedded := Bool.false, tag := "", pkgPath := "", byteOffset := 16 }, { name := "Mass", type := 36, offset := 3, embedded := Bool.false, tag := "", pkgPath := "", byteOffset := 24 }]) 82 (TT.prog.keyTypeAt 20 82 && !TT.prog.eqGuardType TT.prog.depth 82) op x y f.eval s.heap) s := by rw [act_bin, und_82]; rfl
@[simp] theorem o_fieldAddr_82_0 {x : Operand} : actO TT self (.fieldAddr 82 x 0) f s = pureR (vFieldAddr 0 x f.eval s.heap) s := act_fieldAddr 82 x 0 und_82 rfl size_3 rfl
@[simp] theorem o_field_82_0 {x : Operand} : actO TT self (.field 82 x 0) f s = pureR (vField 0 none x f.eval s.heap) s := act_field 82 x 0 und_82 rfl agg_3
@[simp] theorem o_fieldAddr_82_1 {x : Operand} : actO TT self (.fieldAddr 82 x 1) f s = pureR (vFieldAddr 1 x f.eval s.heap) s := act_fieldAddr 82 x 1 und_82 rfl size_3 rfl
@[simp] theorem o_field_82_1 {x : Operand} : actO TT self (.field 82 x 1) f s = pureR (vField 1 none x f.eval s.heap) s := act_field 82 x 1 und_82 rfl agg_3
@[simp] theorem o_fieldAddr_82_2 {x : Operand} : actO TT self (.fieldAddr 82 x 2) f s = pureR (vFieldAddr 2 x f.eval s.heap) s := act_fieldAddr 82 x 2 und_82 rfl size_4 rfl
@[simp] theorem o_field_82_2 {x : Operand} : actO TT self (.field 82 x 2) f s = pureR (vField 2 none x f.eval s.heap) s := act_field 82 x 2 und_82 rfl agg_4
@[simp] theorem o_fieldAddr_82_3 {x : Operand} : actO TT self (.fieldAddr 82 x 3) f s = pureR (vFieldAddr 3 x f.eval s.heap) s := act_fieldAddr 82 x 3 und_82 rfl size_36 rfl
@[simp] theorem o_field_82_3 {x : Operand} : actO TT self (.field 82 x 3) f s = pureR (vField 3 (some 4) x f.eval s.heap) s := act_field 82 x 3 und_82 rfl agg_36
@[simp] theorem o_build_82 {pl0 : Array (Nat × Operand)} : actO TT self (.build 82 pl0) f s = ob (placesS [(0, 1), (1, 1), (2, 1), (3, 4)] pl0.toList) fun l => pureR (aggV (fillL f.eval l ((.agg #[(.int .i64 0), (.int .i64 0), (.bool false), (.int .i64 0), (.int .i64 0), (.int .i64 0), (.int .i64 0)]) : Value).cells.toList)) s := act_buildS 82 pl0 zero_82 und_82 (by kernel_rfl)
@[simp] theorem o_load_83 {x : Operand} : actO TT self (.load 83 x) f s = pureR (vLoad none x f.eval s.heap) s := by rw [act_load, agg_83]; rfl
@[simp] theorem o_store_83 {a x : Operand} : actO TT self (.store 83 a x) f s = eStore 1 a x self f.eval s := by rw [act_store, size_83]; rfl
@[simp] theorem o_alloc_83 : actO TT self (.alloc 83) f s = exNew s (.cells (.nilFunc : Value).cells.toList none) ptrTo := by rw [act_alloc, zero_83]; rfl
@[simp] theorem o_bin_83 {op : BinOp} {x y : Operand} {u : TypeId} : actO TT self (.binOp op 83 x y u) f s = pureR (binV TT (Go.TypeDesc.func #[24, 3, 3, 3] #[4] Bool.false) 83 (TT.prog.keyTypeAt 20 83 && !TT.prog.eqGuardType TT.prog.depth 83) op x y f.eval s.heap) s := by rw [act_bin, und_83]; rfl
@[simp] theorem o_load_84 {x : Operand} : actO TT self (.load 84 x) f s = pureR (vLoad none x f.eval s.heap) s := by rw [act_load, agg_84]; rfl
@[simp] theorem o_store_84 {a x : Operand} : actO TT self (.store 84 a x) f s = eStore 1 a x self f.eval s := by rw [act_store, size_84]; rfl
@[simp] theorem o_alloc_84 : actO TT self (.alloc 84) f s = exNew s (.cells (.nilFunc : Value).cells.toList none) ptrTo := by rw [act_alloc, zero_84]; rfl
@[simp] theorem o_bin_84 {op : BinOp} {x y : Operand} {u : TypeId} : actO TT self (.binOp op 84 x y u) f s = pureR (binV TT (Go.TypeDesc.func #[78, 5, 5] #[4] Bool.false) 84 (TT.prog.keyTypeAt 20 84 && !TT.prog.eqGuardType TT.prog.depth 84) op x y f.eval s.heap) s := by rw [act_bin, und_84]; rfl
@[simp] theorem o_load_85 {x : Operand} : actO TT self (.load 85 x) f s = pureR (vLoad none x f.eval s.heap) s := by rw [act_load, agg_85]; rfl
@[simp] theorem o_store_85 {a x : Operand} : actO TT self (.store 85 a x) f s = eStore 1 a x self f.eval s := by rw [act_store, size_85]; rfl
@[simp] theorem o_alloc_85 : actO TT self (.alloc 85) f s = exNew s (.cells (.nilFunc : Value).cells.toList none) ptrTo := by rw [act_alloc, zero_85]; rfl
@[simp] theorem o_bin_85 {op : BinOp} {x y : Operand} {u : TypeId} : actO TT self (.binOp op 85 x y u) f s = pureR (binV TT (Go.TypeDesc.func #[78, 75, 5, 5] #[4] Bool.false) 85 (TT.prog.keyTypeAt 20 85 && !TT.prog.eqGuardType TT.prog.depth 85) op x y f.eval s.heap) s := by rw [act_bin, und_85]; rfl
@[simp] theorem o_load_86 {x : Operand} : actO TT self (.load 86 x) f s = pureR (vLoad (some 4) x f.eval s.heap) s := by rw [act_load, agg_86]; rfl
@[simp] theorem o_store_86 {a x : Operand} : actO TT self (.store 86 a x) f s = eStore 4 a x self f.eval s := by rw [act_store, size_86]; rfl
@[simp] theorem o_alloc_86 : actO TT self (.alloc 86) f s = exNew s (.cells ((.agg #[(.int .u8 0), (.int .u8 0), (.int .u8 0), (.int .u8 0)]) : Value).cells.toList none) ptrTo := by rw [act_alloc, zero_86]; rfl
theorem flag_86 : (TT.prog.keyTypeAt 20 86 && !TT.prog.eqGuardType TT.prog.depth 86) = (TT.prog.keyTypeAt 20 86 && !TT.prog.eqGuardType TT.prog.depth 86) := rfl
@[simp] theorem o_bin_86 {op : BinOp} {x y : Operand} {u : TypeId} : actO TT self (.binOp op 86 x y u) f s = pureR (binV TT (Go.TypeDesc.array 4 5) 86 (TT.prog.keyTypeAt 20 86 && !TT.prog.eqGuardType TT.prog.depth 86) op x y f.eval s.heap) s := by rw [act_bin, und_86]; rfl
@[simp] theorem o_indexAddr_86 {x i : Operand} : actO TT self (.indexAddr 86 x i) f s = pureR (vIndexAddrA 4 1 x i f.eval s.heap) s := act_indexAddrA 86 x i und_86 size_5
@[simp] theorem o_index_86 {x i : Operand} : actO TT self (.index 86 x i) f s = pureR (vIndexA 4 1 none x i f.eval s.heap) s := act_indexA 86 x i und_86 size_5 agg_5
@[simp] theorem o_len_86 {x : Operand} : actO TT self (.call ⟨.builtin .len, #[x], #[86]⟩) f s = some (.int .i64 (.ofNat 4), s) := act_lenArr x und_86
@[simp] theorem o_build_86 {pl0 : Array (Nat × Operand)} : actO TT self (.build 86 pl0) f s = pureR (aggV (fillL f.eval (placesA 1 pl0.toList) ((.agg #[(.int .u8 0), (.int .u8 0), (.int .u8 0), (.int .u8 0)]) : Value).cells.toList)) s := act_buildA 86 pl0 zero_86 und_86 size_5
@[simp] theorem o_load_87 {x : Operand} : actO TT self (.load 87 x) f s = pureR (vLoad none x f.eval s.heap) s := by rw [act_load, agg_87]; rfl
@[simp] theorem o_store_87 {a x : Operand} : actO TT self (.store 87 a x) f s = eStore 1 a x self f.eval s := by rw [act_store, size_87]; rfl
@[simp] theorem o_alloc_87 : actO TT self (.alloc 87) f s = exNew s (.cells (.nilFunc : Value).cells.toList none) ptrTo := by rw [act_alloc, zero_87]; rfl
@[simp] theorem o_bin_87 {op : BinOp} {x y : Operand} {u : TypeId} : actO TT self (.binOp op 87 x y u) f s = pureR (binV TT (Go.TypeDesc.func #[78, 5, 86] #[4] Bool.false) 87 (TT.prog.keyTypeAt 20 87 && !TT.prog.eqGuardType TT.prog.depth 87) op x y f.eval s.heap) s := by rw [act_bin, und_87]; rfl
@[simp] theorem o_load_88 {x : Operand} : actO TT self (.load 88 x) f s = pureR (vLoad none x f.eval s.heap) s := by rw [act_load, agg_88]; rfl
@[simp] theorem o_store_88 {a x : Operand} : actO TT self (.store 88 a x) f s = eStore 1 a x self f.eval s := by rw [act_store, size_88]; rfl
@[simp] theorem o_alloc_88 : actO TT self (.alloc 88) f s = exNew s (.cells (.nilFunc : Value).cells.toList none) ptrTo := by rw [act_alloc, zero_88]; rfl
@[simp] theorem o_bin_88 {op : BinOp} {x y : Operand} {u : TypeId} : actO TT self (.binOp op 88 x y u) f s = pureR (binV TT (Go.TypeDesc.func #[3] #[3] Bool.false) 88 (TT.prog.keyTypeAt 20 88 && !TT.prog.eqGuardType TT.prog.depth 88) op x y f.eval s.heap) s := by rw [act_bin, und_88]; rfl
@[simp] theorem o_load_89 {x : Operand} : actO TT self (.load 89 x) f s = pureR (vLoad none x f.eval s.heap) s := by rw [act_load, agg_89]; rfl
@[simp] theorem o_store_89 {a x : Operand} : actO TT self (.store 89 a x) f s = eStore 1 a x self f.eval s := by rw [act_store, size_89]; rfl
@[simp] theorem o_alloc_89 : actO TT self (.alloc 89) f s = exNew s (.cells (.nilFunc : Value).cells.toList none) ptrTo := by rw [act_alloc, zero_89]; rfl
@[simp] theorem o_bin_89 {op : BinOp} {x y : Operand} {u : TypeId} : actO TT self (.binOp op 89 x y u) f s = pureR (binV TT (Go.TypeDesc.func #[78, 5, 5, 5] #[4] Bool.false) 89 (TT.prog.keyTypeAt 20 89 && !TT.prog.eqGuardType TT.prog.depth 89) op x y f.eval s.heap) s := by rw [act_bin, und_89]; rfl
@[simp] theorem o_load_90 {x : Operand} : actO TT self (.load 90 x) f s = pureR (vLoad none x f.eval s.heap) s := by rw [act_load, agg_90]; rfl
@[simp] theorem o_store_90 {a x : Operand} : actO TT self (.store 90 a x) f s = eStore 1 a x self f.eval s := by rw [act_store, size_90]; rfl
@[simp] theorem o_alloc_90 : actO TT self (.alloc 90) f s = exNew s (.cells (.nilFunc : Value).cells.toList none) ptrTo := by rw [act_alloc, zero_90]; rfl
@[simp] theorem o_bin_90 {op : BinOp} {x y : Operand} {u : TypeId} : actO TT self (.binOp op 90 x y u) f s = pureR (binV TT (Go.TypeDesc.func #[] #[24] Bool.false) 90 (TT.prog.keyTypeAt 20 90 && !TT.prog.eqGuardType TT.prog.depth 90) op x y f.eval s.heap) s := by rw [act_bin, und_90]; rfl
@[simp] theorem o_load_91 {x : Operand} : actO TT self (.load 91 x) f s = pureR (vLoad none x f.eval s.heap) s := by rw [act_load, agg_91]; rfl
@[simp] theorem o_store_91 {a x : Operand} : actO TT self (.store 91 a x) f s = eStore 1 a x self f.eval s := by rw [act_store, size_91]; rfl
@[simp] theorem o_alloc_91 : actO TT self (.alloc 91) f s = exNew s (.cells (.nilFunc : Value).cells.toList none) ptrTo := by rw [act_alloc, zero_91]; rfl
@[simp] theorem o_bin_91 {op : BinOp} {x y : Operand} {u : TypeId} : actO TT self (.binOp op 91 x y u) f s = pureR (binV TT (Go.TypeDesc.func #[123] #[] Bool.false) 91 (TT.prog.keyTypeAt 20 91 && !TT.prog.eqGuardType TT.prog.depth 91) op x y f.eval s.heap) s := by rw [act_bin, und_91]; rfl
@[simp] theorem o_load_92 {x : Operand} : actO TT self (.load 92 x) f s = pureR (vLoad none x f.eval s.heap) s := by rw [act_load, agg_92]; rfl
@[simp] theorem o_store_92 {a x : Operand} : actO TT self (.store 92 a x) f s = eStore 1 a x self f.eval s := by rw [act_store, size_92]; rfl
@[simp] theorem o_alloc_92 : actO TT self (.alloc 92) f s = exNew s (.cells (.nilFunc : Value).cells.toList none) ptrTo := by rw [act_alloc, zero_92]; rfl
@[simp] theorem o_bin_92 {op : BinOp} {x y : Operand} {u : TypeId} : actO TT self (.binOp op 92 x y u) f s = pureR (binV TT (Go.TypeDesc.func #[123] #[] Bool.false) 92 (TT.prog.keyTypeAt 20 92 && !TT.prog.eqGuardType TT.prog.depth 92) op x y f.eval s.heap) s := by rw [act_bin, und_92]; rfl
@[simp] theorem o_load_93 {x : Operand} : actO TT self (.load 93 x) f s = pureR (vLoad none x f.eval s.heap) s := by rw [act_load, agg_93]; rfl
@[simp] theorem o_store_93 {a x : Operand} : actO TT self (.store 93 a x) f s = eStore 1 a x self f.eval s := by rw [act_store, size_93]; rfl
@[simp] theorem o_alloc_93 : actO TT self (.alloc 93) f s = exNew s (.cells (.nilFunc : Value).cells.toList none) ptrTo := by rw [act_alloc, zero_93]; rfl
@[simp] theorem o_bin_93 {op : BinOp} {x y : Operand} {u : TypeId} : actO TT self (.binOp op 93 x y u) f s = pureR (binV TT (Go.TypeDesc.func #[24] #[92] Bool.false) 93 (TT.prog.keyTypeAt 20 93 && !TT.prog.eqGuardType TT.prog.depth 93) op x y f.eval s.heap) s := by rw [act_bin, und_93]; rfl
@[simp] theorem o_load_94 {x : Operand} : actO TT self (.load 94 x) f s = pureR (vLoad none x f.eval s.heap) s := by rw [act_load, agg_94]; rfl
@[simp] theorem o_store_94 {a x : Operand} : actO TT self (.store 94 a x) f s = eStore 1 a x self f.eval s := by rw [act_store, size_94]; rfl
@[simp] theorem o_alloc_94 : actO TT self (.alloc 94) f s = exNew s (.cells (.nilFunc : Value).cells.toList none) ptrTo := by rw [act_alloc, zero_94]; rfl
@[simp] theorem o_bin_94 {op : BinOp} {x y : Operand} {u : TypeId} : actO TT self (.binOp op 94 x y u) f s = pureR (binV TT (Go.TypeDesc.func #[33, 3] #[25] Bool.false) 94 (TT.prog.keyTypeAt 20 94 && !TT.prog.eqGuardType TT.prog.depth 94) op x y f.eval s.heap) s := by rw [act_bin, und_94]; rfl
@[simp] theorem o_load_95 {x : Operand} : actO TT self (.load 95 x) f s = pureR (vLoad (some 7) x f.eval s.heap) s := by rw [act_load, agg_95]; rfl
@[simp] theorem o_store_95 {a x : Operand} : actO TT self (.store 95 a x) f s = eStore 7 a x self f.eval s := by rw [act_store, size_95]; rfl
@[simp] theorem o_alloc_95 : actO TT self (.alloc 95) f s = exNew s (.cells ((.agg #[(.int .i64 0), (.int .i64 0), (.bool false), (.int .i64 0), (.int .i64 0), (.int .i64 0), (.int .i64 0)]) : Value).cells.toList none) ptrTo := by rw [act_alloc, zero_95]; rfl
theorem flag_95 : (TT.prog.keyTypeAt 20 95 && !TT.prog.eqGuardType TT.prog.depth 95) = (TT.prog.keyTypeAt 20 95 && !TT.prog.eqGuardType TT.prog.depth 95) := rfl
@[simp] theorem o_bin_95 {op : BinOp} {x y : Operand} {u : TypeId} : actO TT self (.binOp op 95 x y u) f s = pureR (binV TT (Go.TypeDesc.struct #[{ name := "From", type := 3, offset := 0, embedded := Bool.false, tag := "", pkgPath := "", byteOffset := 0 }, { name := "To", type := 3, offset := 1, embedded := Bool.false, tag := "", pkgPath := "", byteOffset := 8 }, { name := "Measured", type := 4, offset := 2, embedded := Bool.false, tag := "", pkgPath := "", byteOffset := 16 }, { name := "Mass", type := 39, offset := 3, embedded := Bool.false, tag := "", pkgPath := "", byteOffset := 24 }]) 95 (TT.prog.keyTypeAt 20 95 && !TT.prog.eqGuardType TT.prog.depth 95) op x y f.eval s.heap) s := by rw [act_bin, und_95]; rfl
@[simp] theorem o_fieldAddr_95_0 {x : Operand} : actO TT self (.fieldAddr 95 x 0) f s = pureR (vFieldAddr 0 x f.eval s.heap) s := act_fieldAddr 95 x 0 und_95 rfl size_3 rfl
@[simp] theorem o_field_95_0 {x : Operand} : actO TT self (.field 95 x 0) f s = pureR (vField 0 none x f.eval s.heap) s := act_field 95 x 0 und_95 rfl agg_3
@[simp] theorem o_fieldAddr_95_1 {x : Operand} : actO TT self (.fieldAddr 95 x 1) f s = pureR (vFieldAddr 1 x f.eval s.heap) s := act_fieldAddr 95 x 1 und_95 rfl size_3 rfl
@[simp] theorem o_field_95_1 {x : Operand} : actO TT self (.field 95 x 1) f s = pureR (vField 1 none x f.eval s.heap) s := act_field 95 x 1 und_95 rfl agg_3
@[simp] theorem o_fieldAddr_95_2 {x : Operand} : actO TT self (.fieldAddr 95 x 2) f s = pureR (vFieldAddr 2 x f.eval s.heap) s := act_fieldAddr 95 x 2 und_95 rfl size_4 rfl
@[simp] theorem o_field_95_2 {x : Operand} : actO TT self (.field 95 x 2) f s = pureR (vField 2 none x f.eval s.heap) s := act_field 95 x 2 und_95 rfl agg_4
@[simp] theorem o_fieldAddr_95_3 {x : Operand} : actO TT self (.fieldAddr 95 x 3) f s = pureR (vFieldAddr 3 x f.eval s.heap) s := act_fieldAddr 95 x 3 und_95 rfl size_39 rfl
@[simp] theorem o_field_95_3 {x : Operand} : actO TT self (.field 95 x 3) f s = pureR (vField 3 (some 4) x f.eval s.heap) s := act_field 95 x 3 und_95 rfl agg_39
@[simp] theorem o_build_95 {pl0 : Array (Nat × Operand)} : actO TT self (.build 95 pl0) f s = ob (placesS [(0, 1), (1, 1), (2, 1), (3, 4)] pl0.toList) fun l => pureR (aggV (fillL f.eval l ((.agg #[(.int .i64 0), (.int .i64 0), (.bool false), (.int .i64 0), (.int .i64 0), (.int .i64 0), (.int .i64 0)]) : Value).cells.toList)) s := act_buildS 95 pl0 zero_95 und_95 (by kernel_rfl)
@[simp] theorem o_load_96 {x : Operand} : actO TT self (.load 96 x) f s = pureR (vLoad (some 7) x f.eval s.heap) s := by rw [act_load, agg_96]; rfl
@[simp] theorem o_store_96 {a x : Operand} : actO TT self (.store 96 a x) f s = eStore 7 a x self f.eval s := by rw [act_store, size_96]; rfl
@[simp] theorem o_alloc_96 : actO TT self (.alloc 96) f s = exNew s (.cells ((.agg #[(.int .i64 0), (.int .i64 0), (.bool false), (.int .i64 0), (.int .i64 0), (.int .i64 0), (.int .i64 0)]) : Value).cells.toList none) ptrTo := by rw [act_alloc, zero_96]; rfl
theorem flag_96 : (TT.prog.keyTypeAt 20 96 && !TT.prog.eqGuardType TT.prog.depth 96) = (TT.prog.keyTypeAt 20 96 && !TT.prog.eqGuardType TT.prog.depth 96) := rfl
@[simp] theorem o_bin_96 {op : BinOp} {x y : Operand} {u : TypeId} : actO TT self (.binOp op 96 x y u) f s = pureR (binV TT (Go.TypeDesc.struct #[{ name := "From", type := 3, offset := 0, embedded := Bool.false, tag := "", pkgPath := "", byteOffset := 0 }, { name := "To", type := 3, offset := 1, embedded := Bool.false, tag := "", pkgPath := "", byteOffset := 8 }, { name := "Measured", type := 4, offset := 2, embedded := Bool.false, tag := "", pkgPath := "", byteOffset := 16 }, { name := "Mass", type := 39, offset := 3, embedded := Bool.false, tag := "", pkgPath := "", byteOffset := 24 }]) 96 (TT.prog.keyTypeAt 20 96 && !TT.prog.eqGuardType TT.prog.depth 96) op x y f.eval s.heap) s := by rw [act_bin, und_96]; rfl
@[simp] theorem o_fieldAddr_96_0 {x : Operand} : actO TT self (.fieldAddr 96 x 0) f s = pureR (vFieldAddr 0 x f.eval s.heap) s := act_fieldAddr 96 x 0 und_96 rfl size_3 rfl
@[simp] theorem o_field_96_0 {x : Operand} : actO TT self (.field 96 x 0) f s = pureR (vField 0 none x f.eval s.heap) s := act_field 96 x 0 und_96 rfl agg_3
@[simp] theorem o_fieldAddr_96_1 {x : Operand} : actO TT self (.fieldAddr 96 x 1) f s = pureR (vFieldAddr 1 x f.eval s.heap) s := act_fieldAddr 96 x 1 und_96 rfl size_3 rfl
@[simp] theorem o_field_96_1 {x : Operand} : actO TT self (.field 96 x 1) f s = pureR (vField 1 none x f.eval s.heap) s := act_field 96 x 1 und_96 rfl agg_3
@[simp] theorem o_fieldAddr_96_2 {x : Operand} : actO TT self (.fieldAddr 96 x 2) f s = pureR (vFieldAddr 2 x f.eval s.heap) s := act_fieldAddr 96 x 2 und_96 rfl size_4 rfl
@[simp] theorem o_field_96_2 {x : Operand} : actO TT self (.field 96 x 2) f s = pureR (vField 2 none x f.eval s.heap) s := act_field 96 x 2 und_96 rfl agg_4
@[simp] theorem o_fieldAddr_96_3 {x : Operand} : actO TT self (.fieldAddr 96 x 3) f s = pureR (vFieldAddr 3 x f.eval s.heap) s := act_fieldAddr 96 x 3 und_96 rfl size_39 rfl
@[simp] theorem o_field_96_3 {x : Operand} : actO TT self (.field 96 x 3) f s = pureR (vField 3 (some 4) x f.eval s.heap) s := act_field 96 x 3 und_96 rfl agg_39
@[simp] theorem o_build_96 {pl0 : Array (Nat × Operand)} : actO TT self (.build 96 pl0) f s = ob (placesS [(0, 1), (1, 1), (2, 1), (3, 4)] pl0.toList) fun l => pureR (aggV (fillL f.eval l ((.agg #[(.int .i64 0), (.int .i64 0), (.bool false), (.int .i64 0), (.int .i64 0), (.int .i64 0), (.int .i64 0)]) : Value).cells.toList)) s := act_buildS 96 pl0 zero_96 und_96 (by kernel_rfl)
@[simp] theorem o_load_97 {x : Operand} : actO TT self (.load 97 x) f s = pureR (vLoad none x f.eval s.heap) s := by rw [act_load, agg_97]; rfl
@[simp] theorem o_store_97 {a x : Operand} : actO TT self (.store 97 a x) f s = eStore 1 a x self f.eval s := by rw [act_store, size_97]; rfl
@[simp] theorem o_alloc_97 : actO TT self (.alloc 97) f s = exNew s (.cells (.nilFunc : Value).cells.toList none) ptrTo := by rw [act_alloc, zero_97]; rfl
@[simp] theorem o_bin_97 {op : BinOp} {x y : Operand} {u : TypeId} : actO TT self (.binOp op 97 x y u) f s = pureR (binV TT (Go.TypeDesc.func #[3] #[4] Bool.false) 97 (TT.prog.keyTypeAt 20 97 && !TT.prog.eqGuardType TT.prog.depth 97) op x y f.eval s.heap) s := by rw [act_bin, und_97]; rfl
@[simp] theorem o_load_98 {x : Operand} : actO TT self (.load 98 x) f s = pureR (vLoad none x f.eval s.heap) s := by rw [act_load, agg_98]; rfl
@[simp] theorem o_store_98 {a x : Operand} : actO TT self (.store 98 a x) f s = eStore 1 a x self f.eval s := by rw [act_store, size_98]; rfl
@[simp] theorem o_alloc_98 : actO TT self (.alloc 98) f s = exNew s (.cells (.nilFunc : Value).cells.toList none) ptrTo := by rw [act_alloc, zero_98]; rfl
@[simp] theorem o_bin_98 {op : BinOp} {x y : Operand} {u : TypeId} : actO TT self (.binOp op 98 x y u) f s = pureR (binV TT (Go.TypeDesc.func #[24, 25] #[36] Bool.false) 98 (TT.prog.keyTypeAt 20 98 && !TT.prog.eqGuardType TT.prog.depth 98) op x y f.eval s.heap) s := by rw [act_bin, und_98]; rfl
@[simp] theorem o_load_99 {x : Operand} : actO TT self (.load 99 x) f s = pureR (vLoad none x f.eval s.heap) s := by rw [act_load, agg_99]; rfl
@[simp] theorem o_store_99 {a x : Operand} : actO TT self (.store 99 a x) f s = eStore 1 a x self f.eval s := by rw [act_store, size_99]; rfl
@[simp] theorem o_alloc_99 : actO TT self (.alloc 99) f s = exNew s (.cells ((.slice none 0 0) : Value).cells.toList none) ptrTo := by rw [act_alloc, zero_99]; rfl
@[simp] theorem o_bin_99 {op : BinOp} {x y : Operand} {u : TypeId} : actO TT self (.binOp op 99 x y u) f s = pureR (binV TT (Go.TypeDesc.slice 4) 99 (TT.prog.keyTypeAt 20 99 && !TT.prog.eqGuardType TT.prog.depth 99) op x y f.eval s.heap) s := by rw [act_bin, und_99]; rfl
@[simp] theorem o_indexAddr_99 {x i : Operand} : actO TT self (.indexAddr 99 x i) f s = pureR (vIndexAddrS 1 x i f.eval s.heap) s := act_indexAddrS 99 x i und_99 size_4
@[simp] theorem o_len_99 {x : Operand} : actO TT self (.call ⟨.builtin .len, #[x], #[99]⟩) f s = pureR (vLenSl x f.eval s.heap) s := act_lenSl x und_99
@[simp] theorem o_append_99 {x y : Operand} : actO TT self (.call ⟨.builtin .append, #[x, y], #[99, 99]⟩) f s = eAppend 1 x y self f.eval s := act_append x y und_99 und_99 size_4 bytes_4 zero_4 rfl
@[simp] theorem o_makeSlice_99 {l c : Operand} : actO TT self (.makeSlice 99 l c) f s = ob (eMakeSl ((.bool false) : Value).cells.toList 1 l c f.eval) fun p => exNew s p.1 p.2 := act_makeSlice 99 l c und_99 size_4 bytes_4 zero_4 rfl
@[simp] theorem o_buildSlice_99 {len : Nat} {pl0 : Array (Nat × Operand)} (h : len * 1 ≤ 16777216) : actO TT self (.buildSlice 99 len pl0) f s = ob (fillL f.eval (placesA 1 pl0.toList) (repeatL ((.bool false) : Value).cells.toList len)) fun c => exNew s (.cells c none) fun i => .slice (some ⟨i, 0, none⟩) len len := act_buildSlice 99 len pl0 und_99 size_4 zero_4 (by rw [show Nat.beq (lenL ((.bool false) : Value).cells.toList) 1 = true from rfl, Nat.ble_eq_true_of_le h]; rfl)
@[simp] theorem o_load_100 {x : Operand} : actO TT self (.load 100 x) f s = pureR (vLoad none x f.eval s.heap) s := by rw [act_load, agg_100]; rfl
@[simp] theorem o_store_100 {a x : Operand} : actO TT self (.store 100 a x) f s = eStore 1 a x self f.eval s := by rw [act_store, size_100]; rfl
@[simp] theorem o_load_101 {x : Operand} : actO TT self (.load 101 x) f s = pureR (vLoad none x f.eval s.heap) s := by rw [act_load, agg_101]; rfl
@[simp] theorem o_store_101 {a x : Operand} : actO TT self (.store 101 a x) f s = eStore 1 a x self f.eval s := by rw [act_store, size_101]; rfl
@[simp] theorem o_alloc_101 : actO TT self (.alloc 101) f s = exNew s (.cells (.nilFunc : Value).cells.toList none) ptrTo := by rw [act_alloc, zero_101]; rfl
@[simp] theorem o_bin_101 {op : BinOp} {x y : Operand} {u : TypeId} : actO TT self (.binOp op 101 x y u) f s = pureR (binV TT (Go.TypeDesc.func #[33, 25] #[99, 27] Bool.false) 101 (TT.prog.keyTypeAt 20 101 && !TT.prog.eqGuardType TT.prog.depth 101) op x y f.eval s.heap) s := by rw [act_bin, und_101]; rfl
@[simp] theorem o_load_102 {x : Operand} : actO TT self (.load 102 x) f s = pureR (vLoad none x f.eval s.heap) s := by rw [act_load, agg_102]; rfl
@[simp] theorem o_store_102 {a x : Operand} : actO TT self (.store 102 a x) f s = eStore 1 a x self f.eval s := by rw [act_store, size_102]; rfl
@[simp] theorem o_alloc_102 : actO TT self (.alloc 102) f s = exNew s (.cells (.nilFunc : Value).cells.toList none) ptrTo := by rw [act_alloc, zero_102]; rfl
@[simp] theorem o_bin_102 {op : BinOp} {x y : Operand} {u : TypeId} : actO TT self (.binOp op 102 x y u) f s = pureR (binV TT (Go.TypeDesc.func #[33, 99] #[39] Bool.false) 102 (TT.prog.keyTypeAt 20 102 && !TT.prog.eqGuardType TT.prog.depth 102) op x y f.eval s.heap) s := by rw [act_bin, und_102]; rfl
@[simp] theorem o_load_103 {x : Operand} : actO TT self (.load 103 x) f s = pureR (vLoad none x f.eval s.heap) s := by rw [act_load, agg_103]; rfl
@[simp] theorem o_store_103 {a x : Operand} : actO TT self (.store 103 a x) f s = eStore 1 a x self f.eval s := by rw [act_store, size_103]; rfl
@[simp] theorem o_alloc_103 : actO TT self (.alloc 103) f s = exNew s (.cells (.nilFunc : Value).cells.toList none) ptrTo := by rw [act_alloc, zero_103]; rfl
@[simp] theorem o_bin_103 {op : BinOp} {x y : Operand} {u : TypeId} : actO TT self (.binOp op 103 x y u) f s = pureR (binV TT (Go.TypeDesc.func #[22, 104] #[27] Bool.false) 103 (TT.prog.keyTypeAt 20 103 && !TT.prog.eqGuardType TT.prog.depth 103) op x y f.eval s.heap) s := by rw [act_bin, und_103]; rfl
@[simp] theorem o_load_104 {x : Operand} : actO TT self (.load 104 x) f s = pureR (vLoad none x f.eval s.heap) s := by rw [act_load, agg_104]; rfl
@[simp] theorem o_store_104 {a x : Operand} : actO TT self (.store 104 a x) f s = eStore 1 a x self f.eval s := by rw [act_store, size_104]; rfl
@[simp] theorem o_alloc_104 : actO TT self (.alloc 104) f s = exNew s (.cells (.nilFunc : Value).cells.toList none) ptrTo := by rw [act_alloc, zero_104]; rfl
@[simp] theorem o_bin_104 {op : BinOp} {x y : Operand} {u : TypeId} : actO TT self (.binOp op 104 x y u) f s = pureR (binV TT (Go.TypeDesc.func #[82] #[27] Bool.false) 104 (TT.prog.keyTypeAt 20 104 && !TT.prog.eqGuardType TT.prog.depth 104) op x y f.eval s.heap) s := by rw [act_bin, und_104]; rfl
@[simp] theorem o_load_105 {x : Operand} : actO TT self (.load 105 x) f s = pureR (vLoad none x f.eval s.heap) s := by rw [act_load, agg_105]; rfl
@[simp] theorem o_store_105 {a x : Operand} : actO TT self (.store 105 a x) f s = eStore 1 a x self f.eval s := by rw [act_store, size_105]; rfl
@[simp] theorem o_alloc_105 : actO TT self (.alloc 105) f s = exNew s (.cells (.nilFunc : Value).cells.toList none) ptrTo := by rw [act_alloc, zero_105]; rfl
@[simp] theorem o_bin_105 {op : BinOp} {x y : Operand} {u : TypeId} : actO TT self (.binOp op 105 x y u) f s = pureR (binV TT (Go.TypeDesc.func #[3, 3, 3] #[4] Bool.false) 105 (TT.prog.keyTypeAt 20 105 && !TT.prog.eqGuardType TT.prog.depth 105) op x y f.eval s.heap) s := by rw [act_bin, und_105]; rfl
@[simp] theorem o_load_106 {x : Operand} : actO TT self (.load 106 x) f s = pureR (vLoad none x f.eval s.heap) s := by rw [act_load, agg_106]; rfl
@[simp] theorem o_store_106 {a x : Operand} : actO TT self (.store 106 a x) f s = eStore 1 a x self f.eval s := by rw [act_store, size_106]; rfl
@[simp] theorem o_alloc_106 : actO TT self (.alloc 106) f s = exNew s (.cells (.nilFunc : Value).cells.toList none) ptrTo := by rw [act_alloc, zero_106]; rfl
@[simp] theorem o_bin_106 {op : BinOp} {x y : Operand} {u : TypeId} : actO TT self (.binOp op 106 x y u) f s = pureR (binV TT (Go.TypeDesc.func #[39, 3, 3] #[4] Bool.false) 106 (TT.prog.keyTypeAt 20 106 && !TT.prog.eqGuardType TT.prog.depth 106) op x y f.eval s.heap) s := by rw [act_bin, und_106]; rfl
@[simp] theorem o_load_107 {x : Operand} : actO TT self (.load 107 x) f s = pureR (vLoad none x f.eval s.heap) s := by rw [act_load, agg_107]; rfl
@[simp] theorem o_store_107 {a x : Operand} : actO TT self (.store 107 a x) f s = eStore 1 a x self f.eval s := by rw [act_store, size_107]; rfl
@[simp] theorem o_alloc_107 : actO TT self (.alloc 107) f s = exNew s (.cells (.nilFunc : Value).cells.toList none) ptrTo := by rw [act_alloc, zero_107]; rfl
@[simp] theorem o_bin_107 {op : BinOp} {x y : Operand} {u : TypeId} : actO TT self (.binOp op 107 x y u) f s = pureR (binV TT (Go.TypeDesc.func #[24] #[58] Bool.false) 107 (TT.prog.keyTypeAt 20 107 && !TT.prog.eqGuardType TT.prog.depth 107) op x y f.eval s.heap) s := by rw [act_bin, und_107]; rfl
@[simp] theorem o_load_108 {x : Operand} : actO TT self (.load 108 x) f s = pureR (vLoad none x f.eval s.heap) s := by rw [act_load, agg_108]; rfl
@[simp] theorem o_store_108 {a x : Operand} : actO TT self (.store 108 a x) f s = eStore 1 a x self f.eval s := by rw [act_store, size_108]; rfl
@[simp] theorem o_alloc_108 : actO TT self (.alloc 108) f s = exNew s (.cells ((.map none) : Value).cells.toList none) ptrTo := by rw [act_alloc, zero_108]; rfl
@[simp] theorem o_bin_108 {op : BinOp} {x y : Operand} {u : TypeId} : actO TT self (.binOp op 108 x y u) f s = pureR (binV TT (Go.TypeDesc.map 3 3) 108 (TT.prog.keyTypeAt 20 108 && !TT.prog.eqGuardType TT.prog.depth 108) op x y f.eval s.heap) s := by rw [act_bin, und_108]; rfl
@[simp] theorem o_lookup_108 {x k : Operand} {ok : Bool} : actO TT self (.lookup 108 x k ok) f s = pureR (vLookup (Go.TypeDesc.int Go.IntKind.i64) (.int .i64 0) x k ok f.eval s.heap) s := act_lookup 108 x k ok und_108 und_3 zero_3
@[simp] theorem o_mapUpdate_108 {m k x : Operand} : actO TT self (.mapUpdate 108 m k x) f s = eMapUpd (Go.TypeDesc.int Go.IntKind.i64) m k x self f.eval s := act_mapUpdate 108 m k x und_108 und_3
@[simp] theorem o_insert_108 {m k x : Operand} : actO TT self (.insert 108 m k x) f s = eMapUpd (Go.TypeDesc.int Go.IntKind.i64) m k x self f.eval s := act_insert 108 m k x und_108 und_3
@[simp] theorem o_load_109 {x : Operand} : actO TT self (.load 109 x) f s = pureR (vLoad (some 1) x f.eval s.heap) s := by rw [act_load, agg_109]; rfl
@[simp] theorem o_store_109 {a x : Operand} : actO TT self (.store 109 a x) f s = eStore 1 a x self f.eval s := by rw [act_store, size_109]; rfl
@[simp] theorem o_alloc_109 : actO TT self (.alloc 109) f s = exNew s (.cells ((.agg #[(.map none)]) : Value).cells.toList none) ptrTo := by rw [act_alloc, zero_109]; rfl
theorem flag_109 : (TT.prog.keyTypeAt 20 109 && !TT.prog.eqGuardType TT.prog.depth 109) = (TT.prog.keyTypeAt 20 109 && !TT.prog.eqGuardType TT.prog.depth 109) := rfl
@[simp] theorem o_bin_109 {op : BinOp} {x y : Operand} {u : TypeId} : actO TT self (.binOp op 109 x y u) f s = pureR (binV TT (Go.TypeDesc.struct #[{ name := "above", type := 108, offset := 0, embedded := Bool.false, tag := "", pkgPath := "zafra/bulk", byteOffset := 0 }]) 109 (TT.prog.keyTypeAt 20 109 && !TT.prog.eqGuardType TT.prog.depth 109) op x y f.eval s.heap) s := by rw [act_bin, und_109]; rfl
@[simp] theorem o_fieldAddr_109_0 {x : Operand} : actO TT self (.fieldAddr 109 x 0) f s = pureR (vFieldAddr 0 x f.eval s.heap) s := act_fieldAddr 109 x 0 und_109 rfl size_108 rfl
@[simp] theorem o_field_109_0 {x : Operand} : actO TT self (.field 109 x 0) f s = pureR (vField 0 none x f.eval s.heap) s := act_field 109 x 0 und_109 rfl agg_108
@[simp] theorem o_build_109 {pl0 : Array (Nat × Operand)} : actO TT self (.build 109 pl0) f s = ob (placesS [(0, 1)] pl0.toList) fun l => pureR (aggV (fillL f.eval l ((.agg #[(.map none)]) : Value).cells.toList)) s := act_buildS 109 pl0 zero_109 und_109 (by kernel_rfl)
@[simp] theorem o_load_110 {x : Operand} : actO TT self (.load 110 x) f s = pureR (vLoad (some 1) x f.eval s.heap) s := by rw [act_load, agg_110]; rfl
@[simp] theorem o_store_110 {a x : Operand} : actO TT self (.store 110 a x) f s = eStore 1 a x self f.eval s := by rw [act_store, size_110]; rfl
@[simp] theorem o_alloc_110 : actO TT self (.alloc 110) f s = exNew s (.cells ((.agg #[(.map none)]) : Value).cells.toList none) ptrTo := by rw [act_alloc, zero_110]; rfl
theorem flag_110 : (TT.prog.keyTypeAt 20 110 && !TT.prog.eqGuardType TT.prog.depth 110) = (TT.prog.keyTypeAt 20 110 && !TT.prog.eqGuardType TT.prog.depth 110) := rfl
@[simp] theorem o_bin_110 {op : BinOp} {x y : Operand} {u : TypeId} : actO TT self (.binOp op 110 x y u) f s = pureR (binV TT (Go.TypeDesc.struct #[{ name := "above", type := 108, offset := 0, embedded := Bool.false, tag := "", pkgPath := "zafra/bulk", byteOffset := 0 }]) 110 (TT.prog.keyTypeAt 20 110 && !TT.prog.eqGuardType TT.prog.depth 110) op x y f.eval s.heap) s := by rw [act_bin, und_110]; rfl
@[simp] theorem o_fieldAddr_110_0 {x : Operand} : actO TT self (.fieldAddr 110 x 0) f s = pureR (vFieldAddr 0 x f.eval s.heap) s := act_fieldAddr 110 x 0 und_110 rfl size_108 rfl
@[simp] theorem o_field_110_0 {x : Operand} : actO TT self (.field 110 x 0) f s = pureR (vField 0 none x f.eval s.heap) s := act_field 110 x 0 und_110 rfl agg_108
@[simp] theorem o_build_110 {pl0 : Array (Nat × Operand)} : actO TT self (.build 110 pl0) f s = ob (placesS [(0, 1)] pl0.toList) fun l => pureR (aggV (fillL f.eval l ((.agg #[(.map none)]) : Value).cells.toList)) s := act_buildS 110 pl0 zero_110 und_110 (by kernel_rfl)
@[simp] theorem o_load_111 {x : Operand} : actO TT self (.load 111 x) f s = pureR (vLoad none x f.eval s.heap) s := by rw [act_load, agg_111]; rfl
@[simp] theorem o_store_111 {a x : Operand} : actO TT self (.store 111 a x) f s = eStore 1 a x self f.eval s := by rw [act_store, size_111]; rfl
@[simp] theorem o_alloc_111 : actO TT self (.alloc 111) f s = exNew s (.cells (.nilFunc : Value).cells.toList none) ptrTo := by rw [act_alloc, zero_111]; rfl
@[simp] theorem o_bin_111 {op : BinOp} {x y : Operand} {u : TypeId} : actO TT self (.binOp op 111 x y u) f s = pureR (binV TT (Go.TypeDesc.func #[24, 3] #[110] Bool.false) 111 (TT.prog.keyTypeAt 20 111 && !TT.prog.eqGuardType TT.prog.depth 111) op x y f.eval s.heap) s := by rw [act_bin, und_111]; rfl
@[simp] theorem o_load_112 {x : Operand} : actO TT self (.load 112 x) f s = pureR (vLoad none x f.eval s.heap) s := by rw [act_load, agg_112]; rfl
@[simp] theorem o_store_112 {a x : Operand} : actO TT self (.store 112 a x) f s = eStore 1 a x self f.eval s := by rw [act_store, size_112]; rfl
@[simp] theorem o_alloc_112 : actO TT self (.alloc 112) f s = exNew s (.cells (.nilFunc : Value).cells.toList none) ptrTo := by rw [act_alloc, zero_112]; rfl
@[simp] theorem o_bin_112 {op : BinOp} {x y : Operand} {u : TypeId} : actO TT self (.binOp op 112 x y u) f s = pureR (binV TT (Go.TypeDesc.func #[3, 3] #[4] Bool.false) 112 (TT.prog.keyTypeAt 20 112 && !TT.prog.eqGuardType TT.prog.depth 112) op x y f.eval s.heap) s := by rw [act_bin, und_112]; rfl
@[simp] theorem o_load_113 {x : Operand} : actO TT self (.load 113 x) f s = pureR (vLoad none x f.eval s.heap) s := by rw [act_load, agg_113]; rfl
@[simp] theorem o_store_113 {a x : Operand} : actO TT self (.store 113 a x) f s = eStore 1 a x self f.eval s := by rw [act_store, size_113]; rfl
@[simp] theorem o_load_114 {x : Operand} : actO TT self (.load 114 x) f s = pureR (vLoad none x f.eval s.heap) s := by rw [act_load, agg_114]; rfl
@[simp] theorem o_store_114 {a x : Operand} : actO TT self (.store 114 a x) f s = eStore 1 a x self f.eval s := by rw [act_store, size_114]; rfl
@[simp] theorem o_alloc_114 : actO TT self (.alloc 114) f s = exNew s (.cells (.nilFunc : Value).cells.toList none) ptrTo := by rw [act_alloc, zero_114]; rfl
@[simp] theorem o_bin_114 {op : BinOp} {x y : Operand} {u : TypeId} : actO TT self (.binOp op 114 x y u) f s = pureR (binV TT (Go.TypeDesc.func #[33] #[25, 3] Bool.false) 114 (TT.prog.keyTypeAt 20 114 && !TT.prog.eqGuardType TT.prog.depth 114) op x y f.eval s.heap) s := by rw [act_bin, und_114]; rfl
@[simp] theorem o_load_115 {x : Operand} : actO TT self (.load 115 x) f s = pureR (vLoad none x f.eval s.heap) s := by rw [act_load, agg_115]; rfl
@[simp] theorem o_store_115 {a x : Operand} : actO TT self (.store 115 a x) f s = eStore 1 a x self f.eval s := by rw [act_store, size_115]; rfl
@[simp] theorem o_alloc_115 : actO TT self (.alloc 115) f s = exNew s (.cells (.nilFunc : Value).cells.toList none) ptrTo := by rw [act_alloc, zero_115]; rfl
@[simp] theorem o_bin_115 {op : BinOp} {x y : Operand} {u : TypeId} : actO TT self (.binOp op 115 x y u) f s = pureR (binV TT (Go.TypeDesc.func #[25, 3] #[99] Bool.false) 115 (TT.prog.keyTypeAt 20 115 && !TT.prog.eqGuardType TT.prog.depth 115) op x y f.eval s.heap) s := by rw [act_bin, und_115]; rfl
@[simp] theorem o_load_116 {x : Operand} : actO TT self (.load 116 x) f s = pureR (vLoad none x f.eval s.heap) s := by rw [act_load, agg_116]; rfl
@[simp] theorem o_store_116 {a x : Operand} : actO TT self (.store 116 a x) f s = eStore 1 a x self f.eval s := by rw [act_store, size_116]; rfl
@[simp] theorem o_alloc_116 : actO TT self (.alloc 116) f s = exNew s (.cells (.nilFunc : Value).cells.toList none) ptrTo := by rw [act_alloc, zero_116]; rfl
@[simp] theorem o_bin_116 {op : BinOp} {x y : Operand} {u : TypeId} : actO TT self (.binOp op 116 x y u) f s = pureR (binV TT (Go.TypeDesc.func #[39, 3, 39] #[39] Bool.false) 116 (TT.prog.keyTypeAt 20 116 && !TT.prog.eqGuardType TT.prog.depth 116) op x y f.eval s.heap) s := by rw [act_bin, und_116]; rfl
@[simp] theorem o_load_117 {x : Operand} : actO TT self (.load 117 x) f s = pureR (vLoad none x f.eval s.heap) s := by rw [act_load, agg_117]; rfl
@[simp] theorem o_store_117 {a x : Operand} : actO TT self (.store 117 a x) f s = eStore 1 a x self f.eval s := by rw [act_store, size_117]; rfl
@[simp] theorem o_alloc_117 : actO TT self (.alloc 117) f s = exNew s (.cells (.nilFunc : Value).cells.toList none) ptrTo := by rw [act_alloc, zero_117]; rfl
@[simp] theorem o_bin_117 {op : BinOp} {x y : Operand} {u : TypeId} : actO TT self (.binOp op 117 x y u) f s = pureR (binV TT (Go.TypeDesc.func #[22] #[22] Bool.false) 117 (TT.prog.keyTypeAt 20 117 && !TT.prog.eqGuardType TT.prog.depth 117) op x y f.eval s.heap) s := by rw [act_bin, und_117]; rfl
@[simp] theorem o_load_118 {x : Operand} : actO TT self (.load 118 x) f s = pureR (vLoad none x f.eval s.heap) s := by rw [act_load, agg_118]; rfl
@[simp] theorem o_store_118 {a x : Operand} : actO TT self (.store 118 a x) f s = eStore 1 a x self f.eval s := by rw [act_store, size_118]; rfl
@[simp] theorem o_alloc_118 : actO TT self (.alloc 118) f s = exNew s (.cells (.nilFunc : Value).cells.toList none) ptrTo := by rw [act_alloc, zero_118]; rfl
@[simp] theorem o_bin_118 {op : BinOp} {x y : Operand} {u : TypeId} : actO TT self (.binOp op 118 x y u) f s = pureR (binV TT (Go.TypeDesc.func #[33, 3] #[33] Bool.false) 118 (TT.prog.keyTypeAt 20 118 && !TT.prog.eqGuardType TT.prog.depth 118) op x y f.eval s.heap) s := by rw [act_bin, und_118]; rfl
@[simp] theorem o_load_119 {x : Operand} : actO TT self (.load 119 x) f s = pureR (vLoad none x f.eval s.heap) s := by rw [act_load, agg_119]; rfl
@[simp] theorem o_store_119 {a x : Operand} : actO TT self (.store 119 a x) f s = eStore 1 a x self f.eval s := by rw [act_store, size_119]; rfl
@[simp] theorem o_alloc_119 : actO TT self (.alloc 119) f s = exNew s (.cells (.nilFunc : Value).cells.toList none) ptrTo := by rw [act_alloc, zero_119]; rfl
@[simp] theorem o_bin_119 {op : BinOp} {x y : Operand} {u : TypeId} : actO TT self (.binOp op 119 x y u) f s = pureR (binV TT (Go.TypeDesc.func #[24, 25] #[4] Bool.false) 119 (TT.prog.keyTypeAt 20 119 && !TT.prog.eqGuardType TT.prog.depth 119) op x y f.eval s.heap) s := by rw [act_bin, und_119]; rfl
@[simp] theorem o_load_120 {x : Operand} : actO TT self (.load 120 x) f s = pureR (vLoad (some 16) x f.eval s.heap) s := by rw [act_load, agg_120]; rfl
@[simp] theorem o_store_120 {a x : Operand} : actO TT self (.store 120 a x) f s = eStore 16 a x self f.eval s := by rw [act_store, size_120]; rfl
@[simp] theorem o_alloc_120 : actO TT self (.alloc 120) f s = exNew s (.cells ((.agg #[(.int .i64 0), (.int .i64 0), (.int .i64 0), (.int .i64 0), (.int .i64 0), (.int .i64 0), (.int .i64 0), (.int .i64 0), (.int .i64 0), (.int .i64 0), (.int .i64 0), (.int .i64 0), (.int .i64 0), (.int .i64 0), (.int .i64 0), (.int .i64 0)]) : Value).cells.toList none) ptrTo := by rw [act_alloc, zero_120]; rfl
theorem flag_120 : (TT.prog.keyTypeAt 20 120 && !TT.prog.eqGuardType TT.prog.depth 120) = (TT.prog.keyTypeAt 20 120 && !TT.prog.eqGuardType TT.prog.depth 120) := rfl
@[simp] theorem o_bin_120 {op : BinOp} {x y : Operand} {u : TypeId} : actO TT self (.binOp op 120 x y u) f s = pureR (binV TT (Go.TypeDesc.array 4 36) 120 (TT.prog.keyTypeAt 20 120 && !TT.prog.eqGuardType TT.prog.depth 120) op x y f.eval s.heap) s := by rw [act_bin, und_120]; rfl
@[simp] theorem o_indexAddr_120 {x i : Operand} : actO TT self (.indexAddr 120 x i) f s = pureR (vIndexAddrA 4 4 x i f.eval s.heap) s := act_indexAddrA 120 x i und_120 size_36
@[simp] theorem o_index_120 {x i : Operand} : actO TT self (.index 120 x i) f s = pureR (vIndexA 4 4 (some 4) x i f.eval s.heap) s := act_indexA 120 x i und_120 size_36 agg_36
@[simp] theorem o_len_120 {x : Operand} : actO TT self (.call ⟨.builtin .len, #[x], #[120]⟩) f s = some (.int .i64 (.ofNat 4), s) := act_lenArr x und_120
@[simp] theorem o_build_120 {pl0 : Array (Nat × Operand)} : actO TT self (.build 120 pl0) f s = pureR (aggV (fillL f.eval (placesA 4 pl0.toList) ((.agg #[(.int .i64 0), (.int .i64 0), (.int .i64 0), (.int .i64 0), (.int .i64 0), (.int .i64 0), (.int .i64 0), (.int .i64 0), (.int .i64 0), (.int .i64 0), (.int .i64 0), (.int .i64 0), (.int .i64 0), (.int .i64 0), (.int .i64 0), (.int .i64 0)]) : Value).cells.toList)) s := act_buildA 120 pl0 zero_120 und_120 size_36
@[simp] theorem o_load_121 {x : Operand} : actO TT self (.load 121 x) f s = pureR (vLoad none x f.eval s.heap) s := by rw [act_load, agg_121]; rfl
@[simp] theorem o_store_121 {a x : Operand} : actO TT self (.store 121 a x) f s = eStore 1 a x self f.eval s := by rw [act_store, size_121]; rfl
@[simp] theorem o_alloc_121 : actO TT self (.alloc 121) f s = exNew s (.cells (.nilFunc : Value).cells.toList none) ptrTo := by rw [act_alloc, zero_121]; rfl
@[simp] theorem o_bin_121 {op : BinOp} {x y : Operand} {u : TypeId} : actO TT self (.binOp op 121 x y u) f s = pureR (binV TT (Go.TypeDesc.func #[3, 3] #[3] Bool.false) 121 (TT.prog.keyTypeAt 20 121 && !TT.prog.eqGuardType TT.prog.depth 121) op x y f.eval s.heap) s := by rw [act_bin, und_121]; rfl
@[simp] theorem o_load_122 {x : Operand} : actO TT self (.load 122 x) f s = pureR (vLoad (some 2) x f.eval s.heap) s := by rw [act_load, agg_122]; rfl
@[simp] theorem o_store_122 {a x : Operand} : actO TT self (.store 122 a x) f s = eStore 2 a x self f.eval s := by rw [act_store, size_122]; rfl
@[simp] theorem o_alloc_122 : actO TT self (.alloc 122) f s = exNew s (.cells ((.agg #[(.int .u8 0), (.int .u8 0)]) : Value).cells.toList none) ptrTo := by rw [act_alloc, zero_122]; rfl
theorem flag_122 : (TT.prog.keyTypeAt 20 122 && !TT.prog.eqGuardType TT.prog.depth 122) = (TT.prog.keyTypeAt 20 122 && !TT.prog.eqGuardType TT.prog.depth 122) := rfl
@[simp] theorem o_bin_122 {op : BinOp} {x y : Operand} {u : TypeId} : actO TT self (.binOp op 122 x y u) f s = pureR (binV TT (Go.TypeDesc.array 2 5) 122 (TT.prog.keyTypeAt 20 122 && !TT.prog.eqGuardType TT.prog.depth 122) op x y f.eval s.heap) s := by rw [act_bin, und_122]; rfl
@[simp] theorem o_indexAddr_122 {x i : Operand} : actO TT self (.indexAddr 122 x i) f s = pureR (vIndexAddrA 2 1 x i f.eval s.heap) s := act_indexAddrA 122 x i und_122 size_5
@[simp] theorem o_index_122 {x i : Operand} : actO TT self (.index 122 x i) f s = pureR (vIndexA 2 1 none x i f.eval s.heap) s := act_indexA 122 x i und_122 size_5 agg_5
@[simp] theorem o_len_122 {x : Operand} : actO TT self (.call ⟨.builtin .len, #[x], #[122]⟩) f s = some (.int .i64 (.ofNat 2), s) := act_lenArr x und_122
@[simp] theorem o_build_122 {pl0 : Array (Nat × Operand)} : actO TT self (.build 122 pl0) f s = pureR (aggV (fillL f.eval (placesA 1 pl0.toList) ((.agg #[(.int .u8 0), (.int .u8 0)]) : Value).cells.toList)) s := act_buildA 122 pl0 zero_122 und_122 size_5
@[simp] theorem o_load_123 {x : Operand} : actO TT self (.load 123 x) f s = pureR (vLoad none x f.eval s.heap) s := by rw [act_load, agg_123]; rfl
@[simp] theorem o_store_123 {a x : Operand} : actO TT self (.store 123 a x) f s = eStore 1 a x self f.eval s := by rw [act_store, size_123]; rfl
@[simp] theorem o_alloc_123 : actO TT self (.alloc 123) f s = exNew s (.cells (.nilFunc : Value).cells.toList none) ptrTo := by rw [act_alloc, zero_123]; rfl
@[simp] theorem o_bin_123 {op : BinOp} {x y : Operand} {u : TypeId} : actO TT self (.binOp op 123 x y u) f s = pureR (binV TT (Go.TypeDesc.func #[3, 25] #[4] Bool.false) 123 (TT.prog.keyTypeAt 20 123 && !TT.prog.eqGuardType TT.prog.depth 123) op x y f.eval s.heap) s := by rw [act_bin, und_123]; rfl
@[simp] theorem o_load_124 {x : Operand} : actO TT self (.load 124 x) f s = pureR (vLoad none x f.eval s.heap) s := by rw [act_load, agg_124]; rfl
@[simp] theorem o_store_124 {a x : Operand} : actO TT self (.store 124 a x) f s = eStore 1 a x self f.eval s := by rw [act_store, size_124]; rfl
@[simp] theorem o_alloc_124 : actO TT self (.alloc 124) f s = exNew s (.cells (.nilFunc : Value).cells.toList none) ptrTo := by rw [act_alloc, zero_124]; rfl
@[simp] theorem o_bin_124 {op : BinOp} {x y : Operand} {u : TypeId} : actO TT self (.binOp op 124 x y u) f s = pureR (binV TT (Go.TypeDesc.func #[25, 3] #[4] Bool.false) 124 (TT.prog.keyTypeAt 20 124 && !TT.prog.eqGuardType TT.prog.depth 124) op x y f.eval s.heap) s := by rw [act_bin, und_124]; rfl
@[simp] theorem o_load_125 {x : Operand} : actO TT self (.load 125 x) f s = pureR (vLoad none x f.eval s.heap) s := by rw [act_load, agg_125]; rfl
@[simp] theorem o_store_125 {a x : Operand} : actO TT self (.store 125 a x) f s = eStore 1 a x self f.eval s := by rw [act_store, size_125]; rfl
@[simp] theorem o_alloc_125 : actO TT self (.alloc 125) f s = exNew s (.cells (.nilFunc : Value).cells.toList none) ptrTo := by rw [act_alloc, zero_125]; rfl
@[simp] theorem o_bin_125 {op : BinOp} {x y : Operand} {u : TypeId} : actO TT self (.binOp op 125 x y u) f s = pureR (binV TT (Go.TypeDesc.func #[36] #[36] Bool.false) 125 (TT.prog.keyTypeAt 20 125 && !TT.prog.eqGuardType TT.prog.depth 125) op x y f.eval s.heap) s := by rw [act_bin, und_125]; rfl
@[simp] theorem o_load_126 {x : Operand} : actO TT self (.load 126 x) f s = pureR (vLoad none x f.eval s.heap) s := by rw [act_load, agg_126]; rfl
@[simp] theorem o_store_126 {a x : Operand} : actO TT self (.store 126 a x) f s = eStore 1 a x self f.eval s := by rw [act_store, size_126]; rfl
@[simp] theorem o_alloc_126 : actO TT self (.alloc 126) f s = exNew s (.cells (.nilFunc : Value).cells.toList none) ptrTo := by rw [act_alloc, zero_126]; rfl
@[simp] theorem o_bin_126 {op : BinOp} {x y : Operand} {u : TypeId} : actO TT self (.binOp op 126 x y u) f s = pureR (binV TT (Go.TypeDesc.func #[24] #[99] Bool.false) 126 (TT.prog.keyTypeAt 20 126 && !TT.prog.eqGuardType TT.prog.depth 126) op x y f.eval s.heap) s := by rw [act_bin, und_126]; rfl
@[simp] theorem o_load_127 {x : Operand} : actO TT self (.load 127 x) f s = pureR (vLoad (some 9) x f.eval s.heap) s := by rw [act_load, agg_127]; rfl
@[simp] theorem o_store_127 {a x : Operand} : actO TT self (.store 127 a x) f s = eStore 9 a x self f.eval s := by rw [act_store, size_127]; rfl
@[simp] theorem o_alloc_127 : actO TT self (.alloc 127) f s = exNew s (.cells ((.agg #[(.bool false), (.bool false), (.bool false), (.bool false), (.bool false), (.bool false), (.bool false), (.bool false), (.bool false)]) : Value).cells.toList none) ptrTo := by rw [act_alloc, zero_127]; rfl
theorem flag_127 : (TT.prog.keyTypeAt 20 127 && !TT.prog.eqGuardType TT.prog.depth 127) = (TT.prog.keyTypeAt 20 127 && !TT.prog.eqGuardType TT.prog.depth 127) := rfl
@[simp] theorem o_bin_127 {op : BinOp} {x y : Operand} {u : TypeId} : actO TT self (.binOp op 127 x y u) f s = pureR (binV TT (Go.TypeDesc.array 9 4) 127 (TT.prog.keyTypeAt 20 127 && !TT.prog.eqGuardType TT.prog.depth 127) op x y f.eval s.heap) s := by rw [act_bin, und_127]; rfl
@[simp] theorem o_indexAddr_127 {x i : Operand} : actO TT self (.indexAddr 127 x i) f s = pureR (vIndexAddrA 9 1 x i f.eval s.heap) s := act_indexAddrA 127 x i und_127 size_4
@[simp] theorem o_index_127 {x i : Operand} : actO TT self (.index 127 x i) f s = pureR (vIndexA 9 1 none x i f.eval s.heap) s := act_indexA 127 x i und_127 size_4 agg_4
@[simp] theorem o_len_127 {x : Operand} : actO TT self (.call ⟨.builtin .len, #[x], #[127]⟩) f s = some (.int .i64 (.ofNat 9), s) := act_lenArr x und_127
@[simp] theorem o_build_127 {pl0 : Array (Nat × Operand)} : actO TT self (.build 127 pl0) f s = pureR (aggV (fillL f.eval (placesA 1 pl0.toList) ((.agg #[(.bool false), (.bool false), (.bool false), (.bool false), (.bool false), (.bool false), (.bool false), (.bool false), (.bool false)]) : Value).cells.toList)) s := act_buildA 127 pl0 zero_127 und_127 size_4
@[simp] theorem o_load_128 {x : Operand} : actO TT self (.load 128 x) f s = pureR (vLoad none x f.eval s.heap) s := by rw [act_load, agg_128]; rfl
@[simp] theorem o_store_128 {a x : Operand} : actO TT self (.store 128 a x) f s = eStore 1 a x self f.eval s := by rw [act_store, size_128]; rfl
@[simp] theorem o_alloc_128 : actO TT self (.alloc 128) f s = exNew s (.cells (.nilFunc : Value).cells.toList none) ptrTo := by rw [act_alloc, zero_128]; rfl
@[simp] theorem o_bin_128 {op : BinOp} {x y : Operand} {u : TypeId} : actO TT self (.binOp op 128 x y u) f s = pureR (binV TT (Go.TypeDesc.func #[3, 3] #[36] Bool.false) 128 (TT.prog.keyTypeAt 20 128 && !TT.prog.eqGuardType TT.prog.depth 128) op x y f.eval s.heap) s := by rw [act_bin, und_128]; rfl
@[simp] theorem o_load_129 {x : Operand} : actO TT self (.load 129 x) f s = pureR (vLoad none x f.eval s.heap) s := by rw [act_load, agg_129]; rfl
@[simp] theorem o_store_129 {a x : Operand} : actO TT self (.store 129 a x) f s = eStore 1 a x self f.eval s := by rw [act_store, size_129]; rfl
@[simp] theorem o_alloc_129 : actO TT self (.alloc 129) f s = exNew s (.cells (.nilFunc : Value).cells.toList none) ptrTo := by rw [act_alloc, zero_129]; rfl
@[simp] theorem o_bin_129 {op : BinOp} {x y : Operand} {u : TypeId} : actO TT self (.binOp op 129 x y u) f s = pureR (binV TT (Go.TypeDesc.func #[22, 130] #[4] Bool.false) 129 (TT.prog.keyTypeAt 20 129 && !TT.prog.eqGuardType TT.prog.depth 129) op x y f.eval s.heap) s := by rw [act_bin, und_129]; rfl
@[simp] theorem o_load_130 {x : Operand} : actO TT self (.load 130 x) f s = pureR (vLoad none x f.eval s.heap) s := by rw [act_load, agg_130]; rfl
@[simp] theorem o_store_130 {a x : Operand} : actO TT self (.store 130 a x) f s = eStore 1 a x self f.eval s := by rw [act_store, size_130]; rfl
@[simp] theorem o_alloc_130 : actO TT self (.alloc 130) f s = exNew s (.cells (.nilFunc : Value).cells.toList none) ptrTo := by rw [act_alloc, zero_130]; rfl
@[simp] theorem o_bin_130 {op : BinOp} {x y : Operand} {u : TypeId} : actO TT self (.binOp op 130 x y u) f s = pureR (binV TT (Go.TypeDesc.func #[82] #[4] Bool.false) 130 (TT.prog.keyTypeAt 20 130 && !TT.prog.eqGuardType TT.prog.depth 130) op x y f.eval s.heap) s := by rw [act_bin, und_130]; rfl
@[simp] theorem o_load_131 {x : Operand} : actO TT self (.load 131 x) f s = pureR (vLoad none x f.eval s.heap) s := by rw [act_load, agg_131]; rfl
@[simp] theorem o_store_131 {a x : Operand} : actO TT self (.store 131 a x) f s = eStore 1 a x self f.eval s := by rw [act_store, size_131]; rfl
@[simp] theorem o_alloc_131 : actO TT self (.alloc 131) f s = exNew s (.cells (.nilFunc : Value).cells.toList none) ptrTo := by rw [act_alloc, zero_131]; rfl
@[simp] theorem o_bin_131 {op : BinOp} {x y : Operand} {u : TypeId} : actO TT self (.binOp op 131 x y u) f s = pureR (binV TT (Go.TypeDesc.func #[25, 3] #[3] Bool.false) 131 (TT.prog.keyTypeAt 20 131 && !TT.prog.eqGuardType TT.prog.depth 131) op x y f.eval s.heap) s := by rw [act_bin, und_131]; rfl
@[simp] theorem o_load_132 {x : Operand} : actO TT self (.load 132 x) f s = pureR (vLoad none x f.eval s.heap) s := by rw [act_load, agg_132]; rfl
@[simp] theorem o_store_132 {a x : Operand} : actO TT self (.store 132 a x) f s = eStore 1 a x self f.eval s := by rw [act_store, size_132]; rfl
@[simp] theorem o_load_133 {x : Operand} : actO TT self (.load 133 x) f s = pureR (vLoad none x f.eval s.heap) s := by rw [act_load, agg_133]; rfl
@[simp] theorem o_store_133 {a x : Operand} : actO TT self (.store 133 a x) f s = eStore 1 a x self f.eval s := by rw [act_store, size_133]; rfl
@[simp] theorem o_alloc_133 : actO TT self (.alloc 133) f s = exNew s (.cells (.nilFunc : Value).cells.toList none) ptrTo := by rw [act_alloc, zero_133]; rfl
@[simp] theorem o_bin_133 {op : BinOp} {x y : Operand} {u : TypeId} : actO TT self (.binOp op 133 x y u) f s = pureR (binV TT (Go.TypeDesc.func #[22, 130] #[3] Bool.false) 133 (TT.prog.keyTypeAt 20 133 && !TT.prog.eqGuardType TT.prog.depth 133) op x y f.eval s.heap) s := by rw [act_bin, und_133]; rfl
@[simp] theorem o_load_134 {x : Operand} : actO TT self (.load 134 x) f s = pureR (vLoad none x f.eval s.heap) s := by rw [act_load, agg_134]; rfl
@[simp] theorem o_store_134 {a x : Operand} : actO TT self (.store 134 a x) f s = eStore 1 a x self f.eval s := by rw [act_store, size_134]; rfl
@[simp] theorem o_alloc_134 : actO TT self (.alloc 134) f s = exNew s (.cells (.nilFunc : Value).cells.toList none) ptrTo := by rw [act_alloc, zero_134]; rfl
@[simp] theorem o_bin_134 {op : BinOp} {x y : Operand} {u : TypeId} : actO TT self (.binOp op 134 x y u) f s = pureR (binV TT (Go.TypeDesc.func #[] #[9] Bool.false) 134 (TT.prog.keyTypeAt 20 134 && !TT.prog.eqGuardType TT.prog.depth 134) op x y f.eval s.heap) s := by rw [act_bin, und_134]; rfl
@[simp] theorem o_load_135 {x : Operand} : actO TT self (.load 135 x) f s = pureR (vLoad (some 4) x f.eval s.heap) s := by rw [act_load, agg_135]; rfl
@[simp] theorem o_store_135 {a x : Operand} : actO TT self (.store 135 a x) f s = eStore 4 a x self f.eval s := by rw [act_store, size_135]; rfl
@[simp] theorem o_alloc_135 : actO TT self (.alloc 135) f s = exNew s (.cells ((.agg #[(.pointer none), (.pointer none), (.pointer none), (.string ⟨#[]⟩)]) : Value).cells.toList none) ptrTo := by rw [act_alloc, zero_135]; rfl
theorem flag_135 : (TT.prog.keyTypeAt 20 135 && !TT.prog.eqGuardType TT.prog.depth 135) = (TT.prog.keyTypeAt 20 135 && !TT.prog.eqGuardType TT.prog.depth 135) := rfl
@[simp] theorem o_bin_135 {op : BinOp} {x y : Operand} {u : TypeId} : actO TT self (.binOp op 135 x y u) f s = pureR (binV TT (Go.TypeDesc.struct #[{ name := "_interface", type := 17, offset := 0, embedded := Bool.false, tag := "", pkgPath := "runtime", byteOffset := 0 }, { name := "concrete", type := 17, offset := 1, embedded := Bool.false, tag := "", pkgPath := "runtime", byteOffset := 8 }, { name := "asserted", type := 17, offset := 2, embedded := Bool.false, tag := "", pkgPath := "runtime", byteOffset := 16 }, { name := "missingMethod", type := 9, offset := 3, embedded := Bool.false, tag := "", pkgPath := "runtime", byteOffset := 24 }]) 135 (TT.prog.keyTypeAt 20 135 && !TT.prog.eqGuardType TT.prog.depth 135) op x y f.eval s.heap) s := by rw [act_bin, und_135]; rfl
@[simp] theorem o_fieldAddr_135_0 {x : Operand} : actO TT self (.fieldAddr 135 x 0) f s = pureR (vFieldAddr 0 x f.eval s.heap) s := act_fieldAddr 135 x 0 und_135 rfl size_17 rfl
@[simp] theorem o_field_135_0 {x : Operand} : actO TT self (.field 135 x 0) f s = pureR (vField 0 none x f.eval s.heap) s := act_field 135 x 0 und_135 rfl agg_17
@[simp] theorem o_fieldAddr_135_1 {x : Operand} : actO TT self (.fieldAddr 135 x 1) f s = pureR (vFieldAddr 1 x f.eval s.heap) s := act_fieldAddr 135 x 1 und_135 rfl size_17 rfl
@[simp] theorem o_field_135_1 {x : Operand} : actO TT self (.field 135 x 1) f s = pureR (vField 1 none x f.eval s.heap) s := act_field 135 x 1 und_135 rfl agg_17
@[simp] theorem o_fieldAddr_135_2 {x : Operand} : actO TT self (.fieldAddr 135 x 2) f s = pureR (vFieldAddr 2 x f.eval s.heap) s := act_fieldAddr 135 x 2 und_135 rfl size_17 rfl
@[simp] theorem o_field_135_2 {x : Operand} : actO TT self (.field 135 x 2) f s = pureR (vField 2 none x f.eval s.heap) s := act_field 135 x 2 und_135 rfl agg_17
@[simp] theorem o_fieldAddr_135_3 {x : Operand} : actO TT self (.fieldAddr 135 x 3) f s = pureR (vFieldAddr 3 x f.eval s.heap) s := act_fieldAddr 135 x 3 und_135 rfl size_9 rfl
@[simp] theorem o_field_135_3 {x : Operand} : actO TT self (.field 135 x 3) f s = pureR (vField 3 none x f.eval s.heap) s := act_field 135 x 3 und_135 rfl agg_9
@[simp] theorem o_build_135 {pl0 : Array (Nat × Operand)} : actO TT self (.build 135 pl0) f s = ob (placesS [(0, 1), (1, 1), (2, 1), (3, 1)] pl0.toList) fun l => pureR (aggV (fillL f.eval l ((.agg #[(.pointer none), (.pointer none), (.pointer none), (.string ⟨#[]⟩)]) : Value).cells.toList)) s := act_buildS 135 pl0 zero_135 und_135 (by kernel_rfl)
@[simp] theorem o_load_136 {x : Operand} : actO TT self (.load 136 x) f s = pureR (vLoad (some 4) x f.eval s.heap) s := by rw [act_load, agg_136]; rfl
@[simp] theorem o_store_136 {a x : Operand} : actO TT self (.store 136 a x) f s = eStore 4 a x self f.eval s := by rw [act_store, size_136]; rfl
@[simp] theorem o_alloc_136 : actO TT self (.alloc 136) f s = exNew s (.cells ((.agg #[(.pointer none), (.pointer none), (.pointer none), (.string ⟨#[]⟩)]) : Value).cells.toList none) ptrTo := by rw [act_alloc, zero_136]; rfl
theorem flag_136 : (TT.prog.keyTypeAt 20 136 && !TT.prog.eqGuardType TT.prog.depth 136) = (TT.prog.keyTypeAt 20 136 && !TT.prog.eqGuardType TT.prog.depth 136) := rfl
@[simp] theorem o_bin_136 {op : BinOp} {x y : Operand} {u : TypeId} : actO TT self (.binOp op 136 x y u) f s = pureR (binV TT (Go.TypeDesc.struct #[{ name := "_interface", type := 17, offset := 0, embedded := Bool.false, tag := "", pkgPath := "runtime", byteOffset := 0 }, { name := "concrete", type := 17, offset := 1, embedded := Bool.false, tag := "", pkgPath := "runtime", byteOffset := 8 }, { name := "asserted", type := 17, offset := 2, embedded := Bool.false, tag := "", pkgPath := "runtime", byteOffset := 16 }, { name := "missingMethod", type := 9, offset := 3, embedded := Bool.false, tag := "", pkgPath := "runtime", byteOffset := 24 }]) 136 (TT.prog.keyTypeAt 20 136 && !TT.prog.eqGuardType TT.prog.depth 136) op x y f.eval s.heap) s := by rw [act_bin, und_136]; rfl
@[simp] theorem o_fieldAddr_136_0 {x : Operand} : actO TT self (.fieldAddr 136 x 0) f s = pureR (vFieldAddr 0 x f.eval s.heap) s := act_fieldAddr 136 x 0 und_136 rfl size_17 rfl
@[simp] theorem o_field_136_0 {x : Operand} : actO TT self (.field 136 x 0) f s = pureR (vField 0 none x f.eval s.heap) s := act_field 136 x 0 und_136 rfl agg_17
@[simp] theorem o_fieldAddr_136_1 {x : Operand} : actO TT self (.fieldAddr 136 x 1) f s = pureR (vFieldAddr 1 x f.eval s.heap) s := act_fieldAddr 136 x 1 und_136 rfl size_17 rfl
@[simp] theorem o_field_136_1 {x : Operand} : actO TT self (.field 136 x 1) f s = pureR (vField 1 none x f.eval s.heap) s := act_field 136 x 1 und_136 rfl agg_17
@[simp] theorem o_fieldAddr_136_2 {x : Operand} : actO TT self (.fieldAddr 136 x 2) f s = pureR (vFieldAddr 2 x f.eval s.heap) s := act_fieldAddr 136 x 2 und_136 rfl size_17 rfl
@[simp] theorem o_field_136_2 {x : Operand} : actO TT self (.field 136 x 2) f s = pureR (vField 2 none x f.eval s.heap) s := act_field 136 x 2 und_136 rfl agg_17
@[simp] theorem o_fieldAddr_136_3 {x : Operand} : actO TT self (.fieldAddr 136 x 3) f s = pureR (vFieldAddr 3 x f.eval s.heap) s := act_fieldAddr 136 x 3 und_136 rfl size_9 rfl
@[simp] theorem o_field_136_3 {x : Operand} : actO TT self (.field 136 x 3) f s = pureR (vField 3 none x f.eval s.heap) s := act_field 136 x 3 und_136 rfl agg_9
@[simp] theorem o_build_136 {pl0 : Array (Nat × Operand)} : actO TT self (.build 136 pl0) f s = ob (placesS [(0, 1), (1, 1), (2, 1), (3, 1)] pl0.toList) fun l => pureR (aggV (fillL f.eval l ((.agg #[(.pointer none), (.pointer none), (.pointer none), (.string ⟨#[]⟩)]) : Value).cells.toList)) s := act_buildS 136 pl0 zero_136 und_136 (by kernel_rfl)
@[simp] theorem o_load_137 {x : Operand} : actO TT self (.load 137 x) f s = pureR (vLoad (some 0) x f.eval s.heap) s := by rw [act_load, agg_137]; rfl
@[simp] theorem o_store_137 {a x : Operand} : actO TT self (.store 137 a x) f s = eStore 0 a x self f.eval s := by rw [act_store, size_137]; rfl
@[simp] theorem o_alloc_137 : actO TT self (.alloc 137) f s = exNew s (.cells ((.agg #[]) : Value).cells.toList none) ptrTo := by rw [act_alloc, zero_137]; rfl
theorem flag_137 : (TT.prog.keyTypeAt 20 137 && !TT.prog.eqGuardType TT.prog.depth 137) = (TT.prog.keyTypeAt 20 137 && !TT.prog.eqGuardType TT.prog.depth 137) := rfl
@[simp] theorem o_bin_137 {op : BinOp} {x y : Operand} {u : TypeId} : actO TT self (.binOp op 137 x y u) f s = pureR (binV TT (Go.TypeDesc.array 0 16) 137 (TT.prog.keyTypeAt 20 137 && !TT.prog.eqGuardType TT.prog.depth 137) op x y f.eval s.heap) s := by rw [act_bin, und_137]; rfl
@[simp] theorem o_indexAddr_137 {x i : Operand} : actO TT self (.indexAddr 137 x i) f s = pureR (vIndexAddrA 0 1 x i f.eval s.heap) s := act_indexAddrA 137 x i und_137 size_16
@[simp] theorem o_index_137 {x i : Operand} : actO TT self (.index 137 x i) f s = pureR (vIndexA 0 1 none x i f.eval s.heap) s := act_indexA 137 x i und_137 size_16 agg_16
@[simp] theorem o_len_137 {x : Operand} : actO TT self (.call ⟨.builtin .len, #[x], #[137]⟩) f s = some (.int .i64 (.ofNat 0), s) := act_lenArr x und_137
@[simp] theorem o_build_137 {pl0 : Array (Nat × Operand)} : actO TT self (.build 137 pl0) f s = pureR (aggV (fillL f.eval (placesA 1 pl0.toList) ((.agg #[]) : Value).cells.toList)) s := act_buildA 137 pl0 zero_137 und_137 size_16
@[simp] theorem o_load_138 {x : Operand} : actO TT self (.load 138 x) f s = pureR (vLoad (some 0) x f.eval s.heap) s := by rw [act_load, agg_138]; rfl
@[simp] theorem o_store_138 {a x : Operand} : actO TT self (.store 138 a x) f s = eStore 0 a x self f.eval s := by rw [act_store, size_138]; rfl
@[simp] theorem o_alloc_138 : actO TT self (.alloc 138) f s = exNew s (.cells ((.agg #[]) : Value).cells.toList none) ptrTo := by rw [act_alloc, zero_138]; rfl
theorem flag_138 : (TT.prog.keyTypeAt 20 138 && !TT.prog.eqGuardType TT.prog.depth 138) = (TT.prog.keyTypeAt 20 138 && !TT.prog.eqGuardType TT.prog.depth 138) := rfl
@[simp] theorem o_bin_138 {op : BinOp} {x y : Operand} {u : TypeId} : actO TT self (.binOp op 138 x y u) f s = pureR (binV TT (Go.TypeDesc.struct #[{ name := "_", type := 137, offset := 0, embedded := Bool.false, tag := "", pkgPath := "runtime", byteOffset := 0 }]) 138 (TT.prog.keyTypeAt 20 138 && !TT.prog.eqGuardType TT.prog.depth 138) op x y f.eval s.heap) s := by rw [act_bin, und_138]; rfl
@[simp] theorem o_build_138 {pl0 : Array (Nat × Operand)} : actO TT self (.build 138 pl0) f s = ob (placesS [(0, 0)] pl0.toList) fun l => pureR (aggV (fillL f.eval l ((.agg #[]) : Value).cells.toList)) s := act_buildS 138 pl0 zero_138 und_138 (by kernel_rfl)
@[simp] theorem o_load_139 {x : Operand} : actO TT self (.load 139 x) f s = pureR (vLoad (some 0) x f.eval s.heap) s := by rw [act_load, agg_139]; rfl
@[simp] theorem o_store_139 {a x : Operand} : actO TT self (.store 139 a x) f s = eStore 0 a x self f.eval s := by rw [act_store, size_139]; rfl
@[simp] theorem o_alloc_139 : actO TT self (.alloc 139) f s = exNew s (.cells ((.agg #[]) : Value).cells.toList none) ptrTo := by rw [act_alloc, zero_139]; rfl
theorem flag_139 : (TT.prog.keyTypeAt 20 139 && !TT.prog.eqGuardType TT.prog.depth 139) = (TT.prog.keyTypeAt 20 139 && !TT.prog.eqGuardType TT.prog.depth 139) := rfl
@[simp] theorem o_bin_139 {op : BinOp} {x y : Operand} {u : TypeId} : actO TT self (.binOp op 139 x y u) f s = pureR (binV TT (Go.TypeDesc.struct #[{ name := "_", type := 137, offset := 0, embedded := Bool.false, tag := "", pkgPath := "runtime", byteOffset := 0 }]) 139 (TT.prog.keyTypeAt 20 139 && !TT.prog.eqGuardType TT.prog.depth 139) op x y f.eval s.heap) s := by rw [act_bin, und_139]; rfl
@[simp] theorem o_build_139 {pl0 : Array (Nat × Operand)} : actO TT self (.build 139 pl0) f s = ob (placesS [(0, 0)] pl0.toList) fun l => pureR (aggV (fillL f.eval l ((.agg #[]) : Value).cells.toList)) s := act_buildS 139 pl0 zero_139 und_139 (by kernel_rfl)
@[simp] theorem o_load_140 {x : Operand} : actO TT self (.load 140 x) f s = pureR (vLoad none x f.eval s.heap) s := by rw [act_load, agg_140]; rfl
@[simp] theorem o_store_140 {a x : Operand} : actO TT self (.store 140 a x) f s = eStore 1 a x self f.eval s := by rw [act_store, size_140]; rfl
@[simp] theorem o_alloc_140 : actO TT self (.alloc 140) f s = exNew s (.cells (.nilFunc : Value).cells.toList none) ptrTo := by rw [act_alloc, zero_140]; rfl
@[simp] theorem o_bin_140 {op : BinOp} {x y : Operand} {u : TypeId} : actO TT self (.binOp op 140 x y u) f s = pureR (binV TT (Go.TypeDesc.func #[] #[3] Bool.false) 140 (TT.prog.keyTypeAt 20 140 && !TT.prog.eqGuardType TT.prog.depth 140) op x y f.eval s.heap) s := by rw [act_bin, und_140]; rfl
@[simp] theorem o_load_141 {x : Operand} : actO TT self (.load 141 x) f s = pureR (vLoad none x f.eval s.heap) s := by rw [act_load, agg_141]; rfl
@[simp] theorem o_store_141 {a x : Operand} : actO TT self (.store 141 a x) f s = eStore 1 a x self f.eval s := by rw [act_store, size_141]; rfl
@[simp] theorem o_alloc_141 : actO TT self (.alloc 141) f s = exNew s (.cells ((.int .u32 0) : Value).cells.toList none) ptrTo := by rw [act_alloc, zero_141]; rfl
@[simp] theorem o_bin_141 {op : BinOp} {x y : Operand} {u : TypeId} : actO TT self (.binOp op 141 x y u) f s = pureR (binV TT (Go.TypeDesc.int Go.IntKind.u32) 141 (TT.prog.keyTypeAt 20 141 && !TT.prog.eqGuardType TT.prog.depth 141) op x y f.eval s.heap) s := by rw [act_bin, und_141]; rfl
@[simp] theorem o_convert_141 {a : TypeId} {x : Operand} (h : (TT.und a).isSome = true) : actO TT self (.convert a 141 x) f s = pureR (vConv .u32 x f.eval s.heap) s := act_convert a 141 x h und_141
@[simp] theorem o_load_142 {x : Operand} : actO TT self (.load 142 x) f s = pureR (vLoad none x f.eval s.heap) s := by rw [act_load, agg_142]; rfl
@[simp] theorem o_store_142 {a x : Operand} : actO TT self (.store 142 a x) f s = eStore 1 a x self f.eval s := by rw [act_store, size_142]; rfl
@[simp] theorem o_alloc_142 : actO TT self (.alloc 142) f s = exNew s (.cells ((.int .u8 0) : Value).cells.toList none) ptrTo := by rw [act_alloc, zero_142]; rfl
@[simp] theorem o_bin_142 {op : BinOp} {x y : Operand} {u : TypeId} : actO TT self (.binOp op 142 x y u) f s = pureR (binV TT (Go.TypeDesc.int Go.IntKind.u8) 142 (TT.prog.keyTypeAt 20 142 && !TT.prog.eqGuardType TT.prog.depth 142) op x y f.eval s.heap) s := by rw [act_bin, und_142]; rfl
@[simp] theorem o_convert_142 {a : TypeId} {x : Operand} (h : (TT.und a).isSome = true) : actO TT self (.convert a 142 x) f s = pureR (vConv .u8 x f.eval s.heap) s := act_convert a 142 x h und_142
@[simp] theorem o_load_143 {x : Operand} : actO TT self (.load 143 x) f s = pureR (vLoad none x f.eval s.heap) s := by rw [act_load, agg_143]; rfl
@[simp] theorem o_store_143 {a x : Operand} : actO TT self (.store 143 a x) f s = eStore 1 a x self f.eval s := by rw [act_store, size_143]; rfl
@[simp] theorem o_alloc_143 : actO TT self (.alloc 143) f s = exNew s (.cells ((.int .u8 0) : Value).cells.toList none) ptrTo := by rw [act_alloc, zero_143]; rfl
@[simp] theorem o_bin_143 {op : BinOp} {x y : Operand} {u : TypeId} : actO TT self (.binOp op 143 x y u) f s = pureR (binV TT (Go.TypeDesc.int Go.IntKind.u8) 143 (TT.prog.keyTypeAt 20 143 && !TT.prog.eqGuardType TT.prog.depth 143) op x y f.eval s.heap) s := by rw [act_bin, und_143]; rfl
@[simp] theorem o_convert_143 {a : TypeId} {x : Operand} (h : (TT.und a).isSome = true) : actO TT self (.convert a 143 x) f s = pureR (vConv .u8 x f.eval s.heap) s := act_convert a 143 x h und_143
@[simp] theorem o_load_144 {x : Operand} : actO TT self (.load 144 x) f s = pureR (vLoad none x f.eval s.heap) s := by rw [act_load, agg_144]; rfl
@[simp] theorem o_store_144 {a x : Operand} : actO TT self (.store 144 a x) f s = eStore 1 a x self f.eval s := by rw [act_store, size_144]; rfl
@[simp] theorem o_alloc_144 : actO TT self (.alloc 144) f s = exNew s (.cells (.nilFunc : Value).cells.toList none) ptrTo := by rw [act_alloc, zero_144]; rfl
@[simp] theorem o_bin_144 {op : BinOp} {x y : Operand} {u : TypeId} : actO TT self (.binOp op 144 x y u) f s = pureR (binV TT (Go.TypeDesc.func #[150, 150] #[4] Bool.false) 144 (TT.prog.keyTypeAt 20 144 && !TT.prog.eqGuardType TT.prog.depth 144) op x y f.eval s.heap) s := by rw [act_bin, und_144]; rfl
@[simp] theorem o_load_145 {x : Operand} : actO TT self (.load 145 x) f s = pureR (vLoad none x f.eval s.heap) s := by rw [act_load, agg_145]; rfl
@[simp] theorem o_store_145 {a x : Operand} : actO TT self (.store 145 a x) f s = eStore 1 a x self f.eval s := by rw [act_store, size_145]; rfl
@[simp] theorem o_alloc_145 : actO TT self (.alloc 145) f s = exNew s (.cells ((.pointer none) : Value).cells.toList none) ptrTo := by rw [act_alloc, zero_145]; rfl
@[simp] theorem o_bin_145 {op : BinOp} {x y : Operand} {u : TypeId} : actO TT self (.binOp op 145 x y u) f s = pureR (binV TT (Go.TypeDesc.pointer 5) 145 (TT.prog.keyTypeAt 20 145 && !TT.prog.eqGuardType TT.prog.depth 145) op x y f.eval s.heap) s := by rw [act_bin, und_145]; rfl
@[simp] theorem o_load_146 {x : Operand} : actO TT self (.load 146 x) f s = pureR (vLoad none x f.eval s.heap) s := by rw [act_load, agg_146]; rfl
@[simp] theorem o_store_146 {a x : Operand} : actO TT self (.store 146 a x) f s = eStore 1 a x self f.eval s := by rw [act_store, size_146]; rfl
@[simp] theorem o_alloc_146 : actO TT self (.alloc 146) f s = exNew s (.cells ((.int .i32 0) : Value).cells.toList none) ptrTo := by rw [act_alloc, zero_146]; rfl
@[simp] theorem o_bin_146 {op : BinOp} {x y : Operand} {u : TypeId} : actO TT self (.binOp op 146 x y u) f s = pureR (binV TT (Go.TypeDesc.int Go.IntKind.i32) 146 (TT.prog.keyTypeAt 20 146 && !TT.prog.eqGuardType TT.prog.depth 146) op x y f.eval s.heap) s := by rw [act_bin, und_146]; rfl
@[simp] theorem o_convert_146 {a : TypeId} {x : Operand} (h : (TT.und a).isSome = true) : actO TT self (.convert a 146 x) f s = pureR (vConv .i32 x f.eval s.heap) s := act_convert a 146 x h und_146
@[simp] theorem o_load_147 {x : Operand} : actO TT self (.load 147 x) f s = pureR (vLoad none x f.eval s.heap) s := by rw [act_load, agg_147]; rfl
@[simp] theorem o_store_147 {a x : Operand} : actO TT self (.store 147 a x) f s = eStore 1 a x self f.eval s := by rw [act_store, size_147]; rfl
@[simp] theorem o_alloc_147 : actO TT self (.alloc 147) f s = exNew s (.cells ((.int .i32 0) : Value).cells.toList none) ptrTo := by rw [act_alloc, zero_147]; rfl
@[simp] theorem o_bin_147 {op : BinOp} {x y : Operand} {u : TypeId} : actO TT self (.binOp op 147 x y u) f s = pureR (binV TT (Go.TypeDesc.int Go.IntKind.i32) 147 (TT.prog.keyTypeAt 20 147 && !TT.prog.eqGuardType TT.prog.depth 147) op x y f.eval s.heap) s := by rw [act_bin, und_147]; rfl
@[simp] theorem o_convert_147 {a : TypeId} {x : Operand} (h : (TT.und a).isSome = true) : actO TT self (.convert a 147 x) f s = pureR (vConv .i32 x f.eval s.heap) s := act_convert a 147 x h und_147
@[simp] theorem o_load_148 {x : Operand} : actO TT self (.load 148 x) f s = pureR (vLoad (some 11) x f.eval s.heap) s := by rw [act_load, agg_148]; rfl
@[simp] theorem o_store_148 {a x : Operand} : actO TT self (.store 148 a x) f s = eStore 11 a x self f.eval s := by rw [act_store, size_148]; rfl
@[simp] theorem o_alloc_148 : actO TT self (.alloc 148) f s = exNew s (.cells ((.agg #[(.int .u64 0), (.int .u64 0), (.int .u32 0), (.int .u8 0), (.int .u8 0), (.int .u8 0), (.int .u8 0), .nilFunc, (.pointer none), (.int .i32 0), (.int .i32 0)]) : Value).cells.toList none) ptrTo := by rw [act_alloc, zero_148]; rfl
theorem flag_148 : (TT.prog.keyTypeAt 20 148 && !TT.prog.eqGuardType TT.prog.depth 148) = (TT.prog.keyTypeAt 20 148 && !TT.prog.eqGuardType TT.prog.depth 148) := rfl
@[simp] theorem o_bin_148 {op : BinOp} {x y : Operand} {u : TypeId} : actO TT self (.binOp op 148 x y u) f s = pureR (binV TT (Go.TypeDesc.struct #[{ name := "Size_", type := 12, offset := 0, embedded := Bool.false, tag := "", pkgPath := "", byteOffset := 0 }, { name := "PtrBytes", type := 12, offset := 1, embedded := Bool.false, tag := "", pkgPath := "", byteOffset := 8 }, { name := "Hash", type := 141, offset := 2, embedded := Bool.false, tag := "", pkgPath := "", byteOffset := 16 }, { name := "TFlag", type := 142, offset := 3, embedded := Bool.false, tag := "", pkgPath := "", byteOffset := 20 }, { name := "Align_", type := 5, offset := 4, embedded := Bool.false, tag := "", pkgPath := "", byteOffset := 21 }, { name := "FieldAlign_", type := 5, offset := 5, embedded := Bool.false, tag := "", pkgPath := "", byteOffset := 22 }, { name := "Kind_", type := 143, offset := 6, embedded := Bool.false, tag := "", pkgPath := "", byteOffset := 23 }, { name := "Equal", type := 144, offset := 7, embedded := Bool.false, tag := "", pkgPath := "", byteOffset := 24 }, { name := "GCData", type := 145, offset := 8, embedded := Bool.false, tag := "", pkgPath := "", byteOffset := 32 }, { name := "Str", type := 146, offset := 9, embedded := Bool.false, tag := "", pkgPath := "", byteOffset := 40 }, { name := "PtrToThis", type := 147, offset := 10, embedded := Bool.false, tag := "", pkgPath := "", byteOffset := 44 }]) 148 (TT.prog.keyTypeAt 20 148 && !TT.prog.eqGuardType TT.prog.depth 148) op x y f.eval s.heap) s := by rw [act_bin, und_148]; rfl
@[simp] theorem o_fieldAddr_148_0 {x : Operand} : actO TT self (.fieldAddr 148 x 0) f s = pureR (vFieldAddr 0 x f.eval s.heap) s := act_fieldAddr 148 x 0 und_148 rfl size_12 rfl
@[simp] theorem o_field_148_0 {x : Operand} : actO TT self (.field 148 x 0) f s = pureR (vField 0 none x f.eval s.heap) s := act_field 148 x 0 und_148 rfl agg_12
@[simp] theorem o_fieldAddr_148_1 {x : Operand} : actO TT self (.fieldAddr 148 x 1) f s = pureR (vFieldAddr 1 x f.eval s.heap) s := act_fieldAddr 148 x 1 und_148 rfl size_12 rfl
@[simp] theorem o_field_148_1 {x : Operand} : actO TT self (.field 148 x 1) f s = pureR (vField 1 none x f.eval s.heap) s := act_field 148 x 1 und_148 rfl agg_12
@[simp] theorem o_fieldAddr_148_2 {x : Operand} : actO TT self (.fieldAddr 148 x 2) f s = pureR (vFieldAddr 2 x f.eval s.heap) s := act_fieldAddr 148 x 2 und_148 rfl size_141 rfl
@[simp] theorem o_field_148_2 {x : Operand} : actO TT self (.field 148 x 2) f s = pureR (vField 2 none x f.eval s.heap) s := act_field 148 x 2 und_148 rfl agg_141
@[simp] theorem o_fieldAddr_148_3 {x : Operand} : actO TT self (.fieldAddr 148 x 3) f s = pureR (vFieldAddr 3 x f.eval s.heap) s := act_fieldAddr 148 x 3 und_148 rfl size_142 rfl
@[simp] theorem o_field_148_3 {x : Operand} : actO TT self (.field 148 x 3) f s = pureR (vField 3 none x f.eval s.heap) s := act_field 148 x 3 und_148 rfl agg_142
@[simp] theorem o_fieldAddr_148_4 {x : Operand} : actO TT self (.fieldAddr 148 x 4) f s = pureR (vFieldAddr 4 x f.eval s.heap) s := act_fieldAddr 148 x 4 und_148 rfl size_5 rfl
@[simp] theorem o_field_148_4 {x : Operand} : actO TT self (.field 148 x 4) f s = pureR (vField 4 none x f.eval s.heap) s := act_field 148 x 4 und_148 rfl agg_5
@[simp] theorem o_fieldAddr_148_5 {x : Operand} : actO TT self (.fieldAddr 148 x 5) f s = pureR (vFieldAddr 5 x f.eval s.heap) s := act_fieldAddr 148 x 5 und_148 rfl size_5 rfl
@[simp] theorem o_field_148_5 {x : Operand} : actO TT self (.field 148 x 5) f s = pureR (vField 5 none x f.eval s.heap) s := act_field 148 x 5 und_148 rfl agg_5
@[simp] theorem o_fieldAddr_148_6 {x : Operand} : actO TT self (.fieldAddr 148 x 6) f s = pureR (vFieldAddr 6 x f.eval s.heap) s := act_fieldAddr 148 x 6 und_148 rfl size_143 rfl
@[simp] theorem o_field_148_6 {x : Operand} : actO TT self (.field 148 x 6) f s = pureR (vField 6 none x f.eval s.heap) s := act_field 148 x 6 und_148 rfl agg_143
@[simp] theorem o_fieldAddr_148_7 {x : Operand} : actO TT self (.fieldAddr 148 x 7) f s = pureR (vFieldAddr 7 x f.eval s.heap) s := act_fieldAddr 148 x 7 und_148 rfl size_144 rfl
@[simp] theorem o_field_148_7 {x : Operand} : actO TT self (.field 148 x 7) f s = pureR (vField 7 none x f.eval s.heap) s := act_field 148 x 7 und_148 rfl agg_144
@[simp] theorem o_fieldAddr_148_8 {x : Operand} : actO TT self (.fieldAddr 148 x 8) f s = pureR (vFieldAddr 8 x f.eval s.heap) s := act_fieldAddr 148 x 8 und_148 rfl size_145 rfl
@[simp] theorem o_field_148_8 {x : Operand} : actO TT self (.field 148 x 8) f s = pureR (vField 8 none x f.eval s.heap) s := act_field 148 x 8 und_148 rfl agg_145
@[simp] theorem o_fieldAddr_148_9 {x : Operand} : actO TT self (.fieldAddr 148 x 9) f s = pureR (vFieldAddr 9 x f.eval s.heap) s := act_fieldAddr 148 x 9 und_148 rfl size_146 rfl
@[simp] theorem o_field_148_9 {x : Operand} : actO TT self (.field 148 x 9) f s = pureR (vField 9 none x f.eval s.heap) s := act_field 148 x 9 und_148 rfl agg_146
@[simp] theorem o_fieldAddr_148_10 {x : Operand} : actO TT self (.fieldAddr 148 x 10) f s = pureR (vFieldAddr 10 x f.eval s.heap) s := act_fieldAddr 148 x 10 und_148 rfl size_147 rfl
@[simp] theorem o_field_148_10 {x : Operand} : actO TT self (.field 148 x 10) f s = pureR (vField 10 none x f.eval s.heap) s := act_field 148 x 10 und_148 rfl agg_147
@[simp] theorem o_build_148 {pl0 : Array (Nat × Operand)} : actO TT self (.build 148 pl0) f s = ob (placesS [(0, 1), (1, 1), (2, 1), (3, 1), (4, 1), (5, 1), (6, 1), (7, 1), (8, 1), (9, 1), (10, 1)] pl0.toList) fun l => pureR (aggV (fillL f.eval l ((.agg #[(.int .u64 0), (.int .u64 0), (.int .u32 0), (.int .u8 0), (.int .u8 0), (.int .u8 0), (.int .u8 0), .nilFunc, (.pointer none), (.int .i32 0), (.int .i32 0)]) : Value).cells.toList)) s := act_buildS 148 pl0 zero_148 und_148 (by kernel_rfl)
@[simp] theorem o_load_149 {x : Operand} : actO TT self (.load 149 x) f s = pureR (vLoad (some 11) x f.eval s.heap) s := by rw [act_load, agg_149]; rfl
@[simp] theorem o_store_149 {a x : Operand} : actO TT self (.store 149 a x) f s = eStore 11 a x self f.eval s := by rw [act_store, size_149]; rfl
@[simp] theorem o_alloc_149 : actO TT self (.alloc 149) f s = exNew s (.cells ((.agg #[(.int .u64 0), (.int .u64 0), (.int .u32 0), (.int .u8 0), (.int .u8 0), (.int .u8 0), (.int .u8 0), .nilFunc, (.pointer none), (.int .i32 0), (.int .i32 0)]) : Value).cells.toList none) ptrTo := by rw [act_alloc, zero_149]; rfl
theorem flag_149 : (TT.prog.keyTypeAt 20 149 && !TT.prog.eqGuardType TT.prog.depth 149) = (TT.prog.keyTypeAt 20 149 && !TT.prog.eqGuardType TT.prog.depth 149) := rfl
@[simp] theorem o_bin_149 {op : BinOp} {x y : Operand} {u : TypeId} : actO TT self (.binOp op 149 x y u) f s = pureR (binV TT (Go.TypeDesc.struct #[{ name := "Size_", type := 12, offset := 0, embedded := Bool.false, tag := "", pkgPath := "", byteOffset := 0 }, { name := "PtrBytes", type := 12, offset := 1, embedded := Bool.false, tag := "", pkgPath := "", byteOffset := 8 }, { name := "Hash", type := 141, offset := 2, embedded := Bool.false, tag := "", pkgPath := "", byteOffset := 16 }, { name := "TFlag", type := 142, offset := 3, embedded := Bool.false, tag := "", pkgPath := "", byteOffset := 20 }, { name := "Align_", type := 5, offset := 4, embedded := Bool.false, tag := "", pkgPath := "", byteOffset := 21 }, { name := "FieldAlign_", type := 5, offset := 5, embedded := Bool.false, tag := "", pkgPath := "", byteOffset := 22 }, { name := "Kind_", type := 143, offset := 6, embedded := Bool.false, tag := "", pkgPath := "", byteOffset := 23 }, { name := "Equal", type := 144, offset := 7, embedded := Bool.false, tag := "", pkgPath := "", byteOffset := 24 }, { name := "GCData", type := 145, offset := 8, embedded := Bool.false, tag := "", pkgPath := "", byteOffset := 32 }, { name := "Str", type := 146, offset := 9, embedded := Bool.false, tag := "", pkgPath := "", byteOffset := 40 }, { name := "PtrToThis", type := 147, offset := 10, embedded := Bool.false, tag := "", pkgPath := "", byteOffset := 44 }]) 149 (TT.prog.keyTypeAt 20 149 && !TT.prog.eqGuardType TT.prog.depth 149) op x y f.eval s.heap) s := by rw [act_bin, und_149]; rfl
@[simp] theorem o_fieldAddr_149_0 {x : Operand} : actO TT self (.fieldAddr 149 x 0) f s = pureR (vFieldAddr 0 x f.eval s.heap) s := act_fieldAddr 149 x 0 und_149 rfl size_12 rfl
@[simp] theorem o_field_149_0 {x : Operand} : actO TT self (.field 149 x 0) f s = pureR (vField 0 none x f.eval s.heap) s := act_field 149 x 0 und_149 rfl agg_12
@[simp] theorem o_fieldAddr_149_1 {x : Operand} : actO TT self (.fieldAddr 149 x 1) f s = pureR (vFieldAddr 1 x f.eval s.heap) s := act_fieldAddr 149 x 1 und_149 rfl size_12 rfl
@[simp] theorem o_field_149_1 {x : Operand} : actO TT self (.field 149 x 1) f s = pureR (vField 1 none x f.eval s.heap) s := act_field 149 x 1 und_149 rfl agg_12
@[simp] theorem o_fieldAddr_149_2 {x : Operand} : actO TT self (.fieldAddr 149 x 2) f s = pureR (vFieldAddr 2 x f.eval s.heap) s := act_fieldAddr 149 x 2 und_149 rfl size_141 rfl
@[simp] theorem o_field_149_2 {x : Operand} : actO TT self (.field 149 x 2) f s = pureR (vField 2 none x f.eval s.heap) s := act_field 149 x 2 und_149 rfl agg_141
@[simp] theorem o_fieldAddr_149_3 {x : Operand} : actO TT self (.fieldAddr 149 x 3) f s = pureR (vFieldAddr 3 x f.eval s.heap) s := act_fieldAddr 149 x 3 und_149 rfl size_142 rfl
@[simp] theorem o_field_149_3 {x : Operand} : actO TT self (.field 149 x 3) f s = pureR (vField 3 none x f.eval s.heap) s := act_field 149 x 3 und_149 rfl agg_142
@[simp] theorem o_fieldAddr_149_4 {x : Operand} : actO TT self (.fieldAddr 149 x 4) f s = pureR (vFieldAddr 4 x f.eval s.heap) s := act_fieldAddr 149 x 4 und_149 rfl size_5 rfl
@[simp] theorem o_field_149_4 {x : Operand} : actO TT self (.field 149 x 4) f s = pureR (vField 4 none x f.eval s.heap) s := act_field 149 x 4 und_149 rfl agg_5
@[simp] theorem o_fieldAddr_149_5 {x : Operand} : actO TT self (.fieldAddr 149 x 5) f s = pureR (vFieldAddr 5 x f.eval s.heap) s := act_fieldAddr 149 x 5 und_149 rfl size_5 rfl
@[simp] theorem o_field_149_5 {x : Operand} : actO TT self (.field 149 x 5) f s = pureR (vField 5 none x f.eval s.heap) s := act_field 149 x 5 und_149 rfl agg_5
@[simp] theorem o_fieldAddr_149_6 {x : Operand} : actO TT self (.fieldAddr 149 x 6) f s = pureR (vFieldAddr 6 x f.eval s.heap) s := act_fieldAddr 149 x 6 und_149 rfl size_143 rfl
@[simp] theorem o_field_149_6 {x : Operand} : actO TT self (.field 149 x 6) f s = pureR (vField 6 none x f.eval s.heap) s := act_field 149 x 6 und_149 rfl agg_143
@[simp] theorem o_fieldAddr_149_7 {x : Operand} : actO TT self (.fieldAddr 149 x 7) f s = pureR (vFieldAddr 7 x f.eval s.heap) s := act_fieldAddr 149 x 7 und_149 rfl size_144 rfl
@[simp] theorem o_field_149_7 {x : Operand} : actO TT self (.field 149 x 7) f s = pureR (vField 7 none x f.eval s.heap) s := act_field 149 x 7 und_149 rfl agg_144
@[simp] theorem o_fieldAddr_149_8 {x : Operand} : actO TT self (.fieldAddr 149 x 8) f s = pureR (vFieldAddr 8 x f.eval s.heap) s := act_fieldAddr 149 x 8 und_149 rfl size_145 rfl
@[simp] theorem o_field_149_8 {x : Operand} : actO TT self (.field 149 x 8) f s = pureR (vField 8 none x f.eval s.heap) s := act_field 149 x 8 und_149 rfl agg_145
@[simp] theorem o_fieldAddr_149_9 {x : Operand} : actO TT self (.fieldAddr 149 x 9) f s = pureR (vFieldAddr 9 x f.eval s.heap) s := act_fieldAddr 149 x 9 und_149 rfl size_146 rfl
@[simp] theorem o_field_149_9 {x : Operand} : actO TT self (.field 149 x 9) f s = pureR (vField 9 none x f.eval s.heap) s := act_field 149 x 9 und_149 rfl agg_146
@[simp] theorem o_fieldAddr_149_10 {x : Operand} : actO TT self (.fieldAddr 149 x 10) f s = pureR (vFieldAddr 10 x f.eval s.heap) s := act_fieldAddr 149 x 10 und_149 rfl size_147 rfl
@[simp] theorem o_field_149_10 {x : Operand} : actO TT self (.field 149 x 10) f s = pureR (vField 10 none x f.eval s.heap) s := act_field 149 x 10 und_149 rfl agg_147
@[simp] theorem o_build_149 {pl0 : Array (Nat × Operand)} : actO TT self (.build 149 pl0) f s = ob (placesS [(0, 1), (1, 1), (2, 1), (3, 1), (4, 1), (5, 1), (6, 1), (7, 1), (8, 1), (9, 1), (10, 1)] pl0.toList) fun l => pureR (aggV (fillL f.eval l ((.agg #[(.int .u64 0), (.int .u64 0), (.int .u32 0), (.int .u8 0), (.int .u8 0), (.int .u8 0), (.int .u8 0), .nilFunc, (.pointer none), (.int .i32 0), (.int .i32 0)]) : Value).cells.toList)) s := act_buildS 149 pl0 zero_149 und_149 (by kernel_rfl)
@[simp] theorem o_load_150 {x : Operand} : actO TT self (.load 150 x) f s = pureR (vLoad none x f.eval s.heap) s := by rw [act_load, agg_150]; rfl
@[simp] theorem o_store_150 {a x : Operand} : actO TT self (.store 150 a x) f s = eStore 1 a x self f.eval s := by rw [act_store, size_150]; rfl
@[simp] theorem o_alloc_150 : actO TT self (.alloc 150) f s = exNew s (.cells ((.pointer none) : Value).cells.toList none) ptrTo := by rw [act_alloc, zero_150]; rfl
end
end Go.Proofs.Ytpmilegookiifaa
