/-
  Facts on the types of this program, and what its single operations do at them. They hold as they stand: each is calculated from the program itself.
-/
import Derived.Test.YtifkpaomhnlahaaKernX
import Derived.Test.YtifkpaomhnlahaaProg
namespace Go.Proofs.Ytifkpaomhnlahaa
open Go Kern
noncomputable abbrev TT : Tab := tabOf Try.prog (some 13)
theorem fits : tabFits Try.prog = true := by kernel_rfl
theorem tabOk : TabOk Try.prog TT := tabOf_ok fits
theorem und_0 : TT.und 0 = some (Go.TypeDesc.tuple #[]) := by kernel_rfl
theorem size_0 : TT.size 0 = some 1 := by kernel_rfl
@[simp] theorem agg_0 : aggN TT 0 = some none := by kernel_rfl
theorem bytes_0 : TT.bytes 0 = some 0 := by kernel_rfl
theorem und_3 : TT.und 3 = some (Go.TypeDesc.int Go.IntKind.i64) := by kernel_rfl
theorem size_3 : TT.size 3 = some 1 := by kernel_rfl
@[simp] theorem agg_3 : aggN TT 3 = some none := by kernel_rfl
theorem bytes_3 : TT.bytes 3 = some 8 := by kernel_rfl
theorem zero_3 : TT.zero 3 = some (.int .i64 0) := by kernel_rfl
theorem und_4 : TT.und 4 = some Go.TypeDesc.bool := by kernel_rfl
theorem size_4 : TT.size 4 = some 1 := by kernel_rfl
@[simp] theorem agg_4 : aggN TT 4 = some none := by kernel_rfl
theorem bytes_4 : TT.bytes 4 = some 1 := by kernel_rfl
theorem zero_4 : TT.zero 4 = some (.bool false) := by kernel_rfl
theorem und_5 : TT.und 5 = some (Go.TypeDesc.int Go.IntKind.u8) := by kernel_rfl
theorem size_5 : TT.size 5 = some 1 := by kernel_rfl
@[simp] theorem agg_5 : aggN TT 5 = some none := by kernel_rfl
theorem bytes_5 : TT.bytes 5 = some 1 := by kernel_rfl
theorem zero_5 : TT.zero 5 = some (.int .u8 0) := by kernel_rfl
theorem und_9 : TT.und 9 = some Go.TypeDesc.string := by kernel_rfl
theorem size_9 : TT.size 9 = some 1 := by kernel_rfl
@[simp] theorem agg_9 : aggN TT 9 = some none := by kernel_rfl
theorem bytes_9 : TT.bytes 9 = some 16 := by kernel_rfl
theorem zero_9 : TT.zero 9 = some (.string ⟨#[]⟩) := by kernel_rfl
theorem und_22 : TT.und 22 = some (Go.TypeDesc.slice 82) := by kernel_rfl
theorem size_22 : TT.size 22 = some 1 := by kernel_rfl
@[simp] theorem agg_22 : aggN TT 22 = some none := by kernel_rfl
theorem bytes_22 : TT.bytes 22 = some 24 := by kernel_rfl
theorem zero_22 : TT.zero 22 = some (.slice none 0 0) := by kernel_rfl
theorem und_24 : TT.und 24 = some (Go.TypeDesc.struct #[{ name := "Units", type := 3, offset := 0, embedded := Bool.false, tag := "", pkgPath := "", byteOffset := 0 }, { name := "Flows", type := 22, offset := 1, embedded := Bool.false, tag := "", pkgPath := "", byteOffset := 8 }]) := by kernel_rfl
theorem size_24 : TT.size 24 = some 2 := by kernel_rfl
@[simp] theorem agg_24 : aggN TT 24 = some (some 2) := by kernel_rfl
theorem bytes_24 : TT.bytes 24 = some 32 := by kernel_rfl
theorem zero_24 : TT.zero 24 = some (.agg #[(.int .i64 0), (.slice none 0 0)]) := by kernel_rfl
theorem und_25 : TT.und 25 = some (Go.TypeDesc.slice 3) := by kernel_rfl
theorem size_25 : TT.size 25 = some 1 := by kernel_rfl
@[simp] theorem agg_25 : aggN TT 25 = some none := by kernel_rfl
theorem bytes_25 : TT.bytes 25 = some 24 := by kernel_rfl
theorem zero_25 : TT.zero 25 = some (.slice none 0 0) := by kernel_rfl
theorem und_27 : TT.und 27 = some (Go.TypeDesc.int Go.IntKind.i64) := by kernel_rfl
theorem size_27 : TT.size 27 = some 1 := by kernel_rfl
@[simp] theorem agg_27 : aggN TT 27 = some none := by kernel_rfl
theorem bytes_27 : TT.bytes 27 = some 8 := by kernel_rfl
theorem zero_27 : TT.zero 27 = some (.int .i64 0) := by kernel_rfl
theorem und_28 : TT.und 28 = some (Go.TypeDesc.tuple #[25, 27]) := by kernel_rfl
theorem size_28 : TT.size 28 = some 1 := by kernel_rfl
@[simp] theorem agg_28 : aggN TT 28 = some none := by kernel_rfl
theorem bytes_28 : TT.bytes 28 = some 0 := by kernel_rfl
theorem und_31 : TT.und 31 = some (Go.TypeDesc.slice 96) := by kernel_rfl
theorem size_31 : TT.size 31 = some 1 := by kernel_rfl
@[simp] theorem agg_31 : aggN TT 31 = some none := by kernel_rfl
theorem bytes_31 : TT.bytes 31 = some 24 := by kernel_rfl
theorem zero_31 : TT.zero 31 = some (.slice none 0 0) := by kernel_rfl
theorem und_33 : TT.und 33 = some (Go.TypeDesc.struct #[{ name := "Units", type := 3, offset := 0, embedded := Bool.false, tag := "", pkgPath := "", byteOffset := 0 }, { name := "Flows", type := 31, offset := 1, embedded := Bool.false, tag := "", pkgPath := "", byteOffset := 8 }]) := by kernel_rfl
theorem size_33 : TT.size 33 = some 2 := by kernel_rfl
@[simp] theorem agg_33 : aggN TT 33 = some (some 2) := by kernel_rfl
theorem bytes_33 : TT.bytes 33 = some 32 := by kernel_rfl
theorem zero_33 : TT.zero 33 = some (.agg #[(.int .i64 0), (.slice none 0 0)]) := by kernel_rfl
theorem und_36 : TT.und 36 = some (Go.TypeDesc.array 4 3) := by kernel_rfl
theorem size_36 : TT.size 36 = some 4 := by kernel_rfl
@[simp] theorem agg_36 : aggN TT 36 = some (some 4) := by kernel_rfl
theorem bytes_36 : TT.bytes 36 = some 32 := by kernel_rfl
theorem zero_36 : TT.zero 36 = some (.agg #[(.int .i64 0), (.int .i64 0), (.int .i64 0), (.int .i64 0)]) := by kernel_rfl
theorem und_37 : TT.und 37 = some (Go.TypeDesc.tuple #[36, 27]) := by kernel_rfl
theorem size_37 : TT.size 37 = some 1 := by kernel_rfl
@[simp] theorem agg_37 : aggN TT 37 = some none := by kernel_rfl
theorem bytes_37 : TT.bytes 37 = some 0 := by kernel_rfl
theorem und_39 : TT.und 39 = some (Go.TypeDesc.array 4 3) := by kernel_rfl
theorem size_39 : TT.size 39 = some 4 := by kernel_rfl
@[simp] theorem agg_39 : aggN TT 39 = some (some 4) := by kernel_rfl
theorem bytes_39 : TT.bytes 39 = some 32 := by kernel_rfl
theorem zero_39 : TT.zero 39 = some (.agg #[(.int .i64 0), (.int .i64 0), (.int .i64 0), (.int .i64 0)]) := by kernel_rfl
theorem und_40 : TT.und 40 = some (Go.TypeDesc.tuple #[39, 27]) := by kernel_rfl
theorem size_40 : TT.size 40 = some 1 := by kernel_rfl
@[simp] theorem agg_40 : aggN TT 40 = some none := by kernel_rfl
theorem bytes_40 : TT.bytes 40 = some 0 := by kernel_rfl
theorem und_47 : TT.und 47 = some (Go.TypeDesc.slice 54) := by kernel_rfl
theorem size_47 : TT.size 47 = some 1 := by kernel_rfl
@[simp] theorem agg_47 : aggN TT 47 = some none := by kernel_rfl
theorem bytes_47 : TT.bytes 47 = some 24 := by kernel_rfl
theorem zero_47 : TT.zero 47 = some (.slice none 0 0) := by kernel_rfl
theorem und_48 : TT.und 48 = some (Go.TypeDesc.tuple #[47, 27]) := by kernel_rfl
theorem size_48 : TT.size 48 = some 1 := by kernel_rfl
@[simp] theorem agg_48 : aggN TT 48 = some none := by kernel_rfl
theorem bytes_48 : TT.bytes 48 = some 0 := by kernel_rfl
theorem und_50 : TT.und 50 = some (Go.TypeDesc.slice 56) := by kernel_rfl
theorem size_50 : TT.size 50 = some 1 := by kernel_rfl
@[simp] theorem agg_50 : aggN TT 50 = some none := by kernel_rfl
theorem bytes_50 : TT.bytes 50 = some 24 := by kernel_rfl
theorem zero_50 : TT.zero 50 = some (.slice none 0 0) := by kernel_rfl
theorem und_51 : TT.und 51 = some (Go.TypeDesc.tuple #[50, 27]) := by kernel_rfl
theorem size_51 : TT.size 51 = some 1 := by kernel_rfl
@[simp] theorem agg_51 : aggN TT 51 = some none := by kernel_rfl
theorem bytes_51 : TT.bytes 51 = some 0 := by kernel_rfl
theorem und_54 : TT.und 54 = some (Go.TypeDesc.struct #[{ name := "State", type := 3, offset := 0, embedded := Bool.false, tag := "", pkgPath := "", byteOffset := 0 }, { name := "Mass", type := 36, offset := 1, embedded := Bool.false, tag := "", pkgPath := "", byteOffset := 8 }]) := by kernel_rfl
theorem size_54 : TT.size 54 = some 5 := by kernel_rfl
@[simp] theorem agg_54 : aggN TT 54 = some (some 5) := by kernel_rfl
theorem bytes_54 : TT.bytes 54 = some 40 := by kernel_rfl
theorem zero_54 : TT.zero 54 = some (.agg #[(.int .i64 0), (.int .i64 0), (.int .i64 0), (.int .i64 0), (.int .i64 0)]) := by kernel_rfl
theorem und_56 : TT.und 56 = some (Go.TypeDesc.struct #[{ name := "State", type := 3, offset := 0, embedded := Bool.false, tag := "", pkgPath := "", byteOffset := 0 }, { name := "Mass", type := 39, offset := 1, embedded := Bool.false, tag := "", pkgPath := "", byteOffset := 8 }]) := by kernel_rfl
theorem size_56 : TT.size 56 = some 5 := by kernel_rfl
@[simp] theorem agg_56 : aggN TT 56 = some (some 5) := by kernel_rfl
theorem bytes_56 : TT.bytes 56 = some 40 := by kernel_rfl
theorem zero_56 : TT.zero 56 = some (.agg #[(.int .i64 0), (.int .i64 0), (.int .i64 0), (.int .i64 0), (.int .i64 0)]) := by kernel_rfl
theorem und_58 : TT.und 58 = some (Go.TypeDesc.slice 36) := by kernel_rfl
theorem size_58 : TT.size 58 = some 1 := by kernel_rfl
@[simp] theorem agg_58 : aggN TT 58 = some none := by kernel_rfl
theorem bytes_58 : TT.bytes 58 = some 24 := by kernel_rfl
theorem zero_58 : TT.zero 58 = some (.slice none 0 0) := by kernel_rfl
theorem und_59 : TT.und 59 = some (Go.TypeDesc.tuple #[58, 27]) := by kernel_rfl
theorem size_59 : TT.size 59 = some 1 := by kernel_rfl
@[simp] theorem agg_59 : aggN TT 59 = some none := by kernel_rfl
theorem bytes_59 : TT.bytes 59 = some 0 := by kernel_rfl
theorem und_61 : TT.und 61 = some (Go.TypeDesc.slice 39) := by kernel_rfl
theorem size_61 : TT.size 61 = some 1 := by kernel_rfl
@[simp] theorem agg_61 : aggN TT 61 = some none := by kernel_rfl
theorem bytes_61 : TT.bytes 61 = some 24 := by kernel_rfl
theorem zero_61 : TT.zero 61 = some (.slice none 0 0) := by kernel_rfl
theorem und_62 : TT.und 62 = some (Go.TypeDesc.tuple #[61, 27]) := by kernel_rfl
theorem size_62 : TT.size 62 = some 1 := by kernel_rfl
@[simp] theorem agg_62 : aggN TT 62 = some none := by kernel_rfl
theorem bytes_62 : TT.bytes 62 = some 0 := by kernel_rfl
theorem und_64 : TT.und 64 = some (Go.TypeDesc.tuple #[3, 27]) := by kernel_rfl
theorem size_64 : TT.size 64 = some 1 := by kernel_rfl
@[simp] theorem agg_64 : aggN TT 64 = some none := by kernel_rfl
theorem bytes_64 : TT.bytes 64 = some 0 := by kernel_rfl
theorem und_68 : TT.und 68 = some (Go.TypeDesc.tuple #[25, 3, 27]) := by kernel_rfl
theorem size_68 : TT.size 68 = some 1 := by kernel_rfl
@[simp] theorem agg_68 : aggN TT 68 = some none := by kernel_rfl
theorem bytes_68 : TT.bytes 68 = some 0 := by kernel_rfl
theorem und_74 : TT.und 74 = some (Go.TypeDesc.slice 122) := by kernel_rfl
theorem size_74 : TT.size 74 = some 1 := by kernel_rfl
@[simp] theorem agg_74 : aggN TT 74 = some none := by kernel_rfl
theorem bytes_74 : TT.bytes 74 = some 24 := by kernel_rfl
theorem zero_74 : TT.zero 74 = some (.slice none 0 0) := by kernel_rfl
theorem und_75 : TT.und 75 = some (Go.TypeDesc.slice 5) := by kernel_rfl
theorem size_75 : TT.size 75 = some 1 := by kernel_rfl
@[simp] theorem agg_75 : aggN TT 75 = some none := by kernel_rfl
theorem bytes_75 : TT.bytes 75 = some 24 := by kernel_rfl
theorem zero_75 : TT.zero 75 = some (.slice none 0 0) := by kernel_rfl
theorem und_76 : TT.und 76 = some (Go.TypeDesc.int Go.IntKind.u16) := by kernel_rfl
theorem size_76 : TT.size 76 = some 1 := by kernel_rfl
@[simp] theorem agg_76 : aggN TT 76 = some none := by kernel_rfl
theorem bytes_76 : TT.bytes 76 = some 2 := by kernel_rfl
theorem zero_76 : TT.zero 76 = some (.int .u16 0) := by kernel_rfl
theorem und_78 : TT.und 78 = some (Go.TypeDesc.struct #[{ name := "Units", type := 5, offset := 0, embedded := Bool.false, tag := "", pkgPath := "", byteOffset := 0 }, { name := "Ends", type := 74, offset := 1, embedded := Bool.false, tag := "", pkgPath := "", byteOffset := 8 }, { name := "Mass", type := 75, offset := 2, embedded := Bool.false, tag := "", pkgPath := "", byteOffset := 32 }, { name := "Known", type := 76, offset := 3, embedded := Bool.false, tag := "", pkgPath := "", byteOffset := 56 }]) := by kernel_rfl
theorem size_78 : TT.size 78 = some 4 := by kernel_rfl
@[simp] theorem agg_78 : aggN TT 78 = some (some 4) := by kernel_rfl
theorem bytes_78 : TT.bytes 78 = some 64 := by kernel_rfl
theorem zero_78 : TT.zero 78 = some (.agg #[(.int .u8 0), (.slice none 0 0), (.slice none 0 0), (.int .u16 0)]) := by kernel_rfl
theorem und_79 : TT.und 79 = some (Go.TypeDesc.tuple #[24, 58]) := by kernel_rfl
theorem size_79 : TT.size 79 = some 1 := by kernel_rfl
@[simp] theorem agg_79 : aggN TT 79 = some none := by kernel_rfl
theorem bytes_79 : TT.bytes 79 = some 0 := by kernel_rfl
theorem und_82 : TT.und 82 = some (Go.TypeDesc.struct #[{ name := "From", type := 3, offset := 0, embedded := Bool.false, tag := "", pkgPath := "", byteOffset := 0 }, { name := "To", type := 3, offset := 1, embedded := Bool.false, tag := "", pkgPath := "", byteOffset := 8 }, { name := "Measured", type := 4, offset := 2, embedded := Bool.false, tag := "", pkgPath := "", byteOffset := 16 }, { name := "Mass", type := 36, offset := 3, embedded := Bool.false, tag := "", pkgPath := "", byteOffset := 24 }]) := by kernel_rfl
theorem size_82 : TT.size 82 = some 7 := by kernel_rfl
@[simp] theorem agg_82 : aggN TT 82 = some (some 7) := by kernel_rfl
theorem bytes_82 : TT.bytes 82 = some 56 := by kernel_rfl
theorem zero_82 : TT.zero 82 = some (.agg #[(.int .i64 0), (.int .i64 0), (.bool false), (.int .i64 0), (.int .i64 0), (.int .i64 0), (.int .i64 0)]) := by kernel_rfl
theorem und_86 : TT.und 86 = some (Go.TypeDesc.array 4 5) := by kernel_rfl
theorem size_86 : TT.size 86 = some 4 := by kernel_rfl
@[simp] theorem agg_86 : aggN TT 86 = some (some 4) := by kernel_rfl
theorem bytes_86 : TT.bytes 86 = some 4 := by kernel_rfl
theorem zero_86 : TT.zero 86 = some (.agg #[(.int .u8 0), (.int .u8 0), (.int .u8 0), (.int .u8 0)]) := by kernel_rfl
theorem und_88 : TT.und 88 = some (Go.TypeDesc.func #[3] #[3] Bool.false) := by kernel_rfl
theorem size_88 : TT.size 88 = some 1 := by kernel_rfl
@[simp] theorem agg_88 : aggN TT 88 = some none := by kernel_rfl
theorem bytes_88 : TT.bytes 88 = some 8 := by kernel_rfl
theorem zero_88 : TT.zero 88 = some .nilFunc := by kernel_rfl
theorem und_91 : TT.und 91 = some (Go.TypeDesc.func #[123] #[] Bool.false) := by kernel_rfl
theorem size_91 : TT.size 91 = some 1 := by kernel_rfl
@[simp] theorem agg_91 : aggN TT 91 = some none := by kernel_rfl
theorem bytes_91 : TT.bytes 91 = some 8 := by kernel_rfl
theorem zero_91 : TT.zero 91 = some .nilFunc := by kernel_rfl
theorem und_92 : TT.und 92 = some (Go.TypeDesc.func #[123] #[] Bool.false) := by kernel_rfl
theorem size_92 : TT.size 92 = some 1 := by kernel_rfl
@[simp] theorem agg_92 : aggN TT 92 = some none := by kernel_rfl
theorem bytes_92 : TT.bytes 92 = some 8 := by kernel_rfl
theorem zero_92 : TT.zero 92 = some .nilFunc := by kernel_rfl
theorem und_96 : TT.und 96 = some (Go.TypeDesc.struct #[{ name := "From", type := 3, offset := 0, embedded := Bool.false, tag := "", pkgPath := "", byteOffset := 0 }, { name := "To", type := 3, offset := 1, embedded := Bool.false, tag := "", pkgPath := "", byteOffset := 8 }, { name := "Measured", type := 4, offset := 2, embedded := Bool.false, tag := "", pkgPath := "", byteOffset := 16 }, { name := "Mass", type := 39, offset := 3, embedded := Bool.false, tag := "", pkgPath := "", byteOffset := 24 }]) := by kernel_rfl
theorem size_96 : TT.size 96 = some 7 := by kernel_rfl
@[simp] theorem agg_96 : aggN TT 96 = some (some 7) := by kernel_rfl
theorem bytes_96 : TT.bytes 96 = some 56 := by kernel_rfl
theorem zero_96 : TT.zero 96 = some (.agg #[(.int .i64 0), (.int .i64 0), (.bool false), (.int .i64 0), (.int .i64 0), (.int .i64 0), (.int .i64 0)]) := by kernel_rfl
theorem und_99 : TT.und 99 = some (Go.TypeDesc.slice 4) := by kernel_rfl
theorem size_99 : TT.size 99 = some 1 := by kernel_rfl
@[simp] theorem agg_99 : aggN TT 99 = some none := by kernel_rfl
theorem bytes_99 : TT.bytes 99 = some 24 := by kernel_rfl
theorem zero_99 : TT.zero 99 = some (.slice none 0 0) := by kernel_rfl
theorem und_100 : TT.und 100 = some (Go.TypeDesc.tuple #[99, 27]) := by kernel_rfl
theorem size_100 : TT.size 100 = some 1 := by kernel_rfl
@[simp] theorem agg_100 : aggN TT 100 = some none := by kernel_rfl
theorem bytes_100 : TT.bytes 100 = some 0 := by kernel_rfl
theorem und_104 : TT.und 104 = some (Go.TypeDesc.func #[82] #[27] Bool.false) := by kernel_rfl
theorem size_104 : TT.size 104 = some 1 := by kernel_rfl
@[simp] theorem agg_104 : aggN TT 104 = some none := by kernel_rfl
theorem bytes_104 : TT.bytes 104 = some 8 := by kernel_rfl
theorem zero_104 : TT.zero 104 = some .nilFunc := by kernel_rfl
theorem und_108 : TT.und 108 = some (Go.TypeDesc.map 3 3) := by kernel_rfl
theorem size_108 : TT.size 108 = some 1 := by kernel_rfl
@[simp] theorem agg_108 : aggN TT 108 = some none := by kernel_rfl
theorem bytes_108 : TT.bytes 108 = some 8 := by kernel_rfl
theorem zero_108 : TT.zero 108 = some (.map none) := by kernel_rfl
theorem und_110 : TT.und 110 = some (Go.TypeDesc.struct #[{ name := "above", type := 108, offset := 0, embedded := Bool.false, tag := "", pkgPath := "zafra/bulk", byteOffset := 0 }]) := by kernel_rfl
theorem size_110 : TT.size 110 = some 1 := by kernel_rfl
@[simp] theorem agg_110 : aggN TT 110 = some (some 1) := by kernel_rfl
theorem bytes_110 : TT.bytes 110 = some 8 := by kernel_rfl
theorem zero_110 : TT.zero 110 = some (.agg #[(.map none)]) := by kernel_rfl
theorem und_113 : TT.und 113 = some (Go.TypeDesc.tuple #[25, 3]) := by kernel_rfl
theorem size_113 : TT.size 113 = some 1 := by kernel_rfl
@[simp] theorem agg_113 : aggN TT 113 = some none := by kernel_rfl
theorem bytes_113 : TT.bytes 113 = some 0 := by kernel_rfl
theorem und_120 : TT.und 120 = some (Go.TypeDesc.array 4 36) := by kernel_rfl
theorem size_120 : TT.size 120 = some 16 := by kernel_rfl
@[simp] theorem agg_120 : aggN TT 120 = some (some 16) := by kernel_rfl
theorem bytes_120 : TT.bytes 120 = some 128 := by kernel_rfl
theorem zero_120 : TT.zero 120 = some (.agg #[(.int .i64 0), (.int .i64 0), (.int .i64 0), (.int .i64 0), (.int .i64 0), (.int .i64 0), (.int .i64 0), (.int .i64 0), (.int .i64 0), (.int .i64 0), (.int .i64 0), (.int .i64 0), (.int .i64 0), (.int .i64 0), (.int .i64 0), (.int .i64 0)]) := by kernel_rfl
theorem und_121 : TT.und 121 = some (Go.TypeDesc.func #[3, 3] #[3] Bool.false) := by kernel_rfl
theorem size_121 : TT.size 121 = some 1 := by kernel_rfl
@[simp] theorem agg_121 : aggN TT 121 = some none := by kernel_rfl
theorem bytes_121 : TT.bytes 121 = some 8 := by kernel_rfl
theorem zero_121 : TT.zero 121 = some .nilFunc := by kernel_rfl
theorem und_122 : TT.und 122 = some (Go.TypeDesc.array 2 5) := by kernel_rfl
theorem size_122 : TT.size 122 = some 2 := by kernel_rfl
@[simp] theorem agg_122 : aggN TT 122 = some (some 2) := by kernel_rfl
theorem bytes_122 : TT.bytes 122 = some 2 := by kernel_rfl
theorem zero_122 : TT.zero 122 = some (.agg #[(.int .u8 0), (.int .u8 0)]) := by kernel_rfl
theorem und_123 : TT.und 123 = some (Go.TypeDesc.func #[3, 25] #[4] Bool.false) := by kernel_rfl
theorem size_123 : TT.size 123 = some 1 := by kernel_rfl
@[simp] theorem agg_123 : aggN TT 123 = some none := by kernel_rfl
theorem bytes_123 : TT.bytes 123 = some 8 := by kernel_rfl
theorem zero_123 : TT.zero 123 = some .nilFunc := by kernel_rfl
theorem und_127 : TT.und 127 = some (Go.TypeDesc.array 9 4) := by kernel_rfl
theorem size_127 : TT.size 127 = some 9 := by kernel_rfl
@[simp] theorem agg_127 : aggN TT 127 = some (some 9) := by kernel_rfl
theorem bytes_127 : TT.bytes 127 = some 9 := by kernel_rfl
theorem zero_127 : TT.zero 127 = some (.agg #[(.bool false), (.bool false), (.bool false), (.bool false), (.bool false), (.bool false), (.bool false), (.bool false), (.bool false)]) := by kernel_rfl
theorem und_128 : TT.und 128 = some (Go.TypeDesc.func #[3, 3] #[36] Bool.false) := by kernel_rfl
theorem size_128 : TT.size 128 = some 1 := by kernel_rfl
@[simp] theorem agg_128 : aggN TT 128 = some none := by kernel_rfl
theorem bytes_128 : TT.bytes 128 = some 8 := by kernel_rfl
theorem zero_128 : TT.zero 128 = some .nilFunc := by kernel_rfl
theorem und_130 : TT.und 130 = some (Go.TypeDesc.func #[82] #[4] Bool.false) := by kernel_rfl
theorem size_130 : TT.size 130 = some 1 := by kernel_rfl
@[simp] theorem agg_130 : aggN TT 130 = some none := by kernel_rfl
theorem bytes_130 : TT.bytes 130 = some 8 := by kernel_rfl
theorem zero_130 : TT.zero 130 = some .nilFunc := by kernel_rfl
theorem und_132 : TT.und 132 = some (Go.TypeDesc.tuple #[3, 4]) := by kernel_rfl
theorem size_132 : TT.size 132 = some 1 := by kernel_rfl
@[simp] theorem agg_132 : aggN TT 132 = some none := by kernel_rfl
theorem bytes_132 : TT.bytes 132 = some 0 := by kernel_rfl
section
variable {self : Self} {f : Fr} {s : St}
@[simp] theorem o_load_3 {x : Operand} : actO TT self (.load 3 x) f s = pureR (vLoad none x f.eval s.heap) s := by rw [act_load, agg_3]; rfl
@[simp] theorem o_store_3 {a x : Operand} : actO TT self (.store 3 a x) f s = eStore 1 a x self f.eval s := by rw [act_store, size_3]; rfl
@[simp] theorem o_alloc_3 : actO TT self (.alloc 3) f s = exNew s (.cells ((.int .i64 0) : Value).cells.toList none) ptrTo := by rw [act_alloc, zero_3]; rfl
@[simp] theorem o_bin_3 {op : BinOp} {x y : Operand} {u : TypeId} : actO TT self (.binOp op 3 x y u) f s = pureR (binV TT (Go.TypeDesc.int Go.IntKind.i64) 3 (TT.prog.keyTypeAt 20 3 && !TT.prog.eqGuardType TT.prog.depth 3) op x y f.eval s.heap) s := by rw [act_bin, und_3]; rfl
@[simp] theorem o_convert_3 {a : TypeId} {x : Operand} (h : (TT.und a).isSome = true) : actO TT self (.convert a 3 x) f s = pureR (vConv .i64 x f.eval s.heap) s := act_convert a 3 x h und_3
@[simp] theorem o_load_4 {x : Operand} : actO TT self (.load 4 x) f s = pureR (vLoad none x f.eval s.heap) s := by rw [act_load, agg_4]; rfl
@[simp] theorem o_store_4 {a x : Operand} : actO TT self (.store 4 a x) f s = eStore 1 a x self f.eval s := by rw [act_store, size_4]; rfl
@[simp] theorem o_bin_4 {op : BinOp} {x y : Operand} {u : TypeId} : actO TT self (.binOp op 4 x y u) f s = pureR (binV TT Go.TypeDesc.bool 4 (TT.prog.keyTypeAt 20 4 && !TT.prog.eqGuardType TT.prog.depth 4) op x y f.eval s.heap) s := by rw [act_bin, und_4]; rfl
@[simp] theorem o_load_5 {x : Operand} : actO TT self (.load 5 x) f s = pureR (vLoad none x f.eval s.heap) s := by rw [act_load, agg_5]; rfl
@[simp] theorem o_bin_5 {op : BinOp} {x y : Operand} {u : TypeId} : actO TT self (.binOp op 5 x y u) f s = pureR (binV TT (Go.TypeDesc.int Go.IntKind.u8) 5 (TT.prog.keyTypeAt 20 5 && !TT.prog.eqGuardType TT.prog.depth 5) op x y f.eval s.heap) s := by rw [act_bin, und_5]; rfl
@[simp] theorem o_index_9 {x i : Operand} : actO TT self (.index 9 x i) f s = pureR (vIndexStr x i f.eval s.heap) s := act_indexStr 9 x i und_9
@[simp] theorem o_len_9 {x : Operand} : actO TT self (.call ⟨.builtin .len, #[x], #[9]⟩) f s = pureR (vLenStr x f.eval s.heap) s := act_lenStr x und_9
@[simp] theorem o_load_22 {x : Operand} : actO TT self (.load 22 x) f s = pureR (vLoad none x f.eval s.heap) s := by rw [act_load, agg_22]; rfl
@[simp] theorem o_store_22 {a x : Operand} : actO TT self (.store 22 a x) f s = eStore 1 a x self f.eval s := by rw [act_store, size_22]; rfl
@[simp] theorem o_bin_22 {op : BinOp} {x y : Operand} {u : TypeId} : actO TT self (.binOp op 22 x y u) f s = pureR (binV TT (Go.TypeDesc.slice 82) 22 (TT.prog.keyTypeAt 20 22 && !TT.prog.eqGuardType TT.prog.depth 22) op x y f.eval s.heap) s := by rw [act_bin, und_22]; rfl
@[simp] theorem o_indexAddr_22 {x i : Operand} : actO TT self (.indexAddr 22 x i) f s = pureR (vIndexAddrS 7 x i f.eval s.heap) s := act_indexAddrS 22 x i und_22 size_82
@[simp] theorem o_len_22 {x : Operand} : actO TT self (.call ⟨.builtin .len, #[x], #[22]⟩) f s = pureR (vLenSl x f.eval s.heap) s := act_lenSl x und_22
@[simp] theorem o_append_22 {x y : Operand} : actO TT self (.call ⟨.builtin .append, #[x, y], #[22, 22]⟩) f s = eAppend 7 x y self f.eval s := act_append x y und_22 und_22 size_82 bytes_82 zero_82 rfl
@[simp] theorem o_buildSlice_22 {len : Nat} {pl0 : Array (Nat × Operand)} (h : len * 7 ≤ 16777216) : actO TT self (.buildSlice 22 len pl0) f s = ob (fillL f.eval (placesA 7 pl0.toList) (repeatL ((.agg #[(.int .i64 0), (.int .i64 0), (.bool false), (.int .i64 0), (.int .i64 0), (.int .i64 0), (.int .i64 0)]) : Value).cells.toList len)) fun c => exNew s (.cells c none) fun i => .slice (some ⟨i, 0, none⟩) len len := act_buildSlice 22 len pl0 und_22 size_82 zero_82 (by rw [show Nat.beq (lenL ((.agg #[(.int .i64 0), (.int .i64 0), (.bool false), (.int .i64 0), (.int .i64 0), (.int .i64 0), (.int .i64 0)]) : Value).cells.toList) 7 = true from rfl, Nat.ble_eq_true_of_le h]; rfl)
@[simp] theorem o_load_24 {x : Operand} : actO TT self (.load 24 x) f s = pureR (vLoad (some 2) x f.eval s.heap) s := by rw [act_load, agg_24]; rfl
@[simp] theorem o_store_24 {a x : Operand} : actO TT self (.store 24 a x) f s = eStore 2 a x self f.eval s := by rw [act_store, size_24]; rfl
@[simp] theorem o_alloc_24 : actO TT self (.alloc 24) f s = exNew s (.cells ((.agg #[(.int .i64 0), (.slice none 0 0)]) : Value).cells.toList none) ptrTo := by rw [act_alloc, zero_24]; rfl
theorem flag_24 : (TT.prog.keyTypeAt 20 24 && !TT.prog.eqGuardType TT.prog.depth 24) = (TT.prog.keyTypeAt 20 24 && !TT.prog.eqGuardType TT.prog.depth 24) := rfl
@[simp] theorem o_fieldAddr_24_0 {x : Operand} : actO TT self (.fieldAddr 24 x 0) f s = pureR (vFieldAddr 0 x f.eval s.heap) s := act_fieldAddr 24 x 0 und_24 rfl size_3 rfl
@[simp] theorem o_fieldAddr_24_1 {x : Operand} : actO TT self (.fieldAddr 24 x 1) f s = pureR (vFieldAddr 1 x f.eval s.heap) s := act_fieldAddr 24 x 1 und_24 rfl size_22 rfl
@[simp] theorem o_build_24 {pl0 : Array (Nat × Operand)} : actO TT self (.build 24 pl0) f s = ob (placesS [(0, 1), (1, 1)] pl0.toList) fun l => pureR (aggV (fillL f.eval l ((.agg #[(.int .i64 0), (.slice none 0 0)]) : Value).cells.toList)) s := act_buildS 24 pl0 zero_24 und_24 (by kernel_rfl)
@[simp] theorem o_load_25 {x : Operand} : actO TT self (.load 25 x) f s = pureR (vLoad none x f.eval s.heap) s := by rw [act_load, agg_25]; rfl
@[simp] theorem o_store_25 {a x : Operand} : actO TT self (.store 25 a x) f s = eStore 1 a x self f.eval s := by rw [act_store, size_25]; rfl
@[simp] theorem o_alloc_25 : actO TT self (.alloc 25) f s = exNew s (.cells ((.slice none 0 0) : Value).cells.toList none) ptrTo := by rw [act_alloc, zero_25]; rfl
@[simp] theorem o_indexAddr_25 {x i : Operand} : actO TT self (.indexAddr 25 x i) f s = pureR (vIndexAddrS 1 x i f.eval s.heap) s := act_indexAddrS 25 x i und_25 size_3
@[simp] theorem o_len_25 {x : Operand} : actO TT self (.call ⟨.builtin .len, #[x], #[25]⟩) f s = pureR (vLenSl x f.eval s.heap) s := act_lenSl x und_25
@[simp] theorem o_append_25 {x y : Operand} : actO TT self (.call ⟨.builtin .append, #[x, y], #[25, 25]⟩) f s = eAppend 1 x y self f.eval s := act_append x y und_25 und_25 size_3 bytes_3 zero_3 rfl
@[simp] theorem o_makeSlice_25 {l c : Operand} : actO TT self (.makeSlice 25 l c) f s = ob (eMakeSl ((.int .i64 0) : Value).cells.toList 1 l c f.eval) fun p => exNew s p.1 p.2 := act_makeSlice 25 l c und_25 size_3 bytes_3 zero_3 rfl
@[simp] theorem o_buildSlice_25 {len : Nat} {pl0 : Array (Nat × Operand)} (h : len * 1 ≤ 16777216) : actO TT self (.buildSlice 25 len pl0) f s = ob (fillL f.eval (placesA 1 pl0.toList) (repeatL ((.int .i64 0) : Value).cells.toList len)) fun c => exNew s (.cells c none) fun i => .slice (some ⟨i, 0, none⟩) len len := act_buildSlice 25 len pl0 und_25 size_3 zero_3 (by rw [show Nat.beq (lenL ((.int .i64 0) : Value).cells.toList) 1 = true from rfl, Nat.ble_eq_true_of_le h]; rfl)
@[simp] theorem o_load_27 {x : Operand} : actO TT self (.load 27 x) f s = pureR (vLoad none x f.eval s.heap) s := by rw [act_load, agg_27]; rfl
@[simp] theorem o_store_27 {a x : Operand} : actO TT self (.store 27 a x) f s = eStore 1 a x self f.eval s := by rw [act_store, size_27]; rfl
@[simp] theorem o_alloc_27 : actO TT self (.alloc 27) f s = exNew s (.cells ((.int .i64 0) : Value).cells.toList none) ptrTo := by rw [act_alloc, zero_27]; rfl
@[simp] theorem o_bin_27 {op : BinOp} {x y : Operand} {u : TypeId} : actO TT self (.binOp op 27 x y u) f s = pureR (binV TT (Go.TypeDesc.int Go.IntKind.i64) 27 (TT.prog.keyTypeAt 20 27 && !TT.prog.eqGuardType TT.prog.depth 27) op x y f.eval s.heap) s := by rw [act_bin, und_27]; rfl
@[simp] theorem o_load_31 {x : Operand} : actO TT self (.load 31 x) f s = pureR (vLoad none x f.eval s.heap) s := by rw [act_load, agg_31]; rfl
@[simp] theorem o_store_31 {a x : Operand} : actO TT self (.store 31 a x) f s = eStore 1 a x self f.eval s := by rw [act_store, size_31]; rfl
@[simp] theorem o_indexAddr_31 {x i : Operand} : actO TT self (.indexAddr 31 x i) f s = pureR (vIndexAddrS 7 x i f.eval s.heap) s := act_indexAddrS 31 x i und_31 size_96
@[simp] theorem o_len_31 {x : Operand} : actO TT self (.call ⟨.builtin .len, #[x], #[31]⟩) f s = pureR (vLenSl x f.eval s.heap) s := act_lenSl x und_31
@[simp] theorem o_append_31 {x y : Operand} : actO TT self (.call ⟨.builtin .append, #[x, y], #[31, 31]⟩) f s = eAppend 7 x y self f.eval s := act_append x y und_31 und_31 size_96 bytes_96 zero_96 rfl
@[simp] theorem o_buildSlice_31 {len : Nat} {pl0 : Array (Nat × Operand)} (h : len * 7 ≤ 16777216) : actO TT self (.buildSlice 31 len pl0) f s = ob (fillL f.eval (placesA 7 pl0.toList) (repeatL ((.agg #[(.int .i64 0), (.int .i64 0), (.bool false), (.int .i64 0), (.int .i64 0), (.int .i64 0), (.int .i64 0)]) : Value).cells.toList len)) fun c => exNew s (.cells c none) fun i => .slice (some ⟨i, 0, none⟩) len len := act_buildSlice 31 len pl0 und_31 size_96 zero_96 (by rw [show Nat.beq (lenL ((.agg #[(.int .i64 0), (.int .i64 0), (.bool false), (.int .i64 0), (.int .i64 0), (.int .i64 0), (.int .i64 0)]) : Value).cells.toList) 7 = true from rfl, Nat.ble_eq_true_of_le h]; rfl)
@[simp] theorem o_load_33 {x : Operand} : actO TT self (.load 33 x) f s = pureR (vLoad (some 2) x f.eval s.heap) s := by rw [act_load, agg_33]; rfl
@[simp] theorem o_store_33 {a x : Operand} : actO TT self (.store 33 a x) f s = eStore 2 a x self f.eval s := by rw [act_store, size_33]; rfl
@[simp] theorem o_alloc_33 : actO TT self (.alloc 33) f s = exNew s (.cells ((.agg #[(.int .i64 0), (.slice none 0 0)]) : Value).cells.toList none) ptrTo := by rw [act_alloc, zero_33]; rfl
theorem flag_33 : (TT.prog.keyTypeAt 20 33 && !TT.prog.eqGuardType TT.prog.depth 33) = (TT.prog.keyTypeAt 20 33 && !TT.prog.eqGuardType TT.prog.depth 33) := rfl
@[simp] theorem o_fieldAddr_33_0 {x : Operand} : actO TT self (.fieldAddr 33 x 0) f s = pureR (vFieldAddr 0 x f.eval s.heap) s := act_fieldAddr 33 x 0 und_33 rfl size_3 rfl
@[simp] theorem o_fieldAddr_33_1 {x : Operand} : actO TT self (.fieldAddr 33 x 1) f s = pureR (vFieldAddr 1 x f.eval s.heap) s := act_fieldAddr 33 x 1 und_33 rfl size_31 rfl
@[simp] theorem o_build_33 {pl0 : Array (Nat × Operand)} : actO TT self (.build 33 pl0) f s = ob (placesS [(0, 1), (1, 1)] pl0.toList) fun l => pureR (aggV (fillL f.eval l ((.agg #[(.int .i64 0), (.slice none 0 0)]) : Value).cells.toList)) s := act_buildS 33 pl0 zero_33 und_33 (by kernel_rfl)
@[simp] theorem o_load_36 {x : Operand} : actO TT self (.load 36 x) f s = pureR (vLoad (some 4) x f.eval s.heap) s := by rw [act_load, agg_36]; rfl
@[simp] theorem o_store_36 {a x : Operand} : actO TT self (.store 36 a x) f s = eStore 4 a x self f.eval s := by rw [act_store, size_36]; rfl
@[simp] theorem o_alloc_36 : actO TT self (.alloc 36) f s = exNew s (.cells ((.agg #[(.int .i64 0), (.int .i64 0), (.int .i64 0), (.int .i64 0)]) : Value).cells.toList none) ptrTo := by rw [act_alloc, zero_36]; rfl
theorem flag_36 : (TT.prog.keyTypeAt 20 36 && !TT.prog.eqGuardType TT.prog.depth 36) = (TT.prog.keyTypeAt 20 36 && !TT.prog.eqGuardType TT.prog.depth 36) := rfl
@[simp] theorem o_bin_36 {op : BinOp} {x y : Operand} {u : TypeId} : actO TT self (.binOp op 36 x y u) f s = pureR (binV TT (Go.TypeDesc.array 4 3) 36 (TT.prog.keyTypeAt 20 36 && !TT.prog.eqGuardType TT.prog.depth 36) op x y f.eval s.heap) s := by rw [act_bin, und_36]; rfl
@[simp] theorem o_indexAddr_36 {x i : Operand} : actO TT self (.indexAddr 36 x i) f s = pureR (vIndexAddrA 4 1 x i f.eval s.heap) s := act_indexAddrA 36 x i und_36 size_3
@[simp] theorem o_index_36 {x i : Operand} : actO TT self (.index 36 x i) f s = pureR (vIndexA 4 1 none x i f.eval s.heap) s := act_indexA 36 x i und_36 size_3 agg_3
@[simp] theorem o_len_36 {x : Operand} : actO TT self (.call ⟨.builtin .len, #[x], #[36]⟩) f s = some (.int .i64 (.ofNat 4), s) := act_lenArr x und_36
@[simp] theorem o_build_36 {pl0 : Array (Nat × Operand)} : actO TT self (.build 36 pl0) f s = pureR (aggV (fillL f.eval (placesA 1 pl0.toList) ((.agg #[(.int .i64 0), (.int .i64 0), (.int .i64 0), (.int .i64 0)]) : Value).cells.toList)) s := act_buildA 36 pl0 zero_36 und_36 size_3
@[simp] theorem o_load_39 {x : Operand} : actO TT self (.load 39 x) f s = pureR (vLoad (some 4) x f.eval s.heap) s := by rw [act_load, agg_39]; rfl
@[simp] theorem o_store_39 {a x : Operand} : actO TT self (.store 39 a x) f s = eStore 4 a x self f.eval s := by rw [act_store, size_39]; rfl
@[simp] theorem o_alloc_39 : actO TT self (.alloc 39) f s = exNew s (.cells ((.agg #[(.int .i64 0), (.int .i64 0), (.int .i64 0), (.int .i64 0)]) : Value).cells.toList none) ptrTo := by rw [act_alloc, zero_39]; rfl
theorem flag_39 : (TT.prog.keyTypeAt 20 39 && !TT.prog.eqGuardType TT.prog.depth 39) = (TT.prog.keyTypeAt 20 39 && !TT.prog.eqGuardType TT.prog.depth 39) := rfl
@[simp] theorem o_bin_39 {op : BinOp} {x y : Operand} {u : TypeId} : actO TT self (.binOp op 39 x y u) f s = pureR (binV TT (Go.TypeDesc.array 4 3) 39 (TT.prog.keyTypeAt 20 39 && !TT.prog.eqGuardType TT.prog.depth 39) op x y f.eval s.heap) s := by rw [act_bin, und_39]; rfl
@[simp] theorem o_indexAddr_39 {x i : Operand} : actO TT self (.indexAddr 39 x i) f s = pureR (vIndexAddrA 4 1 x i f.eval s.heap) s := act_indexAddrA 39 x i und_39 size_3
@[simp] theorem o_index_39 {x i : Operand} : actO TT self (.index 39 x i) f s = pureR (vIndexA 4 1 none x i f.eval s.heap) s := act_indexA 39 x i und_39 size_3 agg_3
@[simp] theorem o_len_39 {x : Operand} : actO TT self (.call ⟨.builtin .len, #[x], #[39]⟩) f s = some (.int .i64 (.ofNat 4), s) := act_lenArr x und_39
@[simp] theorem o_build_39 {pl0 : Array (Nat × Operand)} : actO TT self (.build 39 pl0) f s = pureR (aggV (fillL f.eval (placesA 1 pl0.toList) ((.agg #[(.int .i64 0), (.int .i64 0), (.int .i64 0), (.int .i64 0)]) : Value).cells.toList)) s := act_buildA 39 pl0 zero_39 und_39 size_3
@[simp] theorem o_store_47 {a x : Operand} : actO TT self (.store 47 a x) f s = eStore 1 a x self f.eval s := by rw [act_store, size_47]; rfl
@[simp] theorem o_alloc_47 : actO TT self (.alloc 47) f s = exNew s (.cells ((.slice none 0 0) : Value).cells.toList none) ptrTo := by rw [act_alloc, zero_47]; rfl
@[simp] theorem o_indexAddr_47 {x i : Operand} : actO TT self (.indexAddr 47 x i) f s = pureR (vIndexAddrS 5 x i f.eval s.heap) s := act_indexAddrS 47 x i und_47 size_54
@[simp] theorem o_len_47 {x : Operand} : actO TT self (.call ⟨.builtin .len, #[x], #[47]⟩) f s = pureR (vLenSl x f.eval s.heap) s := act_lenSl x und_47
@[simp] theorem o_append_47 {x y : Operand} : actO TT self (.call ⟨.builtin .append, #[x, y], #[47, 47]⟩) f s = eAppend 5 x y self f.eval s := act_append x y und_47 und_47 size_54 bytes_54 zero_54 rfl
@[simp] theorem o_makeSlice_47 {l c : Operand} : actO TT self (.makeSlice 47 l c) f s = ob (eMakeSl ((.agg #[(.int .i64 0), (.int .i64 0), (.int .i64 0), (.int .i64 0), (.int .i64 0)]) : Value).cells.toList 5 l c f.eval) fun p => exNew s p.1 p.2 := act_makeSlice 47 l c und_47 size_54 bytes_54 zero_54 rfl
@[simp] theorem o_indexAddr_50 {x i : Operand} : actO TT self (.indexAddr 50 x i) f s = pureR (vIndexAddrS 5 x i f.eval s.heap) s := act_indexAddrS 50 x i und_50 size_56
@[simp] theorem o_len_50 {x : Operand} : actO TT self (.call ⟨.builtin .len, #[x], #[50]⟩) f s = pureR (vLenSl x f.eval s.heap) s := act_lenSl x und_50
@[simp] theorem o_append_50 {x y : Operand} : actO TT self (.call ⟨.builtin .append, #[x, y], #[50, 50]⟩) f s = eAppend 5 x y self f.eval s := act_append x y und_50 und_50 size_56 bytes_56 zero_56 rfl
@[simp] theorem o_buildSlice_50 {len : Nat} {pl0 : Array (Nat × Operand)} (h : len * 5 ≤ 16777216) : actO TT self (.buildSlice 50 len pl0) f s = ob (fillL f.eval (placesA 5 pl0.toList) (repeatL ((.agg #[(.int .i64 0), (.int .i64 0), (.int .i64 0), (.int .i64 0), (.int .i64 0)]) : Value).cells.toList len)) fun c => exNew s (.cells c none) fun i => .slice (some ⟨i, 0, none⟩) len len := act_buildSlice 50 len pl0 und_50 size_56 zero_56 (by rw [show Nat.beq (lenL ((.agg #[(.int .i64 0), (.int .i64 0), (.int .i64 0), (.int .i64 0), (.int .i64 0)]) : Value).cells.toList) 5 = true from rfl, Nat.ble_eq_true_of_le h]; rfl)
@[simp] theorem o_load_54 {x : Operand} : actO TT self (.load 54 x) f s = pureR (vLoad (some 5) x f.eval s.heap) s := by rw [act_load, agg_54]; rfl
@[simp] theorem o_store_54 {a x : Operand} : actO TT self (.store 54 a x) f s = eStore 5 a x self f.eval s := by rw [act_store, size_54]; rfl
theorem flag_54 : (TT.prog.keyTypeAt 20 54 && !TT.prog.eqGuardType TT.prog.depth 54) = (TT.prog.keyTypeAt 20 54 && !TT.prog.eqGuardType TT.prog.depth 54) := rfl
@[simp] theorem o_bin_54 {op : BinOp} {x y : Operand} {u : TypeId} : actO TT self (.binOp op 54 x y u) f s = pureR (binV TT (Go.TypeDesc.struct #[{ name := "State", type := 3, offset := 0, embedded := Bool.false, tag := "", pkgPath := "", byteOffset := 0 }, { name := "Mass", type := 36, offset := 1, embedded := Bool.false, tag := "", pkgPath := "", byteOffset := 8 }]) 54 (TT.prog.keyTypeAt 20 54 && !TT.prog.eqGuardType TT.prog.depth 54) op x y f.eval s.heap) s := by rw [act_bin, und_54]; rfl
@[simp] theorem o_fieldAddr_54_0 {x : Operand} : actO TT self (.fieldAddr 54 x 0) f s = pureR (vFieldAddr 0 x f.eval s.heap) s := act_fieldAddr 54 x 0 und_54 rfl size_3 rfl
@[simp] theorem o_fieldAddr_54_1 {x : Operand} : actO TT self (.fieldAddr 54 x 1) f s = pureR (vFieldAddr 1 x f.eval s.heap) s := act_fieldAddr 54 x 1 und_54 rfl size_36 rfl
@[simp] theorem o_build_54 {pl0 : Array (Nat × Operand)} : actO TT self (.build 54 pl0) f s = ob (placesS [(0, 1), (1, 4)] pl0.toList) fun l => pureR (aggV (fillL f.eval l ((.agg #[(.int .i64 0), (.int .i64 0), (.int .i64 0), (.int .i64 0), (.int .i64 0)]) : Value).cells.toList)) s := act_buildS 54 pl0 zero_54 und_54 (by kernel_rfl)
theorem flag_56 : (TT.prog.keyTypeAt 20 56 && !TT.prog.eqGuardType TT.prog.depth 56) = (TT.prog.keyTypeAt 20 56 && !TT.prog.eqGuardType TT.prog.depth 56) := rfl
@[simp] theorem o_fieldAddr_56_0 {x : Operand} : actO TT self (.fieldAddr 56 x 0) f s = pureR (vFieldAddr 0 x f.eval s.heap) s := act_fieldAddr 56 x 0 und_56 rfl size_3 rfl
@[simp] theorem o_fieldAddr_56_1 {x : Operand} : actO TT self (.fieldAddr 56 x 1) f s = pureR (vFieldAddr 1 x f.eval s.heap) s := act_fieldAddr 56 x 1 und_56 rfl size_39 rfl
@[simp] theorem o_build_56 {pl0 : Array (Nat × Operand)} : actO TT self (.build 56 pl0) f s = ob (placesS [(0, 1), (1, 4)] pl0.toList) fun l => pureR (aggV (fillL f.eval l ((.agg #[(.int .i64 0), (.int .i64 0), (.int .i64 0), (.int .i64 0), (.int .i64 0)]) : Value).cells.toList)) s := act_buildS 56 pl0 zero_56 und_56 (by kernel_rfl)
@[simp] theorem o_load_58 {x : Operand} : actO TT self (.load 58 x) f s = pureR (vLoad none x f.eval s.heap) s := by rw [act_load, agg_58]; rfl
@[simp] theorem o_store_58 {a x : Operand} : actO TT self (.store 58 a x) f s = eStore 1 a x self f.eval s := by rw [act_store, size_58]; rfl
@[simp] theorem o_alloc_58 : actO TT self (.alloc 58) f s = exNew s (.cells ((.slice none 0 0) : Value).cells.toList none) ptrTo := by rw [act_alloc, zero_58]; rfl
@[simp] theorem o_indexAddr_58 {x i : Operand} : actO TT self (.indexAddr 58 x i) f s = pureR (vIndexAddrS 4 x i f.eval s.heap) s := act_indexAddrS 58 x i und_58 size_36
@[simp] theorem o_len_58 {x : Operand} : actO TT self (.call ⟨.builtin .len, #[x], #[58]⟩) f s = pureR (vLenSl x f.eval s.heap) s := act_lenSl x und_58
@[simp] theorem o_append_58 {x y : Operand} : actO TT self (.call ⟨.builtin .append, #[x, y], #[58, 58]⟩) f s = eAppend 4 x y self f.eval s := act_append x y und_58 und_58 size_36 bytes_36 zero_36 rfl
@[simp] theorem o_makeSlice_58 {l c : Operand} : actO TT self (.makeSlice 58 l c) f s = ob (eMakeSl ((.agg #[(.int .i64 0), (.int .i64 0), (.int .i64 0), (.int .i64 0)]) : Value).cells.toList 4 l c f.eval) fun p => exNew s p.1 p.2 := act_makeSlice 58 l c und_58 size_36 bytes_36 zero_36 rfl
@[simp] theorem o_buildSlice_58 {len : Nat} {pl0 : Array (Nat × Operand)} (h : len * 4 ≤ 16777216) : actO TT self (.buildSlice 58 len pl0) f s = ob (fillL f.eval (placesA 4 pl0.toList) (repeatL ((.agg #[(.int .i64 0), (.int .i64 0), (.int .i64 0), (.int .i64 0)]) : Value).cells.toList len)) fun c => exNew s (.cells c none) fun i => .slice (some ⟨i, 0, none⟩) len len := act_buildSlice 58 len pl0 und_58 size_36 zero_36 (by rw [show Nat.beq (lenL ((.agg #[(.int .i64 0), (.int .i64 0), (.int .i64 0), (.int .i64 0)]) : Value).cells.toList) 4 = true from rfl, Nat.ble_eq_true_of_le h]; rfl)
@[simp] theorem o_indexAddr_61 {x i : Operand} : actO TT self (.indexAddr 61 x i) f s = pureR (vIndexAddrS 4 x i f.eval s.heap) s := act_indexAddrS 61 x i und_61 size_39
@[simp] theorem o_len_61 {x : Operand} : actO TT self (.call ⟨.builtin .len, #[x], #[61]⟩) f s = pureR (vLenSl x f.eval s.heap) s := act_lenSl x und_61
@[simp] theorem o_append_61 {x y : Operand} : actO TT self (.call ⟨.builtin .append, #[x, y], #[61, 61]⟩) f s = eAppend 4 x y self f.eval s := act_append x y und_61 und_61 size_39 bytes_39 zero_39 rfl
@[simp] theorem o_buildSlice_61 {len : Nat} {pl0 : Array (Nat × Operand)} (h : len * 4 ≤ 16777216) : actO TT self (.buildSlice 61 len pl0) f s = ob (fillL f.eval (placesA 4 pl0.toList) (repeatL ((.agg #[(.int .i64 0), (.int .i64 0), (.int .i64 0), (.int .i64 0)]) : Value).cells.toList len)) fun c => exNew s (.cells c none) fun i => .slice (some ⟨i, 0, none⟩) len len := act_buildSlice 61 len pl0 und_61 size_39 zero_39 (by rw [show Nat.beq (lenL ((.agg #[(.int .i64 0), (.int .i64 0), (.int .i64 0), (.int .i64 0)]) : Value).cells.toList) 4 = true from rfl, Nat.ble_eq_true_of_le h]; rfl)
@[simp] theorem o_load_74 {x : Operand} : actO TT self (.load 74 x) f s = pureR (vLoad none x f.eval s.heap) s := by rw [act_load, agg_74]; rfl
@[simp] theorem o_indexAddr_74 {x i : Operand} : actO TT self (.indexAddr 74 x i) f s = pureR (vIndexAddrS 2 x i f.eval s.heap) s := act_indexAddrS 74 x i und_74 size_122
@[simp] theorem o_len_74 {x : Operand} : actO TT self (.call ⟨.builtin .len, #[x], #[74]⟩) f s = pureR (vLenSl x f.eval s.heap) s := act_lenSl x und_74
@[simp] theorem o_append_74 {x y : Operand} : actO TT self (.call ⟨.builtin .append, #[x, y], #[74, 74]⟩) f s = eAppend 2 x y self f.eval s := act_append x y und_74 und_74 size_122 bytes_122 zero_122 rfl
@[simp] theorem o_load_75 {x : Operand} : actO TT self (.load 75 x) f s = pureR (vLoad none x f.eval s.heap) s := by rw [act_load, agg_75]; rfl
@[simp] theorem o_indexAddr_75 {x i : Operand} : actO TT self (.indexAddr 75 x i) f s = pureR (vIndexAddrS 1 x i f.eval s.heap) s := act_indexAddrS 75 x i und_75 size_5
@[simp] theorem o_len_75 {x : Operand} : actO TT self (.call ⟨.builtin .len, #[x], #[75]⟩) f s = pureR (vLenSl x f.eval s.heap) s := act_lenSl x und_75
@[simp] theorem o_append_75 {x y : Operand} : actO TT self (.call ⟨.builtin .append, #[x, y], #[75, 75]⟩) f s = eAppend 1 x y self f.eval s := act_append x y und_75 und_75 size_5 bytes_5 zero_5 rfl
@[simp] theorem o_load_76 {x : Operand} : actO TT self (.load 76 x) f s = pureR (vLoad none x f.eval s.heap) s := by rw [act_load, agg_76]; rfl
@[simp] theorem o_bin_76 {op : BinOp} {x y : Operand} {u : TypeId} : actO TT self (.binOp op 76 x y u) f s = pureR (binV TT (Go.TypeDesc.int Go.IntKind.u16) 76 (TT.prog.keyTypeAt 20 76 && !TT.prog.eqGuardType TT.prog.depth 76) op x y f.eval s.heap) s := by rw [act_bin, und_76]; rfl
@[simp] theorem o_load_78 {x : Operand} : actO TT self (.load 78 x) f s = pureR (vLoad (some 4) x f.eval s.heap) s := by rw [act_load, agg_78]; rfl
theorem flag_78 : (TT.prog.keyTypeAt 20 78 && !TT.prog.eqGuardType TT.prog.depth 78) = (TT.prog.keyTypeAt 20 78 && !TT.prog.eqGuardType TT.prog.depth 78) := rfl
@[simp] theorem o_fieldAddr_78_0 {x : Operand} : actO TT self (.fieldAddr 78 x 0) f s = pureR (vFieldAddr 0 x f.eval s.heap) s := act_fieldAddr 78 x 0 und_78 rfl size_5 rfl
@[simp] theorem o_fieldAddr_78_1 {x : Operand} : actO TT self (.fieldAddr 78 x 1) f s = pureR (vFieldAddr 1 x f.eval s.heap) s := act_fieldAddr 78 x 1 und_78 rfl size_74 rfl
@[simp] theorem o_fieldAddr_78_2 {x : Operand} : actO TT self (.fieldAddr 78 x 2) f s = pureR (vFieldAddr 2 x f.eval s.heap) s := act_fieldAddr 78 x 2 und_78 rfl size_75 rfl
@[simp] theorem o_fieldAddr_78_3 {x : Operand} : actO TT self (.fieldAddr 78 x 3) f s = pureR (vFieldAddr 3 x f.eval s.heap) s := act_fieldAddr 78 x 3 und_78 rfl size_76 rfl
@[simp] theorem o_load_82 {x : Operand} : actO TT self (.load 82 x) f s = pureR (vLoad (some 7) x f.eval s.heap) s := by rw [act_load, agg_82]; rfl
@[simp] theorem o_store_82 {a x : Operand} : actO TT self (.store 82 a x) f s = eStore 7 a x self f.eval s := by rw [act_store, size_82]; rfl
@[simp] theorem o_alloc_82 : actO TT self (.alloc 82) f s = exNew s (.cells ((.agg #[(.int .i64 0), (.int .i64 0), (.bool false), (.int .i64 0), (.int .i64 0), (.int .i64 0), (.int .i64 0)]) : Value).cells.toList none) ptrTo := by rw [act_alloc, zero_82]; rfl
theorem flag_82 : (TT.prog.keyTypeAt 20 82 && !TT.prog.eqGuardType TT.prog.depth 82) = (TT.prog.keyTypeAt 20 82 && !TT.prog.eqGuardType TT.prog.depth 82) := rfl
@[simp] theorem o_fieldAddr_82_0 {x : Operand} : actO TT self (.fieldAddr 82 x 0) f s = pureR (vFieldAddr 0 x f.eval s.heap) s := act_fieldAddr 82 x 0 und_82 rfl size_3 rfl
@[simp] theorem o_fieldAddr_82_1 {x : Operand} : actO TT self (.fieldAddr 82 x 1) f s = pureR (vFieldAddr 1 x f.eval s.heap) s := act_fieldAddr 82 x 1 und_82 rfl size_3 rfl
@[simp] theorem o_fieldAddr_82_2 {x : Operand} : actO TT self (.fieldAddr 82 x 2) f s = pureR (vFieldAddr 2 x f.eval s.heap) s := act_fieldAddr 82 x 2 und_82 rfl size_4 rfl
@[simp] theorem o_fieldAddr_82_3 {x : Operand} : actO TT self (.fieldAddr 82 x 3) f s = pureR (vFieldAddr 3 x f.eval s.heap) s := act_fieldAddr 82 x 3 und_82 rfl size_36 rfl
@[simp] theorem o_build_82 {pl0 : Array (Nat × Operand)} : actO TT self (.build 82 pl0) f s = ob (placesS [(0, 1), (1, 1), (2, 1), (3, 4)] pl0.toList) fun l => pureR (aggV (fillL f.eval l ((.agg #[(.int .i64 0), (.int .i64 0), (.bool false), (.int .i64 0), (.int .i64 0), (.int .i64 0), (.int .i64 0)]) : Value).cells.toList)) s := act_buildS 82 pl0 zero_82 und_82 (by kernel_rfl)
theorem flag_86 : (TT.prog.keyTypeAt 20 86 && !TT.prog.eqGuardType TT.prog.depth 86) = (TT.prog.keyTypeAt 20 86 && !TT.prog.eqGuardType TT.prog.depth 86) := rfl
@[simp] theorem o_indexAddr_86 {x i : Operand} : actO TT self (.indexAddr 86 x i) f s = pureR (vIndexAddrA 4 1 x i f.eval s.heap) s := act_indexAddrA 86 x i und_86 size_5
@[simp] theorem o_load_96 {x : Operand} : actO TT self (.load 96 x) f s = pureR (vLoad (some 7) x f.eval s.heap) s := by rw [act_load, agg_96]; rfl
@[simp] theorem o_store_96 {a x : Operand} : actO TT self (.store 96 a x) f s = eStore 7 a x self f.eval s := by rw [act_store, size_96]; rfl
@[simp] theorem o_alloc_96 : actO TT self (.alloc 96) f s = exNew s (.cells ((.agg #[(.int .i64 0), (.int .i64 0), (.bool false), (.int .i64 0), (.int .i64 0), (.int .i64 0), (.int .i64 0)]) : Value).cells.toList none) ptrTo := by rw [act_alloc, zero_96]; rfl
theorem flag_96 : (TT.prog.keyTypeAt 20 96 && !TT.prog.eqGuardType TT.prog.depth 96) = (TT.prog.keyTypeAt 20 96 && !TT.prog.eqGuardType TT.prog.depth 96) := rfl
@[simp] theorem o_fieldAddr_96_0 {x : Operand} : actO TT self (.fieldAddr 96 x 0) f s = pureR (vFieldAddr 0 x f.eval s.heap) s := act_fieldAddr 96 x 0 und_96 rfl size_3 rfl
@[simp] theorem o_fieldAddr_96_1 {x : Operand} : actO TT self (.fieldAddr 96 x 1) f s = pureR (vFieldAddr 1 x f.eval s.heap) s := act_fieldAddr 96 x 1 und_96 rfl size_3 rfl
@[simp] theorem o_fieldAddr_96_2 {x : Operand} : actO TT self (.fieldAddr 96 x 2) f s = pureR (vFieldAddr 2 x f.eval s.heap) s := act_fieldAddr 96 x 2 und_96 rfl size_4 rfl
@[simp] theorem o_fieldAddr_96_3 {x : Operand} : actO TT self (.fieldAddr 96 x 3) f s = pureR (vFieldAddr 3 x f.eval s.heap) s := act_fieldAddr 96 x 3 und_96 rfl size_39 rfl
@[simp] theorem o_build_96 {pl0 : Array (Nat × Operand)} : actO TT self (.build 96 pl0) f s = ob (placesS [(0, 1), (1, 1), (2, 1), (3, 4)] pl0.toList) fun l => pureR (aggV (fillL f.eval l ((.agg #[(.int .i64 0), (.int .i64 0), (.bool false), (.int .i64 0), (.int .i64 0), (.int .i64 0), (.int .i64 0)]) : Value).cells.toList)) s := act_buildS 96 pl0 zero_96 und_96 (by kernel_rfl)
@[simp] theorem o_load_99 {x : Operand} : actO TT self (.load 99 x) f s = pureR (vLoad none x f.eval s.heap) s := by rw [act_load, agg_99]; rfl
@[simp] theorem o_store_99 {a x : Operand} : actO TT self (.store 99 a x) f s = eStore 1 a x self f.eval s := by rw [act_store, size_99]; rfl
@[simp] theorem o_alloc_99 : actO TT self (.alloc 99) f s = exNew s (.cells ((.slice none 0 0) : Value).cells.toList none) ptrTo := by rw [act_alloc, zero_99]; rfl
@[simp] theorem o_indexAddr_99 {x i : Operand} : actO TT self (.indexAddr 99 x i) f s = pureR (vIndexAddrS 1 x i f.eval s.heap) s := act_indexAddrS 99 x i und_99 size_4
@[simp] theorem o_len_99 {x : Operand} : actO TT self (.call ⟨.builtin .len, #[x], #[99]⟩) f s = pureR (vLenSl x f.eval s.heap) s := act_lenSl x und_99
@[simp] theorem o_append_99 {x y : Operand} : actO TT self (.call ⟨.builtin .append, #[x, y], #[99, 99]⟩) f s = eAppend 1 x y self f.eval s := act_append x y und_99 und_99 size_4 bytes_4 zero_4 rfl
@[simp] theorem o_makeSlice_99 {l c : Operand} : actO TT self (.makeSlice 99 l c) f s = ob (eMakeSl ((.bool false) : Value).cells.toList 1 l c f.eval) fun p => exNew s p.1 p.2 := act_makeSlice 99 l c und_99 size_4 bytes_4 zero_4 rfl
@[simp] theorem o_buildSlice_99 {len : Nat} {pl0 : Array (Nat × Operand)} (h : len * 1 ≤ 16777216) : actO TT self (.buildSlice 99 len pl0) f s = ob (fillL f.eval (placesA 1 pl0.toList) (repeatL ((.bool false) : Value).cells.toList len)) fun c => exNew s (.cells c none) fun i => .slice (some ⟨i, 0, none⟩) len len := act_buildSlice 99 len pl0 und_99 size_4 zero_4 (by rw [show Nat.beq (lenL ((.bool false) : Value).cells.toList) 1 = true from rfl, Nat.ble_eq_true_of_le h]; rfl)
@[simp] theorem o_load_108 {x : Operand} : actO TT self (.load 108 x) f s = pureR (vLoad none x f.eval s.heap) s := by rw [act_load, agg_108]; rfl
@[simp] theorem o_lookup_108 {x k : Operand} {ok : Bool} : actO TT self (.lookup 108 x k ok) f s = pureR (vLookup (Go.TypeDesc.int Go.IntKind.i64) (.int .i64 0) x k ok f.eval s.heap) s := act_lookup 108 x k ok und_108 und_3 zero_3
@[simp] theorem o_mapUpdate_108 {m k x : Operand} : actO TT self (.mapUpdate 108 m k x) f s = eMapUpd (Go.TypeDesc.int Go.IntKind.i64) m k x self f.eval s := act_mapUpdate 108 m k x und_108 und_3
@[simp] theorem o_load_110 {x : Operand} : actO TT self (.load 110 x) f s = pureR (vLoad (some 1) x f.eval s.heap) s := by rw [act_load, agg_110]; rfl
@[simp] theorem o_store_110 {a x : Operand} : actO TT self (.store 110 a x) f s = eStore 1 a x self f.eval s := by rw [act_store, size_110]; rfl
@[simp] theorem o_alloc_110 : actO TT self (.alloc 110) f s = exNew s (.cells ((.agg #[(.map none)]) : Value).cells.toList none) ptrTo := by rw [act_alloc, zero_110]; rfl
theorem flag_110 : (TT.prog.keyTypeAt 20 110 && !TT.prog.eqGuardType TT.prog.depth 110) = (TT.prog.keyTypeAt 20 110 && !TT.prog.eqGuardType TT.prog.depth 110) := rfl
@[simp] theorem o_fieldAddr_110_0 {x : Operand} : actO TT self (.fieldAddr 110 x 0) f s = pureR (vFieldAddr 0 x f.eval s.heap) s := act_fieldAddr 110 x 0 und_110 rfl size_108 rfl
@[simp] theorem o_build_110 {pl0 : Array (Nat × Operand)} : actO TT self (.build 110 pl0) f s = ob (placesS [(0, 1)] pl0.toList) fun l => pureR (aggV (fillL f.eval l ((.agg #[(.map none)]) : Value).cells.toList)) s := act_buildS 110 pl0 zero_110 und_110 (by kernel_rfl)
@[simp] theorem o_alloc_120 : actO TT self (.alloc 120) f s = exNew s (.cells ((.agg #[(.int .i64 0), (.int .i64 0), (.int .i64 0), (.int .i64 0), (.int .i64 0), (.int .i64 0), (.int .i64 0), (.int .i64 0), (.int .i64 0), (.int .i64 0), (.int .i64 0), (.int .i64 0), (.int .i64 0), (.int .i64 0), (.int .i64 0), (.int .i64 0)]) : Value).cells.toList none) ptrTo := by rw [act_alloc, zero_120]; rfl
theorem flag_120 : (TT.prog.keyTypeAt 20 120 && !TT.prog.eqGuardType TT.prog.depth 120) = (TT.prog.keyTypeAt 20 120 && !TT.prog.eqGuardType TT.prog.depth 120) := rfl
@[simp] theorem o_indexAddr_120 {x i : Operand} : actO TT self (.indexAddr 120 x i) f s = pureR (vIndexAddrA 4 4 x i f.eval s.heap) s := act_indexAddrA 120 x i und_120 size_36
theorem flag_122 : (TT.prog.keyTypeAt 20 122 && !TT.prog.eqGuardType TT.prog.depth 122) = (TT.prog.keyTypeAt 20 122 && !TT.prog.eqGuardType TT.prog.depth 122) := rfl
@[simp] theorem o_indexAddr_122 {x i : Operand} : actO TT self (.indexAddr 122 x i) f s = pureR (vIndexAddrA 2 1 x i f.eval s.heap) s := act_indexAddrA 122 x i und_122 size_5
@[simp] theorem o_alloc_127 : actO TT self (.alloc 127) f s = exNew s (.cells ((.agg #[(.bool false), (.bool false), (.bool false), (.bool false), (.bool false), (.bool false), (.bool false), (.bool false), (.bool false)]) : Value).cells.toList none) ptrTo := by rw [act_alloc, zero_127]; rfl
theorem flag_127 : (TT.prog.keyTypeAt 20 127 && !TT.prog.eqGuardType TT.prog.depth 127) = (TT.prog.keyTypeAt 20 127 && !TT.prog.eqGuardType TT.prog.depth 127) := rfl
@[simp] theorem o_indexAddr_127 {x i : Operand} : actO TT self (.indexAddr 127 x i) f s = pureR (vIndexAddrA 9 1 x i f.eval s.heap) s := act_indexAddrA 127 x i und_127 size_4
@[simp] theorem o_load_128 {x : Operand} : actO TT self (.load 128 x) f s = pureR (vLoad none x f.eval s.heap) s := by rw [act_load, agg_128]; rfl
@[simp] theorem o_store_128 {a x : Operand} : actO TT self (.store 128 a x) f s = eStore 1 a x self f.eval s := by rw [act_store, size_128]; rfl
@[simp] theorem o_alloc_128 : actO TT self (.alloc 128) f s = exNew s (.cells (.nilFunc : Value).cells.toList none) ptrTo := by rw [act_alloc, zero_128]; rfl
end
end Go.Proofs.Ytifkpaomhnlahaa
