/- The library's contracts at the numbers that this program has: a generic function. -/
import Derived.Test.YtjhdlcemeemlhaaSat
import Derived.Shelf.SlLaysF0
namespace Go.Proofs.Ytjhdlcemeemlhaa
open Go.Shelf
set_option linter.unusedVariables false
set_option linter.unusedSimpArgs false
set_option maxRecDepth 100000

def tr_lay6Nums : Go.Shelf.Ren := ⟨fun | 0 => 0 | 1 => 1 | 2 => 2 | 6 => 18 | 11 => 20 | 14 => 22 | 15 => 23 | 18 => 24 | 20 => 25 | 21 => 26 | 22 => 27 | 23 => 28 | 24 => 29 | 25 => 30 | 26 => 31 | 27 => 32 | 28 => 33 | 29 => 34 | 46 => 35 | 47 => 36 | 48 => 37 | 49 => 38 | 50 => 39 | 57 => 40 | 60 => 41 | 61 => 42 | 62 => 43 | 63 => 44 | 64 => 45 | 65 => 46 | 66 => 47 | 67 => 48 | 68 => 49 | 69 => 50 | 70 => 51 | 71 => 52 | 72 => 53 | 73 => 54 | 74 => 55 | 75 => 56 | _ => 0, fun | 0 => 0 | 1 => 1 | 2 => 2 | 3 => 3 | 4 => 4 | 5 => 5 | 6 => 6 | 7 => 7 | 8 => 8 | 9 => 9 | 10 => 10 | 11 => 11 | 12 => 12 | 13 => 13 | 14 => 14 | 15 => 15 | 16 => 16 | 17 => 17 | 18 => 18 | 19 => 19 | 20 => 20 | 21 => 21 | 22 => 45 | 23 => 46 | 24 => 39 | 25 => 48 | 29 => 47 | 37 => 50 | 38 => 51 | 39 => 52 | 42 => 53 | 44 => 54 | 45 => 55 | 46 => 56 | 47 => 57 | 48 => 58 | 49 => 59 | 50 => 34 | 51 => 60 | 52 => 61 | 53 => 62 | 54 => 63 | 55 => 64 | 66 => 65 | 67 => 66 | 68 => 67 | 69 => 68 | 70 => 69 | 71 => 70 | 76 => 71 | 77 => 25 | 78 => 72 | 81 => 73 | 82 => 74 | 83 => 75 | 84 => 76 | 85 => 77 | 86 => 78 | 87 => 79 | 88 => 80 | 89 => 81 | 90 => 82 | 91 => 83 | 92 => 84 | 93 => 85 | 94 => 86 | 95 => 87 | 96 => 88 | _ => 0, fun | _ => 0⟩
theorem tr_lay6 : Go.Proofs.SlLaysF0.n6 Try.prog tr_lay6Nums := {
  mixed := by kernel_rfl
  f6 := ⟨ "slices.SortFunc[[]pinchcock/trend.minute,pinchcock/trend.minute]", by kernel_rfl, Try.func18.trans (congrArg some (by kernel_rfl))⟩
  f14 := ⟨ "slices.pdqsortCmpFunc[pinchcock/trend.minute]", by kernel_rfl, Try.func22.trans (congrArg some (by kernel_rfl))⟩
  f15 := Try.func23.trans (congrArg some (by kernel_rfl))
  f20 := ⟨ "slices.insertionSortCmpFunc[pinchcock/trend.minute]", by kernel_rfl, Try.func25.trans (congrArg some (by kernel_rfl))⟩
  f21 := ⟨ "slices.heapSortCmpFunc[pinchcock/trend.minute]", by kernel_rfl, Try.func26.trans (congrArg some (by kernel_rfl))⟩
  f22 := ⟨ "slices.breakPatternsCmpFunc[pinchcock/trend.minute]", by kernel_rfl, Try.func27.trans (congrArg some (by kernel_rfl))⟩
  f23 := ⟨ "slices.choosePivotCmpFunc[pinchcock/trend.minute]", by kernel_rfl, Try.func28.trans (congrArg some (by kernel_rfl))⟩
  f24 := ⟨ "slices.reverseRangeCmpFunc[pinchcock/trend.minute]", by kernel_rfl, Try.func29.trans (congrArg some (by kernel_rfl))⟩
  f25 := ⟨ "slices.partialInsertionSortCmpFunc[pinchcock/trend.minute]", by kernel_rfl, Try.func30.trans (congrArg some (by kernel_rfl))⟩
  f26 := ⟨ "slices.partitionEqualCmpFunc[pinchcock/trend.minute]", by kernel_rfl, Try.func31.trans (congrArg some (by kernel_rfl))⟩
  f27 := ⟨ "slices.partitionCmpFunc[pinchcock/trend.minute]", by kernel_rfl, Try.func32.trans (congrArg some (by kernel_rfl))⟩
  f28 := Try.func33.trans (congrArg some (by kernel_rfl))
  f29 := Try.func34.trans (congrArg some (by kernel_rfl))
  f46 := ⟨ "slices.siftDownCmpFunc[pinchcock/trend.minute]", by kernel_rfl, Try.func35.trans (congrArg some (by kernel_rfl))⟩
  f47 := Try.func36.trans (congrArg some (by kernel_rfl))
  f48 := Try.func37.trans (congrArg some (by kernel_rfl))
  f49 := ⟨ "slices.medianAdjacentCmpFunc[pinchcock/trend.minute]", by kernel_rfl, Try.func38.trans (congrArg some (by kernel_rfl))⟩
  f50 := ⟨ "slices.medianCmpFunc[pinchcock/trend.minute]", by kernel_rfl, Try.func39.trans (congrArg some (by kernel_rfl))⟩
  f57 := ⟨ "slices.order2CmpFunc[pinchcock/trend.minute]", by kernel_rfl, Try.func40.trans (congrArg some (by kernel_rfl))⟩
  t0 := Try.underlying0
  a0 := Try.isAgg0
  z0 := Try.sizeOf0
  v0 := Try.zeroValue0
  t3 := Try.underlying3
  a3 := Try.isAgg3
  z3 := Try.sizeOf3
  v3 := Try.zeroValue3
  t4 := Try.underlying4
  a4 := Try.isAgg4
  z4 := Try.sizeOf4
  v4 := Try.zeroValue4
  t5 := Try.underlying5
  a5 := Try.isAgg5
  z5 := Try.sizeOf5
  v5 := Try.zeroValue5
  t9 := Try.underlying9
  a9 := Try.isAgg9
  z9 := Try.sizeOf9
  v9 := Try.zeroValue9
  t22 := Try.underlying45
  a22 := Try.isAgg45
  z22 := Try.sizeOf45
  v22 := Try.zeroValue45
  t25 := Try.underlying48
  a25 := Try.isAgg48
  z25 := Try.sizeOf48
  v25 := Try.zeroValue48
  t39 := Try.underlying52
  a39 := Try.isAgg52
  z39 := Try.sizeOf52
  v39 := Try.zeroValue52
  t45 := Try.underlying55
  a45 := Try.isAgg55
  z45 := Try.sizeOf55
  v45 := Try.zeroValue55
  t46 := Try.underlying56
  a46 := Try.isAgg56
  z46 := Try.sizeOf56
  v46 := Try.zeroValue56
  t50 := Try.underlying34
  a50 := Try.isAgg34
  z50 := Try.sizeOf34
  v50 := Try.zeroValue34
  t53 := Try.underlying62
  a53 := Try.isAgg62
  z53 := Try.sizeOf62
  v53 := Try.zeroValue62
  t55 := Try.underlying64
  a55 := Try.isAgg64
  z55 := Try.sizeOf64
  v55 := Try.zeroValue64
  t66 := Try.underlying65
  a66 := Try.isAgg65
  z66 := Try.sizeOf65
  v66 := Try.zeroValue65
  t70 := Try.underlying69
  a70 := Try.isAgg69
  z70 := Try.sizeOf69
  v70 := Try.zeroValue69
  t76 := Try.underlying71
  a76 := Try.isAgg71
  z76 := Try.sizeOf71
  v76 := Try.zeroValue71
  t77 := Try.underlying25
  a77 := Try.isAgg25
  z77 := Try.sizeOf25
  v77 := Try.zeroValue25 }

end Go.Proofs.Ytjhdlcemeemlhaa
