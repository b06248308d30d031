package code_test

import (
	"math"
	"math/big"
	"math/rand"
	"slices"
	"strings"
	"testing"

	"pinchcock/api"
	"pinchcock/code"
)

// widths are those that are, and such as are none.
var widths = []int{
	math.MinInt, math.MinInt + 1, -64, -8, -7, -2, -1, 0, 1, 2, 3, 4, 5, 6, 7,
	8, 9, 10, 16, 56, 63, 64, 65, 256, 1 << 32, 1<<32 + 1, math.MaxInt - 7, math.MaxInt - 1, math.MaxInt,
}

// isWidth tells whether a width is one, as P7.1 has it.
func isWidth(width int) bool {
	return slices.Contains([]int{1, 2, 3, 4, 5, 6, 7}, width)
}

// most is the greatest number that so many bytes can tell.
func most(width int) int {
	return 1<<(8*width) - 1
}

// numbers are numbers at every edge of every width, and some between.
func numbers() []int {
	rnd := rand.New(rand.NewSource(7))
	all := []int{math.MinInt, math.MinInt + 1, -api.Top, -258, 258, api.Top - 1, api.Top, api.Top + 1, math.MaxInt - 1, math.MaxInt}
	for place := range 63 {
		n := 1 << place
		all = append(all, n-1, n, n+1, -n, 1-n, -n-1)
	}
	for range 300 {
		all = append(all, int(rnd.Uint64())>>rnd.Intn(64))
	}
	return all
}

// told is n in so many bytes, told by numbers without an end; "" if it can't
// be.
func told(n, width int) string {
	if !isWidth(width) || n < 0 {
		return ""
	}
	whole := big.NewInt(int64(n))
	if len(whole.Bytes()) > width {
		return ""
	}
	return string(whole.FillBytes(make([]byte, width)))
}

// row is nums in widths, told one behind the other; there are as many of both.
func row(nums, widths []int) (string, bool) {
	if len(nums) > 64 {
		return "", false
	}
	all := ""
	for i, n := range nums {
		one := told(n, widths[i])
		if one == "" {
			return "", false
		}
		all += one
	}
	return all, true
}

// noise is a text of so many bytes, each of them any.
func noise(rnd *rand.Rand, length int) string {
	b := make([]byte, length)
	rnd.Read(b)
	return string(b)
}

// some are so many widths.
func some(rnd *rand.Rand, count int) []int {
	l := make([]int, count)
	for i := range l {
		l[i] = 1 + rnd.Intn(7)
	}
	return l
}

// within are numbers that such widths can tell, often at an edge.
func within(rnd *rand.Rand, widths []int) []int {
	nums := make([]int, len(widths))
	for i, width := range widths {
		switch rnd.Intn(4) {
		case 0:
			nums[i] = most(width)
		case 1:
			nums[i] = 0
		default:
			nums[i] = rnd.Intn(most(width) + 1)
		}
	}
	return nums
}

// total is how many bytes such widths have.
func total(widths []int) int {
	sum := 0
	for _, width := range widths {
		sum += width
	}
	return sum
}

// same is a list of one number so many times.
func same(n, count int) []int {
	return slices.Repeat([]int{n}, count)
}

// packed checks a row that can be told.
func packed(t *testing.T, nums, widths []int, want string) {
	t.Helper()
	if got, ok := code.Pack(nums, widths); !ok || got != want {
		t.Fatalf("Pack(%v, %v): %q, %v, want %q", nums, widths, got, ok, want)
	}
}

// unpackable checks a row that can't be told.
func unpackable(t *testing.T, nums, widths []int) {
	t.Helper()
	if got, ok := code.Pack(nums, widths); ok || got != "" {
		t.Fatalf("Pack(%v, %v): %q, %v", nums, widths, got, ok)
	}
}

// unpacked checks numbers that are there.
func unpacked(t *testing.T, s string, widths, want []int) {
	t.Helper()
	if got, ok := code.Unpack(s, widths); !ok || !slices.Equal(got, want) {
		t.Fatalf("Unpack(%q, %v): %v, %v, want %v", s, widths, got, ok, want)
	}
}

// nothing checks that there are no numbers.
func nothing(t *testing.T, s string, widths []int) {
	t.Helper()
	if got, ok := code.Unpack(s, widths); ok || len(got) != 0 {
		t.Fatalf("Unpack(%q, %v): %v, %v", s, widths, got, ok)
	}
}

// P7.1: the highest byte stands first, and noughts stand too.
func TestNum(t *testing.T) {
	for _, r := range []struct {
		n, width int
		want     string
	}{
		{258, 3, "\x00\x01\x02"}, {258, 2, "\x01\x02"}, {258, 1, ""}, {0, 1, "\x00"}, {0, 7, "\x00\x00\x00\x00\x00\x00\x00"},
		{1, 1, "\x01"}, {65, 1, "A"}, {127, 1, "\x7f"}, {128, 1, "\x80"}, {255, 1, "\xff"}, {256, 1, ""}, {257, 1, ""}, {511, 1, ""},
		{255, 2, "\x00\xff"}, {256, 2, "\x01\x00"}, {0xABCD, 2, "\xab\xcd"}, {65535, 2, "\xff\xff"}, {65536, 2, ""},
		{0x010203, 3, "\x01\x02\x03"}, {1<<24 - 1, 3, "\xff\xff\xff"}, {1 << 24, 3, ""},
		{0x01020304, 4, "\x01\x02\x03\x04"}, {1<<32 - 1, 4, "\xff\xff\xff\xff"}, {1 << 32, 4, ""},
		{0x0102030405, 5, "\x01\x02\x03\x04\x05"}, {1<<40 - 1, 5, "\xff\xff\xff\xff\xff"}, {1 << 40, 5, ""},
		{0x010203040506, 6, "\x01\x02\x03\x04\x05\x06"}, {1<<48 - 1, 6, "\xff\xff\xff\xff\xff\xff"}, {1 << 48, 6, ""},
		{0x01020304050607, 7, "\x01\x02\x03\x04\x05\x06\x07"}, {1<<56 - 1, 7, "\xff\xff\xff\xff\xff\xff\xff"}, {1 << 56, 7, ""},
		{api.Top, 7, "\x20\x00\x00\x00\x00\x00\x00"}, {api.Top + 1, 7, "\x20\x00\x00\x00\x00\x00\x01"}, {api.Top, 6, ""},
		{math.MaxInt, 7, ""}, {math.MaxInt, 8, ""}, {-1, 1, ""}, {-1, 7, ""}, {-256, 2, ""}, {math.MinInt, 7, ""}, {math.MinInt, 1, ""},
		{0, 0, ""}, {1, 0, ""}, {0, -1, ""}, {1, -1, ""}, {0, 8, ""}, {1, 8, ""}, {258, 8, ""}, {0, math.MinInt, ""}, {0, math.MaxInt, ""},
	} {
		if got := code.Num(r.n, r.width); got != r.want {
			t.Errorf("Num(%d, %d): %q, want %q", r.n, r.width, got, r.want)
		}
	}
}

// P7.1: as numbers without an end are told, at every edge.
func TestNumIsTheNumber(t *testing.T) {
	for _, n := range numbers() {
		for _, width := range widths {
			if got, want := code.Num(n, width), told(n, width); got != want {
				t.Fatalf("Num(%d, %d): %q, want %q", n, width, got, want)
			}
		}
	}
}

// P7.1: all that two bytes can tell, and what is beyond.
func TestNumOfAllThatAreShort(t *testing.T) {
	for n := -300; n < 1<<16+300; n++ {
		for width := 1; width <= 3; width++ {
			if got, want := code.Num(n, width), told(n, width); got != want {
				t.Fatalf("Num(%d, %d): %q, want %q", n, width, got, want)
			}
		}
	}
}

// P7.2: the bytes from a place on, if they are all there.
func TestTake(t *testing.T) {
	const s = "\x00\x01\x02\x80\xff\xfe\xfd\xfc"
	for _, r := range []struct {
		s         string
		at, width int
		want      int
		ok        bool
	}{
		{s, 0, 3, 258, true}, {s, 0, 1, 0, true}, {s, 1, 1, 1, true}, {s, 3, 1, 128, true}, {s, 4, 1, 255, true}, {s, 7, 1, 252, true},
		{s, 0, 2, 1, true}, {s, 1, 2, 258, true}, {s, 3, 2, 0x80FF, true}, {s, 6, 2, 0xFDFC, true}, {s, 7, 2, 0, false},
		{s, 0, 7, 0x01_0280_FFFE_FD, true}, {s, 1, 7, 0x0102_80FF_FEFD_FC, true}, {s, 2, 7, 0, false}, {s, 2, 6, 0x0280_FFFE_FDFC, true},
		{s, 3, 6, 0, false}, {s, 4, 4, 0xFFFE_FDFC, true}, {s, 5, 4, 0, false}, {s, 8, 1, 0, false}, {s, 9, 1, 0, false},
		{s, -1, 1, 0, false}, {s, -1, 2, 0, false}, {s, -3, 7, 0, false}, {s, 0, 0, 0, false}, {s, 3, 0, 0, false}, {s, 8, 0, 0, false},
		{s, 0, 8, 0, false}, {s, 1, -1, 0, false}, {s, 0, 9, 0, false}, {s, 9, -1, 0, false},
		{"", 0, 1, 0, false}, {"", 0, 0, 0, false}, {"", 1, -1, 0, false}, {"\x07", 0, 1, 7, true}, {"\x07", 0, 2, 0, false},
		{s, math.MaxInt, 1, 0, false}, {s, math.MaxInt - 6, 7, 0, false}, {s, math.MaxInt - 7, 7, 0, false},
		{s, math.MinInt, 1, 0, false}, {s, math.MinInt, 7, 0, false}, {s, 0, math.MaxInt, 0, false}, {s, 0, math.MinInt, 0, false},
		{s, 2, math.MinInt, 0, false}, {s, math.MaxInt, math.MaxInt, 0, false}, {s, math.MinInt, math.MinInt, 0, false},
		{"\xff\xff\xff\xff\xff\xff\xff", 0, 7, 1<<56 - 1, true}, {"\xff\xff\xff\xff\xff\xff\xff\xff", 0, 8, 0, false},
	} {
		if got, ok := code.Take(r.s, r.at, r.width); got != r.want || ok != r.ok {
			t.Errorf("Take(%q, %d, %d): %d, %v, want %d, %v", r.s, r.at, r.width, got, ok, r.want, r.ok)
		}
	}
}

// P7.2: as numbers without an end are read, wherever they stand.
func TestTakeIsTheNumber(t *testing.T) {
	rnd := rand.New(rand.NewSource(72))
	for _, length := range []int{0, 1, 2, 3, 6, 7, 8, 9, 15, 64, 65} {
		s := noise(rnd, length)
		places := []int{math.MinInt, -8, -7, -2, -1, math.MaxInt - 8, math.MaxInt - 7, math.MaxInt - 1, math.MaxInt}
		for at := range length + 3 {
			places = append(places, at)
		}
		for _, at := range places {
			for _, width := range widths {
				want, there := 0, isWidth(width) && at >= 0 && at <= length && at+width <= length
				if there {
					want = int(new(big.Int).SetBytes([]byte(s[at : at+width])).Int64())
				}
				if got, ok := code.Take(s, at, width); got != want || ok != there {
					t.Fatalf("Take(%q, %d, %d): %d, %v, want %d, %v", s, at, width, got, ok, want, there)
				}
			}
		}
	}
}

// P7.3: one behind the other, each in the width at its place.
func TestPack(t *testing.T) {
	packed(t, nil, nil, "")
	packed(t, []int{}, nil, "")
	packed(t, nil, []int{}, "")
	packed(t, []int{258}, []int{3}, "\x00\x01\x02")
	packed(t, []int{1, 258, 3}, []int{1, 3, 2}, "\x01\x00\x01\x02\x00\x03")
	packed(t, []int{3, 258, 1}, []int{2, 3, 1}, "\x00\x03\x00\x01\x02\x01")
	packed(t, []int{0, 0, 0}, []int{1, 2, 7}, strings.Repeat("\x00", 10))
	packed(t, []int{255, 65535, 1<<56 - 1}, []int{1, 2, 7}, strings.Repeat("\xff", 10))
	packed(t, []int{68, 80, 7}, []int{1, 1, 1}, "DP\x07")
}

// P7.3: nothing, if one can't be told, wherever it stands.
func TestPackOfWhatCannotBeTold(t *testing.T) {
	for _, wrong := range []struct{ n, width int }{
		{-1, 1}, {256, 1}, {65536, 2}, {1 << 56, 7}, {math.MinInt, 7}, {math.MaxInt, 7}, {-1, 7},
		{0, 0}, {1, 0}, {0, 8}, {1, 8}, {0, -1}, {1, math.MinInt}, {1, math.MaxInt},
	} {
		for place := range 5 {
			nums, widths := []int{1, 2, 3, 4, 5}, []int{1, 2, 3, 4, 5}
			nums[place], widths[place] = wrong.n, wrong.width
			unpackable(t, nums, widths)
		}
		unpackable(t, []int{wrong.n}, []int{wrong.width})
	}
}

// P7.3: nothing, if there are not as many widths as numbers.
func TestPackOfOtherCounts(t *testing.T) {
	for count := range 5 {
		for other := range 5 {
			if count == other {
				packed(t, same(1, count), same(1, other), strings.Repeat("\x01", count))
			} else {
				unpackable(t, same(1, count), same(1, other))
			}
		}
	}
	unpackable(t, same(1, 64), same(1, 63))
	unpackable(t, same(1, 63), same(1, 64))
	unpackable(t, same(1, 64), same(1, 65))
	unpackable(t, same(1, 65), same(1, 64))
	unpackable(t, nil, []int{0})
	unpackable(t, []int{0}, nil)
}

// P7.3: 64 may be, of any width, and no more.
func TestPackMost(t *testing.T) {
	for width := 1; width <= 7; width++ {
		one := told(most(width), width)
		for _, count := range []int{1, 9, 10, 63, 64} {
			packed(t, same(most(width), count), same(width, count), strings.Repeat(one, count))
		}
		for _, count := range []int{65, 66, 128, 1000} {
			unpackable(t, same(most(width), count), same(width, count))
		}
	}
}

// P7.3: as it is told one by one.
func TestPackIsARow(t *testing.T) {
	rnd := rand.New(rand.NewSource(73))
	for range 4000 {
		widths := some(rnd, rnd.Intn(67))
		nums := within(rnd, widths)
		if len(nums) > 0 && rnd.Intn(2) == 0 {
			place := rnd.Intn(len(nums))
			nums[place] = most(widths[place]) - 1 + rnd.Intn(4)
		}
		if len(nums) > 0 && rnd.Intn(8) == 0 {
			widths[rnd.Intn(len(nums))] = rnd.Intn(10) - 1
		}
		if want, ok := row(nums, widths); ok {
			packed(t, nums, widths, want)
		} else {
			unpackable(t, nums, widths)
		}
	}
}

// P7.4: the numbers, one behind the other.
func TestUnpack(t *testing.T) {
	unpacked(t, "", nil, nil)
	unpacked(t, "", []int{}, nil)
	unpacked(t, "\x00\x01\x02", []int{3}, []int{258})
	unpacked(t, "\x00\x01\x02", []int{1, 2}, []int{0, 258})
	unpacked(t, "\x00\x01\x02", []int{2, 1}, []int{1, 2})
	unpacked(t, "\x00\x01\x02", []int{1, 1, 1}, []int{0, 1, 2})
	unpacked(t, "\x01\x00\x01\x02\x00\x03", []int{1, 3, 2}, []int{1, 258, 3})
	unpacked(t, strings.Repeat("\xff", 10), []int{1, 2, 7}, []int{255, 65535, 1<<56 - 1})
	unpacked(t, strings.Repeat("\x00", 28), []int{1, 2, 3, 4, 5, 6, 7}, same(0, 7))
}

// P7.4: nothing, if a text is not just so long.
func TestUnpackOfAnotherLength(t *testing.T) {
	rnd := rand.New(rand.NewSource(74))
	rows := [][]int{nil, {1}, {7}, {3, 4}, {1, 1, 1}, {7, 1}, same(1, 64), same(7, 64)}
	for _, widths := range rows {
		for length := range total(widths) + 10 {
			s := noise(rnd, length)
			if length != total(widths) {
				nothing(t, s, widths)
			} else if _, ok := code.Unpack(s, widths); !ok {
				t.Errorf("Unpack(%q, %v): nothing", s, widths)
			}
		}
	}
}

// P7.4: nothing, if a width is none, wherever it stands, also where the text is
// just as long as the widths are in all.
func TestUnpackOfNoWidth(t *testing.T) {
	for _, wrong := range widths {
		if isWidth(wrong) {
			continue
		}
		for place := range 5 {
			widths := []int{7, 7, 7, 7, 7}
			widths[place] = wrong
			for length := range 60 {
				nothing(t, strings.Repeat("\x01", length), widths)
			}
		}
		nothing(t, "", []int{wrong})
		nothing(t, "\x01", []int{wrong})
		nothing(t, "\x01", []int{1, wrong})
		nothing(t, "\x01", []int{wrong, 1})
	}
	nothing(t, "\x01\x01", []int{3, -1})
	nothing(t, "\x01\x01", []int{-1, 3})
	nothing(t, "\x01\x01\x01\x01\x01\x01\x01\x01", []int{8})
	nothing(t, "", []int{1, -1})
	nothing(t, "\x01", []int{math.MaxInt, math.MaxInt, 3})
}

// P7.4: 64 widths may be, and no more.
func TestUnpackMost(t *testing.T) {
	for width := 1; width <= 7; width++ {
		one := told(most(width)-1, width)
		for _, count := range []int{1, 9, 10, 63, 64} {
			unpacked(t, strings.Repeat(one, count), same(width, count), same(most(width)-1, count))
		}
		for _, count := range []int{65, 66, 128, 1000} {
			nothing(t, strings.Repeat(one, count), same(width, count))
			nothing(t, strings.Repeat(one, 64), same(width, count))
		}
	}
}

// P7.5: what is packed is unpacked as it was.
func TestWhatIsPackedIsUnpacked(t *testing.T) {
	rnd := rand.New(rand.NewSource(75))
	for range 4000 {
		widths := some(rnd, rnd.Intn(65))
		nums := within(rnd, widths)
		s, ok := code.Pack(nums, widths)
		if !ok || len(s) != total(widths) {
			t.Fatalf("Pack(%v, %v): %q, %v", nums, widths, s, ok)
		}
		unpacked(t, s, widths, nums)
	}
}

// P7.5: what is unpacked is packed as it was, whatever bytes there were.
func TestWhatIsUnpackedIsPacked(t *testing.T) {
	rnd := rand.New(rand.NewSource(76))
	for range 4000 {
		widths := some(rnd, rnd.Intn(65))
		s := noise(rnd, total(widths))
		nums, ok := code.Unpack(s, widths)
		if !ok || len(nums) != len(widths) {
			t.Fatalf("Unpack(%q, %v): %v, %v", s, widths, nums, ok)
		}
		packed(t, nums, widths, s)
	}
}

// P7.5: of one number likewise: what Num tells Take takes, wherever it stands.
func TestWhatIsToldIsTaken(t *testing.T) {
	for _, n := range numbers() {
		for width := 1; width <= 7; width++ {
			s := code.Num(n, width)
			if s == "" {
				continue
			}
			for ahead := range 3 {
				if got, ok := code.Take("\xa5\xa5"[:ahead]+s+"\x5a", ahead, width); !ok || got != n {
					t.Fatalf("Take of Num(%d, %d): %d, %v", n, width, got, ok)
				}
			}
		}
	}
}

// roomy is l with room behind its end, and the whole with that room.
func roomy(l []int) (short, whole []int) {
	whole = append(slices.Clone(l), 1, 2, 3, 4)
	return whole[:len(l)], whole
}

// R3: neither a list nor the room behind its end is changed.
func TestNothingHandedInIsChanged(t *testing.T) {
	nums, allNums := roomy([]int{1, 258, 3})
	widths, allWidths := roomy([]int{1, 3, 2})
	keptNums, keptWidths := slices.Clone(allNums), slices.Clone(allWidths)
	packed(t, nums, widths, "\x01\x00\x01\x02\x00\x03")
	unpacked(t, "\x01\x00\x01\x02\x00\x03", widths, []int{1, 258, 3})
	unpackable(t, nums, widths[:2])
	nothing(t, "\x01\x00\x01\x02\x00\x03\x04", widths)
	if !slices.Equal(allNums, keptNums) || !slices.Equal(allWidths, keptWidths) {
		t.Errorf("changed: %v, %v", allNums, allWidths)
	}
}

// R3: an answer shares no memory with what was handed in, nor with another
// answer.
func TestAnswersAreNewMemory(t *testing.T) {
	const s = "\x01\x00\x01\x02\x00\x03"
	widths, all := roomy([]int{1, 3, 2})
	kept := slices.Clone(all)
	one, _ := code.Unpack(s, widths)
	two, _ := code.Unpack(s, widths)
	one = one[:cap(one)]
	for i := range one {
		one[i] = -99
	}
	if !slices.Equal(two, []int{1, 258, 3}) || !slices.Equal(all, kept) {
		t.Errorf("changed by an answer: %v, %v", two, all)
	}
}

// R4: nothing is kept from call to call.
func TestNothingIsKept(t *testing.T) {
	rnd := rand.New(rand.NewSource(77))
	for range 200 {
		widths := some(rnd, rnd.Intn(65))
		nums := within(rnd, widths)
		s, _ := code.Pack(nums, widths)
		unpackable(t, same(-1, 3), same(1, 3))
		nothing(t, "\x01", nil)
		code.Take("\xff\xff", 0, 2)
		packed(t, nums, widths, s)
		unpacked(t, s, widths, nums)
	}
}

// The chapter's example.
func TestExample(t *testing.T) {
	if got := []byte(code.Num(258, 3)); !slices.Equal(got, []byte{0, 1, 2}) {
		t.Errorf("258 in 3 bytes: %v", got)
	}
}
