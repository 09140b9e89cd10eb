package wire_test

import (
	"encoding/binary"
	"encoding/hex"
	"math"
	"math/rand"
	"slices"
	"strings"
	"testing"

	"anchorite/api"
	"anchorite/wire"
)

// sample is n bytes that are unlike those beside them.
func sample(n int) []byte {
	b := make([]byte, n)
	for i := range b {
		b[i] = byte(7*i + 1)
	}
	return b
}

func sameLists(a, b [][]byte) bool { return slices.EqualFunc(a, b, slices.Equal[[]byte]) }

// P1.1

func TestPut(t *testing.T) {
	for _, c := range []struct {
		n    uint64
		size int
		want []byte
	}{
		{258, 2, []byte{2, 1}},
		{0, 1, []byte{0}},
		{255, 1, []byte{255}},
		{0, 8, make([]byte, 8)},
		{5, 3, []byte{5, 0, 0}},
		{0x030201, 3, []byte{1, 2, 3}},
		{0x0807060504030201, 8, []byte{1, 2, 3, 4, 5, 6, 7, 8}},
		{math.MaxUint64, 8, []byte{255, 255, 255, 255, 255, 255, 255, 255}},
	} {
		if b, e := wire.Put(c.n, c.size); e != api.OK || !slices.Equal(b, c.want) {
			t.Errorf("Put(%d, %d): %v, %v", c.n, c.size, b, e)
		}
	}
}

func TestPutRefusesSizes(t *testing.T) {
	for _, size := range []int{math.MinInt, -8, -1, 0, 9, 16, 64, math.MaxInt} {
		for _, n := range []uint64{0, 1, math.MaxUint64} {
			if b, e := wire.Put(n, size); e != api.ErrArg || len(b) != 0 {
				t.Errorf("Put(%d, %d): %v, %v", n, size, b, e)
			}
		}
	}
}

func TestPutHasRoomForJustSoMuch(t *testing.T) {
	for size := 1; size <= 7; size++ {
		none := uint64(1) << (8 * size)
		for _, n := range []uint64{none, none + 1, math.MaxUint64} {
			if b, e := wire.Put(n, size); e != api.ErrArg || len(b) != 0 {
				t.Errorf("Put(%d, %d): %v, %v", n, size, b, e)
			}
		}
		b, e := wire.Put(none-1, size)
		if e != api.OK || len(b) != size || slices.ContainsFunc(b, func(c byte) bool { return c != 255 }) {
			t.Errorf("Put(%d, %d): %v, %v", none-1, size, b, e)
		}
	}
}

func TestGet(t *testing.T) {
	for _, c := range []struct {
		b    []byte
		want uint64
	}{
		{[]byte{2, 1}, 258},
		{[]byte{0}, 0},
		{[]byte{255}, 255},
		{[]byte{1, 0, 0}, 1},
		{[]byte{1, 2, 3, 4, 5, 6, 7, 8}, 0x0807060504030201},
		{[]byte{255, 255, 255, 255, 255, 255, 255, 255}, math.MaxUint64},
	} {
		if n, e := wire.Get(c.b); e != api.OK || n != c.want {
			t.Errorf("Get(%v): %d, %v", c.b, n, e)
		}
	}
	for _, b := range [][]byte{nil, {}, sample(9), sample(16), sample(1000)} {
		if n, e := wire.Get(b); e != api.ErrArg || n != 0 {
			t.Errorf("Get of %d bytes: %d, %v", len(b), n, e)
		}
	}
}

func TestTurned(t *testing.T) {
	for _, c := range [][2][]byte{
		{nil, nil},
		{{}, nil},
		{{5}, {5}},
		{{1, 2}, {2, 1}},
		{{1, 2, 3}, {3, 2, 1}},
		{{1, 2, 3, 4, 5, 6, 7, 8, 9}, {9, 8, 7, 6, 5, 4, 3, 2, 1}},
	} {
		if b := wire.Turned(c[0]); !slices.Equal(b, c[1]) {
			t.Errorf("Turned(%v): %v", c[0], b)
		}
	}
}

func TestWord(t *testing.T) {
	b := []byte{1, 2, 3, 4, 5, 6, 7, 8, 9, 10}
	for _, c := range []struct {
		b    []byte
		i    int
		want uint64
	}{
		{b, 0, 0x0807060504030201},
		{b, 1, 0x0a09},
		{b, 2, 0},
		{b, 3, 0},
		{b, -1, 0},
		{b, math.MinInt, 0},
		{b, math.MaxInt, 0},
		{b, math.MaxInt/8 + 1, 0},
		{b, math.MinInt / 8, 0},
		{b[:8], 0, 0x0807060504030201},
		{b[:8], 1, 0},
		{b[:7], 0, 0x07060504030201},
		{b[:1], 0, 1},
		{b[:9], 1, 9},
		{nil, 0, 0},
		{nil, 1, 0},
		{nil, -1, 0},
		{[]byte{255, 255, 255, 255, 255, 255, 255, 255}, 0, math.MaxUint64},
	} {
		if n := wire.Word(c.b, c.i); n != c.want {
			t.Errorf("Word(%v, %d): %#x", c.b, c.i, n)
		}
	}
}

// 8 i is 0 or 8 again where i is a great number: it must not be taken for that place.
func TestWordDoesNotWrapRound(t *testing.T) {
	b := sample(32)
	round := math.MaxInt/4 + 1
	for _, i := range []int{round, round + 1, round / 2, round/2 + 1, -round, -round + 1, math.MinInt, math.MinInt + 1} {
		if n := wire.Word(b, i); n != 0 {
			t.Errorf("Word(.., %d): %#x", i, n)
		}
	}
}

func TestNumbersAreAsTheLibrarySays(t *testing.T) {
	r := rand.New(rand.NewSource(1))
	for range 2000 {
		n := r.Uint64() >> r.Intn(64)
		want := binary.LittleEndian.AppendUint64(nil, n)
		if b, e := wire.Put(n, 8); e != api.OK || !slices.Equal(b, want) {
			t.Fatalf("Put(%d, 8): %v, %v", n, b, e)
		}
		if got := wire.Word(append(sample(16), want...), 2); got != n {
			t.Fatalf("Word of %d: %d", n, got)
		}
		big := binary.BigEndian.AppendUint64(nil, n)
		if b := wire.Turned(want); !slices.Equal(b, big) {
			t.Fatalf("Turned of %d: %v", n, b)
		}
	}
}

// P1.2

func TestJoin(t *testing.T) {
	for _, c := range []struct {
		l    [][]byte
		want []byte
	}{
		{nil, nil},
		{[][]byte{nil}, nil},
		{[][]byte{nil, {}, nil}, nil},
		{[][]byte{{1, 2}}, []byte{1, 2}},
		{[][]byte{{1}, nil, {2, 3}, {}, {4}}, []byte{1, 2, 3, 4}},
		{[][]byte{{1, 2}, {1, 2}}, []byte{1, 2, 1, 2}},
	} {
		if b := wire.Join(c.l...); !slices.Equal(b, c.want) {
			t.Errorf("Join(%v): %v", c.l, b)
		}
	}
	if b := wire.Join(make([][]byte, api.MaxFrames+1)...); len(b) != 0 {
		t.Error("Join of many empty lists:", b)
	}
	if b := wire.Join(sample(api.MaxFrame+1), sample(1)); len(b) != api.MaxFrame+2 {
		t.Error("Join has no bound of a frame:", len(b))
	}
}

func TestCut(t *testing.T) {
	for _, c := range []struct {
		b     []byte
		sizes []int
		want  [][]byte
	}{
		{nil, nil, nil},
		{nil, []int{0}, [][]byte{nil}},
		{nil, []int{0, 0}, [][]byte{nil, nil}},
		{[]byte{1, 2, 3}, []int{2, 1}, [][]byte{{1, 2}, {3}}},
		{[]byte{1, 2, 3}, []int{3}, [][]byte{{1, 2, 3}}},
		{[]byte{1, 2, 3}, []int{0, 1, 0, 2, 0}, [][]byte{nil, {1}, nil, {2, 3}, nil}},
	} {
		if l, e := wire.Cut(c.b, c.sizes...); e != api.OK || !sameLists(l, c.want) {
			t.Errorf("Cut(%v, %v): %v, %v", c.b, c.sizes, l, e)
		}
	}
}

func TestCutRefuses(t *testing.T) {
	for _, c := range []struct {
		b     []byte
		sizes []int
		want  api.Errno
	}{
		{[]byte{1}, []int{2}, api.ErrBytes},
		{[]byte{1}, nil, api.ErrBytes},
		{[]byte{1}, []int{0}, api.ErrBytes},
		{nil, []int{1}, api.ErrBytes},
		{[]byte{1, 2, 3}, []int{2}, api.ErrBytes},
		{[]byte{1, 2, 3}, []int{3, 1}, api.ErrBytes},
		{[]byte{1, 2, 3}, []int{1, 3}, api.ErrBytes},
		{[]byte{1, 2, 3}, []int{math.MaxInt}, api.ErrBytes},
		{[]byte{1, 2, 3}, []int{1, math.MaxInt}, api.ErrBytes},
		{nil, []int{math.MaxInt, math.MaxInt, 2}, api.ErrBytes},
		{[]byte{1, 2, 3}, []int{-1}, api.ErrArg},
		{[]byte{1, 2, 3}, []int{3, math.MinInt}, api.ErrArg},
		{[]byte{1, 2, 3}, []int{4, -1}, api.ErrArg},
		{[]byte{1, 2, 3}, []int{9, 9, -1, 9}, api.ErrArg},
		{[]byte{1, 2, 3}, []int{-1, 4}, api.ErrArg},
		{nil, []int{-1, 1}, api.ErrArg},
	} {
		if l, e := wire.Cut(c.b, c.sizes...); e != c.want || len(l) != 0 {
			t.Errorf("Cut(%v, %v): %v, %v", c.b, c.sizes, l, e)
		}
	}
}

func TestSame(t *testing.T) {
	for _, c := range []struct {
		a, b []byte
		want bool
	}{
		{nil, nil, true},
		{nil, []byte{}, true},
		{[]byte{}, nil, true},
		{nil, []byte{0}, false},
		{[]byte{0}, nil, false},
		{[]byte{1, 2}, []byte{1, 2}, true},
		{[]byte{1, 2}, []byte{1, 3}, false},
		{[]byte{2, 2}, []byte{1, 2}, false},
		{[]byte{1, 2}, []byte{1, 2, 0}, false},
		{[]byte{1, 2}, []byte{1}, false},
	} {
		if got := wire.Same(c.a, c.b); got != c.want {
			t.Errorf("Same(%v, %v): %v", c.a, c.b, got)
		}
	}
}

// P1.3

func TestPack(t *testing.T) {
	for _, c := range []struct {
		l    [][]byte
		want []byte
	}{
		{nil, nil},
		{[][]byte{{7}, nil}, []byte{1, 0, 0, 0, 7, 0, 0, 0, 0}},
		{[][]byte{nil}, []byte{0, 0, 0, 0}},
		{[][]byte{{}}, []byte{0, 0, 0, 0}},
		{[][]byte{{3, 4}, {5}}, []byte{2, 0, 0, 0, 3, 4, 1, 0, 0, 0, 5}},
		{[][]byte{sample(258)}, append([]byte{2, 1, 0, 0}, sample(258)...)},
		{[][]byte{sample(65536)}, append([]byte{0, 0, 1, 0}, sample(65536)...)},
	} {
		if b, e := wire.Pack(c.l...); e != api.OK || !slices.Equal(b, c.want) {
			t.Errorf("Pack of %d lists: %d bytes, %v", len(c.l), len(b), e)
		}
	}
}

func TestPackBounds(t *testing.T) {
	most := make([][]byte, api.MaxFrames)
	for i := range most {
		most[i] = sample(api.MaxFrame)
	}
	if b, e := wire.Pack(most...); e != api.OK || len(b) != api.MaxFrames*(4+api.MaxFrame) {
		t.Error("the most and the longest:", len(b), e)
	}
	for _, l := range [][][]byte{
		make([][]byte, api.MaxFrames+1),
		make([][]byte, 10*api.MaxFrames),
		{sample(api.MaxFrame + 1)},
		{nil, {1}, sample(api.MaxFrame + 1)},
		{sample(api.MaxFrame + 1), nil},
		append(slices.Clone(most[1:]), sample(api.MaxFrame+1)),
	} {
		if b, e := wire.Pack(l...); e != api.ErrArg || len(b) != 0 {
			t.Errorf("Pack of %d lists: %d bytes, %v", len(l), len(b), e)
		}
	}
}

func TestUnpack(t *testing.T) {
	for _, c := range []struct {
		b    []byte
		want [][]byte
	}{
		{nil, nil},
		{[]byte{}, nil},
		{[]byte{0, 0, 0, 0}, [][]byte{nil}},
		{[]byte{1, 0, 0, 0, 7, 0, 0, 0, 0}, [][]byte{{7}, nil}},
		{[]byte{0, 0, 0, 0, 2, 0, 0, 0, 8, 9}, [][]byte{nil, {8, 9}}},
		{append([]byte{0, 0, 1, 0}, sample(65536)...), [][]byte{sample(65536)}},
		{make([]byte, 4*api.MaxFrames), make([][]byte, api.MaxFrames)},
	} {
		if l, e := wire.Unpack(c.b); e != api.OK || !sameLists(l, c.want) {
			t.Errorf("Unpack of %d bytes: %d lists, %v", len(c.b), len(l), e)
		}
	}
}

func TestUnpackRefuses(t *testing.T) {
	for i, b := range [][]byte{
		{0}, {0, 0}, {0, 0, 0},
		{1, 0, 0, 0},
		{2, 0, 0, 0, 7},
		{0, 0, 0, 0, 0},
		{1, 0, 0, 0, 7, 0, 0, 0},
		{1, 0, 0, 0, 7, 1, 0, 0, 0},
		{0, 0, 0, 1, 5}, // turned
		{1, 0, 1, 0, 5},
		{255, 255, 255, 255},
		{255, 255, 255, 255, 1, 2, 3},
		{252, 255, 255, 255, 1, 2, 3}, // 4 more wrap round to 0 in 32 bits
		{0, 0, 0, 128, 1},
		append([]byte{1, 0, 1, 0}, sample(api.MaxFrame+1)...),
		append([]byte{0, 0, 1, 0}, sample(api.MaxFrame-1)...),
		make([]byte, 4*api.MaxFrames+4),
		make([]byte, 4*api.MaxFrames+1),
		make([]byte, 400*api.MaxFrames),
	} {
		if l, e := wire.Unpack(b); e != api.ErrBytes || len(l) != 0 {
			t.Errorf("%d: Unpack of %d bytes: %d lists, %v", i, len(b), len(l), e)
		}
	}
}

// P1.4

func TestHex(t *testing.T) {
	for _, c := range []struct {
		b    []byte
		want string
	}{
		{nil, ""},
		{[]byte{}, ""},
		{[]byte{255, 1}, "ff01"},
		{[]byte{0}, "00"},
		{[]byte{0x12, 0x3a, 0xb4, 0xcd, 0xef}, "123ab4cdef"},
		{[]byte{0x09, 0x90, 0x0a, 0xa0, 0x0f, 0xf0}, "09900aa00ff0"},
	} {
		if s := wire.Hex(c.b); s != c.want {
			t.Errorf("Hex(%v): %q", c.b, s)
		}
		if b, e := wire.Unhex(c.want); e != api.OK || !slices.Equal(b, c.b) {
			t.Errorf("Unhex(%q): %v, %v", c.want, b, e)
		}
	}
	for n := range 256 {
		b := []byte{byte(n)}
		if s := wire.Hex(b); s != hex.EncodeToString(b) {
			t.Errorf("Hex(%d): %q", n, s)
		}
	}
}

func TestUnhexRefuses(t *testing.T) {
	for _, s := range []string{
		"f", "0", "000", "ff0", "FF", "F0", "0F", "fF", "A0", "aB", "00C0", "0D00", "E0", "0g", "g0", "G0",
		" 00", "00 ", " ", "  ", "0 0", "0x00", "0x", "-1", "+1", "1_00", "00\n", "0\n", "\x00\x00",
		"é", "éé", "００", "\xff\xff", "00ff0g", "zz00",
	} {
		if b, e := wire.Unhex(s); e != api.ErrBytes || len(b) != 0 {
			t.Errorf("Unhex(%q): %v, %v", s, b, e)
		}
	}
}

// Each byte, in either place: a digit just if it is one of the sixteen.
func TestUnhexTakesJustSixteenDigits(t *testing.T) {
	for n := range 256 {
		c := byte(n)
		at := strings.IndexByte("0123456789abcdef", c)
		for place, s := range []string{string([]byte{c, '0'}), string([]byte{'0', c})} {
			b, e := wire.Unhex(s)
			if at < 0 {
				if e != api.ErrBytes || len(b) != 0 {
					t.Errorf("Unhex(%q): %v, %v", s, b, e)
				}
				continue
			}
			if want := []byte{byte(at << (4 - 4*place))}; e != api.OK || !slices.Equal(b, want) {
				t.Errorf("Unhex(%q): %v, %v", s, b, e)
			}
		}
	}
}

// P1.5

func TestGetOfPut(t *testing.T) {
	r := rand.New(rand.NewSource(2))
	for size := 1; size <= 8; size++ {
		numbers := []uint64{0, 1, math.MaxUint64 >> (64 - 8*size)}
		for range 200 {
			numbers = append(numbers, r.Uint64()>>(64-8*size))
		}
		for _, n := range numbers {
			b, e := wire.Put(n, size)
			if e != api.OK || len(b) != size {
				t.Fatalf("Put(%d, %d): %v, %v", n, size, b, e)
			}
			if got, e := wire.Get(b); e != api.OK || got != n {
				t.Fatalf("Get(Put(%d, %d)): %d, %v", n, size, got, e)
			}
		}
	}
}

// allLists are the lists of at most 3 lists of at most 2 bytes, each 0 or 1:
// bytes that a frame's number is made of too.
func allLists() [][][]byte {
	single := [][]byte{nil, {0}, {1}, {0, 0}, {0, 1}, {1, 0}, {1, 1}}
	out, last := [][][]byte{nil}, [][][]byte{nil}
	for range 3 {
		var next [][][]byte
		for _, l := range last {
			for _, b := range single {
				next = append(next, append(slices.Clone(l), b))
			}
		}
		out, last = append(out, next...), next
	}
	return out
}

func TestUnpackOfPack(t *testing.T) {
	seen := map[string]int{}
	for i, l := range allLists() {
		b, e := wire.Pack(l...)
		if e != api.OK {
			t.Fatalf("Pack(%v): %v", l, e)
		}
		if j, ok := seen[string(b)]; ok {
			t.Errorf("lists %d and %d are packed alike: %v", j, i, b)
		}
		seen[string(b)] = i
		if got, e := wire.Unpack(b); e != api.OK || !sameLists(got, l) {
			t.Errorf("Unpack(Pack(%v)): %v, %v", l, got, e)
		}
	}
	most := make([][]byte, api.MaxFrames)
	for i := range most {
		most[i] = sample(api.MaxFrame - i)
	}
	b, e := wire.Pack(most...)
	if got, f := wire.Unpack(b); e != api.OK || f != api.OK || !sameLists(got, most) {
		t.Error("Unpack of Pack of the most:", len(got), e, f)
	}
}

// Bytes that Unpack takes are just those that Pack makes of what it answers.
func TestPackOfUnpack(t *testing.T) {
	r := rand.New(rand.NewSource(3))
	taken := 0
	for range 20000 {
		b := make([]byte, r.Intn(24))
		for i := range b {
			if r.Intn(4) == 0 {
				b[i] = byte(r.Intn(6))
			}
		}
		l, e := wire.Unpack(b)
		if e == api.ErrBytes && len(l) == 0 {
			continue
		}
		taken++
		if got, f := wire.Pack(l...); e != api.OK || f != api.OK || !slices.Equal(got, b) {
			t.Fatalf("Pack(Unpack(%v)): %v, %v, %v", b, got, e, f)
		}
	}
	if taken < 100 || taken > 19900 {
		t.Error("too few of a kind:", taken)
	}
}

func TestUnhexOfHex(t *testing.T) {
	r := rand.New(rand.NewSource(4))
	for n := range 300 {
		b := make([]byte, n)
		r.Read(b)
		s := wire.Hex(b)
		if s != hex.EncodeToString(b) {
			t.Fatalf("Hex(%v): %q", b, s)
		}
		if got, e := wire.Unhex(s); e != api.OK || !slices.Equal(got, b) {
			t.Fatalf("Unhex(%q): %v, %v", s, got, e)
		}
	}
}

func TestJoinOfCut(t *testing.T) {
	b := sample(40)
	for i := range 41 {
		for j := range 41 - i {
			l, e := wire.Cut(b, i, j, 40-i-j)
			if e != api.OK || len(l) != 3 || len(l[0]) != i || len(l[1]) != j || !slices.Equal(wire.Join(l...), b) {
				t.Fatalf("Cut(.., %d, %d): %v, %v", i, j, l, e)
			}
		}
	}
}

// Rules for all layers

// spoil writes over all that can be reached by b, to the end of its capacity.
func spoil(b []byte) {
	b = b[:cap(b)]
	for i := range b {
		b[i] ^= 255
	}
}

func TestAnswersAreNewMemory(t *testing.T) {
	for name, f := range map[string]func(b []byte) [][]byte{
		"Turned": func(b []byte) [][]byte { return [][]byte{wire.Turned(b)} },
		"Join":   func(b []byte) [][]byte { return [][]byte{wire.Join(b)} },
		"Join, none ahead": func(b []byte) [][]byte {
			return [][]byte{wire.Join(nil, b[:0], b, nil)}
		},
		"Pack": func(b []byte) [][]byte {
			p, _ := wire.Pack(b)
			return [][]byte{p}
		},
		"Cut": func(b []byte) [][]byte {
			l, _ := wire.Cut(b, 3, 0, 4, 0, len(b)-7)
			return l
		},
		"Cut, whole": func(b []byte) [][]byte {
			l, _ := wire.Cut(b, len(b))
			return l
		},
		"Unpack": func(b []byte) [][]byte {
			l, _ := wire.Unpack(b)
			return l
		},
	} {
		room := append([]byte{2, 0, 0, 0, 8, 9, 0, 0, 0, 0, 1, 0, 0, 0, 7}, 1, 2, 3, 4, 5)
		given := room[:15]
		kept := slices.Clone(room)
		want := f(slices.Clone(given))
		got := f(given)
		if !slices.Equal(room, kept) {
			t.Error(name, "changes what it is handed")
		}
		if len(got) == 0 || !sameLists(got, want) {
			t.Error(name, got, want)
		}
		for i := range got {
			spoil(got[i])
			if !slices.Equal(room, kept) || !sameLists(got[i+1:], want[i+1:]) {
				t.Error(name, "shares memory")
			}
		}
		got = f(given)
		spoil(given)
		if !sameLists(got, want) {
			t.Error(name, "keeps what it is handed")
		}
	}
}

func TestSizesStayTheCallers(t *testing.T) {
	sizes := []int{1, 2}
	if _, e := wire.Cut([]byte{1, 2, 3}, sizes...); e != api.OK || sizes[0] != 1 || sizes[1] != 2 {
		t.Error(sizes, e)
	}
	l := [][]byte{{1}, nil, {2}}
	wire.Join(l...)
	wire.Pack(l...)
	if !sameLists(l, [][]byte{{1}, nil, {2}}) {
		t.Error(l)
	}
}

func TestAnyInput(t *testing.T) {
	r := rand.New(rand.NewSource(5))
	odd := []int{math.MinInt, math.MinInt + 1, -9, -1, 0, 1, 2, 7, 8, 9, 63, 64, 65, math.MaxInt32, math.MaxInt - 1, math.MaxInt}
	for range 5000 {
		b := make([]byte, r.Intn(40))
		r.Read(b)
		sizes := make([]int, r.Intn(5))
		for i := range sizes {
			sizes[i] = odd[r.Intn(len(odd))]
		}
		wire.Put(r.Uint64(), odd[r.Intn(len(odd))])
		wire.Get(b)
		wire.Word(b, odd[r.Intn(len(odd))])
		wire.Unpack(b)
		wire.Unhex(string(b))
		if l, e := wire.Cut(b, sizes...); e == api.OK && !slices.Equal(wire.Join(l...), b) {
			t.Fatalf("Cut(%v, %v): %v", b, sizes, l)
		}
	}
}
