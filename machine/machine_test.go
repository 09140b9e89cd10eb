package machine_test

import (
	"encoding/binary"
	"math"
	"math/rand"
	"slices"
	"testing"

	"anchorite/api"
	"anchorite/machine"
)

const size = api.GranuleSize

// sample is n bytes, none of them 0, that are unlike those beside them.
func sample(n int) []byte {
	b := make([]byte, n)
	for i := range b {
		b[i] = byte((13*i+i/size)%255 + 1)
	}
	return b
}

// full is a granule of sample's bytes, each by so many more.
func full(by byte) api.Granule {
	b := api.Granule(sample(size))
	for i := range b {
		b[i] += by
	}
	return b
}

// blank is memory of n granules of noughts.
func blank(t *testing.T, n int) *machine.Memory {
	t.Helper()
	m, e := machine.New(n)
	if e != api.OK || m == nil {
		t.Fatalf("New(%d): %v, %v", n, m, e)
	}
	return m
}

// written is memory of n granules of sample's bytes, and these bytes.
func written(t *testing.T, n int) (*machine.Memory, []byte) {
	t.Helper()
	m, b := blank(t, n), sample(n*size)
	for g := range n {
		if e := m.Put(g, api.Granule(b[g*size:])); e != api.OK {
			t.Fatalf("Put(%d): %v", g, e)
		}
	}
	return m, b
}

// bytesOf is all bytes of m, got granule by granule.
func bytesOf(t *testing.T, m *machine.Memory) []byte {
	t.Helper()
	var out []byte
	for g := range m.Granules() {
		b, e := m.Get(g)
		if e != api.OK {
			t.Fatalf("Get(%d): %v", g, e)
		}
		out = append(out, b[:]...)
	}
	return out
}

// mustHave says of m that its bytes are these, and no others.
func mustHave(t *testing.T, m *machine.Memory, want []byte, what ...any) {
	t.Helper()
	if got := bytesOf(t, m); !slices.Equal(got, want) {
		t.Fatal("other bytes than there should be", what)
	}
}

// item is what Whole tells at a time.
type item struct {
	g int
	b api.Granule
}

func allOf(m *machine.Memory) []item {
	var out []item
	for g, b := range m.Whole() {
		out = append(out, item{g, b})
	}
	return out
}

// none are the memories that are not there.
func none() map[string]*machine.Memory {
	return map[string]*machine.Memory{"nil": nil, "zero": {}}
}

// P6.1

func TestNew(t *testing.T) {
	for _, n := range []int{1, 2, 3, 4095, api.MaxGranules} {
		m := blank(t, n)
		if m.Granules() != n {
			t.Errorf("New(%d): %d granules", n, m.Granules())
		}
		mustHave(t, m, make([]byte, n*size), n)
	}
}

func TestNewRefuses(t *testing.T) {
	for _, n := range []int{0, -1, -2, -api.MaxGranules, math.MinInt, api.MaxGranules + 1, api.MaxGranules + 2, math.MaxInt32, math.MaxInt32 + 2, 1<<32 + 1, math.MaxInt} {
		if m, e := machine.New(n); m != nil || e != api.ErrArg {
			t.Errorf("New(%d): %v, %v", n, m, e)
		}
	}
}

func TestNewOnesAreApart(t *testing.T) {
	a, b := blank(t, 2), blank(t, 2)
	a.Put(0, full(1))
	mustHave(t, b, make([]byte, 2*size))
}

func TestGranulesStayAsMany(t *testing.T) {
	m, _ := written(t, 3)
	m.Scrub(2)
	m.Put(3, full(0))
	m.Write(3*size, []byte{1})
	if m.Granules() != 3 {
		t.Error(m.Granules())
	}
	for name, m := range none() {
		if m.Granules() != 0 {
			t.Error(name, m.Granules())
		}
	}
}

// P6.2

func TestGetOfPut(t *testing.T) {
	for _, n := range []int{1, 2, 5, api.MaxGranules} {
		for _, g := range []int{0, n / 2, n - 1} {
			m, want := written(t, n)
			if e := m.Put(g, full(7)); e != api.OK {
				t.Fatalf("Put(%d) of %d: %v", g, n, e)
			}
			if b, e := m.Get(g); e != api.OK || b != full(7) {
				t.Fatalf("Get(%d) of %d: %v, %v", g, n, b, e)
			}
			put := full(7)
			copy(want[g*size:], put[:])
			mustHave(t, m, want, "Put", g, n)
		}
	}
}

func TestScrub(t *testing.T) {
	for _, n := range []int{1, 2, 5, api.MaxGranules} {
		for _, g := range []int{0, n / 2, n - 1} {
			m, want := written(t, n)
			clear(want[g*size : (g+1)*size])
			for range 2 { // noughts may be scrubbed too
				if e := m.Scrub(g); e != api.OK {
					t.Fatalf("Scrub(%d) of %d: %v", g, n, e)
				}
				mustHave(t, m, want, "Scrub", g, n)
			}
		}
	}
}

func TestGranulesThatThereAreNot(t *testing.T) {
	for _, n := range []int{1, 2, 5, api.MaxGranules} {
		m, want := written(t, n)
		for _, g := range []int{-1, -2, -n, math.MinInt, n, n + 1, 2*n + 7, api.MaxGranules, api.MaxGranules + 1, math.MaxInt32, 1 << 32, 1 << 57, math.MaxInt} {
			if b, e := m.Get(g); e != api.ErrArg || b != (api.Granule{}) {
				t.Errorf("Get(%d) of %d: %v, %v", g, n, b, e)
			}
			if e := m.Put(g, full(3)); e != api.ErrArg {
				t.Errorf("Put(%d) of %d: %v", g, n, e)
			}
			if e := m.Scrub(g); e != api.ErrArg {
				t.Errorf("Scrub(%d) of %d: %v", g, n, e)
			}
		}
		mustHave(t, m, want, n)
	}
}

func TestGranulesOfNoMemory(t *testing.T) {
	for name, m := range none() {
		for _, g := range []int{0, 1, -1, math.MinInt, math.MaxInt} {
			if b, e := m.Get(g); e != api.ErrNil || b != (api.Granule{}) {
				t.Errorf("%s: Get(%d): %v, %v", name, g, b, e)
			}
			if e := m.Put(g, full(3)); e != api.ErrNil {
				t.Errorf("%s: Put(%d): %v", name, g, e)
			}
			if e := m.Scrub(g); e != api.ErrNil {
				t.Errorf("%s: Scrub(%d): %v", name, g, e)
			}
		}
	}
}

// P6.3

func TestExamples(t *testing.T) {
	m := blank(t, 2)
	if e := m.SetWord(8, 258); e != api.OK {
		t.Error("SetWord(8, 258):", e)
	}
	if b, e := m.Read(8, 3); e != api.OK || !slices.Equal(b, []byte{2, 1, 0}) {
		t.Error("Read(8, 3):", b, e)
	}
	if x, e := m.Word(4); x != 0 || e != api.ErrArg {
		t.Error("Word(4):", x, e)
	}
	if x, e := m.Word(256); x != 0 || e != api.ErrNone {
		t.Error("Word(256):", x, e)
	}
	if b, e := m.Read(250, 7); len(b) != 0 || e != api.ErrNone {
		t.Error("Read(250, 7):", b, e)
	}
}

func TestWord(t *testing.T) {
	for _, n := range []int{1, 3} {
		m, b := written(t, n)
		for at := 0; at < n*size; at += 8 {
			if x, e := m.Word(uint64(at)); e != api.OK || x != binary.LittleEndian.Uint64(b[at:]) {
				t.Errorf("Word(%d) of %d: %#x, %v", at, n, x, e)
			}
		}
	}
}

func TestSetWord(t *testing.T) {
	for _, n := range []int{1, 3} {
		for at := 0; at < n*size; at += 8 {
			for _, x := range []uint64{0, 1, 255, 256, 0x0102030405060708, 1 << 63, math.MaxUint64} {
				m, want := written(t, n)
				if e := m.SetWord(uint64(at), x); e != api.OK {
					t.Fatalf("SetWord(%d, %#x) of %d: %v", at, x, n, e)
				}
				binary.LittleEndian.PutUint64(want[at:], x)
				mustHave(t, m, want, "SetWord", at, x)
				if got, e := m.Word(uint64(at)); e != api.OK || got != x {
					t.Fatalf("Word(%d) behind SetWord(%#x): %#x, %v", at, x, got, e)
				}
			}
		}
	}
}

func TestLastWordOfTheMost(t *testing.T) {
	m := blank(t, api.MaxGranules)
	last := uint64(api.MaxGranules*size - 8)
	if e := m.SetWord(last, math.MaxUint64); e != api.OK {
		t.Error(e)
	}
	if x, e := m.Word(last); e != api.OK || x != math.MaxUint64 {
		t.Error(x, e)
	}
	if e := m.SetWord(last+8, 1); e != api.ErrNone {
		t.Error(e)
	}
	if x, e := m.Word(last + 8); e != api.ErrNone || x != 0 {
		t.Error(x, e)
	}
}

func TestWordsThatThereAreNot(t *testing.T) {
	for _, n := range []int{1, 2, 16} {
		m, want := written(t, n)
		end := uint64(n * size)
		// What is no multiple of 8 is told first, wherever it is.
		for at, e := range map[uint64]api.Errno{
			1: api.ErrArg, 4: api.ErrArg, 7: api.ErrArg, 9: api.ErrArg, size - 4: api.ErrArg,
			end - 1: api.ErrArg, end - 4: api.ErrArg, end - 7: api.ErrArg,
			end + 1: api.ErrArg, end + 4: api.ErrArg, 1<<32 + 4: api.ErrArg,
			math.MaxUint64: api.ErrArg, math.MaxUint64 - 3: api.ErrArg, math.MaxUint64 - 8: api.ErrArg,
			end: api.ErrNone, end + 8: api.ErrNone, 2*end + 64: api.ErrNone,
			1 << 32: api.ErrNone, 1 << 63: api.ErrNone, 1<<63 + 8: api.ErrNone,
			math.MaxUint64 - 7: api.ErrNone, math.MaxUint64 - 15: api.ErrNone,
		} {
			if x, f := m.Word(at); f != e || x != 0 {
				t.Errorf("Word(%d) of %d: %d, %v", at, n, x, f)
			}
			if f := m.SetWord(at, 5); f != e {
				t.Errorf("SetWord(%d) of %d: %v", at, n, f)
			}
		}
		mustHave(t, m, want, n)
	}
}

// Every place and every number of bytes of a small memory, and some behind its end.
func TestReadAndWriteEverywhere(t *testing.T) {
	const n = 3
	m, all := written(t, n)
	laid := make([]byte, n*size+9)
	for i := range laid {
		laid[i] = byte(i*7 + 100)
	}
	for at := range n*size + 9 {
		for count := range n*size + 9 {
			within := count == 0 || at+count <= n*size
			b, e := m.Read(uint64(at), count)
			if within && (e != api.OK || !slices.Equal(b, all[min(at, len(all)):min(at, len(all))+count])) {
				t.Fatalf("Read(%d, %d): %v, %v", at, count, b, e)
			}
			if !within && (e != api.ErrNone || len(b) != 0) {
				t.Fatalf("Read(%d, %d): %v, %v", at, count, b, e)
			}
			if count%5 > 1 {
				continue
			}
			e = m.Write(uint64(at), laid[:count])
			if within && e != api.OK || !within && e != api.ErrNone {
				t.Fatalf("Write(%d, %d bytes): %v", at, count, e)
			}
			if !within {
				mustHave(t, m, all, "refused", at, count)
			} else if count > 0 {
				want := slices.Clone(all)
				copy(want[at:], laid[:count])
				mustHave(t, m, want, "Write", at, count)
				m.Write(0, all)
			}
		}
	}
	mustHave(t, m, all)
}

func TestReadAndWriteTheMost(t *testing.T) {
	m := blank(t, api.MaxGranules)
	b := sample(api.MaxGranules * size)
	if e := m.Write(0, b); e != api.OK {
		t.Fatal(e)
	}
	mustHave(t, m, b)
	if got, e := m.Read(0, len(b)); e != api.OK || !slices.Equal(got, b) {
		t.Error(len(got), e)
	}
	if got, e := m.Read(uint64(len(b)-1), 1); e != api.OK || len(got) != 1 || got[0] != b[len(b)-1] {
		t.Error(got, e)
	}
	for _, at := range []uint64{1, 127, uint64(len(b))} {
		if got, e := m.Read(at, len(b)); e != api.ErrNone || len(got) != 0 {
			t.Error(at, len(got), e)
		}
		if e := m.Write(at, make([]byte, len(b))); e != api.ErrNone {
			t.Error(at, e)
		}
	}
	if e := m.Write(0, make([]byte, len(b)+1)); e != api.ErrNone {
		t.Error(e)
	}
	mustHave(t, m, b)
}

func TestNoBytesAreWithinWherever(t *testing.T) {
	for _, n := range []int{1, 2, api.MaxGranules} {
		m, want := written(t, n)
		end := uint64(n * size)
		for _, at := range []uint64{0, 1, end - 1, end, end + 1, 1 << 32, 1 << 63, math.MaxUint64 - 1, math.MaxUint64} {
			if b, e := m.Read(at, 0); e != api.OK || len(b) != 0 {
				t.Errorf("Read(%d, 0): %v, %v", at, b, e)
			}
			for _, b := range [][]byte{nil, {}} {
				if e := m.Write(at, b); e != api.OK {
					t.Errorf("Write(%d, none): %v", at, e)
				}
			}
		}
		mustHave(t, m, want, n)
	}
}

func TestBytesThatThereAreNot(t *testing.T) {
	for _, n := range []int{1, 2, 16} {
		m, want := written(t, n)
		end := uint64(n * size)
		for _, c := range []struct {
			at    uint64
			count int
		}{
			{end, 1}, {end - 1, 2}, {end - 7, 8}, {0, n*size + 1}, {size - 1, n * size}, {end + 1, 1},
			{1 << 32, 1}, {1<<32 + 5, 3}, {1 << 63, 1},
			{math.MaxUint64, 1}, {math.MaxUint64 - 6, 7},
			// Their end wraps round to an address that is within.
			{math.MaxUint64, 2}, {math.MaxUint64, n * size}, {math.MaxUint64 - 7, 8}, {math.MaxUint64 - 7, 16}, {math.MaxUint64 - 127, 256},
		} {
			if b, e := m.Read(c.at, c.count); e != api.ErrNone || len(b) != 0 {
				t.Errorf("Read(%d, %d) of %d: %d bytes, %v", c.at, c.count, n, len(b), e)
			}
			if e := m.Write(c.at, make([]byte, c.count)); e != api.ErrNone {
				t.Errorf("Write(%d, %d bytes) of %d: %v", c.at, c.count, n, e)
			}
		}
		// More than there is room for anywhere: told, not tried.
		for _, at := range []uint64{0, 1, end, math.MaxUint64, uint64(math.MaxUint64) - math.MaxInt + 1, uint64(math.MaxUint64) - math.MaxInt + 9} {
			for _, count := range []int{math.MaxInt32, 1 << 32, 1<<32 + 1, 1 << 57, math.MaxInt - 1, math.MaxInt} {
				if b, e := m.Read(at, count); e != api.ErrNone || len(b) != 0 {
					t.Errorf("Read(%d, %d) of %d: %d bytes, %v", at, count, n, len(b), e)
				}
			}
		}
		mustHave(t, m, want, n)
	}
}

func TestFewerThanNoBytes(t *testing.T) {
	m, want := written(t, 2)
	for _, n := range []int{-1, -2, -8, -128, -1 << 32, math.MinInt + 1, math.MinInt} {
		// ErrArg is told ahead of ErrNone.
		for _, at := range []uint64{0, 1, 8, 200, 255, 256, 257, 1 << 63, math.MaxUint64} {
			if b, e := m.Read(at, n); e != api.ErrArg || len(b) != 0 {
				t.Errorf("Read(%d, %d): %v, %v", at, n, b, e)
			}
		}
	}
	mustHave(t, m, want)
}

func TestBytesOfNoMemory(t *testing.T) {
	for name, m := range none() {
		for _, at := range []uint64{0, 1, 4, 8, 127, 128, math.MaxUint64 - 7, math.MaxUint64} {
			if x, e := m.Word(at); e != api.ErrNil || x != 0 {
				t.Errorf("%s: Word(%d): %d, %v", name, at, x, e)
			}
			if e := m.SetWord(at, 5); e != api.ErrNil {
				t.Errorf("%s: SetWord(%d): %v", name, at, e)
			}
			for _, n := range []int{math.MinInt, -1, 0, 1, math.MaxInt} {
				if b, e := m.Read(at, n); e != api.ErrNil || len(b) != 0 {
					t.Errorf("%s: Read(%d, %d): %v, %v", name, at, n, b, e)
				}
			}
			for _, b := range [][]byte{nil, {}, {1}, sample(300)} {
				if e := m.Write(at, b); e != api.ErrNil {
					t.Errorf("%s: Write(%d, %d bytes): %v", name, at, len(b), e)
				}
			}
		}
	}
}

// P6.4

func TestCopyGoesOnApart(t *testing.T) {
	for _, n := range []int{1, 3, api.MaxGranules} {
		m, all := written(t, n)
		c := m.Copy()
		if c == nil || c == m || c.Granules() != n || !c.Same(m) || !m.Same(c) {
			t.Fatal("no copy, or another one", n)
		}
		mustHave(t, c, all, n)
		for name, change := range map[string]func(*machine.Memory) api.Errno{
			"Put":     func(m *machine.Memory) api.Errno { return m.Put(n-1, full(9)) },
			"Scrub":   func(m *machine.Memory) api.Errno { return m.Scrub(0) },
			"SetWord": func(m *machine.Memory) api.Errno { return m.SetWord(uint64(n*size-8), 1) },
			"Write":   func(m *machine.Memory) api.Errno { return m.Write(0, make([]byte, n*size)) },
		} {
			for _, way := range []string{"the first", "the copy"} {
				m, all := written(t, n)
				c := m.Copy()
				changed, other := m, c
				if way == "the copy" {
					changed, other = c, m
				}
				if e := change(changed); e != api.OK {
					t.Fatal(name, e)
				}
				mustHave(t, other, all, name, way)
				if changed.Same(other) || other.Same(changed) {
					t.Error(name, way, "is seen in both")
				}
			}
		}
	}
}

func TestCopyOfACopy(t *testing.T) {
	m, all := written(t, 2)
	c := m.Copy().Copy()
	m.Scrub(0)
	mustHave(t, c, all)
}

func TestSame(t *testing.T) {
	a, b := blank(t, 2), blank(t, 2)
	same := func(want bool, what string) {
		t.Helper()
		if a.Same(b) != want || b.Same(a) != want || !a.Same(a) || !b.Same(b) {
			t.Error(what)
		}
	}
	same(true, "noughts")
	a.Write(127, []byte{5, 6})
	same(false, "one is written")
	b.Write(127, []byte{5, 6})
	same(true, "both are written")
	b.Write(127, []byte{6, 5})
	same(false, "other bytes")
	a.Scrub(0)
	a.Scrub(1)
	b.Put(0, api.Granule{})
	b.SetWord(128, 0)
	same(true, "noughts again")
}

// One bit, wherever it is, tells them apart.
func TestSameOfEachByte(t *testing.T) {
	m, all := written(t, 3)
	o := m.Copy()
	for i := range all {
		o.Write(uint64(i), []byte{all[i] ^ 1<<(i%8)})
		if m.Same(o) || o.Same(m) {
			t.Error("not told apart by the byte", i)
		}
		o.Write(uint64(i), all[i:i+1])
	}
	if !m.Same(o) {
		t.Error("as it was")
	}
}

func TestSameOfTwoSizes(t *testing.T) {
	for _, c := range [][2]int{{1, 2}, {2, 3}, {1, api.MaxGranules}, {api.MaxGranules - 1, api.MaxGranules}} {
		a, b := blank(t, c[0]), blank(t, c[1])
		if a.Same(b) || b.Same(a) {
			t.Error("noughts", c)
		}
		a.Put(0, full(0))
		b.Put(0, full(0))
		if a.Same(b) || b.Same(a) {
			t.Error("the same as far as one goes", c)
		}
	}
}

func TestNoMemoryIsTheSameAsNone(t *testing.T) {
	for x, a := range none() {
		if c := a.Copy(); c != nil {
			t.Error(x, "has a copy")
		}
		for y, b := range none() {
			if !a.Same(b) {
				t.Error(x, y)
			}
		}
		for _, n := range []int{1, 2, api.MaxGranules} {
			if m := blank(t, n); a.Same(m) || m.Same(a) {
				t.Error(x, "is the same as", n)
			}
		}
		if len(allOf(a)) != 0 {
			t.Error(x, "has granules that are not noughts")
		}
	}
}

func TestWhole(t *testing.T) {
	m := blank(t, 6)
	if l := allOf(m); len(l) != 0 {
		t.Error("noughts:", l)
	}
	m.Put(5, full(5))
	m.Put(0, full(1))
	m.Write(3*size+127, []byte{1}) // its last byte alone
	m.Write(2*size, []byte{128})   // its first byte alone
	m.SetWord(1*size+8, 0)         // noughts, though written
	m.Put(4, full(4))
	m.Scrub(4)
	first, last := api.Granule{128}, api.Granule{127: 1}
	want := []item{{0, full(1)}, {2, first}, {3, last}, {5, full(5)}}
	if l := allOf(m); !slices.Equal(l, want) {
		t.Error(l)
	}
	m.Write(2*size, []byte{0})
	want = []item{{0, full(1)}, {3, last}, {5, full(5)}}
	if l := allOf(m); !slices.Equal(l, want) {
		t.Error("noughts again:", l)
	}
	for g := range 6 {
		m.Scrub(g)
	}
	if l := allOf(m); len(l) != 0 {
		t.Error("all are noughts again:", l)
	}
}

// Each byte, alone, makes its granule one that is not noughts.
func TestWholeOfEachByte(t *testing.T) {
	for i := range 2 * size {
		m := blank(t, 2)
		m.Write(uint64(i), []byte{1 << (i % 8)})
		var b api.Granule
		b[i%size] = 1 << (i % 8)
		if l := allOf(m); !slices.Equal(l, []item{{i / size, b}}) {
			t.Error(i, l)
		}
	}
}

func TestWholeOfTheMost(t *testing.T) {
	m, all := written(t, api.MaxGranules)
	n := 0
	for g, b := range m.Whole() {
		if g != n || b != api.Granule(all[g*size:]) {
			t.Fatal(g, n)
		}
		n++
	}
	if n != api.MaxGranules {
		t.Error(n)
	}
	one, _ := written(t, 1)
	if l := allOf(one); !slices.Equal(l, []item{{0, full(0)}}) {
		t.Error(l)
	}
}

func TestWholeIsLeftEarly(t *testing.T) {
	m, _ := written(t, 4)
	whole := m.Whole()
	for stop := range 4 {
		n := 0
		for g := range whole {
			if g != n {
				t.Fatal(g, n)
			}
			n++
			if g == stop {
				break
			}
		}
		if n != stop+1 {
			t.Error(stop, n)
		}
	}
	calls := 0
	whole(func(int, api.Granule) bool { calls++; return false })
	if calls != 1 {
		t.Error("goes on when it was left:", calls)
	}
	for range 2 { // as often as one likes, and each time from the beginning
		n := 0
		for range whole {
			n++
		}
		if n != 4 {
			t.Error(n)
		}
	}
}

func TestWholeIsAsItWasWhenCalled(t *testing.T) {
	m, _ := written(t, 3)
	m.Scrub(1)
	want := allOf(m)
	whole := m.Whole()
	m.Put(0, full(50))
	m.Put(1, full(60))
	m.Scrub(2)
	now := []item{{0, full(50)}, {1, full(60)}}
	for range 2 {
		var got []item
		for g, b := range whole {
			got = append(got, item{g, b})
		}
		if !slices.Equal(got, want) {
			t.Error("what was written later is seen:", got)
		}
	}
	if l := allOf(m); !slices.Equal(l, now) {
		t.Error("called again:", l)
	}
}

func TestMemoryThatIsChangedWhileItIsGoneOver(t *testing.T) {
	m, all := written(t, 4)
	want := allOf(m)
	var got []item
	for g, b := range m.Whole() {
		got = append(got, item{g, b})
		m.Scrub((g + 1) % 4)
		m.Put((g+2)%4, full(77))
		b[0]++
	}
	if !slices.Equal(got, want) {
		t.Error(got)
	}
	scrubbed := m.Copy()
	m.Write(0, all)
	for range scrubbed.Whole() {
		for range scrubbed.Whole() { // one within another
			scrubbed.Scrub(0)
		}
	}
	mustHave(t, m, all)
}

func TestOf(t *testing.T) {
	for _, c := range []struct {
		addr  uint64
		g, at int
	}{
		{0, 0, 0}, {1, 0, 1}, {127, 0, 127}, {128, 1, 0}, {255, 1, 127}, {300, 2, 44},
		{api.MaxGranules*size - 1, api.MaxGranules - 1, 127},
		{api.MaxGranules * size, api.MaxGranules, 0},
		{1 << 32, 1 << 25, 0},
		{1<<40 + 129, 1<<33 + 1, 1},
		{1 << 63, 1 << 56, 0},
		{math.MaxUint64 - 127, 1<<57 - 1, 0},
		{math.MaxUint64, 1<<57 - 1, 127},
	} {
		if g, at := machine.Of(c.addr); g != c.g || at != c.at {
			t.Errorf("Of(%d): %d, %d", c.addr, g, at)
		}
	}
	r := rand.New(rand.NewSource(1))
	for range 5000 {
		addr := r.Uint64() >> r.Intn(64)
		g, at := machine.Of(addr)
		if g < 0 || at < 0 || at >= size || uint64(g)*size+uint64(at) != addr {
			t.Fatalf("Of(%d): %d, %d", addr, g, at)
		}
	}
}

// Rules for all layers

func TestWhatIsToldIsTheCallers(t *testing.T) {
	m, all := written(t, 3)
	b, _ := m.Read(100, 200)
	b = b[:cap(b)]
	for i := range b {
		b[i] ^= 255
	}
	whole, _ := m.Read(0, 3*size)
	clear(whole[:cap(whole)])
	in, _ := m.Read(size, size)
	_ = append(in, 1, 2, 3)
	clear(in)
	g, _ := m.Get(1)
	clear(g[:])
	for _, b := range m.Whole() {
		clear(b[:])
	}
	mustHave(t, m, all)
	x, _ := m.Read(0, 8)
	y, _ := m.Read(0, 8)
	clear(x)
	if !slices.Equal(y, all[:8]) {
		t.Error("two answers share memory")
	}
}

func TestWhatIsHandedInStaysTheCallers(t *testing.T) {
	m := blank(t, 3)
	room := sample(300)
	given := room[:200]
	kept := slices.Clone(room)
	if e := m.Write(100, given); e != api.OK {
		t.Fatal(e)
	}
	if !slices.Equal(room, kept) {
		t.Error("Write changes what it is handed")
	}
	want := bytesOf(t, m)
	clear(room)
	mustHave(t, m, want)
	b := full(1)
	m.Put(0, b)
	clear(b[:])
	if got, _ := m.Get(0); got != full(1) {
		t.Error("Put keeps what it is handed")
	}
	m.Write(0, make([]byte, size))
	if c := m.Copy(); c.Write(0, kept) != api.OK || !slices.Equal(kept, sample(300)) {
		t.Error("Write into a copy changes what it is handed")
	}
}

// model is memory as one list of bytes.
type model []byte

func (b model) within(addr uint64, n int) bool {
	return n == 0 || addr < uint64(len(b)) && n <= len(b)-int(addr)
}

// write is what Write should answer, and do.
func (b model) write(addr uint64, x []byte) api.Errno {
	if !b.within(addr, len(x)) {
		return api.ErrNone
	}
	if len(x) > 0 {
		copy(b[addr:], x)
	}
	return api.OK
}

// read is what Read should answer.
func (b model) read(addr uint64, n int) ([]byte, api.Errno) {
	switch {
	case n < 0:
		return nil, api.ErrArg
	case !b.within(addr, n):
		return nil, api.ErrNone
	case n == 0:
		return nil, api.OK
	}
	return b[addr:][:n], api.OK
}

// put is what Put should answer, and do.
func (b model) put(g int, x api.Granule) api.Errno {
	if g < 0 || g >= len(b)/size {
		return api.ErrArg
	}
	copy(b[g*size:], x[:])
	return api.OK
}

// wordCode is what Word and SetWord should answer.
func (b model) wordCode(addr uint64) api.Errno {
	switch {
	case addr%8 != 0:
		return api.ErrArg
	case !b.within(addr, 8):
		return api.ErrNone
	}
	return api.OK
}

// anyAddr is an address: within for the most part, and else near an edge, or anything.
func anyAddr(r *rand.Rand, end int) uint64 {
	switch r.Intn(8) {
	case 0:
		return uint64(end - 4 + r.Intn(12))
	case 1:
		return math.MaxUint64 - uint64(r.Intn(300))
	case 2:
		return r.Uint64() >> r.Intn(64)
	case 3:
		return uint64(r.Intn(end/8+1)) * 8
	}
	return uint64(r.Intn(end))
}

// anyCount is a number: a small one for the most part.
func anyCount(r *rand.Rand, end int) int {
	switch r.Intn(8) {
	case 0:
		return -r.Intn(9)
	case 1:
		return []int{math.MinInt, math.MaxInt, math.MaxInt32, 1 << 40}[r.Intn(4)]
	case 2:
		return end - 2 + r.Intn(4)
	}
	return r.Intn(200)
}

// step does one thing to m, and the same to the model.
func step(t *testing.T, r *rand.Rand, m *machine.Memory, b model) {
	addr, n := anyAddr(r, len(b)), anyCount(r, len(b))
	g := r.Intn(len(b)/size+2) - 1
	x := r.Uint64() >> r.Intn(64)
	var laid api.Granule
	r.Read(laid[:])
	switch r.Intn(7) {
	case 0:
		if got, want := m.Put(g, laid), b.put(g, laid); got != want {
			t.Fatalf("Put(%d): %v", g, got)
		}
	case 1:
		if got, want := m.Scrub(g), b.put(g, api.Granule{}); got != want {
			t.Fatalf("Scrub(%d): %v", g, got)
		}
	case 2:
		want := b.wordCode(addr)
		if want == api.OK {
			binary.LittleEndian.PutUint64(b[addr:], x)
		}
		if got := m.SetWord(addr, x); got != want {
			t.Fatalf("SetWord(%d): %v", addr, got)
		}
	case 3:
		bytes := sample(min(max(n, 0), 2*len(b)))
		if got, want := m.Write(addr, bytes), b.write(addr, bytes); got != want {
			t.Fatalf("Write(%d, %d bytes): %v", addr, len(bytes), got)
		}
	case 4:
		got, e := m.Read(addr, n)
		if want, f := b.read(addr, n); e != f || !slices.Equal(got, want) {
			t.Fatalf("Read(%d, %d): %v, %v", addr, n, got, e)
		}
	case 5:
		var want uint64
		f := b.wordCode(addr)
		if f == api.OK {
			want = binary.LittleEndian.Uint64(b[addr:])
		}
		if got, e := m.Word(addr); e != f || got != want {
			t.Fatalf("Word(%d): %d, %v", addr, got, e)
		}
	case 6:
		var want api.Granule
		f := api.ErrArg
		if g >= 0 && g < len(b)/size {
			want, f = api.Granule(b[g*size:]), api.OK
		}
		if got, e := m.Get(g); e != f || got != want {
			t.Fatalf("Get(%d): %v, %v", g, got, e)
		}
	}
}

// P0.8: whatever is asked, memory answers and has what one list of bytes would.
func TestAnyInput(t *testing.T) {
	r := rand.New(rand.NewSource(2))
	for range 60 {
		n := 1 + r.Intn(5)
		m, b := blank(t, n), model(make([]byte, n*size))
		for range 400 {
			step(t, r, m, b)
			mustHave(t, m, b)
		}
		var want []item
		for g := range n {
			if x := api.Granule(b[g*size:]); x != (api.Granule{}) {
				want = append(want, item{g, x})
			}
		}
		if got := allOf(m); !slices.Equal(got, want) {
			t.Fatal("Whole:", got)
		}
		if c := m.Copy(); !c.Same(m) || c.Granules() != n {
			t.Fatal("Copy")
		}
	}
}
