package entry_test

import (
	"math"
	"math/rand"
	"slices"
	"testing"

	"anchorite/api"
	"anchorite/entry"
)

// kind is what the chapter says of a kind.
type kind struct {
	kind    api.EntryKind
	name    string
	granule bool // it has a granule
	inner   bool // the levels 0 to 2 may hold it
	leaf    bool // the level 3 may
	closed  bool // a protected page may have it
	open    bool // an open one may
}

// kinds are all that there are.
func kinds() []kind {
	return []kind{
		{0, "empty", false, true, true, true, true},
		{1, "table", true, true, false, false, false},
		{2, "data", true, false, true, true, false},
		{3, "destroyed", false, true, true, true, true},
		{4, "exported", false, false, true, true, false},
		{5, "awaiting", false, false, true, true, false},
		{6, "shared", true, false, true, false, true},
	}
}

// wrongKinds are none; some have the lowest byte of one that is.
func wrongKinds() []api.EntryKind {
	return []api.EntryKind{-1, -2, -256, -255, 7, 8, 255, 256, 257, 258, 1 << 32, 1<<32 + 2, math.MinInt, math.MinInt + 2, math.MaxInt}
}

// wrongGranules are none; some have the lowest bytes of one that is.
func wrongGranules() []int {
	return []int{-1, -2, -4095, -4096, api.MaxGranules, api.MaxGranules + 1, 65535, 65536, 65537, 1 << 32, 1<<32 + 5, 1 << 48, 1 << 55, 1 << 56, 1<<56 + 5, math.MinInt, math.MinInt + 5, math.MaxInt}
}

// wrongLevels and wrongPages are none.
func wrongLevels() []int {
	return []int{-1, -2, -3, -4, 4, 5, 7, 64, 1 << 32, 1<<32 + 3, math.MinInt, math.MinInt + 1, math.MaxInt}
}

func wrongPages() []int {
	return []int{-1, -2, -4, -128, -256, 256, 257, 512, 1 << 32, 1<<32 + 27, math.MinInt, math.MinInt + 27, math.MaxInt}
}

// right are entries that may be: of each kind, at the edges.
func right() []api.Entry {
	var out []api.Entry
	for _, k := range kinds() {
		out = append(out, api.Entry{Kind: k.kind})
		if k.granule {
			for _, g := range []int{1, 2, 5, 127, 128, 255, 256, 257, 511, 512, 2048, api.MaxGranules - 2, api.MaxGranules - 1} {
				out = append(out, api.Entry{Kind: k.kind, Granule: g})
			}
		}
	}
	return out
}

// wrong are entries that may not be: by the kind, by the granule, by both, by the one beside the other.
func wrong() []api.Entry {
	var out []api.Entry
	for _, k := range wrongKinds() {
		for _, g := range append(wrongGranules(), 0, 1, 5, api.MaxGranules-1) {
			out = append(out, api.Entry{Kind: k, Granule: g})
		}
	}
	for _, k := range kinds() {
		for _, g := range wrongGranules() {
			out = append(out, api.Entry{Kind: k.kind, Granule: g})
		}
		if !k.granule {
			for _, g := range []int{1, 2, 5, 255, 256, api.MaxGranules - 1} {
				out = append(out, api.Entry{Kind: k.kind, Granule: g})
			}
		}
	}
	return out
}

// entryOf is the entry whose bytes b are, and whether they are one's, byte by byte.
func entryOf(b []byte) (api.Entry, bool) {
	for _, x := range b[3:] {
		if x != 0 {
			return api.Entry{}, false
		}
	}
	g := int(b[1]) + 256*int(b[2])
	if b[0] > 6 || g > 4095 || g != 0 && !kinds()[b[0]].granule {
		return api.Entry{}, false
	}
	return api.Entry{Kind: api.EntryKind(b[0]), Granule: g}, true
}

// mustBe says of b that Of answers what entryOf says.
func mustBe(t *testing.T, b [8]byte) {
	t.Helper()
	want, is := entryOf(b[:])
	e, f := entry.Of(b)
	if is && (e != want || f != api.OK) || !is && (e != api.Entry{} || f != api.ErrBytes) {
		t.Errorf("Of(%v): %v, %v", b, e, f)
	}
}

func TestExamples(t *testing.T) {
	data := api.Entry{Kind: api.EntryData, Granule: 5}
	if b, e := entry.Bytes(data); b != [8]byte{2, 5} || e != api.OK {
		t.Error("Bytes(EntryData 5)", b, e)
	}
	if x, e := entry.Of([8]byte{2, 5}); x != data || e != api.OK {
		t.Error("Of(2, 5)", x, e)
	}
	for _, b := range [][8]byte{{0, 5}, {7}} {
		if x, e := entry.Of(b); x != (api.Entry{}) || e != api.ErrBytes {
			t.Error("Of", b, x, e)
		}
	}
	for level := range 4 {
		if s, e := entry.Slot(27, level); s != level || e != api.OK {
			t.Error("Slot(27)", level, s, e)
		}
	}
	if p, e := entry.First(27, 1); p != 0 || e != api.OK {
		t.Error("First(27, 1)", p, e)
	}
	if n, e := entry.Many(1); n != 16 || e != api.OK {
		t.Error("Many(1)", n, e)
	}
	if entry.Level(api.Entry{Kind: api.EntryTable, Granule: 1}, 3) {
		t.Error("Level(EntryTable 1, 3)")
	}
	if entry.Page(api.Entry{Kind: api.EntryShared, Granule: 1}, 5) {
		t.Error("Page(EntryShared 1, 5)")
	}
}

// P8.1

func TestMayAndHas(t *testing.T) {
	for _, e := range right() {
		if !entry.May(e) {
			t.Error("may not be", e)
		}
		if entry.Has(e) != kinds()[e.Kind].granule {
			t.Error("Has", e, entry.Has(e))
		}
	}
	for _, e := range wrong() {
		if entry.May(e) || entry.Has(e) {
			t.Error("may be, or has a granule", e)
		}
	}
}

// Every entry that may be, and its bytes, number by number.
func TestBytesOfEach(t *testing.T) {
	for _, k := range kinds() {
		for g := range api.MaxGranules {
			e := api.Entry{Kind: k.kind, Granule: g}
			b, f := entry.Bytes(e)
			if g > 0 && !k.granule {
				if b != [8]byte{} || f != api.ErrArg || entry.May(e) || entry.Has(e) {
					t.Fatal("a granule beside a kind that has none", e, b, f)
				}
				continue
			}
			if b != [8]byte{byte(k.kind), byte(g % 256), byte(g / 256)} || f != api.OK || !entry.May(e) || entry.Has(e) != k.granule {
				t.Fatal(e, b, f)
			}
			// P8.5: read back.
			if x, f := entry.Of(b); x != e || f != api.OK {
				t.Fatal(e, b, x, f)
			}
		}
	}
}

func TestBytesOfWrong(t *testing.T) {
	for _, e := range wrong() {
		if b, f := entry.Bytes(e); b != [8]byte{} || f != api.ErrArg {
			t.Error(e, b, f)
		}
	}
}

// Each of the eight bytes turned, bit by bit, and set to each value.
func TestOfTurnedBytes(t *testing.T) {
	for _, e := range right() {
		b, f := entry.Bytes(e)
		if f != api.OK {
			t.Fatal(e, f)
		}
		for i := range b {
			for x := range 256 {
				turned := b
				turned[i] ^= byte(x)
				mustBe(t, turned)
				y, f := entry.Of(turned)
				if x != 0 && y == e && f == api.OK {
					t.Error("one entry has two lists of bytes", e, b, turned)
				}
				if x != 0 && i > 2 && f != api.ErrBytes {
					t.Error("what has to be noughts is not", e, turned, f)
				}
			}
		}
	}
}

// All that the lowest three bytes can be.
func TestOfEach(t *testing.T) {
	count := 0
	for kind := range 256 {
		for g := range 65536 {
			b := [8]byte{byte(kind), byte(g), byte(g >> 8)}
			e, f := entry.Of(b)
			switch {
			case f == api.OK && (e != api.Entry{Kind: api.EntryKind(kind), Granule: g} || !entry.May(e)):
				t.Fatal(b, e)
			case f == api.OK:
				count++
			case f != api.ErrBytes || e != (api.Entry{}):
				t.Fatal(b, e, f)
			}
		}
	}
	if count != 4+3*api.MaxGranules {
		t.Error("entries that may be:", count)
	}
}

// P8.2

func TestLevelOfEach(t *testing.T) {
	for _, e := range right() {
		k := kinds()[e.Kind]
		for level, want := range [4]bool{k.inner, k.inner, k.inner, k.leaf} {
			if entry.Level(e, level) != want {
				t.Error(e, level, !want)
			}
		}
		for _, level := range wrongLevels() {
			if entry.Level(e, level) {
				t.Error("there is no level", level, e)
			}
		}
	}
}

func TestPageOfEach(t *testing.T) {
	for _, e := range right() {
		k := kinds()[e.Kind]
		for page := range 256 {
			want := k.closed
			if page >= 128 {
				want = k.open
			}
			if entry.Page(e, page) != want {
				t.Error(e, page, !want)
			}
		}
		for _, page := range wrongPages() {
			if entry.Page(e, page) {
				t.Error("there is no page", page, e)
			}
		}
	}
}

func TestWrongEntriesAreNowhere(t *testing.T) {
	levels := append(wrongLevels(), 0, 1, 2, 3)
	pages := append(wrongPages(), 0, 1, 127, 128, 255)
	for _, e := range wrong() {
		for _, level := range levels {
			if entry.Level(e, level) {
				t.Error("Level", e, level)
			}
		}
		for _, page := range pages {
			if entry.Page(e, page) {
				t.Error("Page", e, page)
			}
		}
	}
}

// P8.3

// power is 4 to the n.
func power(n int) int {
	out := 1
	for range n {
		out *= 4
	}
	return out
}

func TestSlotFirstManyOfEach(t *testing.T) {
	for level := range 4 {
		many, e := entry.Many(level)
		if many != [4]int{64, 16, 4, 1}[level] || e != api.OK {
			t.Error("Many", level, many, e)
		}
		for page := range 256 {
			s, e := entry.Slot(page, level)
			if s != page/power(3-level)%4 || e != api.OK {
				t.Error("Slot", page, level, s, e)
			}
			p, e := entry.First(page, level)
			if p != page-page%power(4-level) || e != api.OK {
				t.Error("First", page, level, p, e)
			}
			// The page is one of those that its entry there is for.
			if from := p + s*many; page < from || page >= from+many {
				t.Error("not among its entry's pages", page, level, from, many)
			}
		}
	}
}

func TestSlotAndFirstAtTheEdges(t *testing.T) {
	for _, c := range []struct{ page, level, slot, first int }{
		{0, 0, 0, 0}, {0, 3, 0, 0}, {3, 3, 3, 0}, {4, 3, 0, 4}, {4, 2, 1, 0},
		{127, 0, 1, 0}, {127, 1, 3, 64}, {127, 2, 3, 112}, {127, 3, 3, 124},
		{128, 0, 2, 0}, {128, 1, 0, 128}, {128, 2, 0, 128}, {128, 3, 0, 128},
		{255, 0, 3, 0}, {255, 1, 3, 192}, {255, 2, 3, 240}, {255, 3, 3, 252},
	} {
		s, e := entry.Slot(c.page, c.level)
		p, f := entry.First(c.page, c.level)
		if s != c.slot || p != c.first || e != api.OK || f != api.OK {
			t.Error(c, s, e, p, f)
		}
	}
}

func TestNoSuchPageOrLevel(t *testing.T) {
	refused := func(page, level int) {
		t.Helper()
		if s, e := entry.Slot(page, level); s != 0 || e != api.ErrArg {
			t.Error("Slot", page, level, s, e)
		}
		if p, e := entry.First(page, level); p != 0 || e != api.ErrArg {
			t.Error("First", page, level, p, e)
		}
	}
	for _, level := range wrongLevels() {
		for _, page := range append(wrongPages(), 0, 27, 127, 128, 255) {
			refused(page, level)
		}
		if n, e := entry.Many(level); n != 0 || e != api.ErrArg {
			t.Error("Many", level, n, e)
		}
	}
	for _, page := range wrongPages() {
		for level := range 4 {
			refused(page, level)
		}
	}
}

// P8.4

// bytesOf is the bytes of a table of these, byte by byte.
func bytesOf(l []api.Entry) api.Granule {
	var g api.Granule
	for i, e := range l {
		g[8*i], g[8*i+1], g[8*i+2] = byte(e.Kind), byte(e.Granule%256), byte(e.Granule/256)
	}
	return g
}

// tableOf is the entries of the table whose bytes g are, and whether they are one's.
func tableOf(g api.Granule) ([]api.Entry, bool) {
	var out []api.Entry
	for i := range 4 {
		e, is := entryOf(g[8*i : 8*i+8])
		if !is {
			return nil, false
		}
		out = append(out, e)
	}
	for _, x := range g[32:] {
		if x != 0 {
			return nil, false
		}
	}
	return out, true
}

// mustUntable says of g that Untable answers what tableOf says.
func mustUntable(t *testing.T, g api.Granule) {
	t.Helper()
	want, is := tableOf(g)
	l, e := entry.Untable(g)
	if is && e != api.OK || !is && e != api.ErrBytes || !slices.Equal(l, want) {
		t.Errorf("Untable(%v): %v, %v", g, l, e)
	}
}

// mustTable says of l that it is a table with the bytes that it should have, and that it is read back.
func mustTable(t *testing.T, l ...api.Entry) {
	t.Helper()
	given := slices.Clone(l)
	g, e := entry.Table(given...)
	if g != bytesOf(l) || e != api.OK {
		t.Errorf("Table(%v): %v, %v", l, g, e)
	}
	if !slices.Equal(given, l) {
		t.Error("what is handed in was changed", l, given)
	}
	// P8.5: read back.
	if back, e := entry.Untable(g); !slices.Equal(back, l) || e != api.OK {
		t.Errorf("Untable of Table(%v): %v, %v", l, back, e)
	}
}

// mixed is a table of four entries of which no two are alike.
func mixed() []api.Entry {
	return []api.Entry{
		{Kind: api.EntryShared, Granule: api.MaxGranules - 1}, {Kind: api.EntryTable, Granule: 258},
		{Kind: api.EntryAwaiting}, {Kind: api.EntryData, Granule: 1},
	}
}

func TestTableAlikeAndNot(t *testing.T) {
	l := right()
	for i, e := range l {
		mustTable(t, e, e, e, e)
		mustTable(t, e, l[(i+1)%len(l)], l[(i+7)%len(l)], l[(i+16)%len(l)])
	}
	mustTable(t, mixed()...)
	g, e := entry.Table(mixed()...)
	if want := (api.Granule{0: 6, 1: 255, 2: 15, 8: 1, 9: 2, 10: 1, 16: 5, 24: 2, 25: 1}); g != want || e != api.OK {
		t.Error(g, e)
	}
	if g, e := entry.Table(make([]api.Entry, 4)...); g != (api.Granule{}) || e != api.OK {
		t.Error("four that are empty", g, e)
	}
	if l, e := entry.Untable(api.Granule{}); !slices.Equal(l, make([]api.Entry, 4)) || e != api.OK {
		t.Error("noughts", l, e)
	}
}

func TestTableOfOtherThanFour(t *testing.T) {
	bad := api.Entry{Kind: 7}
	for _, n := range []int{0, 1, 2, 3, 5, 6, 8, 15, 16, 17, 1000} {
		for _, e := range []api.Entry{{}, {Kind: api.EntryData, Granule: 5}, bad} {
			if g, f := entry.Table(slices.Repeat([]api.Entry{e}, n)...); g != (api.Granule{}) || f != api.ErrArg {
				t.Error(n, e, g, f)
			}
		}
	}
	if g, e := entry.Table(); g != (api.Granule{}) || e != api.ErrArg {
		t.Error("no entry", g, e)
	}
}

func TestTableOfWrongEntries(t *testing.T) {
	for _, e := range wrong() {
		for i := range 4 {
			l := mixed()
			l[i] = e
			if g, f := entry.Table(l...); g != (api.Granule{}) || f != api.ErrArg {
				t.Error(l, g, f)
			}
		}
		if g, f := entry.Table(e, e, e, e); g != (api.Granule{}) || f != api.ErrArg {
			t.Error(e, g, f)
		}
	}
}

// Each byte of a table's granule turned: those of the entries, and those behind them.
func TestUntableTurnedBytes(t *testing.T) {
	for _, l := range [][]api.Entry{make([]api.Entry, 4), mixed(), slices.Repeat([]api.Entry{{Kind: api.EntryData, Granule: 9}}, 4)} {
		g := bytesOf(l)
		for i := range g {
			for x := 1; x < 256; x++ {
				turned := g
				turned[i] ^= byte(x)
				mustUntable(t, turned)
				if back, e := entry.Untable(turned); i >= 32 && (e != api.ErrBytes || len(back) != 0) {
					t.Error("not noughts behind the entries", i, back, e)
				}
			}
		}
	}
}

func TestUntableOfSeveralFaults(t *testing.T) {
	for i, g := range []api.Granule{
		{0: 7}, {8: 7}, {16: 7}, {24: 7}, {24: 7, 127: 1}, {0: 7, 32: 1}, {7: 1, 15: 1, 23: 1, 31: 1},
		{1: 1}, {0: 2, 2: 16}, {0: 2, 1: 5, 32: 2, 33: 5}, {0: 255, 127: 255},
	} {
		if l, e := entry.Untable(g); len(l) != 0 || e != api.ErrBytes {
			t.Error(i, l, e)
		}
	}
}

func TestName(t *testing.T) {
	for _, k := range kinds() {
		if n := entry.Name(k.kind); n != k.name {
			t.Error(k.kind, n)
		}
	}
	for _, k := range wrongKinds() {
		if n := entry.Name(k); n != "" {
			t.Error(k, n)
		}
	}
}

// P8.5 (what is read back is tried beside what is written, above)

func TestUnlikePagesHaveUnlikeSlots(t *testing.T) {
	seen := map[[4]int]int{}
	for page := range 256 {
		var slots [4]int
		number := 0
		for level := range slots {
			s, e := entry.Slot(page, level)
			if s < 0 || s > 3 || e != api.OK {
				t.Fatal(page, level, s, e)
			}
			slots[level] = s
			number = 4*number + s
		}
		if number != page {
			t.Error("not its digits to the base 4", page, slots)
		}
		if other, is := seen[slots]; is {
			t.Error("two pages have the same slots", page, other, slots)
		}
		seen[slots] = page
	}
}

func TestUnlikeEntriesHaveUnlikeBytes(t *testing.T) {
	seen := map[[8]byte]api.Entry{}
	for _, e := range right() {
		b, f := entry.Bytes(e)
		if f != api.OK {
			t.Fatal(e, f)
		}
		if other, is := seen[b]; is {
			t.Error("two entries have the same bytes", e, other, b)
		}
		seen[b] = e
	}
}

// Rules for all layers

func TestWhatIsToldIsTheCallers(t *testing.T) {
	g := bytesOf(mixed())
	a, _ := entry.Untable(g)
	b, _ := entry.Untable(g)
	clear(a[:cap(a)])
	if !slices.Equal(b, mixed()) {
		t.Error("two answers share memory", b)
	}
	if c, e := entry.Untable(g); !slices.Equal(c, mixed()) || e != api.OK {
		t.Error("an answer is kept", c, e)
	}
}

// anyEntry is an entry, or nearly one, or anything.
func anyEntry(r *rand.Rand, right, wrong []api.Entry) api.Entry {
	switch r.Intn(8) {
	case 0:
		return wrong[r.Intn(len(wrong))]
	case 1:
		return api.Entry{Kind: api.EntryKind(r.Intn(10) - 1), Granule: r.Intn(3) * r.Intn(4100)}
	case 2:
		return api.Entry{Kind: api.EntryKind(r.Uint64()), Granule: int(r.Uint64() >> r.Intn(64))}
	}
	return right[r.Intn(len(right))]
}

// mayBe says whether an entry may be, by what the chapter says of its kind.
func mayBe(e api.Entry) bool {
	if e.Kind < 0 || e.Kind > 6 || e.Granule < 0 || e.Granule > 4095 {
		return false
	}
	return e.Granule == 0 || kinds()[e.Kind].granule
}

// P0.8: whatever entries, whatever bytes.
func TestAnyInput(t *testing.T) {
	r := rand.New(rand.NewSource(1))
	right, wrong := right(), wrong()
	for range 20000 {
		l := make([]api.Entry, 4)
		all := true
		for i := range l {
			l[i] = anyEntry(r, right, wrong)
			if entry.May(l[i]) != mayBe(l[i]) {
				t.Fatal("May", l[i])
			}
			all = all && mayBe(l[i])
		}
		if all {
			mustTable(t, l...)
		} else if g, e := entry.Table(l...); g != (api.Granule{}) || e != api.ErrArg {
			t.Fatal(l, g, e)
		}
		g := bytesOf(l)
		mustUntable(t, g)
		g[r.Intn(len(g))] = byte(r.Intn(256) >> r.Intn(8))
		mustUntable(t, g)
		r.Read(g[:])
		mustUntable(t, g)
		mustBe(t, [8]byte(g[:8]))
		clear(g[3:])
		g[0] %= 8
		mustBe(t, [8]byte(g[:8]))
		mustUntable(t, g)
		entry.Level(l[0], int(r.Uint64()))
		entry.Page(l[1], int(r.Uint64()))
	}
}
