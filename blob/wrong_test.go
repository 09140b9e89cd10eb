package blob_test

import (
	"math"
	"testing"

	"anchorite/api"
	"anchorite/blob"
	"anchorite/oracle"
)

// noOracles are oracles that are not there, and zero ones.
func noOracles() map[string]*oracle.Oracle {
	emptied := oracle.New(true, digest(1), digest(2))
	blob.None(emptied, 5)
	*emptied = oracle.Oracle{}
	var none *oracle.Oracle
	return map[string]*oracle.Oracle{
		"nil": nil, "zero": {}, "new": new(oracle.Oracle), "emptied": emptied,
		"a copy of none": none.Copy(), "a copy of a zero": new(oracle.Oracle).Copy(),
	}
}

// wrongPages are none: near, below 0, open ones, far beyond, and such whose lowest bytes are one's.
func wrongPages() []int {
	return []int{-1, -2, -5, -127, -128, -129, -256, math.MinInt32, math.MinInt, math.MinInt + 5, 128, 129, 133, 255, 256, 257, 1 << 16, 1 << 31, 1 << 32, 1<<32 + 5, 1 << 62, math.MaxInt - 128, math.MaxInt - 127, math.MaxInt - 1, math.MaxInt}
}

// wrongCounters are above the greatest: near, far beyond, and such whose lowest bytes are one's.
func wrongCounters() []uint64 {
	return []uint64{last + 1, last + 2, 2*last - 1, 2 * last, 2*last + 1, 1 << 40, 1 << 48, 1<<56 + 3, 1<<63 - 1, 1 << 63, 1<<63 + 3, math.MaxUint64 - last, math.MaxUint64 - 1, math.MaxUint64}
}

// refused says that each call of a page and a counter is refused so, and with nothing beside the error.
func refused(t *testing.T, o *oracle.Oracle, page int, counter uint64, want api.Errno, what ...any) {
	t.Helper()
	for _, g := range []api.Granule{{}, granule(0)} {
		for name, x := range map[string]answer[api.Granule]{
			"Seal": answered(blob.Seal(o, digest(3), page, counter, g)),
			"Open": answered(blob.Open(o, digest(3), page, counter, g)),
		} {
			if x != (answer[api.Granule]{api.Granule{}, want}) {
				t.Errorf("%s %v %d, %d: %x, %d; not %d", name, what, page, counter, x.x, x.e, want)
			}
		}
		if d, e := blob.Leaf(o, page, counter, g); d != (api.Digest{}) || e != want {
			t.Errorf("Leaf %v %d, %d: %x, %d; not %d", what, page, counter, d, e, want)
		}
	}
}

// That there is no oracle is told ahead of all else.
func TestNoOracle(t *testing.T) {
	for name, o := range noOracles() {
		for _, page := range append([]int{0, 5, 127}, wrongPages()...) {
			for _, counter := range append([]uint64{0, 3, last}, wrongCounters()...) {
				refused(t, o, page, counter, api.ErrNil, name)
			}
			if d, e := blob.None(o, page); d != (api.Digest{}) || e != api.ErrNil {
				t.Errorf("None %s %d: %x, %d", name, page, d, e)
			}
		}
		if len(o.Log()) != 0 || o.Used() != 0 {
			t.Error(name, "was asked")
		}
	}
}

// A page that is none, or a counter above the greatest, or both: what is refused asks nothing.
func TestWrongPagesAndCounters(t *testing.T) {
	inModes(t, modes(), func(b *bench) {
		for _, page := range wrongPages() {
			for _, counter := range append([]uint64{0, 3, last}, wrongCounters()...) {
				refused(b.t, b.o, page, counter, api.ErrArg)
			}
			wrong(b, b.none(page), api.ErrArg)
		}
		for _, counter := range wrongCounters() {
			for _, page := range edgePages() {
				refused(b.t, b.o, page, counter, api.ErrArg)
			}
		}
		if len(b.o.Log()) != 0 {
			b.t.Error("asked", b.o.Log())
		}
	})
}

// The same behind questions that were asked: what was answered stays, and the next draw is the one that it would have been.
func TestRefusedBehindOthers(t *testing.T) {
	inModes(t, modes(), func(b *bench) {
		sealed := right(b, b.seal(digest(3), 5, 7, granule(0)))
		leaf, none := right(b, b.leaf(5, 7, sealed)), right(b, b.none(5))
		for _, page := range wrongPages() {
			wrong(b, b.seal(digest(3), page, 7, granule(0)), api.ErrArg)
			wrong(b, b.open(digest(3), page, 7, sealed), api.ErrArg)
			wrong(b, b.leaf(page, 7, sealed), api.ErrArg)
			wrong(b, b.none(page), api.ErrArg)
		}
		for _, counter := range wrongCounters() {
			wrong(b, b.seal(digest(3), 5, counter, granule(0)), api.ErrArg)
			wrong(b, b.open(digest(3), 5, counter, sealed), api.ErrArg)
			wrong(b, b.leaf(5, counter, sealed), api.ErrArg)
		}
		if right(b, b.seal(digest(3), 5, 7, granule(0))) != sealed || right(b, b.leaf(5, 7, sealed)) != leaf || right(b, b.none(5)) != none {
			b.t.Error("other answers than they were")
		}
		right(b, b.seal(digest(3), 127, last, granule(0)))
		right(b, b.leaf(0, 0, api.Granule{}))
		right(b, b.none(127))
	})
}

// Both edges may be, and what is beside them may not.
func TestEdges(t *testing.T) {
	inModes(t, modes(), func(b *bench) {
		for _, page := range []int{0, 127} {
			for _, counter := range []uint64{0, last} {
				right(b, b.seal(api.Digest{}, page, counter, api.Granule{}))
				right(b, b.open(api.Digest{}, page, counter, filled(255)))
				right(b, b.leaf(page, counter, filled(255)))
			}
			right(b, b.none(page))
			wrong(b, b.seal(api.Digest{}, page, last+1, api.Granule{}), api.ErrArg)
			wrong(b, b.open(api.Digest{}, page, last+1, api.Granule{}), api.ErrArg)
			wrong(b, b.leaf(page, last+1, api.Granule{}), api.ErrArg)
		}
		for _, page := range []int{-1, 128} {
			wrong(b, b.seal(api.Digest{}, page, 0, api.Granule{}), api.ErrArg)
			wrong(b, b.open(api.Digest{}, page, last, api.Granule{}), api.ErrArg)
			wrong(b, b.leaf(page, 0, api.Granule{}), api.ErrArg)
			wrong(b, b.none(page), api.ErrArg)
		}
	})
}
