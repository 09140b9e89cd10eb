package tree_test

import (
	"math"
	"testing"

	"anchorite/api"
	"anchorite/machine"
	"anchorite/oracle"
	"anchorite/tree"
)

// noOracles are oracles that are not there, and zero ones.
func noOracles() map[string]*oracle.Oracle {
	emptied := oracle.New(true, digest(1), digest(2))
	tree.None(emptied, 5)
	*emptied = oracle.Oracle{}
	var none *oracle.Oracle
	return map[string]*oracle.Oracle{
		"nil": nil, "zero": {}, "new": new(oracle.Oracle), "emptied": emptied,
		"a copy of none": none.Copy(), "a copy of a zero": new(oracle.Oracle).Copy(),
	}
}

// noMemories are memories that are not there, and such without granules.
func noMemories(t *testing.T) map[string]*machine.Memory {
	emptied := full(t, 70)
	*emptied = machine.Memory{}
	var none *machine.Memory
	refused, _ := machine.New(0)
	return map[string]*machine.Memory{
		"nil": nil, "zero": {}, "new": new(machine.Memory), "emptied": emptied, "refused": refused,
		"a copy of none": none.Copy(), "a copy of a zero": new(machine.Memory).Copy(),
	}
}

// full is memory of so many granules of junk.
func full(t *testing.T, granules int) *machine.Memory {
	t.Helper()
	m, e := machine.New(granules)
	if e != api.OK || m.Write(0, junk(granules*size)) != api.OK {
		t.Fatal(granules, e)
	}
	return m
}

// wrongPages are none: near, below 0, far beyond, and such whose lowest bytes are one's.
func wrongPages() []int {
	return []int{-1, -2, -5, -127, -128, -129, -256, math.MinInt32, math.MinInt, math.MinInt + 5, 128, 129, 133, 255, 256, 257, 1 << 16, 1 << 31, 1 << 32, 1<<32 + 5, 1 << 62, math.MaxInt - 128, math.MaxInt - 127, math.MaxInt - 1, math.MaxInt}
}

// wrongNodes are such that a tree can't lie there, of a memory of so many granules: no multiple of a granule's size, too near its end, beyond it, and such that their end, or a node's address, lies beyond the greatest word.
func wrongNodes(granules int) []uint64 {
	out := []uint64{
		1, 2, 8, 31, 32, 63, 64, 65, 96, 100, 127, 129, 192, 255, 257,
		1 << 31, 1 << 32, 1<<32 + 128, 1 << 39, 1 << 57, 1 << 62, 1<<63 - 128, 1 << 63, 1<<63 + 128,
		math.MaxUint64 - 8191, math.MaxUint64 - 8191 - 128, math.MaxUint64 - 8191 + 128, math.MaxUint64 - 4095, math.MaxUint64 - 127, math.MaxUint64 - 63, math.MaxUint64 - 1, math.MaxUint64,
	}
	first := 0 // granule at which no tree can begin any more
	if granules >= 64 {
		last := uint64(granules-64) * size
		out = append(out, last+1, last+32, last+64, last+127, last-1, last-64, last-127)
		first = granules - 63
	}
	for _, g := range []int{first, first + 1, first + 5, granules - 1, granules, granules + 1, 2 * granules, 4096, 4097} {
		out = append(out, uint64(g)*size)
	}
	return out
}

// calls are all that may be refused for what they are handed, each with its answer's worth.
func calls(o *oracle.Oracle, m *machine.Memory, nodes uint64, page int) map[string]answer {
	check := func(is bool, e api.Errno) answer {
		if is {
			return answer{api.Digest{1}, e}
		}
		return answer{api.Digest{}, e}
	}
	return map[string]answer{
		"Up":    answered(tree.Up(o, m, nodes, page, digest(3))),
		"Check": check(tree.Check(o, m, nodes, api.Digest{}, page, digest(3))),
		"Set":   answered(tree.Set(o, m, nodes, page, digest(3))),
	}
}

// refused says that calls are refused so, and with nothing beside the error.
func refused(t *testing.T, l map[string]answer, want api.Errno, what ...any) {
	t.Helper()
	for name, x := range l {
		if x != (answer{api.Digest{}, want}) {
			t.Errorf("%s %v: %x, %d; not %d", name, what, x.d, x.e, want)
		}
	}
}

// someNodes and somePages are right and wrong ones.
func someNodes() []uint64 { return []uint64{0, 128, 64, 7 * size, 1 << 63, math.MaxUint64} }

func somePages() []int { return []int{0, 127, -1, 128, math.MinInt, math.MaxInt} }

// P15.1

func TestNoneRefuses(t *testing.T) {
	for name, o := range noOracles() {
		for _, page := range append(somePages(), wrongPages()...) {
			if d, e := tree.None(o, page); d != (api.Digest{}) || e != api.ErrNil {
				t.Error(name, page, d, e)
			}
		}
	}
	inModes(t, modes(), 1, func(b *bench) {
		for _, page := range wrongPages() {
			b.wrong(b.none(page), api.ErrArg)
		}
		if len(b.o.Log()) != 0 {
			b.t.Error(b.o.Log())
		}
		b.right(b.none(0))
		b.right(b.none(127))
	})
}

func TestNodeRefuses(t *testing.T) {
	wrong := append([]int{0, -1, 128, 129, 254, 255, 256, 257, 1 << 32, 1<<32 + 1, 1<<32 + 127}, wrongPages()...)
	for name, o := range noOracles() {
		for _, i := range append([]int{1, 2, 127}, wrong...) {
			if d, e := tree.Node(o, i, digest(1), digest(2)); d != (api.Digest{}) || e != api.ErrNil {
				t.Error(name, i, d, e)
			}
		}
	}
	inModes(t, modes(), 1, func(b *bench) {
		for _, i := range wrong {
			b.wrong(b.above(i, digest(1), digest(2)), api.ErrArg)
			b.wrong(b.above(i, api.Digest{}, api.Digest{}), api.ErrArg)
		}
		if len(b.o.Log()) != 0 {
			b.t.Error(b.o.Log())
		}
		b.right(b.above(1, digest(1), digest(2)))
		b.right(b.above(127, digest(1), digest(2)))
	})
}

// P15.2, P15.3

// No oracle, or no memory, or neither, is told ahead of all else; the one that is there stays as it is.
func TestNothingThere(t *testing.T) {
	m := full(t, 70)
	for name, o := range noOracles() {
		for _, nodes := range someNodes() {
			refused(t, map[string]answer{"Lay": answered(tree.Lay(o, m, nodes))}, api.ErrNil, name, nodes)
			for _, page := range somePages() {
				refused(t, calls(o, m, nodes, page), api.ErrNil, name, nodes, page)
			}
		}
	}
	if !m.Same(full(t, 70)) {
		t.Error("memory was written")
	}
	o := oracle.New(true, api.Digest{})
	for name, n := range noMemories(t) {
		for _, nodes := range someNodes() {
			for _, x := range []*oracle.Oracle{o, nil, {}} {
				refused(t, map[string]answer{"Lay": answered(tree.Lay(x, n, nodes))}, api.ErrNil, name, nodes)
				for _, page := range somePages() {
					refused(t, calls(x, n, nodes, page), api.ErrNil, name, nodes, page)
				}
			}
			for _, i := range []int{2, 255, 1, 256, 0, -1, math.MinInt, math.MaxInt} {
				refused(t, map[string]answer{"At": answered(tree.At(n, nodes, i))}, api.ErrNil, name, nodes, i)
			}
			if tree.Within(n, nodes) {
				t.Error(name, nodes, "within")
			}
		}
		if n.Granules() != 0 {
			t.Error(name, "has granules")
		}
	}
	if len(o.Log()) != 0 || o.Used() != 0 {
		t.Error("asked", o.Log())
	}
}

// What is refused asks nothing and writes nothing: of each memory, also of such as have too few granules.
func TestNodesThatDoNotLieWithin(t *testing.T) {
	for _, granules := range []int{1, 2, 63, 64, 65, 70, 4096} {
		b := fresh(t, modes()[2], granules)
		for _, nodes := range wrongNodes(granules) {
			b.wrong(answered(tree.Lay(b.o, b.m, nodes)), api.ErrArg)
			for _, page := range []int{0, 127, -1, 128} {
				refused(t, calls(b.o, b.m, nodes, page), api.ErrArg, granules, nodes, page)
			}
			for _, i := range []int{2, 3, 128, 255, 1, 256} {
				b.wrong(answered(tree.At(b.m, nodes, i)), api.ErrArg)
			}
			if b.within(nodes) {
				t.Error(granules, nodes)
			}
		}
		b.asIs(granules)
	}
}

// The same behind a tree that lies there: it stays as it is.
func TestRefusedBehindLay(t *testing.T) {
	inModes(t, modes(), 70, func(b *bench) {
		root := b.right(b.lay(size))
		for _, nodes := range wrongNodes(70) {
			b.wrong(b.lay(nodes), api.ErrArg)
			b.wrong(b.set(nodes, 5, digest(1)), api.ErrArg)
			b.wrong(b.up(nodes, 5, digest(1)), api.ErrArg)
			b.wrong(b.at(nodes, 5), api.ErrArg)
			if b.check(nodes, root, 5, digest(1)) {
				b.t.Error(nodes)
			}
		}
		for _, page := range wrongPages() {
			b.wrong(b.set(size, page, digest(1)), api.ErrArg)
			b.wrong(b.up(size, page, digest(1)), api.ErrArg)
			// Not even of the root that a call which is refused answers.
			if b.check(size, root, page, digest(1)) || b.check(size, api.Digest{}, page, digest(1)) {
				b.t.Error(page)
			}
			if _, e := tree.Check(b.o, b.m, size, api.Digest{}, page, digest(1)); e != api.ErrArg {
				b.t.Error(page, e)
			}
		}
		if len(b.o.Log()) != 255 {
			b.t.Error("asked", len(b.o.Log()))
		}
	})
}

func TestAtRefuses(t *testing.T) {
	b := fresh(t, modes()[2], 70)
	for _, nodes := range []uint64{0, 6 * size, 64, 7 * size} {
		for _, i := range append([]int{1, 0, -1, 256, 257, 511, 1 << 32, 1<<32 + 2, 1<<59 + 2, 1<<59 - 2, -1 << 59, -(1 << 59) + 2}, math.MinInt, math.MinInt+2, math.MaxInt) {
			b.wrong(b.at(nodes, i), api.ErrArg)
		}
	}
}

// P15.4

func TestWayRefuses(t *testing.T) {
	for _, page := range wrongPages() {
		if l, e := tree.Way(page); len(l) != 0 || e != api.ErrArg {
			t.Error("Way", page, l, e)
		}
		if l, e := tree.Beside(page); len(l) != 0 || e != api.ErrArg {
			t.Error("Beside", page, l, e)
		}
	}
}
