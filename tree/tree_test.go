package tree_test

import (
	"crypto/sha256"
	"encoding/hex"
	"slices"
	"testing"

	"anchorite/api"
	"anchorite/machine"
	"anchorite/oracle"
	"anchorite/tree"
)

// places are where nodes may lie: in a memory of just as many granules as they take, at its beginning, and so that their last granule is its last one.
func places() []struct {
	granules int
	nodes    uint64
} {
	return []struct {
		granules int
		nodes    uint64
	}{{64, 0}, {65, 0}, {65, size}, {70, 256}, {70, 6 * size}, {130, 0}, {130, 66 * size}, {4096, 0}, {4096, 17 * size}, {4096, 4032 * size}}
}

// atPlaces runs a test in each of these modes, at each place.
func atPlaces(t *testing.T, l []mode, test func(b *bench, nodes uint64)) {
	for _, m := range l {
		t.Run(m.name, func(t *testing.T) {
			for _, p := range places() {
				test(fresh(t, m, p.granules), p.nodes)
			}
		})
	}
}

// edgePages are the first, the last, and those at which halves meet.
func edgePages() []int { return []int{0, 1, 2, 3, 5, 31, 32, 63, 64, 77, 95, 96, 126, 127} }

// leaves are noughts, bytes that all differ, the greatest, and such with one byte at an end.
func leaves() []api.Digest {
	return []api.Digest{{}, digest(200), api.Digest(slices.Repeat([]byte{255}, 32)), {0: 1}, {31: 128}}
}

func number(n int) []byte { return []byte{byte(n), byte(n >> 8), 0, 0, 0, 0, 0, 0} }

// The chapter's examples.
func TestExamples(t *testing.T) {
	if l, e := tree.Way(0); !slices.Equal(l, []int{128, 64, 32, 16, 8, 4, 2, 1}) || e != api.OK {
		t.Error("Way(0)", l, e)
	}
	if l, e := tree.Beside(5); !slices.Equal(l, []int{132, 67, 32, 17, 9, 5, 3}) || e != api.OK {
		t.Error("Beside(5)", l, e)
	}
	inModes(t, modes(), 70, func(b *bench) {
		b.wrong(b.lay(64), api.ErrArg)
		b.wrong(b.lay(69*size), api.ErrArg)
		b.wrong(b.up(0, 128, api.Digest{}), api.ErrArg)
	})
}

// P15.1

// asks says that the oracle was asked this one question.
func asks(t *testing.T, o *oracle.Oracle, d api.Domain, data ...[]byte) {
	t.Helper()
	l := o.Log()
	want := textOf(api.Question{Kind: api.QDigest, Domain: d, Data: slices.Concat(data...)})
	if len(l) != 1 || !slices.Equal(textOf(l[0].Question), want) {
		t.Fatalf("asked %x; not %x", l, want)
	}
}

func TestNone(t *testing.T) {
	inModes(t, modes(), 1, func(b *bench) {
		for page := range 128 {
			d := b.right(b.none(page))
			if b.right(b.none(page)) != d {
				b.t.Error(page, "is another one when it is asked again")
			}
			c := fresh(b.t, b.a.mode, 1)
			c.right(c.none(page))
			asks(c.t, c.o, api.DomNone, number(page))
		}
		if n := len(b.o.Log()); n != 128 {
			b.t.Error(n)
		}
	})
}

func TestNode(t *testing.T) {
	inModes(t, modes(), 1, func(b *bench) {
		for i := 1; i <= 127; i++ {
			for k, x := range leaves() {
				y := leaves()[(k+1)%len(leaves())]
				b.right(b.above(i, x, y))
				c := fresh(b.t, b.a.mode, 1)
				c.right(c.above(i, x, y))
				asks(c.t, c.o, api.DomNode, number(i), x[:], y[:])
			}
		}
	})
}

// Both of them alike may be, and what lies on the one side is not what lies on the other.
func TestNodeOfBothSides(t *testing.T) {
	inModes(t, distinctModes(), 1, func(b *bench) {
		x, y := digest(1), digest(2)
		seen := map[api.Digest]int{}
		for i := 1; i <= 127; i++ {
			for _, d := range []api.Digest{b.right(b.above(i, x, y)), b.right(b.above(i, y, x)), b.right(b.above(i, x, x)), b.right(b.above(i, y, y))} {
				if was, is := seen[d]; is {
					b.t.Error(i, "is as", was)
				}
				seen[d] = i
			}
		}
	})
}

// No page's leaf of nothing is another one's, nor a node's.
func TestNonesAreUnlike(t *testing.T) {
	inModes(t, distinctModes(), 1, func(b *bench) {
		seen := map[api.Digest]int{}
		for page := range 128 {
			d := b.right(b.none(page))
			if was, is := seen[d]; is {
				b.t.Error(page, "is as", was)
			}
			seen[d] = page
		}
		for i := 1; i <= 127; i++ {
			if was, is := seen[b.right(b.above(i, api.Digest{}, api.Digest{}))]; is {
				b.t.Error("the node", i, "is as the page", was)
			}
		}
	})
}

// Bytes, written out; the master key does nothing to them.
func TestConcreteBytes(t *testing.T) {
	x, y := digest(1), digest(2)
	none := []byte{0: 1, 33: 6, 34: 77, 41: 0}
	node := slices.Concat([]byte{0: 1, 33: 5, 34: 99, 41: 0}, x[:], y[:])
	for _, master := range []api.Digest{{}, digest(7)} {
		o := oracle.New(false, master)
		if d, e := tree.None(o, 77); d != sha256.Sum256(none) || e != api.OK {
			t.Errorf("%x, %d", d, e)
		}
		if d, e := tree.Node(o, 99, x, y); d != sha256.Sum256(node) || e != api.OK {
			t.Errorf("%x, %d", d, e)
		}
	}
}

// Held against digests that were worked out by another program.
func TestConcreteAsKnown(t *testing.T) {
	var leaf api.Digest
	for i := range leaf {
		leaf[i] = byte(i + 1)
	}
	b := fresh(t, modes()[0], 66)
	is := func(d api.Digest, want string) {
		t.Helper()
		if hex.EncodeToString(d[:]) != want {
			t.Errorf("%x; not %s", d, want)
		}
	}
	is(b.right(b.lay(128)), "eb1fad5f58c0463dbc578f4b4ea1ddad66c42307f620009a3ca923a6557b5fba")
	is(b.right(b.at(128, 2)), "6e61b9da7734ca7eec8483ca8324d26018eee454310ff04f36d14babb038e6ea")
	is(b.right(b.at(128, 127)), "3af56d4f37bd57e32d9c12a838cd1f8e49898afd4712f5840f748181f12dead5")
	is(b.right(b.at(128, 128)), "21b191304b6890662ab5b0fad57346c0dc04dd9d5bf2f062f1fb2fd31fc56ea3")
	is(b.right(b.at(128, 255)), "1ad8d9712988e77d0cfacb9d62019dd3cd6a3426b4089193946f94d1b6a0c97e")
	is(b.right(b.set(128, 77, leaf)), "66d5bce7137986a3fb76a2ab648a302503ad821d5056f8fbe52367321a05df0c")
	is(b.right(b.at(128, 3)), "62b11182b895dcc91362409a113a5eb7af6bb737f856ad3480a77e62348d8615")
	is(b.right(b.up(128, 0, leaf)), "5ce355d8d9f1868f12f51dccfd8c90e8baeca944dd8e1a0303b93442ed55189b")
}

// P15.2

// A tree of nothing, wherever it may lie; what lies beside it, and where the numbers 0 and 1 would lie, stays as it was.
func TestLay(t *testing.T) {
	atPlaces(t, modes(), func(b *bench, nodes uint64) {
		was := slices.Clone(b.a.bytes)
		b.right(b.lay(nodes))
		got, e := b.m.Read(0, len(was))
		if e != api.OK {
			b.t.Fatal(e)
		}
		from, to := int(nodes)+64, int(nodes)+all
		if !slices.Equal(got[:from], was[:from]) || !slices.Equal(got[to:], was[to:]) {
			b.t.Error(nodes, "bytes beside the nodes")
		}
	})
}

// The order in which it asks: leaves rising, then nodes falling; each answer lies at its number, the last is the root.
func TestLayAsksInOrder(t *testing.T) {
	inModes(t, modes(), 64, func(b *bench) {
		root := b.right(b.lay(0))
		l := b.o.Log()
		if len(l) != 255 || l[254].Answer != root {
			b.t.Fatal(len(l), root)
		}
		for k, x := range l {
			d, i, data := api.DomNone, 128+k, number(k)
			if k >= 128 {
				d, i = api.DomNode, 255-k
				data = slices.Concat(number(i), b.a.node(0, 2*i), b.a.node(0, 2*i+1))
			}
			if x.Question.Domain != d || !slices.Equal(x.Question.Data, data) {
				b.t.Fatalf("the question %d: %v", k, x)
			}
			if i > 1 && b.right(b.at(0, i)) != x.Answer {
				b.t.Fatalf("the node %d: %v", i, x)
			}
		}
	})
}

// Draws in their places, with and behind the list's end.
func TestLaysDraws(t *testing.T) {
	for _, n := range []int{0, 1, 127, 128, 129, 253, 254, 255, 256} {
		b := fresh(t, mode{"", true, drawn(n)}, 64)
		want := func(k int) api.Digest {
			if k < n {
				return drawn(n)[k]
			}
			return api.Digest{0: byte(k), 31: 1}
		}
		if b.right(b.lay(0)) != want(254) {
			t.Error("the root of", n)
		}
		for i := 2; i <= 255; i++ {
			k := i - 128
			if i < 128 {
				k = 255 - i
			}
			if b.right(b.at(0, i)) != want(k) {
				t.Error("the node", i, "of", n)
			}
		}
	}
}

// What was asked is not asked again: neither of a second tree, nor of a tree behind questions for parts of it.
func TestLayAgain(t *testing.T) {
	inModes(t, modes(), 130, func(b *bench) {
		b.none(5)
		b.none(127)
		b.above(3, digest(1), digest(2))
		first := b.right(b.lay(0))
		if n := len(b.o.Log()); n != 256 {
			b.t.Error(n)
		}
		b.set(0, 9, digest(1))
		n := len(b.o.Log())
		for _, nodes := range []uint64{0, 64 * size, 66 * size, 64 * size, size} {
			if b.right(b.lay(nodes)) != first {
				b.t.Error("another root", nodes)
			}
		}
		if len(b.o.Log()) != n {
			b.t.Error("asked again")
		}
	})
}

// At is what lies there, whoever wrote it.
func TestAt(t *testing.T) {
	b := fresh(t, modes()[2], 70)
	for _, nodes := range []uint64{0, 128, 256, 6 * size} {
		for i := 2; i <= 255; i++ {
			if d := b.right(b.at(nodes, i)); !slices.Equal(d[:], junk(70 * size)[int(nodes)+32*i:][:32]) {
				t.Error(nodes, i, d)
			}
		}
	}
	b.write(256+2*32, leaves()[1][:])
	b.write(256+255*32, leaves()[2][:])
	if b.right(b.at(256, 2)) != leaves()[1] || b.right(b.at(256, 255)) != leaves()[2] {
		t.Error("the first, or the last one")
	}
	if len(b.o.Log()) != 0 {
		t.Error("asked", b.o.Log())
	}
}

func TestWithin(t *testing.T) {
	for _, granules := range []int{1, 2, 63, 64, 65, 127, 128, 129, 4095, 4096} {
		b := fresh(t, modes()[2], granules)
		for _, g := range []int{0, 1, 2, 63, 64, 65, granules - 65, granules - 64, granules - 63, granules - 1, granules} {
			want := g+64 <= granules
			if g < 0 {
				continue
			}
			if tree.Within(b.m, uint64(g)*size) != want || b.within(uint64(g)*size) != want {
				t.Error(granules, g, !want)
			}
		}
		for _, nodes := range wrongNodes(granules) {
			if b.within(nodes) {
				t.Error(granules, nodes)
			}
		}
	}
}

// P15.3

// Up of each page, in memory of junk, at each place.
func TestUp(t *testing.T) {
	atPlaces(t, modes(), func(b *bench, nodes uint64) {
		pages := edgePages()
		if b.m.Granules() > 130 {
			pages = []int{0, 127} // memory is held against the model's as a whole: enough of so much of it
		}
		for k, page := range pages {
			leaf := leaves()[k%len(leaves())]
			d := b.right(b.up(nodes, page, leaf))
			if !b.check(nodes, d, page, leaf) {
				b.t.Error(page, "is not what it is")
			}
		}
	})
}

func TestUpOfEachPage(t *testing.T) {
	inModes(t, modes(), 65, func(b *bench) {
		for page := range 128 {
			b.right(b.up(size, page, digest(byte(page))))
		}
	})
}

// What a page's root is asked by, written out: seven questions, each with the node beside on its own side.
func TestUpAsksInOrder(t *testing.T) {
	for _, m := range modes() {
		b := fresh(t, m, 64)
		leaf := digest(50)
		root := b.right(b.up(0, 5, leaf))
		d := leaf
		l := b.o.Log()
		if len(l) != 7 || l[6].Answer != root {
			t.Fatal(m.name, l)
		}
		for k, s := range []struct {
			i, beside int
			left      bool // is it the one beside that lies on the left?
		}{{66, 132, true}, {33, 67, false}, {16, 32, true}, {8, 17, false}, {4, 9, false}, {2, 5, false}, {1, 3, false}} {
			want := slices.Concat(number(s.i), d[:], b.a.node(0, s.beside))
			if s.left {
				want = slices.Concat(number(s.i), b.a.node(0, s.beside), d[:])
			}
			if q := l[k].Question; q.Domain != api.DomNode || !slices.Equal(q.Data, want) {
				t.Errorf("%s, %d: %x; not %x", m.name, k, q.Data, want)
			}
			d = l[k].Answer
		}
	}
}

// It hangs on the leaf, and on each bit of the nodes beside the way, and on nothing else that lies there.
func TestUpHangsOnWhatIsBeside(t *testing.T) {
	for _, m := range []mode{modes()[0], modes()[2]} {
		b := fresh(t, m, 66)
		for _, page := range []int{0, 5, 127} {
			leaf := digest(byte(page))
			root := b.right(b.up(size, page, leaf))
			beside, _ := tree.Beside(page)
			for i := range 256 {
				bit := (37 * i) % 256
				b.turn(size, i, bit)
				if same := b.quick(size, root, page, leaf); same == slices.Contains(beside, i) {
					t.Error(m.name, page, "the node", i, same)
				}
				b.turn(size, i, bit)
			}
			for bit := range 256 {
				turned := leaf
				turned[bit/8] ^= 1 << (bit % 8)
				if b.quick(size, root, page, turned) {
					t.Error(m.name, page, "a leaf's bit", bit)
				}
				if bit%16 == 3 {
					for _, i := range beside {
						b.turn(size, i, bit)
						if b.quick(size, root, page, leaf) {
							t.Error(m.name, page, "the node", i, "its bit", bit)
						}
						b.turn(size, i, bit)
					}
				}
			}
			if !b.quick(size, root, page, leaf) {
				t.Error(m.name, page, "as it was")
			}
			b.asIs(m.name, page)
		}
	}
}

// Each bit of the root counts.
func TestCheckOfRoots(t *testing.T) {
	inModes(t, modes(), 64, func(b *bench) {
		root := b.right(b.up(0, 77, digest(3)))
		for bit := range 256 {
			turned := root
			turned[bit/8] ^= 1 << (bit % 8)
			if b.check(0, turned, 77, digest(3)) {
				b.t.Error("a root's bit", bit)
			}
		}
		if !b.check(0, root, 77, digest(3)) {
			b.t.Error("the root")
		}
	})
}

// Set of pages, in memory of junk, at each place: seven nodes are written, as Up reckons them.
func TestSet(t *testing.T) {
	atPlaces(t, modes(), func(b *bench, nodes uint64) {
		pages := edgePages()
		if b.m.Granules() > 130 {
			pages = []int{0, 127}
		}
		for k, page := range pages {
			leaf := leaves()[k%len(leaves())]
			up := b.right(b.up(nodes, page, leaf))
			n, was := len(b.o.Log()), slices.Clone(b.a.bytes)
			if b.right(b.set(nodes, page, leaf)) != up {
				b.t.Error(page, "another root than Up's")
			}
			if len(b.o.Log()) != n {
				b.t.Error(page, "asks other questions than Up")
			}
			if b.right(b.at(nodes, 128+page)) != leaf || !b.check(nodes, up, page, leaf) {
				b.t.Error(page, "its leaf")
			}
			b.written(nodes, page, was)
		}
	})
}

// written says that no bytes are other than they were but those of a page's way below the root.
func (b *bench) written(nodes uint64, page int, was []byte) {
	b.t.Helper()
	now, e := b.m.Read(0, len(was))
	if e != api.OK {
		b.t.Fatal(e)
	}
	for at := range now {
		i := (at - int(nodes)) / 32
		mine := at >= int(nodes) && i >= 2 && i <= 255 && onWay(i, page)
		if now[at] != was[at] && !mine {
			b.t.Fatal(page, "a byte of", i, "was written, at", at)
		}
	}
}

func TestSetOfEachPage(t *testing.T) {
	inModes(t, modes(), 66, func(b *bench) {
		for page := range 128 {
			b.right(b.set(size, page, digest(byte(page))))
		}
		for page := 127; page >= 0; page-- {
			if b.right(b.at(size, 128+page)) != digest(byte(page)) {
				b.t.Error(page)
			}
		}
	})
}

// A leaf that is set again asks nothing, and leaves all as it is.
func TestSetAgain(t *testing.T) {
	inModes(t, modes(), 64, func(b *bench) {
		b.lay(0)
		first := b.right(b.set(0, 77, digest(1)))
		n, was := len(b.o.Log()), b.m.Copy()
		if b.right(b.set(0, 77, digest(1))) != first || len(b.o.Log()) != n || !b.m.Same(was) {
			b.t.Error("set again")
		}
	})
}

// Set, as it is asked on an oracle of which nothing else was asked, asks as Up does.
func TestSetAsksAsUpDoes(t *testing.T) {
	inModes(t, modes(), 64, func(b *bench) {
		for _, page := range edgePages() {
			a, c := fresh(b.t, b.a.mode, 64), fresh(b.t, b.a.mode, 64)
			a.right(a.up(0, page, digest(2)))
			c.right(c.set(0, page, digest(2)))
			if l := c.o.Log(); len(l) != 7 || !slices.EqualFunc(l, a.o.Log(), sameAsked) {
				b.t.Error(page, l)
			}
		}
	})
}

// P15.4

func TestWayOfEachPage(t *testing.T) {
	for page := range 128 {
		var way, beside []int
		for i := 128 + page; i > 0; i /= 2 {
			way = append(way, i)
			switch {
			case i == 1:
			case i%2 == 0:
				beside = append(beside, i+1)
			default:
				beside = append(beside, i-1)
			}
		}
		if l, e := tree.Way(page); !slices.Equal(l, way) || len(l) != 8 || e != api.OK {
			t.Error("Way", page, l, e)
		}
		if l, e := tree.Beside(page); !slices.Equal(l, beside) || len(l) != 7 || e != api.OK {
			t.Error("Beside", page, l, e)
		}
	}
	if l, _ := tree.Way(127); !slices.Equal(l, []int{255, 127, 63, 31, 15, 7, 3, 1}) {
		t.Error("Way(127)", l)
	}
	if l, _ := tree.Beside(127); !slices.Equal(l, []int{254, 126, 62, 30, 14, 6, 2}) {
		t.Error("Beside(127)", l)
	}
	if l, _ := tree.Beside(0); !slices.Equal(l, []int{129, 65, 33, 17, 9, 5, 3}) {
		t.Error("Beside(0)", l)
	}
}

// What is answered is the caller's: what is written there, or behind it, is in no later answer.
func TestWaysAreNew(t *testing.T) {
	for _, of := range []func(int) ([]int, api.Errno){tree.Way, tree.Beside} {
		first, _ := of(5)
		was := slices.Clone(first)
		second, _ := of(5)
		for i := range first[:cap(first)] {
			first[:cap(first)][i] = -1
		}
		third, _ := of(5)
		if !slices.Equal(second, was) || !slices.Equal(third, was) {
			t.Error(was, second, third)
		}
	}
}

// P15.5

func TestBehindLay(t *testing.T) {
	inModes(t, modes(), 66, func(b *bench) {
		root := b.right(b.lay(size))
		for page := range 128 {
			if !b.check(size, root, page, b.right(b.none(page))) {
				b.t.Error(page)
			}
		}
	})
}

// leafs is each page's latest leaf, in a tree that lies at nodes.
type leafs struct {
	nodes  uint64
	root   api.Digest
	latest [128]api.Digest
}

// laid is a tree of nothing that is laid.
func (b *bench) laid(nodes uint64) *leafs {
	b.t.Helper()
	l := &leafs{nodes: nodes, root: b.right(b.lay(nodes))}
	for page := range l.latest {
		l.latest[page] = b.right(b.none(page))
	}
	return l
}

// put sets a page's leaf.
func (l *leafs) put(b *bench, page int, leaf api.Digest) {
	b.t.Helper()
	l.root = b.right(b.set(l.nodes, page, leaf))
	l.latest[page] = leaf
}

// holds says that each page's latest leaf holds, and no other one of these.
func (l *leafs) holds(b *bench, others ...api.Digest) {
	b.t.Helper()
	for page, leaf := range l.latest {
		if !b.quick(l.nodes, l.root, page, leaf) {
			b.t.Error(page, "its latest leaf")
		}
		for _, d := range others {
			if d != leaf && b.quick(l.nodes, l.root, page, d) {
				b.t.Error(page, "another leaf")
			}
		}
	}
	b.asIs("Check of each page")
}

// Leaves that are set one behind the other, each page's Check with its latest, with an older one, and with another page's.
func TestBehindSet(t *testing.T) {
	for _, m := range []mode{modes()[0], modes()[2], modes()[6]} {
		t.Run(m.name, func(t *testing.T) {
			b := fresh(t, m, 66)
			l := b.laid(size)
			for k, page := range []int{77, 76, 0, 127, 77, 1, 64, 63, 77, 127} {
				older := l.latest[page]
				l.put(b, page, digest(byte(100+k)))
				l.holds(b, older)
			}
			l.holds(b, digest(100), digest(104), digest(108), digest(103), digest(109), b.right(b.none(77)), b.right(b.none(5)))
		})
	}
}

// In a mode of draws alike, what was true stays true.
func TestBehindSetOfDrawsAlike(t *testing.T) {
	for _, m := range modes()[7:] {
		t.Run(m.name, func(t *testing.T) {
			b := fresh(t, m, 66)
			l := b.laid(0)
			for k, page := range []int{5, 4, 5, 127, 0} {
				l.put(b, page, digest(byte(k)))
				l.holds(b)
			}
		})
	}
}

// Leaves that go and come again: the tree is what it was, and its root too.
func TestBackToWhatItWas(t *testing.T) {
	inModes(t, distinctModes(), 64, func(b *bench) {
		l := b.laid(0)
		first, was, none := l.root, b.m.Copy(), l.latest[77]
		l.put(b, 77, digest(1))
		if l.root == first || b.m.Same(was) {
			b.t.Error("nothing was set")
		}
		l.put(b, 3, digest(2))
		l.put(b, 77, none)
		if l.root == first {
			b.t.Error("the page 3 is still set")
		}
		l.put(b, 3, b.right(b.none(3)))
		if l.root != first || !b.m.Same(was) {
			b.t.Error("not as it was")
		}
	})
}

// An older root holds with what was set then, if what lies beside is as it was, and with nothing that was set later.
func TestOlderRoots(t *testing.T) {
	inModes(t, distinctModes(), 64, func(b *bench) {
		l := b.laid(0)
		l.put(b, 10, digest(1))
		old := l.root
		l.put(b, 10, digest(2))
		if !b.check(0, old, 10, digest(1)) {
			b.t.Error("the older root, by the nodes beside")
		}
		if b.check(0, l.root, 10, digest(1)) || b.check(0, old, 10, digest(2)) {
			b.t.Error("the older leaf with the newer root, or the other way round")
		}
		l.put(b, 11, digest(3))
		if b.check(0, old, 10, digest(1)) {
			b.t.Error("the older root, with another leaf beside")
		}
	})
}

// Memory that was written otherwise between two calls: a node beside the way is seen, one on it is not; as it was, it holds again.
func TestWrittenOtherwise(t *testing.T) {
	inModes(t, distinctModes(), 66, func(b *bench) {
		l := b.laid(size)
		l.put(b, 20, digest(1))
		l.put(b, 99, digest(2))
		for _, page := range []int{20, 21, 99, 127} {
			way, _ := tree.Way(page)
			beside, _ := tree.Beside(page)
			for k, i := range beside {
				b.turn(size, i, 31*k)
				if b.check(size, l.root, page, l.latest[page]) {
					b.t.Error(page, "a node beside", i)
				}
				b.turn(size, i, 31*k)
			}
			for _, i := range way[:7] {
				b.turn(size, i, 8*i%256)
				if !b.check(size, l.root, page, l.latest[page]) {
					b.t.Error(page, "a node of the way", i)
				}
				b.turn(size, i, 8*i%256)
			}
			b.turn(size, 0, 1)
			b.turn(size, 1, 1)
			if !b.check(size, l.root, page, l.latest[page]) {
				b.t.Error(page, "where no node lies")
			}
		}
		l.holds(b)
	})
}

// What was written otherwise is taken as it lies: Set goes on by it, and mends the page's own way.
func TestSetBehindWrittenOtherwise(t *testing.T) {
	inModes(t, distinctModes(), 64, func(b *bench) {
		l := b.laid(0)
		before := l.root
		b.turn(0, 3, 5)
		l.put(b, 0, l.latest[0])
		if l.root == before || !b.check(0, l.root, 0, l.latest[0]) || b.check(0, l.root, 127, l.latest[127]) {
			b.t.Error("a node beside the way")
		}
		b.turn(0, 3, 5)
		b.turn(0, 64, 5)
		l.put(b, 0, l.latest[0])
		if l.root != before {
			b.t.Error("a node of the way")
		}
		l.holds(b)
	})
}

// Two trees in one memory, asked of one oracle, go on apart.
func TestTwoTrees(t *testing.T) {
	inModes(t, distinctModes(), 130, func(b *bench) {
		x, y := b.laid(size), b.laid(65*size)
		x.put(b, 5, digest(1))
		y.put(b, 5, digest(2))
		y.put(b, 6, digest(3))
		if x.root == y.root {
			b.t.Error("one root")
		}
		for _, page := range []int{0, 4, 5, 6, 7, 127} {
			if !b.check(x.nodes, x.root, page, x.latest[page]) || !b.check(y.nodes, y.root, page, y.latest[page]) {
				b.t.Error(page)
			}
		}
		if b.check(x.nodes, y.root, 5, digest(2)) || b.check(y.nodes, x.root, 5, digest(1)) {
			b.t.Error("one tree's root, and leaf, in the other one")
		}
	})
}

// Copies of an oracle and a memory go on apart.
func TestCopies(t *testing.T) {
	o := oracle.New(true, api.Digest{}, drawn(300)...)
	m, _ := machine.New(64)
	root, e := tree.Lay(o, m, 0)
	if e != api.OK {
		t.Fatal(e)
	}
	p, n := o.Copy(), m.Copy()
	if d, e := tree.Set(p, n, 0, 5, digest(1)); d == root || e != api.OK {
		t.Error(d, e)
	}
	leaf, _ := tree.None(o, 5)
	if is, e := tree.Check(o, m, 0, root, 5, leaf); !is || e != api.OK || o.Used() != 255 || p.Used() != 262 {
		t.Error(is, e, o.Used(), p.Used())
	}
}
