package blob_test

import (
	"bytes"
	"crypto/sha256"
	"encoding/hex"
	"slices"
	"testing"

	"anchorite/api"
	"anchorite/blob"
	"anchorite/oracle"
	"anchorite/tree"
)

// The chapter's examples.
func TestExamples(t *testing.T) {
	var draws []api.Digest
	for i := range 4 {
		draws = append(draws, api.Digest(slices.Repeat([]byte{byte(i + 1)}, 32)))
	}
	o := oracle.New(true, api.Digest{}, draws...)
	g, e := blob.Seal(o, api.Digest{}, 0, 0, api.Granule{})
	want := slices.Concat(draws[0][:], draws[1][:], draws[2][:], draws[3][:])
	if !bytes.Equal(g[:], want) || e != api.OK {
		t.Errorf("%x, %d", g, e)
	}
	if g, e := blob.Seal(o, api.Digest{}, 128, 0, api.Granule{}); g != (api.Granule{}) || e != api.ErrArg {
		t.Errorf("the page 128: %x, %d", g, e)
	}
	if g, e := blob.Seal(nil, api.Digest{}, 0, 0, api.Granule{}); g != (api.Granule{}) || e != api.ErrNil {
		t.Errorf("no oracle: %x, %d", g, e)
	}
	if g := blob.Mix(granule(0), granule(0)); g != (api.Granule{}) {
		t.Errorf("Mix: %x", g)
	}
}

// P16.1

func TestMix(t *testing.T) {
	for x := range 256 {
		for y := range 256 {
			if g := blob.Mix(filled(byte(x)), filled(byte(y))); g != filled(byte(x^y)) {
				t.Fatalf("%d, %d: %x", x, y, g)
			}
		}
	}
	for _, a := range granules() {
		for _, b := range granules() {
			var want api.Granule
			for i := range want {
				want[i] = a[i]&^b[i] | b[i]&^a[i]
			}
			if g := blob.Mix(a, b); g != want || blob.Mix(b, a) != want || blob.Mix(want, b) != a {
				t.Errorf("%x, %x: %x", a, b, g)
			}
		}
		if blob.Mix(a, a) != (api.Granule{}) || blob.Mix(a, api.Granule{}) != a {
			t.Errorf("%x", a)
		}
	}
}

// Each place by itself, on either side.
func TestMixOfEachPlace(t *testing.T) {
	a, b := granule(0), granule(99)
	was := blob.Mix(a, b)
	for bit := range 8 * size {
		want, turned := was, api.Granule{}
		turned[bit/8] = 1 << (bit % 8)
		want[bit/8] ^= turned[bit/8]
		if blob.Mix(a, turned) == a || blob.Mix(blob.Mix(a, turned), b) != want || blob.Mix(a, blob.Mix(turned, b)) != want {
			t.Error("the bit", bit)
		}
	}
}

// Each page and counter, with keys and granules in turn.
func TestSealAndOpen(t *testing.T) {
	inModes(t, modes(), func(b *bench) {
		k := 0
		for _, page := range edgePages() {
			for _, counter := range edgeCounters() {
				key, g := keys()[k%len(keys())], granules()[k%len(granules())]
				k++
				sealed := right(b, b.seal(key, page, counter, g))
				if right(b, b.open(key, page, counter, sealed)) != g {
					b.t.Error("not as it was", page, counter)
				}
			}
		}
		b.asIs("all pages and counters")
	})
}

func TestSealOfEachKeyAndGranule(t *testing.T) {
	inModes(t, modes(), func(b *bench) {
		for _, key := range keys() {
			for _, g := range granules() {
				right(b, b.open(key, 77, 3, right(b, b.seal(key, 77, 3, g))))
			}
		}
		b.asIs("all keys and granules")
	})
}

func TestSealOfEachPage(t *testing.T) {
	inModes(t, modes(), func(b *bench) {
		for page := range 128 {
			right(b, b.seal(digest(3), page, uint64(page)<<25, granule(byte(page))))
		}
		b.asIs("all pages")
	})
}

// What is asked, written out: in ideal mode the four blocks, rising; in concrete mode the stream.
func TestSealAsksInOrder(t *testing.T) {
	key := digest(50)
	data := []byte{77, 0, 0, 0, 0, 0, 0, 0, 4, 3, 2, 1, 0, 0, 0, 0}
	asks := func(l []api.Asked, i int, data []byte, want []byte) {
		t.Helper()
		q := l[i].Question
		if q.Kind != api.QStream || q.Key != key || q.Domain != api.DomPage || !bytes.Equal(q.Data, data) || !bytes.Equal(l[i].Answer[:], want) {
			t.Errorf("%d: %x; not %x, %x", i, l[i], data, want)
		}
	}
	for name, call := range map[string]func(*oracle.Oracle, api.Digest, int, uint64, api.Granule) (api.Granule, api.Errno){"Seal": blob.Seal, "Open": blob.Open} {
		for _, n := range []int{0, 1, 2, 3, 4, 5, 9} {
			o := oracle.New(true, digest(1), drawn(n)...)
			g, e := call(o, key, 77, 0x01020304, api.Granule{})
			l := o.Log()
			if e != api.OK || len(l) != 4 || o.Used() != 4 {
				t.Fatal(name, n, e, l)
			}
			for i := range l {
				draw := api.Digest{0: byte(i), 31: 1} // of those behind the list's end
				if i < n {
					draw = drawn(n)[i]
				}
				asks(l, i, append(slices.Clone(data), byte(i), 0, 0, 0, 0, 0, 0, 0), draw[:])
				if !bytes.Equal(g[32*i:][:32], draw[:]) {
					t.Errorf("%s, the block %d of %d draws: %x", name, i, n, g)
				}
			}
		}
		o := oracle.New(false, digest(1), drawn(9)...)
		g, e := call(o, key, 77, 0x01020304, api.Granule{})
		if e != api.OK || len(o.Log()) != 1 {
			t.Fatal(name, e, o.Log())
		}
		asks(o.Log(), 0, data, g[:32])
	}
}

// A page that is sealed, or opened, again asks nothing; nor does another page's content.
func TestAskedOnce(t *testing.T) {
	inModes(t, modes(), func(b *bench) {
		sealed := right(b, b.seal(digest(1), 5, 7, granule(0)))
		n := len(b.o.Log())
		for range 2 {
			for _, g := range granules() {
				right(b, b.seal(digest(1), 5, 7, g))
				right(b, b.open(digest(1), 5, 7, g))
			}
			if right(b, b.seal(digest(1), 5, 7, granule(0))) != sealed {
				b.t.Error("sealed otherwise")
			}
		}
		if len(b.o.Log()) != n {
			b.t.Error("asked again", b.o.Log())
		}
	})
}

// What was asked of another kind, or in another domain, is not what Seal asks.
func TestAskedApart(t *testing.T) {
	for _, m := range modes() {
		o := oracle.New(m.ideal, digest(1), m.draws...)
		q := streamAsked(digest(1), 5, 7)
		for _, d := range []api.Domain{9, 11} {
			q.Domain = d
			o.Stream(q, size)
		}
		for _, k := range []api.QKind{2, 3} {
			o.Ask(api.Question{Kind: k, Key: digest(1), Domain: 10, Data: q.Data})
		}
		ahead, want := len(o.Log()), 1
		if m.ideal {
			want = 4
		}
		if _, e := blob.Seal(o, digest(1), 5, 7, api.Granule{}); e != api.OK || ahead != 2*want+2 {
			t.Error(m.name, ahead, e)
		}
		if n := len(o.Log()) - ahead; n != want {
			t.Error(m.name, "asked", n)
		}
	}
}

// Blocks of the same stream that were asked ahead have the answers that they had.
func TestBlocksThatWereAsked(t *testing.T) {
	o := oracle.New(true, api.Digest{}, drawn(9)...)
	first, e := o.Stream(streamAsked(digest(1), 5, 7), 40)
	if e != api.OK {
		t.Fatal(e)
	}
	g, e := blob.Seal(o, digest(1), 5, 7, api.Granule{})
	if e != api.OK || !bytes.Equal(g[:40], first) || o.Used() != 4 {
		t.Errorf("%x, %d; not %x; draws %d", g, e, first, o.Used())
	}
}

// Each bit of the page is that bit of what is sealed, and of no other.
func TestSealOfEachBit(t *testing.T) {
	for _, m := range []mode{modes()[0], modes()[5]} {
		b := fresh(t, m)
		was := right(b, b.seal(digest(1), 77, 3, granule(0)))
		for bit := range 8 * size {
			g, want := granule(0), was
			g[bit/8] ^= 1 << (bit % 8)
			want[bit/8] ^= 1 << (bit % 8)
			if right(b, b.seal(digest(1), 77, 3, g)) != want || right(b, b.open(digest(1), 77, 3, want)) != g {
				t.Error(m.name, "the bit", bit)
			}
		}
	}
}

// unlikes are other keys, pages and counters than digest(1), 77 and 3, each unlike in one of them, or in that they are the other way round.
func unlikes() []struct {
	key     api.Digest
	page    int
	counter uint64
} {
	type parts = struct {
		key     api.Digest
		page    int
		counter uint64
	}
	l := []parts{
		{digest(1), 76, 3}, {digest(1), 78, 3}, {digest(1), 0, 3}, {digest(1), 127, 3},
		{digest(1), 77, 2}, {digest(1), 77, 4}, {digest(1), 77, 0}, {digest(1), 77, last}, {digest(1), 77, 3 + 1<<8}, {digest(1), 77, 3 + 1<<31},
		{digest(1), 3, 77}, {api.Digest{}, 77, 3}, {digest(2), 77, 3},
	}
	for _, bit := range []int{0, 7, 100, 127, 128, 200, 255} {
		key := digest(1)
		key[bit/8] ^= 1 << (bit % 8)
		l = append(l, parts{key, 77, 3})
	}
	return l
}

// By another key, page or counter it is not opened, whatever was sealed; and each of those has a stream of its own.
func TestByAnother(t *testing.T) {
	inModes(t, distinctModes(), func(b *bench) {
		for _, g := range []api.Granule{{}, filled(255), granule(5)} {
			sealed := right(b, b.seal(digest(1), 77, 3, g))
			seen := map[api.Granule]int{sealed: -1}
			for k, x := range unlikes() {
				if right(b, b.open(x.key, x.page, x.counter, sealed)) == g {
					b.t.Error(k, "opened by another")
				}
				other := right(b, b.seal(x.key, x.page, x.counter, g))
				if was, is := seen[other]; is {
					b.t.Error(k, "is sealed as", was)
				}
				seen[other] = k
			}
			if right(b, b.open(digest(1), 77, 3, sealed)) != g {
				b.t.Error("not as it was")
			}
		}
	})
}

// The stream hangs on the key that is handed in: the oracle's own master key does nothing to it.
func TestMasterKeyDoesNothing(t *testing.T) {
	for _, ideal := range []bool{false, true} {
		var seen []api.Granule
		for _, master := range []api.Digest{{}, digest(1), digest(200)} {
			o := oracle.New(ideal, master, drawn(4)...)
			g, e := blob.Seal(o, digest(1), 77, 3, granule(0))
			if e != api.OK {
				t.Fatal(e)
			}
			seen = append(seen, g)
		}
		if seen[0] != seen[1] || seen[1] != seen[2] {
			t.Errorf("%v: %x", ideal, seen)
		}
	}
}

// P0.2: two pages are sealed alike, if each draw by which the one is sealed is xor what they differ by.
func TestDrawsHideWhatDiffers(t *testing.T) {
	for _, other := range granules() {
		by := blob.Mix(granule(7), other)
		draws := drawn(4)
		a := oracle.New(true, digest(1), draws...)
		for i := range draws {
			for j := range draws[i] {
				draws[i][j] ^= by[32*i+j]
			}
		}
		b := oracle.New(true, digest(2), draws...)
		x, e := blob.Seal(a, digest(3), 9, 1, granule(7))
		y, f := blob.Seal(b, digest(3), 9, 1, other)
		if x != y || e != api.OK || f != api.OK {
			t.Errorf("%x, %d; %x, %d", x, e, y, f)
		}
		k, _ := blob.Leaf(a, 9, 1, x)
		l, _ := blob.Leaf(b, 9, 1, y)
		if k != l || k != (api.Digest{0: 4, 31: 1}) {
			t.Errorf("%x; %x", k, l)
		}
	}
}

// known are sealed pages, leaves, and leaves of nothing, that were worked out by another program: of the bytes 5 i + 1, by the key of the bytes i.
func known() []struct {
	page               int
	counter            uint64
	sealed, leaf, none string
} {
	return []struct {
		page               int
		counter            uint64
		sealed, leaf, none string
	}{
		{
			0, 0,
			"17f2fcc30261de3b020ad42adc61c355a810bb4c37fe71a8fa5a72b40e929254525a2c20502c5a240857a7396d011ddfa30fa8a7dfdcf4eca8776ab57285c24285e716a09ca06106f9097e8fe4037098756d0c60a0466fa3716e4998d0c4d6048d072da1c696af5312eed075caf442f08aa0c3b963e5b925aff50a8cb28c54b0",
			"73c5f57b19c693a1f15b7ca1ee1e49405c0fd2058b5199c266f26274646dade2",
			"21b191304b6890662ab5b0fad57346c0dc04dd9d5bf2f062f1fb2fd31fc56ea3",
		},
		{
			77, 3,
			"66d4e5038513d25dd568bdd2621bcdedcd91a782e646d29868fa0115e750101ca2dbb81c2b6a0c73df27cc347a7a4cd2f9aee634b75cc10b8c7464fd39961efabec99c0d969a34cc97ed8a8e3429bf63c90666d7c0f750912ab36a2d1e2ed448156a6bcec339a53bf29475373f5e052a1028ec15549853a7779130be5fbc8ff9",
			"5fd426152c5bde63f2aa3b2460fcc1e09da0e48fe73961ac333a639041f31918",
			"6e58458b042f40a27af6101ffac805b273592543c2d3ec43ae99df0becdac24b",
		},
		{
			127, 1 << 32,
			"1f504272a038d057afe6fab26a22ab399fbb6e5d8ee32301861269f5079c06f60647c773d15ad2d286d6eac96032b270cc39f215e21712b467978516742bd8035dd625f344755d6f3c812f902719a0d181356c0c923642860d72502c07fba43bb76cf2245d9e9a48ad31342be1c3a26b74e1d3f9905bd694f92aafd8120f92b1",
			"09a0a3cac5d724229e9a1e3fff39c47bc62c75b4b3e268fe57c04f2a24fc38a2",
			"1ad8d9712988e77d0cfacb9d62019dd3cd6a3426b4089193946f94d1b6a0c97e",
		},
	}
}

func TestConcreteAsKnown(t *testing.T) {
	var key api.Digest
	for i := range key {
		key[i] = byte(i)
	}
	var plain api.Granule
	for i := range plain {
		plain[i] = byte(5*i + 1)
	}
	o := oracle.New(false, digest(1))
	for _, k := range known() {
		sealed, e := blob.Seal(o, key, k.page, k.counter, plain)
		if hex.EncodeToString(sealed[:]) != k.sealed || e != api.OK {
			t.Errorf("Seal %d: %x, %d", k.page, sealed, e)
		}
		opened, e := blob.Open(o, key, k.page, k.counter, sealed)
		if opened != plain || e != api.OK {
			t.Errorf("Open %d: %x, %d", k.page, opened, e)
		}
		leaf, e := blob.Leaf(o, k.page, k.counter, sealed)
		if hex.EncodeToString(leaf[:]) != k.leaf || e != api.OK {
			t.Errorf("Leaf %d: %x, %d", k.page, leaf, e)
		}
		none, e := blob.None(o, k.page)
		if hex.EncodeToString(none[:]) != k.none || e != api.OK {
			t.Errorf("None %d: %x, %d", k.page, none, e)
		}
	}
}

// P16.2

func TestLeaf(t *testing.T) {
	inModes(t, modes(), func(b *bench) {
		k := 0
		for _, page := range edgePages() {
			for _, counter := range edgeCounters() {
				g := granules()[k%len(granules())]
				k++
				d := right(b, b.leaf(page, counter, g))
				if right(b, b.leaf(page, counter, g)) != d {
					b.t.Error(page, counter, "is another one when it is asked again")
				}
			}
		}
		for _, g := range granules() {
			right(b, b.leaf(77, 3, g))
		}
		b.asIs("all leaves")
	})
}

func TestNone(t *testing.T) {
	inModes(t, modes(), func(b *bench) {
		for page := range 128 {
			d := right(b, b.none(page))
			if right(b, b.none(page)) != d {
				b.t.Error(page, "is another one when it is asked again")
			}
		}
		b.asIs("all leaves of nothing")
		if n := len(b.o.Log()); n != 128 {
			b.t.Error(n)
		}
	})
}

// What is asked, written out: one question each, for a digest.
func TestLeavesAsk(t *testing.T) {
	inModes(t, modes(), func(b *bench) {
		g := granule(0)
		leaf, none := right(b, b.leaf(77, 0x01020304, g)), right(b, b.none(77))
		data := []byte{77, 0, 0, 0, 0, 0, 0, 0, 4, 3, 2, 1, 0, 0, 0, 0}
		want := []api.Asked{
			{Question: api.Question{Kind: api.QDigest, Domain: api.DomLeaf, Data: slices.Concat(data, g[:])}, Answer: leaf},
			{Question: api.Question{Kind: api.QDigest, Domain: api.DomNone, Data: data[:8]}, Answer: none},
		}
		if l := b.o.Log(); !slices.EqualFunc(l, want, sameAsked) {
			b.t.Errorf("%x; not %x", l, want)
		}
	})
}

// Bytes, written out; the master key does nothing to them.
func TestLeavesBytes(t *testing.T) {
	g := granule(0)
	leaf := slices.Concat([]byte{0: 1, 33: 4, 34: 77, 46: 1, 49: 0}, g[:])
	none := []byte{0: 1, 33: 6, 34: 77, 41: 0}
	for _, master := range []api.Digest{{}, digest(7)} {
		o := oracle.New(false, master)
		if d, e := blob.Leaf(o, 77, last, g); d != sha256.Sum256(leaf) || e != api.OK {
			t.Errorf("%x, %d", d, e)
		}
		if d, e := blob.None(o, 77); d != sha256.Sum256(none) || e != api.OK {
			t.Errorf("%x, %d", d, e)
		}
	}
}

// A leaf of nothing is the one that the tree has: neither asks what the other has asked.
func TestNoneIsTheTrees(t *testing.T) {
	inModes(t, modes(), func(b *bench) {
		for page := range 128 {
			d := right(b, b.none(page))
			if x, e := tree.None(b.o, page); x != d || e != api.OK {
				b.t.Errorf("%d: %x, %d; not %x", page, x, e, d)
			}
		}
		b.asIs("the tree's too")
	})
}

// P16.3

// Pages that are sealed one behind the other, each with a counter of its own, and opened in another order.
func TestOpenOfSeal(t *testing.T) {
	inModes(t, modes(), func(b *bench) {
		var sealed [60]api.Granule
		for k := range sealed {
			sealed[k] = right(b, b.seal(digest(byte(k%3)), k*7%128, uint64(k), granule(byte(k))))
		}
		n := len(b.o.Log())
		for k := len(sealed) - 1; k >= 0; k-- {
			if right(b, b.open(digest(byte(k%3)), k*7%128, uint64(k), sealed[k])) != granule(byte(k)) {
				b.t.Error(k, "is not what it was")
			}
		}
		if len(b.o.Log()) != n {
			b.t.Error("asked again")
		}
		b.asIs("all of them")
	})
}

// A copy of the oracle opens what was sealed ahead of it.
func TestOpenByACopy(t *testing.T) {
	inModes(t, modes(), func(b *bench) {
		sealed := right(b, b.seal(digest(1), 5, 7, granule(0)))
		c := b.o.Copy()
		if g, e := blob.Open(c, digest(1), 5, 7, sealed); g != granule(0) || e != api.OK {
			b.t.Errorf("%x, %d", g, e)
		}
		blob.Leaf(c, 5, 7, sealed)
		b.asIs("the copy goes on apart")
	})
}

// Unlike pages, counters, and sealed bytes have unlike leaves, and none is a leaf of nothing.
func TestUnlikeLeaves(t *testing.T) {
	inModes(t, distinctModes(), func(b *bench) {
		seen := map[api.Digest]int{}
		n := 0
		unlike := func(d api.Digest) {
			if was, is := seen[d]; is {
				b.t.Error(n, "is as", was)
			}
			seen[d] = n
			n++
		}
		for page := range 128 {
			unlike(right(b, b.leaf(page, 3, granule(0))))
			unlike(right(b, b.none(page)))
		}
		for _, counter := range edgeCounters() {
			unlike(right(b, b.leaf(77, counter, granule(0))))
			unlike(right(b, b.leaf(3, counter, granule(0))))
		}
		for bit := range 8 * size {
			g := granule(0)
			g[bit/8] ^= 1 << (bit % 8)
			unlike(right(b, b.leaf(77, 3, g)))
		}
		for _, g := range granules()[:5] {
			unlike(right(b, b.leaf(77, 3, g)))
			unlike(right(b, b.leaf(77, 77, g)))
		}
		b.asIs("all of them")
	})
}

// The other way round: of draws alike leaves are alike, however unlike what they are of.
func TestLeavesOfDrawsAlike(t *testing.T) {
	o := oracle.New(true, digest(1), slices.Repeat([]api.Digest{digest(9)}, 3)...)
	a, _ := blob.Leaf(o, 0, 0, api.Granule{})
	b, _ := blob.Leaf(o, 127, last, filled(255))
	c, _ := blob.None(o, 5)
	d, _ := blob.Leaf(o, 127, 0, api.Granule{})
	if a != digest(9) || b != a || c != a || d != (api.Digest{0: 3, 31: 1}) || o.Used() != 4 {
		t.Errorf("%x, %x, %x, %x, %d", a, b, c, d, o.Used())
	}
}

// P0.7: an ideal oracle whose draws are the concrete answers has the same leaves.
func TestLeavesOfConcreteDraws(t *testing.T) {
	leaves := func(o *oracle.Oracle) []api.Digest {
		var out []api.Digest
		for k, page := range edgePages() {
			d, e := blob.Leaf(o, page, edgeCounters()[k], granules()[k%len(granules())])
			n, f := blob.None(o, page)
			if e != api.OK || f != api.OK {
				t.Fatal(e, f)
			}
			out = append(out, d, n)
		}
		return out
	}
	c := oracle.New(false, digest(1))
	first := leaves(c)
	var draws []api.Digest
	for _, x := range c.Log() {
		draws = append(draws, x.Answer)
	}
	if !slices.Equal(leaves(oracle.New(true, digest(2), draws...)), first) {
		t.Error("other leaves")
	}
}

// What a caller hands in stays as it was, and what is answered hangs on nothing that the caller writes later.
func TestHandedInStays(t *testing.T) {
	inModes(t, modes(), func(b *bench) {
		key, g, h := digest(1), granule(0), granule(99)
		sealed := right(b, b.seal(key, 5, 7, g))
		right(b, b.open(key, 5, 7, h))
		leaf := right(b, b.leaf(5, 7, g))
		mixed := blob.Mix(g, h)
		if key != digest(1) || g != granule(0) || h != granule(99) {
			b.t.Error("it was written")
		}
		key, g, h = api.Digest{}, api.Granule{}, filled(255)
		b.asIs("written behind the calls", key, g, h)
		if right(b, b.open(digest(1), 5, 7, sealed)) != granule(0) || right(b, b.leaf(5, 7, granule(0))) != leaf || blob.Mix(mixed, granule(99)) != granule(0) {
			b.t.Error("answers other than they were")
		}
	})
}
