package paging_test

import (
	"crypto/sha256"
	"encoding/hex"
	"fmt"
	"reflect"
	"slices"
	"testing"
	"unsafe"

	"anchorite/api"
	"anchorite/machine"
	"anchorite/oracle"
	"anchorite/paging"
	"anchorite/tree"
)

// edgePages are pages to which ways lead: the first, the last, and some between.
func edgePages() []int { return []int{0, 1, 3, 64, 66, 124, 126, 127} }

// gets says that a page is that now.
func (b *bench) gets(at, page int, want api.Granule) {
	b.t.Helper()
	if x := b.page(at, page); x != (answer[api.Granule]{want, api.OK}) {
		b.t.Fatalf("the page %d is %x, %d; not %x", page, x.x, x.e, want)
	}
}

// isAt says that a page's way ends by that entry.
func (b *bench) isAt(at, page int, want api.Entry) {
	b.t.Helper()
	w, e := b.p.X.Walk(b.a.realms[at].realm.Root, page)
	if e != api.OK || w.Level != 3 || w.Entry != want {
		b.t.Fatal("the page", page, w, e, "not", want)
	}
}

// isRow says that a granule's row, and its bytes, are these.
func (b *bench) isRow(g int, row api.Row, x api.Granule) {
	b.t.Helper()
	is, e := b.p.T.Row(g)
	bytes, f := b.p.M.Get(g)
	if e != api.OK || f != api.OK || is != row || bytes != x {
		b.t.Fatalf("the granule %d: %v, %x; not %v, %x", g, is, bytes, row, x)
	}
}

// realm is a realm as it is.
func (b *bench) realm(at int) api.Realm {
	b.t.Helper()
	r, e := b.p.R.Get(at)
	ok(b.t, e)
	return r
}

// says says that a call answered that.
func says[T comparable](b *bench, x answer[T], want T) {
	b.t.Helper()
	if x != (answer[T]{want, api.OK}) {
		b.t.Fatal(x.x, x.e, "not", want)
	}
}

// refuses says that a call answered that error, and nothing beside it.
func refuses[T comparable](b *bench, x answer[T], want api.Errno) {
	b.t.Helper()
	var nothing T
	if x != (answer[T]{nothing, want}) {
		b.t.Fatal(x.x, x.e, "not", want)
	}
}

// asks is how many questions were asked so far.
func (b *bench) asks() int { return len(b.p.O.Log()) }

// The chapter's examples.
func TestExamples(t *testing.T) {
	inModes(t, distinctModes(), func(b *bench) {
		b.lays(rd, 2, spare, bytesOf(1))
		says(b, b.export(rd, 2, dst), 1)
		b.right(b.bringIn(rd, 2, spare+1, dst, 1))
		b.wrong(b.bringIn(rd, 2, spare+1, dst, 1), api.ErrState)
		b.gets(rd, 2, bytesOf(1))
	})
	inModes(t, distinctModes(), func(b *bench) {
		b.lays(rd, 2, spare, bytesOf(1))
		says(b, b.export(rd, 2, dst), 1)
		b.turn(dst, 77)
		b.wrong(b.bringIn(rd, 2, spare, dst, 1), api.ErrFresh)
	})
}

// P17.1

func TestMay(t *testing.T) {
	b := fresh(t, modes()[0])
	asked := b.asks()
	for range 3 {
		if !b.p.May() {
			t.Error("no")
		}
	}
	if (paging.Parts{}).May() || b.asks() != asked {
		t.Error("of none, or it asked something")
	}
	for name, p := range partless(b.p) {
		if p.May() {
			t.Error(name)
		}
	}
}

func TestPlace(t *testing.T) {
	inModes(t, modes(), func(b *bench) {
		for i, page := range edgePages() {
			g, x := spare+i, plains()[i%6]
			was, asked := b.realm(rd), b.asks()
			b.lays(rd, page, g, x)
			b.gets(rd, page, x)
			b.isAt(rd, page, api.Entry{Kind: 2, Granule: g})
			b.isRow(g, api.Row{State: api.StateData, Owner: 1}, x)
			now := b.realm(rd)
			if len(now.Log) != i+2 || now.Log[i+1] != (api.Record{Kind: api.RecordData, Page: page, Data: x}) {
				b.t.Fatal("the Log", now.Log)
			}
			q := api.Question{Kind: 1, Domain: api.DomData, Data: slices.Concat(was.Measure[:], number(uint64(page)), x[:])}
			if l := b.p.O.Log(); len(l) != asked+1 || !sameAsked(l[asked], api.Asked{Question: q, Answer: now.Measure}) {
				b.t.Fatalf("asked %x", l[asked:])
			}
			now.Log, now.Measure = was.Log, was.Measure
			if !reflect.DeepEqual(now, was) {
				b.t.Fatal("something else is changed", now, was)
			}
			b.wrong(b.place(rd, page, spare+20, x), api.ErrState)
		}
		b.lays(other, 1, spare+9, bytesOf(5))
		b.isRow(spare+9, api.Row{State: api.StateData, Owner: 2}, bytesOf(5))
	})
}

// A granule that a page has no more is one that another page, or another realm, can have.
func TestPlaceAgain(t *testing.T) {
	inModes(t, modes(), func(b *bench) {
		for i, page := range edgePages() {
			b.lays(rd, page, spare, bytesOf(byte(i)))
			b.wrong(b.place(rd, (page+1)%2, spare, bytesOf(9)), api.ErrState)
			says(b, b.destroy(rd, page), spare)
		}
		b.lays(other, 127, spare, bytesOf(3))
		b.isRow(spare, api.Row{State: api.StateData, Owner: 2}, bytesOf(3))
	})
}

func TestZero(t *testing.T) {
	for _, s := range []api.RState{api.New, api.Active} {
		inModes(t, modes(), func(b *bench) {
			for i, page := range edgePages() {
				b.lays(rd, page, spare+i, bytesOf(byte(i)))
			}
			b.becomes(rd, s)
			for i, page := range edgePages() {
				says(b, b.destroy(rd, page), spare+i)
				b.wrong(b.zero(rd, page, spare+i), api.ErrState)
				says(b, b.reclaim(rd, page), true)
				was, asked := b.realm(rd), b.asks()
				// What the granule had is not the realm's.
				g := spare + 12 + i
				b.isRow(g, api.Row{State: api.Delegated}, bytesOf(byte(3*g+1)))
				b.right(b.zero(rd, page, g))
				b.gets(rd, page, api.Granule{})
				b.isAt(rd, page, api.Entry{Kind: 2, Granule: g})
				b.isRow(g, api.Row{State: api.StateData, Owner: 1}, api.Granule{})
				if !reflect.DeepEqual(b.realm(rd), was) || b.asks() != asked {
					b.t.Fatal("what is laid as noughts is not measured")
				}
				b.wrong(b.zero(rd, page, g+1), api.ErrState)
			}
		})
	}
}

// P17.2

func TestExport(t *testing.T) {
	for _, s := range []api.RState{api.New, api.Active} {
		inModes(t, modes(), func(b *bench) {
			for i, page := range edgePages() {
				b.lays(rd, page, spare+i, plains()[i%6])
			}
			b.becomes(rd, s)
			for i, page := range edgePages() {
				was := b.realm(rd)
				says(b, b.export(rd, page, dst+i), uint64(i+1))
				b.isAt(rd, page, api.Entry{Kind: 4})
				b.isRow(spare+i, api.Row{State: api.Delegated}, api.Granule{})
				now := b.realm(rd)
				if now.Counter != uint64(i+1) {
					b.t.Fatal("counter", now.Counter)
				}
				now.Counter, now.Tree = was.Counter, was.Tree
				if !reflect.DeepEqual(now, was) {
					b.t.Fatal("something else is changed", now, was)
				}
				refuses(b, b.page(rd, page), api.ErrState)
				refuses(b, b.export(rd, page, dst+i), api.ErrState)
			}
			if b.realm(other).Counter != 0 {
				b.t.Error("another realm's counter")
			}
		})
	}
}

// From what another program worked out by the chapters' sentences: the blobs, and the tree's roots, of the first realm of a concrete oracle.
func TestKnownExports(t *testing.T) {
	b := fresh(t, modes()[0])
	is := func(what string, got []byte, want string) {
		t.Helper()
		if hex.EncodeToString(got) != want {
			t.Errorf("%s: %x; not %s", what, got, want)
		}
	}
	roots := func(want string) {
		t.Helper()
		r := b.realm(rd)
		is("tree", r.Tree[:], want)
	}
	measured := func(want string) {
		t.Helper()
		r := b.realm(rd)
		is("measurement", r.Measure[:], want)
	}
	out := func(page int, counter uint64, want string) {
		t.Helper()
		says(b, b.export(rd, page, dst), counter)
		g, _ := b.p.M.Get(dst)
		is("blob", g[:], want)
	}
	roots("eb1fad5f58c0463dbc578f4b4ea1ddad66c42307f620009a3ca923a6557b5fba")
	b.lays(rd, 2, spare, bytesOf(7))
	measured("38384d2c4912e34546a033439844afb718749bb802db760df382fa085b972d96")
	b.lays(rd, 127, spare+1, filled(255))
	measured("ecd15a5e6f6a2c689d61ebc650a95a5d1585375818de49ac9ea0559d77fdf283")
	out(2, 1, "ae015af826c5c7b51cda0ce8e9e3572494fc081d318331e0a2fdb16133e4a2571471199758929a38290f10a1a2fb7c3535166e79cb253b67de9b061002582345549a932f2f9c543522952a542023752dd9795902536cb6f838857dbdaef51810ddf8be9bd6a914336f1557970fa5c84f7172fca546724169fb3031bc1aebf6d8")
	roots("6236f48f8fbefa8c3f360f45a2ca6a668ef2adbe1e89b00aaf11430b71c0c417")
	first, _ := b.p.M.Get(dst)
	out(127, 2, "d258b7d29523fa46742e3a29be06ed594dd280b1696926f57bc174b1ac89064c091b104d59fd8fb90103dfc58125f19095169a1045de367a4d021831eb50e0590e055698cb6dd61b10e69fb0a821863d0ce4ebc3f914fe7fa248b0bfc37e3672123fabe04f949f9cc4a2c6253453b9a9525f11dc331df8209ed37a4a640c6a87")
	roots("7fbab8f7fda869d16893f124a2ef550740278e4566361e55452b3e733906c689")
	b.put(dst, first)
	b.right(b.bringIn(rd, 2, spare, dst, 1))
	roots("cff511b29070c33f0b26eb525fee338f062bd02a8e226a037f21eab51dc8c1c4")
	b.gets(rd, 2, bytesOf(7))
	out(2, 3, "5ac265c0ddb2bbf38d738eaceacbf48819f43a7ea2a212e14b06baca57c96a2a2511e65fc5ea814a11a621ff9795ddac3f160d53a406a0da7eb5bf7a8c609cd35cdd49eb494137490ba1ea6c5c020f15c5234606554fd9d550c53adcf61c2df9f5280d234cab28bc22f27e1a015a86585aec4b7c45db24f29de0ef1e3d964d48")
	roots("56c63a6d59dc0ef65381c66c0b0f954f5215cb2c4e10f2bb4660d0606abaa4b4")
	says(b, b.destroy(rd, 127), -1)
	roots("983cb51781718e88a80c3558b1a9ac6f7f410d52472efb2387ba6516de4be11b")
}

// In ideal mode a blob is the page xor the draws that were next.
func TestExportDraws(t *testing.T) {
	for i, x := range plains() {
		b := fresh(t, mode{"ideal", true, drawn(3000)})
		b.lays(rd, 127, spare, x)
		asked := b.asks()
		says(b, b.export(rd, 127, dst), 1)
		sealed, _ := b.p.M.Get(dst)
		for k := range sealed {
			if sealed[k] != x[k]^drawn(3000)[asked+k/32][k%32] {
				t.Fatalf("%d: %x", i, sealed)
			}
		}
	}
}

// elsewhere is a bench whose realms' trees were laid by another oracle, which answers alike: so all that a call asks is asked for the first time.
func elsewhere(t *testing.T, ideal bool) *bench {
	m := mode{"elsewhere", ideal, slices.Repeat([]api.Digest{digest(9)}, 9000)}
	b := fresh(t, m)
	o := oracle.New(ideal, digest(1), m.draws...)
	b.p.O, b.p.R = o, b.p.R.Copy(o)
	b.adopts(m)
	return b
}

// asked is questions in short: each one's kind, domain, and the bytes with which its Data begins; of an ideal stream its blocks.
func (b *bench) asked(from int) []string {
	var out []string
	for _, x := range b.p.O.Log()[from:] {
		q := x.Question
		at := q.Data[0]
		s := fmt.Sprint(q.Kind, " ", q.Domain, " of ", at)
		if len(out) == 0 || q.Kind != api.QStream || out[len(out)-1] != s {
			out = append(out, s)
		}
	}
	return out
}

// way is the questions for the nodes of a page's way, from the one above its leaf on.
func way(page int) []string {
	var out []string
	for i := (128 + page) / 2; i > 0; i /= 2 {
		out = append(out, fmt.Sprint(api.QDigest, " ", api.DomNode, " of ", i))
	}
	return out
}

// Questions are asked in the order in which the chapter tells what is done.
func TestOrderOfQuestions(t *testing.T) {
	for _, ideal := range []bool{false, true} {
		for _, page := range edgePages() {
			ask := func(k api.QKind, d api.Domain) []string { return []string{fmt.Sprint(k, " ", d, " of ", page)} }
			none, leaf, stream := ask(1, api.DomNone), ask(1, api.DomLeaf), ask(4, api.DomPage)
			b := elsewhere(t, ideal)
			asks := func(what string, from int, want ...[]string) {
				t.Helper()
				if got := b.asked(from); !slices.Equal(got, slices.Concat(want...)) {
					t.Fatal(what, page, got, "not", want)
				}
			}
			b.lays(rd, page, spare, bytesOf(1))
			if l := b.p.O.Log(); len(l) != 1 || l[0].Question.Domain != api.DomData {
				t.Fatal("Place", l)
			}
			says(b, b.export(rd, page, dst), 1)
			want := [][]string{none, way(page), stream, leaf, way(page)}
			if ideal {
				// All draws are alike: so is the leaf, and the nodes above it were asked for already, of the same digests.
				want[4] = nil
			}
			asks("Export", 1, want...)
			// The others by an oracle that was asked nothing yet.
			o := oracle.New(ideal, digest(1), slices.Repeat([]api.Digest{digest(9)}, 9000)...)
			b.p.O, b.p.R = o, b.p.R.Copy(o)
			b.adopts(b.a.mode)
			c := b.apart()
			b.right(b.bringIn(rd, page, spare, dst, 1))
			want = [][]string{leaf, way(page), stream, none, way(page)}
			if ideal {
				want[4] = nil
			}
			asks("Import", 0, want...)
			b = c
			says(b, b.destroy(rd, page), -1)
			want = [][]string{way(page), none, way(page)}
			if ideal {
				want[2] = nil
			}
			asks("Destroy", 0, want...)
		}
	}
}

// A dst that is a granule of the nodes has the blob, whichever nodes lie there.
func TestExportToNodes(t *testing.T) {
	for _, page := range []int{0, 3, 64, 127} {
		inModes(t, distinctModes()[:4], func(b *bench) {
			b.lays(rd, page, spare, bytesOf(1))
			for g := range 64 {
				c := b.apart()
				was := c.a.memory
				beforeWay := slices.Clone(was)
				says(c, c.export(rd, page, nodes+g), 1)
				sealed := c.a.memory[nodes+g]
				opened := c.a.masked(c.a.realms[rd], page, 1, sealed)
				if opened != bytesOf(1) {
					c.t.Fatal("not the blob", g)
				}
				// It comes in just if no node beside the way lay there.
				beside, e := tree.Beside(page)
				ok(c.t, e)
				spoilt := slices.ContainsFunc(beside, func(i int) bool { return i/4 == g })
				if spoilt {
					c.wrong(c.bringIn(rd, page, spare, nodes+g, 1), api.ErrFresh)
					c.put(dst, sealed)
					c.put(nodes+g, beforeWay[nodes+g])
					// What lies beside the way is as it was; the way itself is not looked at.
					c.right(c.bringIn(rd, page, spare, dst, 1))
				} else {
					c.right(c.bringIn(rd, page, spare, nodes+g, 1))
				}
				c.gets(rd, page, bytesOf(1))
			}
		})
	}
}

// counts has a realm's counter be that: to come to it export by export takes too long.
func (b *bench) counts(at int, n uint64) {
	b.t.Helper()
	field := reflect.ValueOf(b.p.R).Elem().FieldByName("realms")
	realms := *(*map[int]api.Realm)(unsafe.Pointer(field.UnsafeAddr()))
	r := realms[at]
	r.Counter = n
	realms[at] = r
	b.a.realms[at].realm.Counter = n
	b.asIs("counts")
}

// The last counter, and one more: that is told ahead of the tree, behind the granule's owner.
func TestLastCounter(t *testing.T) {
	inModes(t, distinctModes(), func(b *bench) {
		for i, page := range []int{0, 2, 127} {
			b.lays(rd, page, spare+i, bytesOf(byte(i)))
		}
		b.lays(other, 0, spare+9, bytesOf(9))
		b.counts(rd, last-2)
		says(b, b.export(rd, 0, dst), last-1)
		says(b, b.export(rd, 127, dst+1), last)
		asked := b.asks()
		refuses(b, b.export(rd, 2, dst+2), api.ErrLimit)
		refuses(b, b.export(rd, 2, spare+20), api.ErrOwner)
		b.turnNode(rd, 3, 0)
		refuses(b, b.export(rd, 2, dst+2), api.ErrLimit)
		b.turnNode(rd, 3, 0)
		if b.asks() != asked {
			b.t.Error("what is refused asked something")
		}
		// What is out comes in by them.
		b.wrong(b.bringIn(rd, 127, spare+10, dst+1, last+1), api.ErrFresh)
		b.wrong(b.bringIn(rd, 127, spare+10, dst+1, last-1), api.ErrFresh)
		b.right(b.bringIn(rd, 127, spare+10, dst+1, last))
		b.right(b.bringIn(rd, 0, spare+11, dst, last-1))
		b.gets(rd, 127, bytesOf(2))
		b.gets(rd, 0, bytesOf(0))
		refuses(b, b.export(rd, 0, dst), api.ErrLimit)
		says(b, b.export(other, 0, dst), 1)
	})
}

// held has pages of a realm whose granules are held, once and more often, in a realm that is in that state.
func (b *bench) held(s api.RState) map[int]int {
	b.t.Helper()
	of := map[int]int{0: spare, 66: spare + 1, 127: spare + 2}
	for page, g := range of {
		b.lays(rd, page, g, bytesOf(byte(page)))
		for range 1 + page {
			b.hold(g)
		}
	}
	b.becomes(rd, s)
	return of
}

// A page whose granule is held, once and more often, is taken out as any other, and comes in into another one; nothing lets go of its granule, which so stays the realm's.
func TestExportOfHeld(t *testing.T) {
	for _, s := range []api.RState{api.New, api.Active} {
		inModes(t, distinctModes(), func(b *bench) {
			of := b.held(s)
			for i, page := range []int{66, 0, 127} {
				g := of[page]
				x := b.takes(rd, page, dst+i)
				b.isAt(rd, page, api.Entry{Kind: 4})
				b.isRow(g, api.Row{State: api.StateData, Owner: 1, Held: 1 + page}, api.Granule{})
				refuses(b, b.page(rd, page), api.ErrState)
				refuses(b, b.export(rd, page, dst), api.ErrState)
				b.wrong(b.bringIn(rd, page, g, dst+i, x.counter), api.ErrState)
				b.right(b.bringIn(rd, page, spare+10+i, dst+i, x.counter))
				b.gets(rd, page, bytesOf(byte(page)))
			}
		})
	}
}

// That the page's granule is held is no error ahead of, or among, those that there are.
func TestErrorsOfHeld(t *testing.T) {
	inModes(t, distinctModes(), func(b *bench) {
		of := b.held(api.New)
		for page, g := range of {
			asked := b.asks()
			for _, to := range []int{-1, many, rd, root, g, spare + 10, mine - 1} {
				refuses(b, b.export(rd, page, to), api.ErrOwner)
			}
			b.counts(rd, last)
			b.turnNode(rd, 3-page/64, 9)
			refuses(b, b.export(rd, page, g), api.ErrOwner)
			refuses(b, b.export(rd, page, dst), api.ErrLimit)
			if b.asks() != asked {
				b.t.Error("asked something")
			}
			b.counts(rd, 0)
			refuses(b, b.export(rd, page, dst), api.ErrFresh)
			b.turnNode(rd, 3-page/64, 9)
		}
		c := b.apart()
		c.becomes(rd, api.Dead)
		for page := range of {
			refuses(c, c.export(rd, page, dst), api.ErrState)
			b.takes(rd, page, dst)
		}
	})
}

// P17.3

// What goes out comes in as it was, again and again, by other granules.
func TestExportAndImport(t *testing.T) {
	inModes(t, modes(), func(b *bench) {
		n := uint64(0)
		for i, x := range plains() {
			page := edgePages()[i]
			b.lays(rd, page, spare, x)
			for k := range 3 {
				n++
				says(b, b.export(rd, page, dst+k), n)
				was := b.realm(rd)
				b.right(b.bringIn(rd, page, spare+k, dst+k, n))
				b.gets(rd, page, x)
				b.isAt(rd, page, api.Entry{Kind: 2, Granule: spare + k})
				b.isRow(spare+k, api.Row{State: api.StateData, Owner: 1}, x)
				now := b.realm(rd)
				now.Tree = was.Tree
				if !reflect.DeepEqual(now, was) {
					b.t.Fatal("something else is changed", now, was)
				}
				b.wrong(b.bringIn(rd, page, spare+k, dst+k, n), api.ErrState)
				b.wrong(b.bringIn(rd, page, spare+9, dst+k, n), api.ErrState)
				// To the granule that is next.
				b.takes(rd, page, dst)
				n++
				b.right(b.bringIn(rd, page, spare, dst, n))
			}
			says(b, b.destroy(rd, page), spare)
		}
	})
}

// The tree is one of nothing again, when all is in again.
func TestAllInAgain(t *testing.T) {
	inModes(t, distinctModes(), func(b *bench) {
		was, before := b.realm(rd).Tree, b.apart()
		var outs []out
		for i, page := range edgePages() {
			b.lays(rd, page, spare+i, bytesOf(byte(i)))
			outs = append(outs, b.takes(rd, page, dst+i))
		}
		for _, i := range []int{3, 0, 7, 1, 6, 2, 5, 4} {
			if b.realm(rd).Tree == was {
				b.t.Fatal("the tree is one of nothing ahead of", i)
			}
			b.right(b.bringIn(rd, outs[i].page, spare+i, dst+i, outs[i].counter))
			b.gets(rd, outs[i].page, outs[i].plain)
		}
		if b.realm(rd).Tree != was {
			b.t.Error("the tree is not one of nothing")
		}
		for g := nodes; g < nodes+64; g++ {
			if b.a.memory[g] != before.a.memory[g] {
				b.t.Error("the nodes at", g)
			}
		}
	})
}

// A counter above the greatest has no leaf: nothing is asked of it, whatever its lowest bytes are.
func TestCountersAboveTheGreatest(t *testing.T) {
	inModes(t, modes(), func(b *bench) {
		b.lays(rd, 2, spare, bytesOf(1))
		says(b, b.export(rd, 2, dst), 1)
		asked := b.asks()
		for _, n := range []uint64{last + 1, last + 2, 2*last + 1, 1 << 40, 1<<63 + 1, 1<<64 - last + 1, 1<<64 - 1} {
			b.wrong(b.bringIn(rd, 2, spare, dst, n), api.ErrFresh)
		}
		if b.asks() != asked {
			b.t.Error("asked something")
		}
		b.right(b.bringIn(rd, 2, spare, dst, 1))
	})
	// Of others a leaf is asked, also where no export has them.
	for _, n := range []uint64{0, 2, last - 1, last} {
		b := fresh(t, modes()[2])
		b.lays(rd, 2, spare, bytesOf(1))
		says(b, b.export(rd, 2, dst), 1)
		asked := b.asks()
		b.wrong(b.bringIn(rd, 2, spare, dst, n), api.ErrFresh)
		if l := b.p.O.Log()[asked:]; len(l) != 8 || l[0].Question.Domain != api.DomLeaf || l[7].Question.Domain != api.DomNode {
			t.Error(n, l)
		}
	}
}

// P17.4

func TestDestroyOfData(t *testing.T) {
	for _, s := range []api.RState{api.New, api.Active, api.Dead} {
		inModes(t, modes(), func(b *bench) {
			for i, page := range edgePages() {
				b.lays(rd, page, spare+i, plains()[i%6])
			}
			b.becomes(rd, s)
			was, asked := b.realm(rd), b.asks()
			for i, page := range edgePages() {
				// The tree says nothing of a page that is in: nodes are not looked at.
				b.turnNode(rd, 128+page, 3)
				b.turnNode(rd, 2, 3)
				says(b, b.destroy(rd, page), spare+i)
				b.isAt(rd, page, api.Entry{Kind: 3})
				b.isRow(spare+i, api.Row{State: api.Delegated}, api.Granule{})
				refuses(b, b.destroy(rd, page), api.ErrState)
				refuses(b, b.page(rd, page), api.ErrState)
			}
			if !reflect.DeepEqual(b.realm(rd), was) || b.asks() != asked {
				b.t.Error("the realm is changed, or something was asked")
			}
		})
	}
}

// A page whose granule is held, once and more often, is destroyed as any other; nothing lets go of its granule, which so stays the realm's.
func TestDestroyOfHeld(t *testing.T) {
	for _, s := range []api.RState{api.New, api.Active, api.Dead} {
		inModes(t, modes(), func(b *bench) {
			b.lays(rd, 2, spare+9, bytesOf(9))
			for i, page := range edgePages()[3:] {
				b.lays(rd, page, spare+i, plains()[i])
				for range 1 + i*i {
					b.hold(spare + i)
				}
			}
			b.becomes(rd, s)
			asked := b.asks()
			for i, page := range edgePages()[3:] {
				says(b, b.destroy(rd, page), spare+i)
				b.isAt(rd, page, api.Entry{Kind: 3})
				b.isRow(spare+i, api.Row{State: api.StateData, Owner: 1, Held: 1 + i*i}, api.Granule{})
				refuses(b, b.destroy(rd, page), api.ErrState)
				refuses(b, b.page(rd, page), api.ErrState)
				says(b, b.reclaim(rd, page), true)
			}
			b.gets(rd, 2, bytesOf(9))
			if b.asks() != asked {
				b.t.Error("asked something")
			}
		})
	}
}

// A page whose granule is the granule 0 tells 0; that is not an error.
func TestDestroyTellsTheGranule(t *testing.T) {
	b := fresh(t, modes()[0])
	b.lays(rd, 0, 0, bytesOf(1))
	says(b, b.destroy(rd, 0), 0)
	b.lays(rd, 1, 1, bytesOf(1))
	says(b, b.export(rd, 1, dst), 1)
	says(b, b.destroy(rd, 1), -1)
}

func TestDestroyOfExported(t *testing.T) {
	for _, s := range []api.RState{api.New, api.Active} {
		inModes(t, distinctModes(), func(b *bench) {
			was := b.realm(rd).Tree
			for i, page := range edgePages() {
				b.lays(rd, page, spare+i, plains()[i%6])
			}
			b.becomes(rd, s)
			for i, page := range edgePages() {
				says(b, b.export(rd, page, dst+i), uint64(i+1))
			}
			for i, page := range edgePages() {
				says(b, b.destroy(rd, page), -1)
				b.isAt(rd, page, api.Entry{Kind: 3})
				b.wrong(b.bringIn(rd, page, spare+i, dst+i, uint64(i+1)), api.ErrState)
				refuses(b, b.destroy(rd, page), api.ErrState)
				// Wanted again, it is noughts, and goes out and comes in as others do; its old blob does not.
				says(b, b.reclaim(rd, page), true)
				b.wrong(b.bringIn(rd, page, spare+i, dst+i, uint64(i+1)), api.ErrState)
				b.right(b.zero(rd, page, spare+i))
				n := uint64(9 + i)
				says(b, b.export(rd, page, dst+9), n)
				b.wrong(b.bringIn(rd, page, spare+i, dst+i, uint64(i+1)), api.ErrFresh)
				b.right(b.bringIn(rd, page, spare+i, dst+9, n))
				b.gets(rd, page, api.Granule{})
			}
			if b.realm(rd).Tree != was {
				b.t.Error("the tree is not one of nothing")
			}
		})
	}
}

// That leaf is held against the tree which lies in the host's memory: spoilt, or with a node beside its way spoilt, it is not the latest.
func TestDestroyNeedsTheLatest(t *testing.T) {
	inModes(t, distinctModes(), func(b *bench) {
		b.lays(rd, 66, spare, bytesOf(1))
		b.takes(rd, 66, dst)
		beside, e := tree.Beside(66)
		ok(b.t, e)
		for _, i := range append(beside, 128+66) {
			for _, bit := range []int{0, 100, 255} {
				b.turnNode(rd, i, bit)
				asked := b.asks()
				refuses(b, b.destroy(rd, 66), api.ErrFresh)
				for _, x := range b.p.O.Log()[asked:] {
					if x.Question.Domain != api.DomNode {
						b.t.Fatal("asked", x)
					}
				}
				b.turnNode(rd, i, bit)
			}
		}
		// Nodes of its way above the leaf are reckoned, not looked at; the blob is not, either.
		for i := (128 + 66) / 2; i > 1; i /= 2 {
			b.turnNode(rd, i, 7)
		}
		b.turn(dst, 5)
		says(b, b.destroy(rd, 66), -1)
	})
}

// Of a Dead realm nodes are not looked at, and its tree stays.
func TestDestroyOfDead(t *testing.T) {
	inModes(t, modes(), func(b *bench) {
		for i, page := range edgePages() {
			b.lays(rd, page, spare+i, bytesOf(byte(i)))
			b.takes(rd, page, dst+i)
		}
		b.becomes(rd, api.Dead)
		was, asked := b.realm(rd), b.asks()
		for _, page := range edgePages() {
			b.turnNode(rd, 128+page, 3)
			b.turnNode(rd, 2, 9)
			says(b, b.destroy(rd, page), -1)
			b.isAt(rd, page, api.Entry{Kind: 3})
		}
		if !reflect.DeepEqual(b.realm(rd), was) || b.asks() != asked {
			b.t.Error("the realm is changed, or something was asked")
		}
	})
}

func TestReclaim(t *testing.T) {
	for _, s := range []api.RState{api.New, api.Active, api.Dead} {
		inModes(t, modes(), func(b *bench) {
			b.lays(rd, 0, spare, bytesOf(1))
			b.lays(rd, 1, spare+1, bytesOf(1))
			b.lays(rd, 2, spare+2, bytesOf(1))
			b.takes(rd, 1, dst)
			b.becomes(rd, s)
			says(b, b.destroy(rd, 2), spare+2)
			asked := b.asks()
			for range 2 {
				says(b, b.reclaim(rd, 0), false) // in
				says(b, b.reclaim(rd, 1), false) // out
				says(b, b.reclaim(rd, 3), false) // Empty
			}
			b.isAt(rd, 2, api.Entry{Kind: 3})
			says(b, b.reclaim(rd, 2), true)
			b.isAt(rd, 2, api.Entry{Kind: 5})
			says(b, b.reclaim(rd, 2), false) // wanted already
			b.isAt(rd, 2, api.Entry{Kind: 5})
			if b.asks() != asked {
				b.t.Error("something was asked")
			}
		})
	}
}

// Of a page whose way ends above the last level it is false, and no error, also where all below is Destroyed.
func TestReclaimWithoutTables(t *testing.T) {
	inModes(t, modes()[:3], func(b *bench) {
		for _, page := range []int{4, 15, 16, 63, 68, 127 - 4, 100} {
			says(b, b.reclaim(rd, page), false)
		}
		b.lays(rd, 64, spare, bytesOf(1))
		says(b, b.destroy(rd, 64), spare)
		if _, e := b.p.X.Destroy(root, 64, 3); e != api.OK {
			b.t.Fatal(e)
		}
		if _, e := b.p.X.Destroy(root, 124, 3); e != api.OK {
			b.t.Fatal(e)
		}
		b.adopts(b.a.mode)
		for _, page := range []int{64, 65, 66, 67, 124, 127} {
			says(b, b.reclaim(rd, page), false)
			refuses(b, b.destroy(rd, page), api.ErrTable)
			b.wrong(b.zero(rd, page, spare), api.ErrTable)
		}
	})
}

func TestPage(t *testing.T) {
	for _, s := range []api.RState{api.New, api.Active, api.Dead} {
		inModes(t, modes(), func(b *bench) {
			for i, x := range plains() {
				b.lays(rd, edgePages()[i], spare+i, x)
			}
			b.becomes(rd, s)
			asked := b.asks()
			for i, x := range plains() {
				b.gets(rd, edgePages()[i], x)
				// As a vCPU would have written there.
				b.put(spare+i, bytesOf(byte(70+i)))
				b.gets(rd, edgePages()[i], bytesOf(byte(70+i)))
			}
			if b.asks() != asked {
				b.t.Error("something was asked")
			}
		})
	}
}

// P17.5, P0.4

// wrongBlobs says that nothing but its latest blob and counter bring a page in; b is left as it was.
func wrongBlobs(b *bench, x out, others []out) {
	b.t.Helper()
	const src = dst + 10
	try := func(sealed api.Granule, counter uint64) {
		b.t.Helper()
		if sealed == x.sealed && counter == x.counter {
			return
		}
		b.put(src, sealed)
		b.wrong(b.bringIn(x.at, x.page, spare+20, src, counter), api.ErrFresh)
	}
	for _, o := range others {
		try(o.sealed, o.counter)
		try(o.sealed, x.counter)
		try(x.sealed, o.counter)
	}
	for bit := 0; bit < 8*size; bit += 73 {
		turned := x.sealed
		turned[bit/8] ^= 1 << (bit % 8)
		try(turned, x.counter)
	}
	try(x.plain, x.counter)
	try(api.Granule{}, x.counter)
	for _, n := range []uint64{0, x.counter - 1, x.counter + 1, x.counter + 256, x.counter + last, last} {
		try(x.sealed, n)
	}
}

// Several realms, and several pages of each: each comes in by what went out last alone, and is what it was.
func TestTheLatestAlone(t *testing.T) {
	inModes(t, distinctModes(), func(b *bench) {
		var outs, latest []out
		for i, page := range []int{0, 1, 2, 127} {
			b.lays(rd, page, spare+i, bytesOf(byte(i)))
			b.lays(other, page, spare+4+i, bytesOf(byte(i)))
			for _, at := range []int{rd, other} {
				// Once, so that there are older ones, of the same bytes.
				x := b.takes(at, page, dst)
				b.right(b.bringIn(at, page, spare+10, dst, x.counter))
				outs = append(outs, x)
				x = b.takes(at, page, dst)
				outs, latest = append(outs, x), append(latest, x)
			}
		}
		for _, x := range latest {
			c := b.apart()
			wrongBlobs(c, x, outs)
			c.put(dst, x.sealed)
			c.right(c.bringIn(x.at, x.page, spare+20, dst, x.counter))
			c.gets(x.at, x.page, x.plain)
		}
		for i, x := range latest {
			b.put(dst, x.sealed)
			b.right(b.bringIn(x.at, x.page, spare+11+i, dst, x.counter))
		}
		for _, x := range latest {
			b.gets(x.at, x.page, x.plain)
		}
	})
}

// Each bit of a blob.
func TestEachBitOfABlob(t *testing.T) {
	for _, m := range []mode{modes()[0], modes()[2]} {
		b := fresh(t, m)
		b.lays(rd, 126, spare, bytesOf(1))
		x := b.takes(rd, 126, dst)
		for bit := range 8 * size {
			turned := x.sealed
			turned[bit/8] ^= 1 << (bit % 8)
			b.p.M.Put(dst, turned)
			if e := b.p.Import(rd, 126, spare, dst, 1); e != api.ErrFresh {
				t.Fatal(m.name, bit, e)
			}
		}
		b.p.M.Put(dst, x.sealed)
		if e := b.p.Import(rd, 126, spare, dst, 1); e != api.OK {
			t.Fatal(e)
		}
		if g, e := b.p.Page(rd, 126); g != bytesOf(1) || e != api.OK {
			t.Error(g, e)
		}
	}
}

// A node beside the way, with a bit turned, or as it was once, or that of another place, or realm: no page goes out or comes in. Others are not looked at.
func TestNodes(t *testing.T) {
	inModes(t, distinctModes()[:3], func(b *bench) {
		old := b.apart()
		for i, page := range edgePages() {
			b.lays(rd, page, spare+i, bytesOf(byte(i)))
		}
		for i, page := range edgePages() {
			if page != 3 {
				b.takes(rd, page, dst+i)
			}
		}
		b.adopts(b.a.mode)
		type what struct {
			page int
			do   func(c *bench) api.Errno
		}
		acts := []what{
			{3, func(c *bench) api.Errno { return c.export(rd, 3, dst+15).e }},
			{1, func(c *bench) api.Errno { return c.bringIn(rd, 1, spare+20, dst+1, 2) }},
			{127, func(c *bench) api.Errno { return c.bringIn(rd, 127, spare+20, dst+7, 7) }},
			{127, func(c *bench) api.Errno { return c.destroy(rd, 127).e }},
		}
		for k, act := range acts {
			beside, e := tree.Beside(act.page)
			ok(b.t, e)
			for i := 2; i < 256; i += 1 + i/9 {
				c := b.apart()
				c.turnNode(rd, i, (37*i)%256)
				want := api.OK
				if slices.Contains(beside, i) || k == 3 && i == 128+act.page {
					want = api.ErrFresh
				}
				c.wrong(act.do(c), want)
			}
			for _, i := range beside {
				c := b.apart()
				was := api.Digest(c.a.node(c.a.realms[rd], i))
				for _, x := range []api.Digest{api.Digest(old.a.node(old.a.realms[rd], i)), api.Digest(c.a.node(c.a.realms[other], i)), api.Digest(c.a.node(c.a.realms[rd], i^1)), {}} {
					g := c.a.memory[nodes+i/4]
					copy(g[i%4*32:], x[:])
					c.put(nodes+i/4, g)
					want := api.ErrFresh
					if x == was {
						continue
					}
					c.wrong(act.do(c), want)
				}
			}
			c := b.apart()
			c.right(act.do(c))
		}
	})
}

// Nodes that do not lie in memory, or do not begin with a granule, hold nothing: what was asked ahead of them was asked.
func TestNodesThatAreNotThere(t *testing.T) {
	for _, at := range []uint64{size * (many - 63), size * many, size*nodes + 8, size*nodes + 64, 1 << 40, 1<<64 - size, 1<<64 - 1} {
		for _, m := range []mode{modes()[0], modes()[2], modes()[8]} {
			b := fresh(t, m)
			ok(t, b.p.R.Drop(rd))
			_, e := b.p.R.Create(rd, root, api.RealmParams{Nodes: at}, digest(9))
			ok(t, e)
			ok(t, b.p.X.Set(root, 1, api.Entry{Kind: api.EntryExported}))
			b.adopts(m)
			b.lays(rd, 0, spare, bytesOf(1))
			asked := b.asks()
			refuses(b, b.export(rd, 0, dst), api.ErrFresh)
			if l := b.asked(asked); len(l) > 1 || len(l) == 1 && l[0] != fmt.Sprint(api.QDigest, " ", api.DomNone, " of 0") {
				t.Error("Export asked", l)
			}
			asked = b.asks()
			b.wrong(b.bringIn(rd, 1, spare+1, dst, 1), api.ErrFresh)
			if l := b.asked(asked); !slices.Equal(l, []string{fmt.Sprint(api.QDigest, " ", api.DomLeaf, " of 1")}) {
				t.Error("Import asked", l)
			}
			asked = b.asks()
			refuses(b, b.destroy(rd, 1), api.ErrFresh)
			if l := b.asked(asked); len(l) != 0 {
				t.Error("Destroy asked", l)
			}
			b.becomes(rd, api.Dead)
			says(b, b.destroy(rd, 1), -1)
			says(b, b.destroy(rd, 0), spare)
		}
	}
}

// A tree that says of a page that is in that it is out, does not hold.
func TestExportNeedsTheLeafOfNothing(t *testing.T) {
	inModes(t, distinctModes(), func(b *bench) {
		b.lays(rd, 2, spare, bytesOf(1))
		top, e := tree.Set(b.p.O, b.p.M, size*nodes, 2, digest(5))
		ok(b.t, e)
		ok(b.t, b.p.R.SetTree(rd, top))
		b.adopts(b.a.mode)
		refuses(b, b.export(rd, 2, dst), api.ErrFresh)
	})
}

// P0.6: what a page had is not in the granule that it leaves; P0.2: the blob is unlike the page, each time.
func TestNothingIsLeft(t *testing.T) {
	inModes(t, distinctModes(), func(b *bench) {
		seen := map[[32]byte]int{}
		for i, page := range edgePages() {
			b.lays(rd, page, spare+i, bytesOf(1))
			for range 3 {
				x := b.takes(rd, page, dst)
				b.isRow(spare+i, api.Row{State: api.Delegated}, api.Granule{})
				seen[sha256.Sum256(x.sealed[:])]++
				if x.sealed == bytesOf(1) {
					b.t.Error("not sealed")
				}
				b.right(b.bringIn(rd, page, spare+i, dst, x.counter))
			}
			if page == 3 {
				says(b, b.destroy(rd, page), spare+i)
				b.isRow(spare+i, api.Row{State: api.Delegated}, api.Granule{})
				b.step(spare+i, api.Delegated, api.Undelegated, 0)
			}
		}
		if len(seen) != 3*len(edgePages()) {
			b.t.Error(len(seen), "blobs")
		}
	})
}

// Parts are copied: whichever copy a call is done with, it is done to the same oracle, memory, rows, tables and realms; none is changed itself.
func TestPartsAreCopied(t *testing.T) {
	b := fresh(t, modes()[0])
	was := b.p
	p := b.p
	b.right(b.place(rd, 0, spare, bytesOf(1)))
	if g, e := p.Page(rd, 0); g != bytesOf(1) || e != api.OK {
		t.Error(g, e)
	}
	p.O, p.M, p.R = nil, nil, nil
	if b.p != was || p.Place(rd, 1, spare+1, api.Granule{}) != api.ErrNil {
		t.Error("a copy is not its own")
	}
	b.gets(rd, 0, bytesOf(1))
}

// Memory and rows of unlike sizes: a granule that one of them has not, there is not.
func TestPartsOfUnlikeSizes(t *testing.T) {
	b := fresh(t, modes()[0])
	b.lays(rd, 0, spare, bytesOf(1))
	b.step(dst+5, api.Undelegated, api.Delegated, 0)
	small, e := machine.New(dst + 3)
	ok(t, e)
	for g := range dst + 3 {
		ok(t, small.Put(g, b.a.memory[g]))
	}
	p := b.p
	p.M = small
	if e := p.Place(rd, 1, dst+5, bytesOf(1)); e != api.ErrArg {
		t.Error("Place", e)
	}
	if n, e := p.Export(rd, 0, dst+4); n != 0 || e != api.ErrOwner {
		t.Error("Export", n, e)
	}
	if n, e := p.Export(rd, 0, dst+1); n != 0 || e != api.ErrFresh {
		t.Error("Export without its nodes", n, e)
	}
	if g, e := p.Page(rd, 0); g != bytesOf(1) || e != api.OK {
		t.Error("Page", g, e)
	}
	if g, e := p.Destroy(rd, 0); g != spare || e != api.OK {
		t.Error("Destroy", g, e)
	}
}

// Realms that are gone have no pages; one that is made where one was begins anew.
func TestARealmThatIsGone(t *testing.T) {
	b := fresh(t, modes()[2])
	b.lays(rd, 0, spare, bytesOf(1))
	b.takes(rd, 0, dst)
	ok(t, b.p.R.Drop(rd))
	b.adopts(b.a.mode)
	b.wrong(b.bringIn(rd, 0, spare, dst, 1), api.ErrNone)
	r, e := b.p.R.Create(rd, root, api.RealmParams{Nodes: size * nodes}, digest(9))
	ok(t, e)
	top, e := tree.Lay(b.p.O, b.p.M, size*nodes)
	ok(t, e)
	ok(t, b.p.R.SetTree(rd, top))
	b.adopts(b.a.mode)
	// The blob is another instance's, and its key was another one.
	b.wrong(b.bringIn(rd, 0, spare, dst, 1), api.ErrFresh)
	b.lays(rd, 1, spare, bytesOf(2))
	b.isRow(spare, api.Row{State: api.StateData, Owner: r.Instance}, bytesOf(2))
	says(b, b.export(rd, 1, dst), 1)
}
