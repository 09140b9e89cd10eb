package attest_test

import (
	"slices"
	"testing"

	"anchorite/api"
	"anchorite/attest"
	"anchorite/oracle"
)

// noOracles are oracles that are not there, and zero ones.
func noOracles() map[string]*oracle.Oracle {
	emptied := oracle.New(true, master(), digest(2))
	attest.Issue(emptied, usual())
	*emptied = oracle.Oracle{}
	var none *oracle.Oracle
	return map[string]*oracle.Oracle{
		"nil": nil, "zero": {}, "new": new(oracle.Oracle), "emptied": emptied,
		"a copy of none": none.Copy(), "a copy of a zero": new(oracle.Oracle).Copy(),
	}
}

// wrongBytes are no proof's: of other lengths, or of no report.
func wrongBytes() map[string][]byte {
	p := with(usual(), digest(77))
	return map[string][]byte{
		"nil": nil, "nothing": {}, "1 nought": {0}, "112 noughts": make([]byte, 112), "80 noughts": make([]byte, 80),
		"80 bytes": p[:80:80], "80 bytes of 112": p[:80], "111 bytes": p[:111:111], "111 bytes of 112": p[:111], "113 bytes": append(slices.Clone(p), 0),
		"81 bytes": p[:81], "112 bytes 255": slices.Repeat([]byte{255}, 112), "twice": slices.Concat(p, p),
		"the tag ahead": slices.Concat(p[80:], p[:80]), "a byte ahead": slices.Concat([]byte{0}, p[:111]), "the last 32 bytes": p[80:], "from the second byte on": append(slices.Clone(p[1:]), 0),
		"65536 bytes": append(slices.Clone(p), make([]byte, 65536-112)...), "a text": []byte("report  instance 1 measure 00 challenge 00, and so on until there are one hundred and twelve bytes, no more, no less.")[:112],
	}
}

// That there is no oracle is told ahead of all else; Split needs none.
func TestNoOracle(t *testing.T) {
	l := wrongBytes()
	l["a proof's form"] = with(usual(), digest(77))
	l["another"] = with(api.Report{}, api.Digest{})
	for name, o := range noOracles() {
		for _, r := range []api.Report{{}, usual()} {
			if p, e := attest.Issue(o, r); p != nil || e != api.ErrNil {
				t.Errorf("Issue, %s: %x, %d", name, p, e)
			}
		}
		for what, p := range l {
			if x := verified(o, p); x != (answer[verdict]{e: api.ErrNil}) {
				t.Error("Verify", name, what, x)
			}
		}
		if len(o.Log()) != 0 || o.Used() != 0 {
			t.Error(name, "was asked")
		}
	}
}

// What is no proof asks nothing, not even for the key.
func TestWrongBytes(t *testing.T) {
	inModes(t, modes(), func(b *bench) {
		for name, p := range wrongBytes() {
			b.noProof(p, name)
		}
		if len(b.o.Log()) != 0 {
			b.t.Error(b.o.Log())
		}
	})
}

// Any other number of bytes than 112, whatever they are.
func TestWrongLengths(t *testing.T) {
	inModes(t, modes(), func(b *bench) {
		p := b.issue(usual())
		long := slices.Concat(p, p, p)
		for n := range 300 {
			if n != 112 {
				b.noProof(long[:n], n)
				b.noProof(long[:n:n], n)
				b.noProof(make([]byte, n), n, "noughts")
			}
		}
		for _, n := range []int{112 + 256, 112 * 256, 112 + 1<<16, 112 + 1<<20} {
			b.noProof(append(slices.Clone(p), make([]byte, n-112)...), n)
		}
		b.accepts(p, usual())
	})
}

// A byte that is missing, or doubled, at each place.
func TestAByteLessOrMore(t *testing.T) {
	inModes(t, modes(), func(b *bench) {
		p := b.issue(usual())
		for i := range p {
			b.noProof(slices.Delete(slices.Clone(p), i, i+1), "less", i)
			b.noProof(slices.Insert(slices.Clone(p), i, p[i]), "more", i)
		}
	})
}

// The first eight bytes: each bit of each, and each as each other byte.
func TestWrongNames(t *testing.T) {
	inModes(t, modes(), func(b *bench) {
		for _, r := range []api.Report{usual(), {}} {
			p := b.issue(r)
			for bit := range 64 {
				b.noProof(turned(p, bit), "the bit", bit)
			}
			for i := range 8 {
				for x := range 256 {
					q := slices.Clone(p)
					if q[i] = byte(x); q[i] != p[i] {
						b.noProof(q, i, x)
					}
				}
			}
			b.accepts(p, r)
		}
	})
}

// The length is asked for ahead of the report, and no tag mends a report that is none: both are one error, and nothing is asked.
func TestWrongInBoth(t *testing.T) {
	inModes(t, modes(), func(b *bench) {
		p := b.issue(usual())
		b.noProof(turned(p, 3)[:111], "both")
		// Even the tag that the bytes would have.
		other := turned(p, 3)[:80]
		key, _ := b.o.Copy().Key(api.DomReportKey)
		tag, e := b.o.Copy().Tag(key, api.DomReport, other)
		if e != api.OK {
			b.t.Fatal(e)
		}
		b.noProof(slices.Concat(other, tag[:]), "its own tag")
	})
}

// What was refused leaves nothing behind: the next draw is the one that it would have been.
func TestRefusedKeepsNothing(t *testing.T) {
	inModes(t, modes(), func(b *bench) {
		for _, r := range reports()[:5] {
			for name, p := range wrongBytes() {
				b.noProof(p, name)
			}
			p := b.issue(r)
			b.noProof(p[:111])
			b.noProof(turned(p, 0))
			b.accepts(p, r)
		}
		if len(b.o.Log()) != 6 {
			b.t.Error(b.o.Log())
		}
	})
}
