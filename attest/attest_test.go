package attest_test

import (
	"bytes"
	"encoding/hex"
	"slices"
	"testing"

	"anchorite/api"
	"anchorite/attest"
	"anchorite/oracle"
	"anchorite/report"
)

// The chapter's examples.
func TestExamples(t *testing.T) {
	for _, ideal := range []bool{true, false} {
		o := oracle.New(ideal, digest(1), drawn(5)...)
		p, e := attest.Issue(o, usual())
		if len(p) != 112 || e != api.OK {
			t.Fatal(p, e)
		}
		if r, is, e := attest.Verify(o, p); r != usual() || !is || e != api.OK {
			t.Error("issued:", r, is, e)
		}
		if r, is, e := attest.Verify(o, turned(p, 8*100)); r != usual() || is || e != api.OK {
			t.Error("a bit turned in the tag:", r, is, e)
		}
		if r, is, e := attest.Verify(o, p[:111]); r != (api.Report{}) || is || e != api.ErrBytes {
			t.Error("111 bytes:", r, is, e)
		}
	}
	if p, e := attest.Issue(nil, usual()); p != nil || e != api.ErrNil {
		t.Error("no oracle:", p, e)
	}
}

// P19.1

func TestSize(t *testing.T) {
	if n := attest.Size(); n != 112 {
		t.Error(n)
	}
}

func TestIssue(t *testing.T) {
	inModes(t, modes(), func(b *bench) {
		for _, r := range reports() {
			p := b.issue(r)
			if len(p) != attest.Size() || !bytes.Equal(p[:80], report.Bytes(r)) {
				b.t.Errorf("%v: %x", r, p)
			}
		}
		b.asIs("all reports")
	})
}

// What is asked, written out: the key, by the master key and no parts, and then the tag by it; both once.
func TestIssueAsksInOrder(t *testing.T) {
	inModes(t, modes(), func(b *bench) {
		p := b.issue(usual())
		l := b.o.Log()
		if len(l) != 2 {
			b.t.Fatal(l)
		}
		want := []api.Question{
			{Kind: api.QKey, Key: master(), Domain: api.DomReportKey},
			{Kind: api.QTag, Key: l[0].Answer, Domain: api.DomReport, Data: p[:80]},
		}
		for i, q := range want {
			if !bytes.Equal(textOf(l[i].Question), textOf(q)) {
				b.t.Errorf("%d: %x; not %x", i, l[i].Question, q)
			}
		}
		if l[1].Answer != api.Digest(p[80:]) {
			b.t.Errorf("%x; not %x", p[80:], l[1].Answer)
		}
	})
}

// Of an ideal oracle the key is the first draw, and each report that is new the next one; behind the list's end it tells its number.
func TestIssueOfDraws(t *testing.T) {
	for n := range 6 {
		o := oracle.New(true, master(), drawn(n)...)
		for i := range 4 {
			for range 2 {
				p, e := attest.Issue(o, reports()[i])
				draw := api.Digest{0: byte(i + 1), 31: 1}
				if i+1 < n {
					draw = drawn(n)[i+1]
				}
				if e != api.OK || !bytes.Equal(p[80:], draw[:]) || o.Used() != i+2 {
					t.Errorf("%d of %d draws: %x, %d, %d had; not %x", i, n, p, e, o.Used(), draw)
				}
			}
		}
	}
}

// The key is asked for once, whichever call is the first; what was asked ahead of it counts.
func TestKeyIsAskedOnce(t *testing.T) {
	inModes(t, modes(), func(b *bench) {
		b.rejects(with(usual(), digest(77)), usual())
		for _, r := range reports() {
			b.issue(r)
		}
		for i, x := range b.o.Log() {
			if (x.Question.Kind == api.QKey) != (i == 0) {
				b.t.Errorf("%d: %x", i, x)
			}
		}
		b.asIs("all of them")
	})
}

// What was asked for in other domains, of other kinds, or by other keys, is not what Issue asks.
func TestAskedApart(t *testing.T) {
	for _, m := range distinctModes() {
		o := oracle.New(m.ideal, master(), m.draws...)
		b := bytesOf(usual())
		for d := range api.Domain(17) {
			if d != api.DomReportKey {
				o.Key(d)
			}
			o.Key(d, b)
			o.Tag(master(), d, b)
			o.Tag(api.Digest{}, d, b)
			o.Digest(d, b)
		}
		ahead := len(o.Log())
		p, e := attest.Issue(o, usual())
		l := o.Log()
		if e != api.OK || len(l) != ahead+2 || l[ahead].Question.Kind != api.QKey || l[ahead+1].Answer != api.Digest(p[80:]) {
			t.Error(m.name, ahead, len(l), e)
		}
	}
}

// What was asked for is what it was: an oracle that was asked for key and tag ahead is asked nothing more.
func TestAskedAhead(t *testing.T) {
	inModes(t, modes(), func(b *bench) {
		key, _ := b.o.Key(api.DomReportKey)
		tag, _ := b.o.Tag(key, api.DomReport, bytesOf(usual()))
		if p := b.issue(usual()); api.Digest(p[80:]) != tag || len(b.o.Log()) != 2 {
			b.t.Errorf("%x; not %x", p, tag)
		}
	})
}

// The tag hangs on the oracle's master key, but in ideal mode not on what that key is.
func TestMasterKey(t *testing.T) {
	for _, ideal := range []bool{false, true} {
		seen := map[string]int{}
		for i, key := range digests() {
			p, e := attest.Issue(oracle.New(ideal, key, drawn(4)...), usual())
			if e != api.OK {
				t.Fatal(e)
			}
			seen[string(p)] = i
		}
		if want := map[bool]int{false: len(digests()), true: 1}[ideal]; len(seen) != want {
			t.Error(ideal, len(seen), "not", want)
		}
	}
}

// known are proofs that were worked out by another program, by the master key of the bytes i.
func known() []struct {
	r     api.Report
	proof string
} {
	return []struct {
		r     api.Report
		proof string
	}{
		{
			api.Report{},
			"7265706f727400000000000000000000" +
				"00000000000000000000000000000000000000000000000000000000000000000000000000000000000000000000000000000000000000000000000000000000" +
				"85067a96d0277937ed3f17f80e4804d5417f1e0fa459b1fcd28cc92a002c60f2",
		},
		{
			api.Report{Instance: 1<<64 - 1, Measure: filled(255), Challenge: filled(255)},
			"7265706f72740000ffffffffffffffff" +
				"ffffffffffffffffffffffffffffffffffffffffffffffffffffffffffffffffffffffffffffffffffffffffffffffffffffffffffffffffffffffffffffffff" +
				"93fc3daa29b0aa73d274da164ea549335f087f563bc7c2e9cf42656fd85a68df",
		},
		{
			usual(),
			"7265706f727400000102030405060708" +
				"0e151c232a31383f464d545b626970777e858c939aa1a8afb6bdc4cbd2d9e0e7f3fa01080f161d242b323940474e555c636a71787f868d949ba2a9b0b7bec5cc" +
				"2d9fe76ef026e1c07132ce68d691da3b499bcc569f6a82e7af6f8d82858c6b99",
		},
	}
}

func TestConcreteAsKnown(t *testing.T) {
	var key api.Digest
	for i := range key {
		key[i] = byte(i)
	}
	o := oracle.New(false, key)
	for _, k := range known() {
		p, e := attest.Issue(o, k.r)
		if hex.EncodeToString(p) != k.proof || e != api.OK {
			t.Errorf("%v: %x, %d", k.r, p, e)
		}
		if r, is, e := attest.Verify(oracle.New(false, key), p); r != k.r || !is || e != api.OK {
			t.Error(k.r, r, is, e)
		}
	}
}

// P19.2

func TestVerify(t *testing.T) {
	inModes(t, modes(), func(b *bench) {
		for _, r := range reports() {
			p := b.issue(r)
			n := len(b.o.Log())
			b.accepts(p, r)
			b.accepts(slices.Clone(p), r)
			if len(b.o.Log()) != n {
				b.t.Fatal("asked again", b.o.Log()[n:])
			}
		}
		b.asIs("all reports")
	})
}

// Each bit of the tag.
func TestVerifyOfATurnedTag(t *testing.T) {
	inModes(t, modes(), func(b *bench) {
		for _, r := range []api.Report{usual(), {}} {
			p := b.issue(r)
			n := len(b.o.Log())
			for bit := 8 * 80; bit < 8*112; bit++ {
				b.rejects(turned(p, bit), r)
			}
			for i := 80; i < 112; i++ {
				for _, x := range []byte{1, 0x55, 255} {
					q := slices.Clone(p)
					q[i] ^= x
					b.rejects(q, r)
				}
			}
			b.accepts(p, r)
			if len(b.o.Log()) != n {
				b.t.Fatal("asked again", b.o.Log()[n:])
			}
		}
	})
}

// Each bit of the report: the name's are no report's; of the others another report is told, and its own tag asked for.
func TestVerifyOfATurnedReport(t *testing.T) {
	inModes(t, distinctModes(), func(b *bench) {
		p := b.issue(usual())
		for bit := range 8 * 80 {
			q := turned(p, bit)
			if bit < 64 {
				b.noProof(q, bit)
				continue
			}
			n := len(b.o.Log())
			b.rejects(q, reportOf(q))
			if reportOf(q) == usual() || len(b.o.Log()) != n+1 {
				b.t.Fatal(bit, reportOf(q), len(b.o.Log()), n)
			}
		}
		b.accepts(p, usual())
		b.asIs("all bits")
	})
}

// Tags and reports that are turned in more than one place, so that the sums of their bytes are as they were.
func TestVerifyOfExchangedBytes(t *testing.T) {
	inModes(t, distinctModes(), func(b *bench) {
		p := b.issue(usual())
		for i := 81; i < 112; i++ {
			q := slices.Clone(p)
			q[i], q[i-1] = q[i-1], q[i]
			if bytes.Equal(p, q) {
				continue
			}
			b.rejects(q, usual())
			q = slices.Clone(p)
			q[i] ^= 128
			q[i-1] ^= 128
			b.rejects(q, usual())
		}
	})
}

// The tag of one report behind another's bytes.
func TestVerifyOfAnothersTag(t *testing.T) {
	inModes(t, distinctModes(), func(b *bench) {
		var l [][]byte
		for _, r := range reports()[:12] {
			l = append(l, b.issue(r))
		}
		for i, p := range l {
			for j, q := range l {
				r := reportOf(p)
				if x := slices.Concat(p[:80], q[80:]); i == j {
					b.accepts(x, r)
				} else {
					b.rejects(x, r)
				}
			}
		}
	})
}

// Of draws alike the tag of one report is another's, and accepted: what hides is that draws are distinct.
func TestVerifyOfDrawsAlike(t *testing.T) {
	o := oracle.New(true, master(), slices.Repeat([]api.Digest{digest(9)}, 3)...)
	for _, r := range reports()[:2] {
		if x := verified(o, with(r, digest(9))); x != (answer[verdict]{verdict{r, true}, api.OK}) {
			t.Error(x)
		}
	}
	r := reports()[2]
	if x := verified(o, with(r, digest(9))); x != (answer[verdict]{verdict{r, false}, api.OK}) {
		t.Error(x)
	}
}

// Tags that are no tag, but look like one: noughts, bytes 255, the key, and others' answers.
func TestVerifyOfOtherTags(t *testing.T) {
	inModes(t, distinctModes(), func(b *bench) {
		p := b.issue(usual())
		key := b.o.Log()[0].Answer
		plain := byLibrary(api.Question{Kind: 1, Domain: 7, Data: p[:80]})
		for _, tag := range []api.Digest{{}, filled(255), key, master(), plain, usual().Measure, usual().Challenge} {
			b.rejects(with(usual(), tag), usual())
		}
		for d := range api.Domain(17) {
			if x, e := b.o.Copy().Tag(key, d, p[:80]); e == api.OK && d != api.DomReport {
				b.rejects(with(usual(), x), usual())
			}
		}
	})
}

// What nobody issued is not accepted; its tag is asked for, and is what is issued behind that.
func TestVerifyAheadOfIssue(t *testing.T) {
	inModes(t, distinctModes(), func(b *bench) {
		for k, r := range reports() {
			b.rejects(with(r, digest(byte(k+100))), r)
			n := len(b.o.Log())
			if n != k+2 || b.o.Log()[n-1].Question.Kind != api.QTag {
				b.t.Fatal(n)
			}
			p := b.issue(r)
			if len(b.o.Log()) != n || api.Digest(p[80:]) != b.o.Log()[n-1].Answer {
				b.t.Errorf("%x; not %x", p, b.o.Log()[n-1])
			}
			b.accepts(p, r)
		}
	})
}

// A proof that another oracle issued, by another master key, or of other draws.
func TestVerifyOfAnothersProof(t *testing.T) {
	of := func(o *oracle.Oracle) []byte {
		p, e := attest.Issue(o, usual())
		if e != api.OK {
			t.Fatal(e)
		}
		return p
	}
	others := map[string]*oracle.Oracle{
		"another master key": oracle.New(false, digest(51)),
		"master key noughts": oracle.New(false, api.Digest{}),
		"other draws":        oracle.New(true, master(), digest(201), digest(202)),
		"draws used up":      oracle.New(true, master(), digest(201)),
	}
	for _, m := range []mode{modes()[0], modes()[6]} {
		for name, other := range others {
			b := fresh(t, m)
			b.rejects(of(other), usual())
			p := b.issue(usual())
			if x := verified(other, p); x != (answer[verdict]{verdict{usual(), false}, api.OK}) {
				t.Error(m.name, name, x)
			}
		}
	}
	// By the same master key it is the same one: a concrete oracle keeps nothing that another has not.
	p := of(oracle.New(false, master()))
	fresh(t, modes()[0]).accepts(p, usual())
}

func TestSplit(t *testing.T) {
	for _, r := range reports() {
		for _, tag := range digests() {
			if x := cut(with(r, tag)); x != (answer[parts]{parts{r, tag}, api.OK}) {
				t.Error(x, "not", r, tag)
			}
		}
	}
	for i := range 32 {
		for x := range 256 {
			tag := digest(1)
			tag[i] = byte(x)
			if got := cut(with(usual(), tag)); got != (answer[parts]{parts{usual(), tag}, api.OK}) {
				t.Error(got, "not", tag)
			}
		}
	}
}

// What was issued comes apart into its report, and the tag that the oracle told.
func TestSplitOfIssued(t *testing.T) {
	inModes(t, modes(), func(b *bench) {
		for _, r := range reports() {
			p := b.issue(r)
			if x := b.split(p); x.x != (parts{r, b.a.tag(bytesOf(r))}) || x.e != api.OK {
				b.t.Errorf("%x: %v", p, x)
			}
		}
	})
}

// Bytes within a longer list: those behind them do nothing to them, nor are they written.
func TestWithinALongerList(t *testing.T) {
	inModes(t, modes(), func(b *bench) {
		p := b.issue(usual())
		long := slices.Concat([]byte("ahead"), p, []byte("and behind"))
		was := string(long)
		b.accepts(long[5:117], usual())
		if x := b.split(long[5:117]); x.x != (parts{usual(), api.Digest(p[80:])}) {
			b.t.Error(x)
		}
		b.noProof(long[5:116:117], "111 bytes of a longer list")
		if string(long) != was {
			b.t.Errorf("written: %q", long)
		}
	})
}

// P19.3

// What was issued is accepted ever after, whatever was issued, or not accepted, behind it.
func TestAcceptedEverAfter(t *testing.T) {
	inModes(t, modes(), func(b *bench) {
		var l [][]byte
		for k, r := range reports() {
			l = append(l, b.issue(r))
			b.verify(with(api.Report{Instance: uint64(k)}, digest(byte(k))))
			for i, p := range l {
				b.accepts(p, reports()[i])
			}
		}
		for i := len(l) - 1; i >= 0; i-- {
			b.accepts(l[i], reports()[i])
			if !bytes.Equal(b.issue(reports()[i]), l[i]) {
				b.t.Error(i, "is another one when it is issued again")
			}
		}
		b.asIs("all of them")
	})
}

// Behind questions of all domains, and behind streams, too.
func TestAcceptedBehindOtherQuestions(t *testing.T) {
	for _, m := range modes() {
		o := oracle.New(m.ideal, master(), m.draws...)
		p, e := attest.Issue(o, usual())
		if e != api.OK {
			t.Fatal(e)
		}
		for d := range api.Domain(17) {
			o.Key(d, p)
			o.Digest(d, p)
			o.Tag(digest(3), d, p[:80])
			o.Stream(api.Question{Kind: api.QStream, Key: digest(4), Domain: d}, 100)
			if x := verified(o, p); x != (answer[verdict]{verdict{usual(), true}, api.OK}) {
				t.Error(m.name, d, x)
			}
		}
	}
}

// A copy of the oracle accepts what was issued ahead of it, and goes on apart.
func TestAcceptedByACopy(t *testing.T) {
	inModes(t, modes(), func(b *bench) {
		p := b.issue(usual())
		c := b.o.Copy()
		if x := verified(c, p); x != (answer[verdict]{verdict{usual(), true}, api.OK}) {
			b.t.Error(x)
		}
		if _, e := attest.Issue(c, api.Report{}); e != api.OK {
			b.t.Error(e)
		}
		b.asIs("the copy goes on apart")
	})
}

// In ideal mode, of distinct draws, what is accepted was issued: unlike reports have unlike proofs, and unlike tags.
func TestUnlikeProofs(t *testing.T) {
	inModes(t, distinctModes(), func(b *bench) {
		seen := map[api.Digest]int{}
		for bit := range 8 * 72 {
			tag := api.Digest(b.issue(reportOf(turned(bytesOf(usual()), 64+bit)))[80:])
			if was, is := seen[tag]; is {
				b.t.Error("the bit", bit, "has the tag of", was)
			}
			seen[tag] = bit
		}
		b.asIs("all bits")
	})
}

// P0.7: an ideal oracle whose draws are the concrete answers issues the same proofs.
func TestProofsOfConcreteDraws(t *testing.T) {
	issued := func(o *oracle.Oracle) []byte {
		var out []byte
		for _, r := range reports() {
			p, e := attest.Issue(o, r)
			if e != api.OK {
				t.Fatal(e)
			}
			out = append(out, p...)
		}
		return out
	}
	c := oracle.New(false, master())
	first := issued(c)
	var draws []api.Digest
	for _, x := range c.Log() {
		draws = append(draws, x.Answer)
	}
	if !bytes.Equal(issued(oracle.New(true, digest(2), draws...)), first) {
		t.Error("other proofs")
	}
}

// What a caller hands in stays as it was, and what is told is new memory: what is written there later does nothing to what the oracle knows.
func TestWhatIsToldIsNewMemory(t *testing.T) {
	inModes(t, modes(), func(b *bench) {
		p := b.issue(usual())
		was := slices.Clone(p)
		q := b.issue(usual())
		clear(p)
		p = append(p, 1, 2, 3)
		if !bytes.Equal(q, was) {
			b.t.Fatalf("written by the other: %x", q)
		}
		b.asIs("written behind the calls", len(p))
		handed := slices.Clone(was)
		b.accepts(handed, usual())
		x := b.split(handed)
		clear(handed)
		if x.x != (parts{usual(), api.Digest(was[80:])}) {
			b.t.Error(x)
		}
		b.asIs("written behind the calls")
		b.accepts(was, usual())
		if !bytes.Equal(b.issue(usual()), was) {
			b.t.Error("another one than it was")
		}
		for i, x := range b.o.Log() {
			clear(x.Question.Data)
			if y := b.o.Log()[i]; i == 1 && !bytes.Equal(y.Question.Data, was[:80]) {
				b.t.Errorf("%x", y)
			}
		}
	})
}
