package oracle_test

import (
	"bytes"
	"crypto/aes"
	"crypto/cipher"
	"crypto/hmac"
	"crypto/sha256"
	"encoding/binary"
	"encoding/hex"
	"math"
	"math/rand"
	"reflect"
	"slices"
	"testing"

	"anchorite/api"
	"anchorite/oracle"
)

// sample is n bytes that are unlike those beside them.
func sample(n int) []byte {
	b := make([]byte, n)
	for i := range b {
		b[i] = byte(13*i + i/64 + 9)
	}
	return b
}

// digest is the 32 bytes of sample, each by so many more.
func digest(by byte) api.Digest {
	d := api.Digest(sample(32))
	for i := range d {
		d[i] += by
	}
	return d
}

// distinct is n draws of which no two are alike.
func distinct(n int) []api.Digest {
	out := make([]api.Digest, n)
	for i := range out {
		out[i] = digest(byte(i))
	}
	return out
}

// behindEnd is the draw number i of a list that does not reach so far.
func behindEnd(i int) api.Digest {
	var d api.Digest
	binary.LittleEndian.PutUint64(d[:], uint64(i))
	d[31] = 1
	return d
}

// text is a question's text, put together byte by byte.
func text(q api.Question) []byte {
	out := []byte{byte(q.Kind)}
	for _, b := range q.Key {
		out = append(out, b)
	}
	out = append(out, byte(q.Domain))
	for _, b := range q.Data {
		out = append(out, b)
	}
	return out
}

// elsewhere is the concrete answer to a question, by the library.
func elsewhere(q api.Question) api.Digest {
	if q.Kind == api.QDigest {
		return sha256.Sum256(text(q))
	}
	h := hmac.New(sha256.New, q.Key[:])
	h.Write(text(q))
	return api.Digest(h.Sum(nil))
}

// streamElsewhere is n bytes of the concrete stream, by the library.
func streamElsewhere(t *testing.T, q api.Question, n int) []byte {
	c, err := aes.NewCipher(q.Key[:16])
	if err != nil {
		t.Fatal(err)
	}
	d := sha256.Sum256(text(q))
	var first [16]byte
	copy(first[:8], d[:8])
	out := make([]byte, n)
	cipher.NewCTR(c, first[:]).XORKeyStream(out, out)
	return out
}

// block is the question for a block of an ideal stream.
func block(q api.Question, i int) api.Question {
	q.Data = binary.LittleEndian.AppendUint64(slices.Clone(q.Data), uint64(i))
	return q
}

// sameQuestion says whether both are the same; nil and empty Data are one.
func sameQuestion(a, b api.Question) bool {
	return a.Kind == b.Kind && a.Key == b.Key && a.Domain == b.Domain && bytes.Equal(a.Data, b.Data)
}

func sameAsked(a, b api.Asked) bool {
	return a.Answer == b.Answer && sameQuestion(a.Question, b.Question)
}

// wantLog fails unless the oracle's log is that.
func wantLog(t *testing.T, o *oracle.Oracle, want ...api.Asked) {
	t.Helper()
	if got := o.Log(); !slices.EqualFunc(got, want, sameAsked) {
		t.Errorf("the log is %v, not %v", got, want)
	}
}

// wantDigest fails unless an answer is that, with no error.
func wantDigest(t *testing.T, got api.Digest, e api.Errno, want api.Digest) {
	t.Helper()
	if e != api.OK || got != want {
		t.Errorf("%x, %v; not %x", got, e, want)
	}
}

// pair is a break.
type pair struct{ first, second api.Asked }

func breaksOf(o *oracle.Oracle) []pair {
	var out []pair
	for a, b := range o.Breaks() {
		out = append(out, pair{a, b})
	}
	return out
}

// breaksOfLog is the breaks as the document's words have them: each two of the log.
func breaksOfLog(log []api.Asked) []pair {
	var out []pair
	for i, a := range log {
		for _, b := range log[i+1:] {
			if a.Question.Kind == b.Question.Kind && a.Question.Domain == b.Question.Domain &&
				a.Answer == b.Answer && !sameQuestion(a.Question, b.Question) {
				out = append(out, pair{a, b})
			}
		}
	}
	return out
}

func samePair(a, b pair) bool { return sameAsked(a.first, b.first) && sameAsked(a.second, b.second) }

func wantBreaks(t *testing.T, o *oracle.Oracle, want []pair) {
	t.Helper()
	if got := breaksOf(o); !slices.EqualFunc(got, want, samePair) {
		t.Errorf("the breaks are %v, not %v", got, want)
	}
}

// nones is the oracles that are not there.
func nones() []*oracle.Oracle { return []*oracle.Oracle{nil, {}, new(oracle.Oracle)} }

// questions is some for 32 bytes, of all kinds, of the first and the last
// domain and one between, and of Data of several lengths; no two are alike.
func questions() []api.Question {
	var out []api.Question
	for _, k := range []api.QKind{api.QDigest, api.QTag, api.QKey} {
		var key api.Digest
		if k != api.QDigest {
			key = digest(7)
		}
		for _, d := range []api.Domain{1, api.DomPage, 16} {
			for _, n := range []int{0, 1, 29, 30, 31, 200} {
				out = append(out, api.Question{Kind: k, Key: key, Domain: d, Data: sample(n)})
			}
		}
	}
	return out
}

// P5.1

func TestNew(t *testing.T) {
	for _, ideal := range []bool{false, true} {
		o := oracle.New(ideal, digest(1), distinct(3)...)
		if o == nil || o.Ideal() != ideal || o.Used() != 0 || len(o.Log()) != 0 || len(breaksOf(o)) != 0 {
			t.Error(ideal, o)
		}
	}
}

func TestAskDraws(t *testing.T) {
	l := distinct(2)
	x, y := []byte("x"), []byte("y")
	o := oracle.New(true, api.Digest{}, l...)
	for i, c := range []struct {
		domain api.Domain
		data   []byte
		want   api.Digest
	}{
		{api.DomData, x, l[0]},
		{api.DomData, y, l[1]},
		{api.DomData, x, l[0]},
		{api.DomRec, x, api.Digest{0: 2, 31: 1}},
		{api.DomRec, x, api.Digest{0: 2, 31: 1}},
		{api.DomData, y, l[1]},
	} {
		got, e := o.Digest(c.domain, c.data)
		if e != api.OK || got != c.want {
			t.Errorf("%d: %x, %v", i, got, e)
		}
	}
}

func TestAskBehindTheListsEnd(t *testing.T) {
	for _, n := range []int{0, 1, 5} {
		l := distinct(n)
		o := oracle.New(true, digest(3), l...)
		for i := range 700 {
			want := behindEnd(i)
			if i < n {
				want = l[i]
			}
			got, e := o.Ask(api.Question{Kind: api.QTag, Domain: api.DomOther, Data: binary.LittleEndian.AppendUint16(nil, uint16(i))})
			wantDigest(t, got, e, want)
		}
		got, e := o.Ask(api.Question{Kind: api.QTag, Domain: api.DomOther, Data: []byte{43, 1}})
		wantDigest(t, got, e, behindEnd(299))
	}
}

func TestAskComputes(t *testing.T) {
	o := oracle.New(false, digest(1), distinct(200)...)
	for _, q := range questions() {
		got, e := o.Ask(q)
		if e != api.OK || got != elsewhere(q) {
			t.Errorf("%v: %x, %v", q, got, e)
		}
	}
}

// Held against answers that were worked out by other programs.
func TestAskComputesAsKnown(t *testing.T) {
	var key api.Digest
	for i := range key {
		key[i] = byte(i)
	}
	abc := []byte("abc")
	o := oracle.New(false, key)
	for _, c := range []struct {
		q    api.Question
		want string
	}{
		{api.Question{Kind: api.QDigest, Domain: 1}, "f9299b56a9f4e25b70292d290130bfe8c9cf719942bced5a3c3c87771ff95faf"},
		{api.Question{Kind: api.QDigest, Domain: 16, Data: abc}, "62740293204662063ca360af27dbfa229f3b2fd13facf0bfaa4b99ea56d66c66"},
		{api.Question{Kind: api.QTag, Key: key, Domain: 7, Data: abc}, "17b4b409a598e30b3364d797b04fb2b247e7d9aad7b8dc884a083a0ad51154e4"},
		{api.Question{Kind: api.QKey, Key: key, Domain: 8, Data: abc}, "5a02692504a4bc765b5adb049610e57378c738e936771345d21b055699007c0e"},
	} {
		if got, e := o.Ask(c.q); e != api.OK || hex.EncodeToString(got[:]) != c.want {
			t.Errorf("%v: %x, %v", c.q, got, e)
		}
	}
	const want = "19e7e2094e2979d63f204d25259c8f51ba7bf9eeae91cb85484709f2206ce98a6fb8f1d663b9def4"
	got, e := o.Stream(api.Question{Kind: api.QStream, Key: key, Domain: 10, Data: abc}, 40)
	if e != api.OK || hex.EncodeToString(got) != want {
		t.Errorf("%x, %v", got, e)
	}
}

// What a question is hangs on each of its parts.
func TestUnlikeQuestions(t *testing.T) {
	first := api.Question{Kind: api.QTag, Key: digest(1), Domain: 5, Data: []byte{1, 2}}
	others := []api.Question{
		{Kind: api.QKey, Key: digest(1), Domain: 5, Data: []byte{1, 2}},
		{Kind: api.QDigest, Domain: 5, Data: []byte{1, 2}},
		{Kind: api.QTag, Domain: 5, Data: []byte{1, 2}},
		{Kind: api.QKey, Domain: 5, Data: []byte{1, 2}},
		{Kind: api.QTag, Key: digest(2), Domain: 5, Data: []byte{1, 2}},
		{Kind: api.QTag, Key: digest(1), Domain: 6, Data: []byte{1, 2}},
		{Kind: api.QTag, Key: digest(1), Domain: 5, Data: []byte{1, 3}},
		{Kind: api.QTag, Key: digest(1), Domain: 5, Data: []byte{1}},
		{Kind: api.QTag, Key: digest(1), Domain: 5, Data: []byte{1, 2, 0}},
		{Kind: api.QTag, Key: digest(1), Domain: 5},
	}
	for i := range 32 {
		q := first
		q.Key[i] ^= 128
		others = append(others, q)
	}
	for _, ideal := range []bool{false, true} {
		o := oracle.New(ideal, api.Digest{})
		had := map[api.Digest]bool{}
		for _, q := range append([]api.Question{first}, others...) {
			a, e := o.Ask(q)
			if e != api.OK || had[a] {
				t.Error(ideal, q, e)
			}
			had[a] = true
		}
		if len(o.Log()) != 1+len(others) {
			t.Error(ideal, len(o.Log()))
		}
	}
}

func TestAskedAgain(t *testing.T) {
	for _, ideal := range []bool{false, true} {
		o := oracle.New(ideal, digest(4), distinct(4)...)
		var first []api.Digest
		for _, q := range questions() {
			a, e := o.Ask(q)
			b, f := o.Ask(q)
			if e != api.OK || f != api.OK || a != b {
				t.Error("at once", ideal, q)
			}
			first = append(first, a)
		}
		for i, q := range questions() {
			if a, e := o.Ask(q); e != api.OK || a != first[i] {
				t.Error("behind others", ideal, q)
			}
		}
		if n := len(questions()); len(o.Log()) != n || ideal && o.Used() != n {
			t.Error(ideal, len(o.Log()), o.Used())
		}
	}
}

func TestNilAndEmptyDataAreOne(t *testing.T) {
	o := oracle.New(true, api.Digest{}, distinct(2)...)
	a, _ := o.Ask(api.Question{Kind: api.QTag, Domain: 1})
	b, e := o.Ask(api.Question{Kind: api.QTag, Domain: 1, Data: []byte{}})
	if e != api.OK || a != b || o.Used() != 1 {
		t.Error(a, b, e, o.Used())
	}
}

func TestAskRefused(t *testing.T) {
	for _, ideal := range []bool{false, true} {
		o := oracle.New(ideal, api.Digest{}, distinct(2)...)
		for _, k := range []api.QKind{0, -1, api.QStream, 5, 255, 256 + api.QDigest, math.MinInt, math.MaxInt} {
			if a, e := o.Ask(api.Question{Kind: k, Domain: api.DomData}); e != api.ErrArg || a != (api.Digest{}) {
				t.Error(ideal, "kind", k, a, e)
			}
		}
		for _, d := range []api.Domain{0, -1, 17, 255, 257, math.MinInt, math.MaxInt} {
			for _, k := range []api.QKind{api.QDigest, api.QTag, api.QKey} {
				if a, e := o.Ask(api.Question{Kind: k, Domain: d}); e != api.ErrArg || a != (api.Digest{}) {
					t.Error(ideal, "domain", d, a, e)
				}
			}
		}
		if len(o.Log()) != 0 || o.Used() != 0 {
			t.Error("what was refused is noted", ideal)
		}
		if a, e := o.Ask(api.Question{Kind: api.QTag, Domain: 1}); e != api.OK || ideal && a != distinct(1)[0] {
			t.Error("what was refused had a draw", ideal, a, e)
		}
	}
}

// keys is keys that are not noughts, by one bit, whichever it is, or by all bytes.
func keys() []api.Digest {
	out := []api.Digest{digest(1)}
	for bit := range 256 {
		var k api.Digest
		k[bit/8] = 1 << (bit % 8)
		out = append(out, k)
	}
	return out
}

// Of QDigest the Key is noughts: what has another one is no question.
func TestDigestWithAKeyIsRefused(t *testing.T) {
	refused := func(o *oracle.Oracle, key api.Digest, d api.Domain, data []byte) {
		t.Helper()
		q := api.Question{Kind: api.QDigest, Key: key, Domain: d, Data: data}
		if a, e := o.Ask(q); e != api.ErrArg || a != (api.Digest{}) {
			t.Errorf("%v: %v: %x, %v", o.Ideal(), q, a, e)
		}
	}
	for _, ideal := range []bool{false, true} {
		o := oracle.New(ideal, digest(1), distinct(2)...)
		for _, k := range keys() {
			refused(o, k, api.DomParams, nil)
		}
		for d := api.Domain(-1); d <= 17; d++ {
			refused(o, digest(1), d, sample(3))
		}
		wantLog(t, o)
		if o.Used() != 0 {
			t.Error("what was refused had a draw", o.Used())
		}
		first := api.Question{Kind: api.QDigest, Domain: api.DomParams}
		want := elsewhere(first)
		if ideal {
			want = distinct(1)[0]
		}
		a, e := o.Ask(first)
		wantDigest(t, a, e, want)
		// Nor does it have the answer that the question with noughts had.
		refused(o, digest(1), first.Domain, first.Data)
		wantLog(t, o, api.Asked{Question: first, Answer: want})
	}
}

func TestOtherKindsHaveAnyKey(t *testing.T) {
	all := append(keys(), api.Digest{})
	for _, ideal := range []bool{false, true} {
		o := oracle.New(ideal, digest(1))
		for i, k := range all {
			for _, kind := range []api.QKind{api.QTag, api.QKey} {
				q := api.Question{Kind: kind, Key: k, Domain: api.DomOther}
				a, e := o.Ask(q)
				if e != api.OK || !ideal && a != elsewhere(q) {
					t.Errorf("%v: %v: %x, %v", ideal, q, a, e)
				}
			}
			q := api.Question{Kind: api.QStream, Key: k, Domain: api.DomOther}
			if s, e := o.Stream(q, 32); e != api.OK || len(s) != 32 {
				t.Errorf("%v: %v: %x, %v", ideal, q, s, e)
			}
			if len(o.Log()) != 3*(i+1) {
				t.Fatal(ideal, k, len(o.Log()))
			}
		}
	}
}

func TestText(t *testing.T) {
	key := digest(9)
	want := "02" + hex.EncodeToString(key[:]) + "0a" + "01ff00"
	got := oracle.Text(api.Question{Kind: api.QTag, Key: key, Domain: api.DomPage, Data: []byte{1, 255, 0}})
	if hex.EncodeToString(got) != want {
		t.Errorf("%x", got)
	}
	for k := api.QDigest; k <= api.QStream; k++ {
		for d := api.Domain(1); d <= 16; d++ {
			q := api.Question{Kind: k, Key: digest(byte(d)), Domain: d, Data: sample(int(d) - 1)}
			if got := oracle.Text(q); !bytes.Equal(got, text(q)) || len(got) != 34+len(q.Data) {
				t.Errorf("%v: %x", q, got)
			}
		}
	}
}

// P5.2

// lengths is those of streams that end where a block does, or beside it.
func lengths() []int { return []int{0, 1, 15, 16, 31, 32, 33, 63, 64, 65, 1023, api.MaxStream} }

func TestStreamDraws(t *testing.T) {
	q := api.Question{Kind: api.QStream, Key: digest(3), Domain: api.DomPage, Data: sample(5)}
	l := distinct(3)
	for _, n := range lengths() {
		o := oracle.New(true, api.Digest{}, l...)
		got, e := o.Stream(q, n)
		var want []byte
		var log []api.Asked
		for i := range (n + 31) / 32 {
			a := behindEnd(i)
			if i < len(l) {
				a = l[i]
			}
			want = append(want, a[:]...)
			log = append(log, api.Asked{Question: block(q, i), Answer: a})
		}
		if e != api.OK || !bytes.Equal(got, want[:n]) || o.Used() != len(log) {
			t.Errorf("%d: %x, %v, %d", n, got, e, o.Used())
		}
		wantLog(t, o, log...)
	}
}

func TestStreamComputes(t *testing.T) {
	for _, d := range []api.Domain{1, api.DomPage, 16} {
		for _, m := range []int{0, 1, 200} {
			q := api.Question{Kind: api.QStream, Key: digest(3), Domain: d, Data: sample(m)}
			for _, n := range lengths() {
				o := oracle.New(false, api.Digest{}, distinct(50)...)
				got, e := o.Stream(q, n)
				want := streamElsewhere(t, q, n)
				if e != api.OK || !bytes.Equal(got, want) || o.Used() != 0 {
					t.Errorf("%v, %d: %x, %v", q, n, got, e)
				}
				a := api.Asked{Question: q}
				copy(a.Answer[:], want)
				wantLog(t, o, a)
			}
		}
	}
}

// The other 16 bytes of Key are of the text, and so of the nonce.
func TestStreamHangsOnAllParts(t *testing.T) {
	first := api.Question{Kind: api.QStream, Key: digest(3), Domain: 5, Data: []byte{1}}
	others := []api.Question{first, first, first, first}
	others[0].Key[0] ^= 1
	others[1].Key[31] ^= 1
	others[2].Domain++
	others[3].Data = []byte{2}
	for _, ideal := range []bool{false, true} {
		o := oracle.New(ideal, api.Digest{})
		a, _ := o.Stream(first, 64)
		for i, q := range others {
			if b, e := o.Stream(q, 64); e != api.OK || bytes.Equal(a, b) {
				t.Error(ideal, i, e)
			}
		}
	}
}

func TestStreamAgainWithAnotherLength(t *testing.T) {
	q := api.Question{Kind: api.QStream, Key: digest(5), Domain: api.DomPage, Data: []byte{1, 2, 3}}
	for _, ideal := range []bool{false, true} {
		for _, n := range lengths() {
			for _, m := range lengths() {
				o := oracle.New(ideal, api.Digest{}, distinct(9)...)
				a, e := o.Stream(q, n)
				o.Digest(api.DomLeaf, []byte("between"))
				b, f := o.Stream(q, m)
				c, g := o.Stream(q, n)
				both := min(n, m)
				if e != api.OK || f != api.OK || g != api.OK || len(b) != m || !bytes.Equal(a[:both], b[:both]) || !bytes.Equal(a, c) {
					t.Error(ideal, n, m, a, b, c)
				}
				if want := 1 + (max(n, m)+31)/32; ideal && o.Used() != want {
					t.Error(n, m, o.Used(), want)
				}
			}
		}
	}
}

// A question is once in the log, with the answer that it had first.
func TestLogOfStreamsAskedAgain(t *testing.T) {
	q := api.Question{Kind: api.QStream, Key: digest(5), Domain: api.DomPage, Data: []byte{1, 2, 3}}
	for _, n := range lengths() {
		o := oracle.New(false, api.Digest{})
		o.Stream(q, n)
		want := o.Log()
		o.Stream(q, 40)
		o.Stream(q, 0)
		wantLog(t, o, want...)
	}
}

func TestStreamRefused(t *testing.T) {
	right := api.Question{Kind: api.QStream, Domain: api.DomPage}
	for _, ideal := range []bool{false, true} {
		o := oracle.New(ideal, api.Digest{}, distinct(2)...)
		for _, n := range []int{-1, -32, math.MinInt, api.MaxStream + 1, 1 << 20, 1<<20 + 1, math.MaxInt - 30, math.MaxInt} {
			if b, e := o.Stream(right, n); e != api.ErrArg || b != nil {
				t.Error(ideal, n, len(b), e)
			}
		}
		for _, k := range []api.QKind{0, -1, api.QDigest, api.QTag, api.QKey, 5, 256 + api.QStream, math.MinInt, math.MaxInt} {
			if b, e := o.Stream(api.Question{Kind: k, Domain: api.DomPage}, 40); e != api.ErrArg || b != nil {
				t.Error(ideal, "kind", k, len(b), e)
			}
		}
		for _, d := range []api.Domain{0, -1, 17, 266, math.MinInt, math.MaxInt} {
			for _, n := range []int{0, 40} {
				if b, e := o.Stream(api.Question{Kind: api.QStream, Domain: d}, n); e != api.ErrArg || b != nil {
					t.Error(ideal, "domain", d, len(b), e)
				}
			}
		}
		if len(o.Log()) != 0 || o.Used() != 0 {
			t.Error("what was refused is noted", ideal)
		}
	}
}

// partings is the same bytes in other parts.
func partings() [][][]byte {
	return [][][]byte{
		{[]byte("abc")},
		{[]byte("a"), []byte("bc")},
		{[]byte("ab"), []byte("c")},
		{nil, []byte("abc"), {}},
		{{}, []byte("a"), nil, {}, []byte("b"), []byte("c")},
	}
}

func TestDigestTagKey(t *testing.T) {
	master, key := digest(20), digest(30)
	for _, ideal := range []bool{false, true} {
		for _, d := range []api.Domain{1, api.DomReport, 16} {
			o := oracle.New(ideal, master, distinct(3)...)
			of := func(k api.QKind, key api.Digest, i int) api.Digest {
				if ideal {
					return distinct(3)[i]
				}
				return elsewhere(api.Question{Kind: k, Key: key, Domain: d, Data: []byte("abc")})
			}
			for _, p := range partings() {
				a, e := o.Digest(d, p...)
				wantDigest(t, a, e, of(api.QDigest, api.Digest{}, 0))
				a, e = o.Tag(key, d, p...)
				wantDigest(t, a, e, of(api.QTag, key, 1))
				a, e = o.Key(d, p...)
				wantDigest(t, a, e, of(api.QKey, master, 2))
			}
			data := []byte("abc")
			wantLog(t, o,
				api.Asked{Question: api.Question{Kind: api.QDigest, Domain: d, Data: data}, Answer: of(api.QDigest, api.Digest{}, 0)},
				api.Asked{Question: api.Question{Kind: api.QTag, Key: key, Domain: d, Data: data}, Answer: of(api.QTag, key, 1)},
				api.Asked{Question: api.Question{Kind: api.QKey, Key: master, Domain: d, Data: data}, Answer: of(api.QKey, master, 2)})
		}
	}
}

func TestNoParts(t *testing.T) {
	master, key := digest(20), digest(30)
	o := oracle.New(false, master)
	a, e := o.Digest(4)
	wantDigest(t, a, e, elsewhere(api.Question{Kind: api.QDigest, Domain: 4}))
	a, e = o.Tag(key, 4)
	wantDigest(t, a, e, elsewhere(api.Question{Kind: api.QTag, Key: key, Domain: 4}))
	a, e = o.Key(4)
	wantDigest(t, a, e, elsewhere(api.Question{Kind: api.QKey, Key: master, Domain: 4}))
	o.Digest(4, nil, []byte{})
	o.Tag(key, 4, []byte{})
	o.Key(4, nil)
	if len(o.Log()) != 3 {
		t.Error(o.Log())
	}
}

func TestDigestTagKeyRefused(t *testing.T) {
	for _, ideal := range []bool{false, true} {
		o := oracle.New(ideal, digest(1), distinct(2)...)
		for _, d := range []api.Domain{0, -1, 17, 257, math.MinInt, math.MaxInt} {
			a, e := o.Digest(d, []byte{1})
			b, f := o.Tag(digest(2), d, []byte{1})
			c, g := o.Key(d, []byte{1})
			if e != api.ErrArg || f != api.ErrArg || g != api.ErrArg {
				t.Error(ideal, d, e, f, g)
			}
			if none := (api.Digest{}); a != none || b != none || c != none {
				t.Error(ideal, d, a, b, c)
			}
		}
		if len(o.Log()) != 0 || o.Used() != 0 {
			t.Error("what was refused is noted", ideal)
		}
	}
}

// P5.3

func TestLog(t *testing.T) {
	for _, ideal := range []bool{false, true} {
		o := oracle.New(ideal, digest(2), distinct(5)...)
		var want []api.Asked
		l := questions()
		for i, q := range l {
			a, _ := o.Ask(q)
			want = append(want, api.Asked{Question: q, Answer: a})
			o.Ask(l[i/2])
			o.Ask(api.Question{})
			if i%10 == 0 {
				wantLog(t, o, want...)
			}
		}
		wantLog(t, o, want...)
	}
}

func TestUsed(t *testing.T) {
	o, c := oracle.New(true, api.Digest{}, distinct(2)...), oracle.New(false, api.Digest{}, distinct(2)...)
	for i, want := range []int{1, 2, 3, 4} {
		o.Tag(digest(0), 1, []byte{byte(i)})
		o.Tag(digest(0), 1, []byte{byte(i)})
		o.Tag(digest(0), 1, []byte{0})
		c.Tag(digest(0), 1, []byte{byte(i)})
		if o.Used() != want || c.Used() != 0 {
			t.Error(i, o.Used(), c.Used())
		}
	}
	q := api.Question{Kind: api.QStream, Domain: 1}
	for _, step := range []struct{ n, used int }{{0, 4}, {33, 6}, {1, 6}, {64, 6}, {65, 7}, {api.MaxStream, 36}} {
		o.Stream(q, step.n)
		c.Stream(q, step.n)
		if o.Used() != step.used || c.Used() != 0 {
			t.Error(step, o.Used(), c.Used())
		}
	}
}

func TestCopyGoesOnApart(t *testing.T) {
	for _, ideal := range []bool{false, true} {
		o := oracle.New(ideal, digest(2), distinct(4)...)
		// So many that there is room behind them in most lists that grow.
		for i := range 5 {
			o.Digest(1, []byte{byte(i)})
		}
		before := o.Log()
		c := o.Copy()
		if c == nil || c == o || c.Ideal() != ideal || c.Used() != o.Used() {
			t.Fatal(ideal, c)
		}
		wantLog(t, c, before...)

		a, _ := o.Key(8, []byte("o"))
		wantLog(t, c, before...)
		b, _ := c.Key(8, []byte("c"))
		second, _ := c.Key(8, []byte("o"))
		if ideal && (a != behindEnd(5) || b != behindEnd(5) || second != behindEnd(6)) {
			t.Error(a, b, second)
		}
		of := func(s string, a api.Digest) api.Asked {
			return api.Asked{Question: api.Question{Kind: api.QKey, Key: digest(2), Domain: 8, Data: []byte(s)}, Answer: a}
		}
		wantLog(t, o, append(slices.Clone(before), of("o", a))...)
		wantLog(t, c, append(slices.Clone(before), of("c", b), of("o", second))...)
	}
}

// Copies have the draws that are left, and the master key.
func TestCopyHasItsDraws(t *testing.T) {
	l := distinct(3)
	o := oracle.New(true, digest(2), l...)
	o.Key(1)
	c := o.Copy().Copy()
	for i := 1; i < 3; i++ {
		a, e := c.Key(1, []byte{byte(i)})
		wantDigest(t, a, e, l[i])
	}
	a, e := c.Key(1)
	wantDigest(t, a, e, l[0])
	for i := 1; i < 3; i++ {
		a, e := o.Key(1, []byte{byte(i), 0})
		wantDigest(t, a, e, l[i])
	}
	if c.Used() != 3 || o.Used() != 3 {
		t.Error(c.Used(), o.Used())
	}
	d := oracle.New(false, digest(2)).Copy()
	a, e = d.Key(1)
	wantDigest(t, a, e, elsewhere(api.Question{Kind: api.QKey, Key: digest(2), Domain: 1}))
}

func TestNones(t *testing.T) {
	for i, o := range nones() {
		a, e := o.Ask(api.Question{Kind: api.QTag, Domain: 1})
		b, f := o.Digest(1)
		c, g := o.Tag(digest(1), 1)
		d, h := o.Key(1)
		if none := (api.Digest{}); a != none || b != none || c != none || d != none {
			t.Error(i, a, b, c, d)
		}
		s, j := o.Stream(api.Question{Kind: api.QStream, Domain: 1}, 40)
		for _, e := range []api.Errno{e, f, g, h, j} {
			if e != api.ErrNil {
				t.Error(i, e)
			}
		}
		if s != nil || len(o.Log()) != 0 || o.Used() != 0 || o.Ideal() || o.Copy() != nil || len(breaksOf(o)) != 0 {
			t.Error(i)
		}
	}
}

// ErrNil is told ahead of ErrArg.
func TestNonesOfWrongInput(t *testing.T) {
	for i, o := range nones() {
		_, e := o.Ask(api.Question{})
		_, f := o.Stream(api.Question{}, -1)
		_, g := o.Digest(0)
		_, h := o.Tag(api.Digest{}, 17)
		_, j := o.Key(-1)
		_, k := o.Ask(api.Question{Kind: api.QDigest, Key: digest(1), Domain: 1})
		for _, e := range []api.Errno{e, f, g, h, j, k} {
			if e != api.ErrNil {
				t.Error(i, e)
			}
		}
	}
}

// P5.4

func TestBreaks(t *testing.T) {
	x, y := digest(1), digest(2)
	o := oracle.New(true, api.Digest{}, x, y, x, y, x, x, y)
	for i := range 7 {
		o.Digest(api.DomData, []byte{byte(i)})
	}
	var got [][2]int
	for a, b := range o.Breaks() {
		got = append(got, [2]int{int(a.Question.Data[0]), int(b.Question.Data[0])})
	}
	want := [][2]int{{0, 2}, {0, 4}, {0, 5}, {1, 3}, {1, 6}, {2, 4}, {2, 5}, {3, 6}, {4, 5}}
	if !slices.Equal(got, want) {
		t.Error(got)
	}
	wantBreaks(t, o, breaksOfLog(o.Log()))
}

// All answers are one: only questions of one Kind and Domain break.
func TestBreaksAreOfOneKindAndDomain(t *testing.T) {
	alike := slices.Repeat([]api.Digest{digest(1)}, 100)
	o := oracle.New(true, digest(5), alike...)
	for _, q := range questions() {
		o.Ask(q)
	}
	o.Stream(api.Question{Kind: api.QStream, Key: digest(7), Domain: 1}, 96)
	o.Stream(api.Question{Kind: api.QStream, Key: digest(7), Domain: 16}, 64)
	want := breaksOfLog(o.Log())
	if len(want) != 9*15+3+1 {
		t.Fatal(len(want))
	}
	wantBreaks(t, o, want)
}

func TestBreaksOfUnlikeKeys(t *testing.T) {
	o := oracle.New(true, api.Digest{}, digest(1), digest(1), digest(1))
	o.Tag(digest(2), 5, []byte("x"))
	o.Tag(digest(3), 5, []byte("x"))
	o.Tag(digest(2), 5, []byte("x"))
	o.Key(5, []byte("x"))
	of := func(key api.Digest) api.Asked {
		return api.Asked{Question: api.Question{Kind: api.QTag, Key: key, Domain: 5, Data: []byte("x")}, Answer: digest(1)}
	}
	wantBreaks(t, o, []pair{{of(digest(2)), of(digest(3))}})
}

func TestBreaksInConcreteMode(t *testing.T) {
	o := oracle.New(false, digest(1), digest(1), digest(1))
	for _, q := range questions() {
		o.Ask(q)
	}
	of := func(i byte) api.Question { return api.Question{Kind: api.QStream, Domain: 1, Data: []byte{i}} }
	o.Stream(of(0), 40)
	o.Stream(of(1), 0)
	wantBreaks(t, o, nil)
	// A stream of no bytes is noted with noughts.
	o.Stream(of(2), 0)
	wantBreaks(t, o, []pair{{api.Asked{Question: of(1)}, api.Asked{Question: of(2)}}})
}

func TestBreaksLeftAndGoneThroughAgain(t *testing.T) {
	alike := slices.Repeat([]api.Digest{digest(1)}, 5)
	o := oracle.New(true, api.Digest{}, alike...)
	for i := range 5 {
		o.Digest(api.DomData, []byte{byte(i)})
	}
	want := breaksOfLog(o.Log())
	breaks := o.Breaks()
	for n := range len(want) + 1 {
		var got []pair
		for a, b := range breaks {
			if len(got) == n {
				break
			}
			got = append(got, pair{a, b})
		}
		if !slices.EqualFunc(got, want[:n], samePair) {
			t.Error(n, got)
		}
	}
	for range breaks {
		inner := 0
		for range breaks {
			inner++
		}
		if inner != len(want) {
			t.Error(inner)
		}
	}
}

// What is asked while one goes over the breaks is none of them.
func TestBreaksWhileMoreIsAsked(t *testing.T) {
	alike := slices.Repeat([]api.Digest{digest(1)}, 20)
	o := oracle.New(true, api.Digest{}, alike...)
	for i := range 3 {
		o.Digest(api.DomData, []byte{byte(i)})
	}
	want := breaksOfLog(o.Log())
	breaks := o.Breaks()
	var got []pair
	for a, b := range breaks {
		o.Digest(api.DomData, []byte{9, byte(len(got))})
		got = append(got, pair{a, b})
	}
	if !slices.EqualFunc(got, want, samePair) {
		t.Error(got)
	}
	got = nil
	for a, b := range breaks {
		got = append(got, pair{a, b})
	}
	if !slices.EqualFunc(got, want, samePair) {
		t.Error(got)
	}
	wantBreaks(t, o, breaksOfLog(o.Log()))
}

func TestBreaksOfALongLog(t *testing.T) {
	const n = 60000
	o := oracle.New(true, api.Digest{}, behindEnd(n-1))
	for i := range n {
		o.Digest(api.DomData, binary.LittleEndian.AppendUint32(nil, uint32(i)))
	}
	log := o.Log()
	var got []pair
	for a, b := range o.Breaks() {
		got = append(got, pair{a, b})
		if len(got) > 1 {
			break
		}
	}
	if len(got) != 1 || !samePair(got[0], pair{log[0], log[n-1]}) {
		t.Error(got)
	}
}

// P5.5

func TestAlikeEverAfter(t *testing.T) {
	for _, ideal := range []bool{false, true} {
		o := oracle.New(ideal, digest(1), distinct(3)...)
		stream := api.Question{Kind: api.QStream, Key: digest(2), Domain: api.DomPage}
		s, _ := o.Stream(stream, 100)
		var had []api.Asked
		for _, q := range questions() {
			a, _ := o.Ask(q)
			had = append(had, api.Asked{Question: q, Answer: a})
			for _, a := range had {
				if b, e := o.Ask(a.Question); e != api.OK || b != a.Answer {
					t.Fatal(ideal, a, b, e)
				}
			}
			if again, e := o.Stream(stream, 100); e != api.OK || !bytes.Equal(s, again) {
				t.Fatal(ideal, e)
			}
		}
	}
}

func TestNoBreakOfDistinctDraws(t *testing.T) {
	for _, n := range []int{0, 10, 256} {
		o := oracle.New(true, digest(1), distinct(n)...)
		for _, q := range questions() {
			o.Ask(q)
			q.Kind = api.QStream
			o.Stream(q, 70)
		}
		wantBreaks(t, o, nil)
	}
}

func TestConcreteAsIdeal(t *testing.T) {
	master := digest(1)
	concrete := oracle.New(false, master)
	for _, q := range questions() {
		concrete.Ask(q)
	}
	concrete.Key(api.DomRealmKey, []byte("k"))
	concrete.Digest(api.DomNone)
	var draws []api.Digest
	for _, a := range concrete.Log() {
		draws = append(draws, a.Answer)
	}
	ideal := oracle.New(true, master, draws...)
	for _, a := range concrete.Log() {
		got, e := ideal.Ask(a.Question)
		wantDigest(t, got, e, a.Answer)
	}
	for _, a := range concrete.Log() {
		x, e := ideal.Ask(a.Question)
		y, f := concrete.Ask(a.Question)
		if e != f || x != y {
			t.Error(a.Question, x, y)
		}
	}
	if ideal.Used() != len(draws) || !slices.EqualFunc(ideal.Log(), concrete.Log(), sameAsked) {
		t.Error(ideal.Used(), len(draws))
	}
	wantBreaks(t, ideal, breaksOf(concrete))
}

// The rules for all layers

func TestArgumentsAreNotKept(t *testing.T) {
	for _, ideal := range []bool{false, true} {
		draws := distinct(3)
		o := oracle.New(ideal, digest(1), draws...)
		clear(draws)
		data := []byte("abc")
		q := api.Question{Kind: api.QTag, Key: digest(2), Domain: 3, Data: data[:2]}
		a, _ := o.Ask(q)
		if string(data) != "abc" {
			t.Error("the argument is changed", ideal)
		}
		before := o.Log()
		copy(data, "xyz")
		wantLog(t, o, before...)
		again, e := o.Tag(digest(2), 3, []byte("ab"))
		wantDigest(t, again, e, a)
		if ideal && a != distinct(1)[0] {
			t.Error("the draws are the caller's", a)
		}
	}
}

func TestStreamLeavesItsArgument(t *testing.T) {
	for _, ideal := range []bool{false, true} {
		o := oracle.New(ideal, digest(1))
		data := []byte("abcdefghijklmnopqrstuvwxyz")
		q := api.Question{Kind: api.QStream, Key: digest(2), Domain: 3, Data: data[:3]}
		if _, e := o.Stream(q, 70); e != api.OK || string(data) != "abcdefghijklmnopqrstuvwxyz" {
			t.Error(ideal, e, string(data))
		}
		before := o.Log()
		clear(data)
		wantLog(t, o, before...)
	}
}

func TestAnswersAreTheCallers(t *testing.T) {
	spoil := func(l []api.Asked) {
		for i := range l {
			for j := range l[i].Question.Data {
				l[i].Question.Data[j] ^= 255
			}
			l[i].Question.Kind, l[i].Answer = 0, api.Digest{}
		}
	}
	for _, ideal := range []bool{false, true} {
		o := oracle.New(ideal, digest(1), slices.Repeat(distinct(1), 10)...)
		for i := range 3 {
			o.Digest(1, []byte{byte(i), 1, 2})
		}
		q := api.Question{Kind: api.QStream, Domain: 3, Data: []byte{4}}
		s, _ := o.Stream(q, 40)
		log, breaks, stream := o.Log(), breaksOf(o), slices.Clone(s)
		spoil(o.Log())
		wantLog(t, o, log...)
		clear(s)
		if again, e := o.Stream(q, 40); e != api.OK || !bytes.Equal(again, stream) {
			t.Error("a stream", ideal, e)
		}
		wantLog(t, o, log...)
		i := 0
		for a, b := range o.Breaks() {
			if !samePair(pair{a, b}, breaks[i]) {
				t.Error("a break hangs on one told ahead of it", ideal, i)
			}
			spoil([]api.Asked{a, b})
			i++
		}
		wantLog(t, o, log...)
		wantBreaks(t, o, breaks)
	}
}

func TestTextIsTheCallers(t *testing.T) {
	data := []byte{1, 2, 3}
	q := api.Question{Kind: api.QTag, Domain: 1, Data: data[:2]}
	b := oracle.Text(q)
	b[34] = 9
	if !bytes.Equal(data, []byte{1, 2, 3}) {
		t.Error(data)
	}
	data[1] = 7
	if b[35] != 2 {
		t.Error(b)
	}
}

// Nobody is to find more of a stream behind an answer than was asked for.
func TestNothingBehindAnAnswer(t *testing.T) {
	q := api.Question{Kind: api.QStream, Domain: 3, Data: []byte{4}}
	for _, ideal := range []bool{false, true} {
		for n := range 70 {
			s, e := oracle.New(ideal, digest(1), distinct(3)...).Stream(q, n)
			behind := s[len(s):cap(s)]
			if e != api.OK || bytes.ContainsFunc(behind, func(r rune) bool { return r != 0 }) {
				t.Errorf("%d: %x, %v", n, behind, e)
			}
		}
	}
}

// model is an oracle as the document's words have it, with a list to look through.
type model struct {
	ideal bool
	draws []api.Digest
	log   []api.Asked
}

func (m *model) ask(q api.Question, computed api.Digest) api.Digest {
	for _, a := range m.log {
		if sameQuestion(a.Question, q) {
			return a.Answer
		}
	}
	if m.ideal {
		computed = behindEnd(len(m.log))
		if len(m.log) < len(m.draws) {
			computed = m.draws[len(m.log)]
		}
	}
	m.log = append(m.log, api.Asked{Question: q, Answer: computed})
	return computed
}

func (m *model) stream(t *testing.T, q api.Question, n int) []byte {
	if !m.ideal {
		out := streamElsewhere(t, q, n)
		var first api.Digest
		copy(first[:], out)
		m.ask(q, first)
		return out
	}
	var out []byte
	for i := 0; 32*i < n; i++ {
		a := m.ask(block(q, i), api.Digest{})
		out = append(out, a[:]...)
	}
	return out[:n]
}

// randomQuestion is one of few, wrong ones among them, so that some come again.
func randomQuestion(chance *rand.Rand) api.Question {
	return api.Question{
		Kind:   api.QKind(chance.Intn(6)),
		Key:    []api.Digest{{}, {}, digest(0)}[chance.Intn(3)],
		Domain: []api.Domain{-1, 0, 1, 2, 16, 16, 17}[chance.Intn(7)],
		Data:   sample(chance.Intn(3)),
	}
}

// answered says whether Ask answers q.
func answered(q api.Question) bool {
	if q.Domain < 1 || q.Domain > 16 {
		return false
	}
	switch q.Kind {
	case api.QDigest:
		return q.Key == api.Digest{}
	case api.QTag, api.QKey:
		return true
	}
	return false
}

func TestAnyInput(t *testing.T) {
	chance := rand.New(rand.NewSource(51))
	for range 60 {
		draws := make([]api.Digest, chance.Intn(12))
		for i := range draws {
			draws[i] = digest(byte(chance.Intn(6)))
		}
		m := &model{ideal: chance.Intn(2) == 0, draws: draws}
		o := oracle.New(m.ideal, digest(1), draws...)
		for range 80 {
			q := randomQuestion(chance)
			a, e := o.Ask(q)
			if !answered(q) {
				if e != api.ErrArg || a != (api.Digest{}) {
					t.Fatal(q, a, e)
				}
			} else if e != api.OK || a != m.ask(q, elsewhere(q)) {
				t.Fatal(q, a, e)
			}
			n := chance.Intn(120) - 10
			s, e := o.Stream(q, n)
			if q.Kind != api.QStream || q.Domain < 1 || q.Domain > 16 || n < 0 {
				if e != api.ErrArg || s != nil {
					t.Fatal(q, n, s, e)
				}
			} else if e != api.OK || !bytes.Equal(s, m.stream(t, q, n)) {
				t.Fatal(q, n, s, e)
			}
		}
		wantLog(t, o, m.log...)
		wantBreaks(t, o, breaksOfLog(m.log))
		if m.ideal && o.Used() != len(m.log) || !m.ideal && o.Used() != 0 {
			t.Fatal(o.Used(), len(m.log))
		}
	}
}

// Text has no error to tell: of what is no question it is a text of the same form.
func TestTextOfAnything(t *testing.T) {
	for _, q := range []api.Question{
		{},
		{Kind: -1, Domain: -1},
		{Kind: api.QDigest, Key: digest(1), Domain: api.DomData, Data: sample(3)},
		{Kind: math.MaxInt, Domain: math.MinInt, Data: sample(100)},
	} {
		if got := oracle.Text(q); len(got) != 34+len(q.Data) || !bytes.Equal(got, text(q)) {
			t.Errorf("%v: %x", q, got)
		}
	}
}

// Two runs of the same are the same.
func TestNothingElseIsHungOn(t *testing.T) {
	run := func(ideal bool) ([]api.Asked, []pair) {
		o := oracle.New(ideal, digest(1), slices.Repeat(distinct(4), 20)...)
		for _, q := range questions() {
			o.Ask(q)
			q.Kind = api.QStream
			o.Stream(q, 33)
		}
		return o.Log(), breaksOf(o)
	}
	for _, ideal := range []bool{false, true} {
		log, breaks := run(ideal)
		for range 5 {
			l, b := run(ideal)
			if !reflect.DeepEqual(l, log) || !reflect.DeepEqual(b, breaks) {
				t.Fatal(ideal)
			}
		}
	}
}
