package mac_test

import (
	"bytes"
	"crypto/hmac"
	"crypto/sha256"
	"encoding/binary"
	"encoding/hex"
	"math"
	"math/rand"
	"slices"
	"strings"
	"testing"

	"anchorite/api"
	"anchorite/mac"
)

// sample is n bytes that are unlike those beside them.
func sample(n int) []byte {
	b := make([]byte, n)
	for i := range b {
		b[i] = byte(7*i + i/64 + 5)
	}
	return b
}

// aKey is a digest none of whose bytes is like another.
func aKey() (d api.Digest) {
	copy(d[:], sample(len(d)))
	return d
}

// tagElsewhere is what the library's HMAC makes of it.
func tagElsewhere(key, b []byte) (d api.Digest) {
	h := hmac.New(sha256.New, key)
	h.Write(b)
	h.Sum(d[:0])
	return d
}

// questionOf is what is tagged for a key of a key, put together byte by byte.
func questionOf(label string, n uint64) []byte {
	var b []byte
	b = binary.LittleEndian.AppendUint32(b, uint32(len(label)))
	b = append(b, label...)
	b = binary.LittleEndian.AppendUint32(b, 8)
	return binary.LittleEndian.AppendUint64(b, n)
}

// keyOf is the key of a key, made of the library's HMAC.
func keyOf(key api.Digest, label string, n uint64) api.Digest {
	return tagElsewhere(key[:], questionOf(label, n))
}

// P3.1

func TestTag(t *testing.T) {
	whole := make([]byte, 25)
	for i := range whole {
		whole[i] = byte(i + 1)
	}
	for _, c := range []struct {
		key  []byte
		of   string
		want string
	}{
		{bytes.Repeat([]byte{11}, 20), "Hi There", "b0344c61d8db38535ca8afceaf0bf12b881dc200c9833da726e9376c2e32cff7"},
		{[]byte("Jefe"), "what do ya want for nothing?", "5bdcc146bf60754e6a042426089575c75a003f089d2739839dec58b964ec3843"},
		{bytes.Repeat([]byte{0xaa}, 20), strings.Repeat("\xdd", 50), "773ea91e36800e46854db8ebd09181a72959098b3ef8c122d9635514ced565fe"},
		{whole, strings.Repeat("\xcd", 50), "82558a389a443c0ea4cc819899f2083a85f0faa3e578f8077a2e3ff46729665b"},
		{bytes.Repeat([]byte{0xaa}, 131), "Test Using Larger Than Block-Size Key - Hash Key First", "60e431591ee0b67f0d8a26aacbf5b77f8e0bc6213728c5140546040f0ee37f54"},
		{nil, "", "b613679a0814d9ec772f95d778c35fc5ff1697c493715653c6c712144292c5ad"},
	} {
		d := mac.Tag(c.key, []byte(c.of))
		if got := hex.EncodeToString(d[:]); got != c.want {
			t.Errorf("Tag by %d bytes of %q: %s", len(c.key), c.of, got)
		}
	}
}

func TestTagOfEachLength(t *testing.T) {
	for n := range 200 {
		for _, key := range [][]byte{sample(n), make([]byte, n), bytes.Repeat([]byte{255}, n)} {
			for _, b := range [][]byte{nil, sample(n), make([]byte, 64)} {
				if d := mac.Tag(key, b); d != tagElsewhere(key, b) {
					t.Errorf("Tag by %d bytes of %d: %x", n, len(b), d)
				}
			}
		}
	}
}

func TestTagByKeysAtTheEdges(t *testing.T) {
	b := sample(100)
	for _, n := range []int{0, 1, 63, 64, 65, 128, 1000, 5000} {
		if d := mac.Tag(sample(n), b); d != tagElsewhere(sample(n), b) {
			t.Errorf("Tag by %d bytes: %x", n, d)
		}
	}
	// A key of 64 bytes is not its digest; one of 65 is.
	for n, want := range map[int]bool{64: false, 65: true} {
		digest := sha256.Sum256(sample(n))
		if got := mac.Tag(sample(n), b) == mac.Tag(digest[:], b); got != want {
			t.Errorf("a key of %d bytes is its digest: %v", n, got)
		}
	}
}

func TestNoughtsBehindAKey(t *testing.T) {
	b := []byte("b")
	for _, n := range []int{0, 1, 63} {
		full := append(sample(n), make([]byte, 64-n)...)
		if mac.Tag(sample(n), b) != mac.Tag(full, b) {
			t.Errorf("a key of %d bytes is not as with noughts behind it", n)
		}
	}
}

func TestTagOfAnything(t *testing.T) {
	r := rand.New(rand.NewSource(3))
	for range 300 {
		key, b := make([]byte, r.Intn(200)), make([]byte, r.Intn(700))
		r.Read(key)
		r.Read(b)
		d := mac.Tag(key, b)
		if d != tagElsewhere(key, b) || !mac.Check(key, b, d) {
			t.Errorf("Tag by %x of %x: %x", key, b, d)
		}
	}
}

func TestNilAndEmptyAreOne(t *testing.T) {
	d := mac.Tag(nil, nil)
	if mac.Tag([]byte{}, []byte{}) != d || !mac.Check([]byte{}, nil, d) || !mac.Check(nil, []byte{}, d) {
		t.Error("nil and empty are not one")
	}
}

// bitTurned is d with its bit i turned.
func bitTurned(d api.Digest, i int) api.Digest {
	d[i/8] ^= 1 << (i % 8)
	return d
}

func TestCheck(t *testing.T) {
	key, b := sample(32), []byte("what is tagged")
	tag := tagElsewhere(key, b)
	if !mac.Check(key, b, tag) {
		t.Error("its tag is refused")
	}
	for i := range 256 {
		if mac.Check(key, b, bitTurned(tag, i)) {
			t.Errorf("taken with bit %d turned", i)
		}
	}
	otherKey, otherBytes := slices.Clone(key), slices.Clone(b)
	otherKey[31] ^= 128
	otherBytes[0] ^= 1
	if mac.Check(otherKey, b, tag) || mac.Check(key, otherBytes, tag) {
		t.Error("taken by another key, or of other bytes")
	}
	if mac.Check(key, b[:len(b)-1], tag) || mac.Check(key, append(b, 0), tag) || mac.Check(nil, nil, api.Digest{}) {
		t.Error("taken of bytes that are fewer, more, or none")
	}
}

func TestEqual(t *testing.T) {
	full := api.Digest(bytes.Repeat([]byte{255}, 32))
	for _, d := range []api.Digest{{}, aKey(), full} {
		if !mac.Equal(d, d) {
			t.Errorf("%x is not itself", d)
		}
		for i := range 256 {
			if o := bitTurned(d, i); mac.Equal(d, o) || mac.Equal(o, d) {
				t.Errorf("%x: equal with bit %d turned", d, i)
			}
		}
	}
	if mac.Equal(api.Digest{}, full) || mac.Equal(api.Digest{0: 255}, api.Digest{}) || mac.Equal(api.Digest{31: 255}, api.Digest{}) {
		t.Error("noughts are equal to what is none")
	}
}

func TestEqualWhereTwoBytesDiffer(t *testing.T) {
	// What differs in two bytes alike must not come to nothing.
	d := aKey()
	for i := range 32 {
		for j := range i {
			o := d
			o[i] ^= 5
			o[j] ^= 5
			if mac.Equal(d, o) {
				t.Errorf("equal with bytes %d and %d turned", i, j)
			}
		}
	}
}

// P3.2

// longest is a label of as many bytes as one may have.
func longest() string { return strings.Repeat("l", api.MaxLabel) }

func labels() []string {
	return []string{"a", "realm", "\x00", "\xff\xfe", "zwölf", longest(), strings.Repeat("\x00", 64), strings.Repeat("ö", 32)}
}

func wrongLabels() []string {
	return []string{"", longest() + "l", strings.Repeat("ö", 33), string(make([]byte, 100000))}
}

func TestDerive(t *testing.T) {
	for _, key := range []api.Digest{{}, aKey()} {
		for _, label := range labels() {
			for _, n := range []uint64{0, 1, 255, 256, 1<<32 - 1, 1 << 32, 1 << 63, math.MaxUint64} {
				d, e := mac.Derive(key, label, n)
				if d != keyOf(key, label, n) || e != api.OK {
					t.Errorf("Derive(%q, %d): %x %d", label, n, d, e)
				}
			}
		}
	}
}

func TestDeriveOfWrongLabels(t *testing.T) {
	for _, label := range wrongLabels() {
		for _, n := range []uint64{0, 7, math.MaxUint64} {
			if d, e := mac.Derive(aKey(), label, n); d != (api.Digest{}) || e != api.ErrArg {
				t.Errorf("Derive by a label of %d bytes: %x %d", len(label), d, e)
			}
		}
	}
}

func TestKeys(t *testing.T) {
	for _, label := range []string{"a", "realm", longest()} {
		for _, n := range []int{0, 1, 2, 3, 255, 256} {
			l, e := mac.Keys(aKey(), label, n)
			if len(l) != n || e != api.OK {
				t.Fatalf("Keys(%q, %d): %d of them, %d", label, n, len(l), e)
			}
			for i, d := range l {
				if d != keyOf(aKey(), label, uint64(i)) {
					t.Errorf("Keys(%q, %d): %d is %x", label, n, i, d)
				}
			}
		}
	}
}

func TestKeysAreDerive(t *testing.T) {
	l, _ := mac.Keys(aKey(), "page", 20)
	for i, d := range l {
		if one, e := mac.Derive(aKey(), "page", uint64(i)); one != d || e != api.OK {
			t.Errorf("Derive of %d: %x %d", i, one, e)
		}
	}
}

func TestKeysThatAreRefused(t *testing.T) {
	refused := func(label string, n int) {
		t.Helper()
		if l, e := mac.Keys(aKey(), label, n); len(l) != 0 || e != api.ErrArg {
			t.Errorf("Keys by a label of %d bytes, %d: %d of them, %d", len(label), n, len(l), e)
		}
	}
	for _, n := range []int{-1, -256, math.MinInt, 257, 1 << 32, math.MaxInt} {
		refused("a", n)
	}
	for _, label := range wrongLabels() {
		for _, n := range []int{0, 1, 256, 257, -1} {
			refused(label, n)
		}
	}
}

func TestHalf(t *testing.T) {
	for _, d := range []api.Digest{{}, aKey(), {15: 1}, {16: 1}} {
		first, other := mac.Half(d)
		if !bytes.Equal(first[:], d[:16]) || !bytes.Equal(other[:], d[16:]) {
			t.Errorf("Half of %x: %x %x", d, first, other)
		}
	}
}

// P3.3

func TestUnlikeQuestionsHaveUnlikeKeys(t *testing.T) {
	// Labels of which one goes on as another one's frame of a number does.
	tail := string(questionOf("a", 0)[4:])
	tough := append(labels(), "a\x00", "\x00a", "aa", "b", "A", "a\x08", "a\x08\x00\x00\x00", tail, tail[:len(tail)-1], longest()[1:], string(questionOf("a", 0)))
	type from struct {
		label string
		n     uint64
	}
	of := map[api.Digest]from{}
	for _, label := range tough {
		for _, n := range []uint64{0, 1, 8, 97, 256, 1 << 16, 1 << 32, 1 << 56, 1 << 63, math.MaxUint64} {
			d, e := mac.Derive(aKey(), label, n)
			if e != api.OK {
				t.Fatalf("Derive(%q, %d): %d", label, n, e)
			}
			if was, ok := of[d]; ok {
				t.Errorf("%q, %d and %q, %d have one key", label, n, was.label, was.n)
			}
			of[d] = from{label, n}
		}
	}
}

func TestNoTwoKeysOfALabelAreOne(t *testing.T) {
	l, _ := mac.Keys(aKey(), "k", api.MaxKeys)
	slices.SortFunc(l, func(a, b api.Digest) int { return bytes.Compare(a[:], b[:]) })
	if len(slices.Compact(l)) != api.MaxKeys {
		t.Error("two of them are one")
	}
}

// The rules for all layers

func TestArgumentsStay(t *testing.T) {
	for _, n := range []int{0, 20, 63, 64, 65, 200} {
		// Room behind them: what a call would lay behind an argument is seen.
		key, b := sample(n+100), sample(n+200)
		wantKey, wantB := slices.Clone(key), slices.Clone(b)
		mac.Tag(key[:n], b[:n])
		mac.Check(key[:n], b[:n], api.Digest{})
		if !bytes.Equal(key, wantKey) || !bytes.Equal(b, wantB) {
			t.Errorf("arguments of %d bytes are changed", n)
		}
	}
}

func TestAnswersAreNewMemory(t *testing.T) {
	one, _ := mac.Keys(aKey(), "a", 3)
	for i := range one {
		one[i] = api.Digest{}
	}
	other, _ := mac.Keys(aKey(), "a", 3)
	for i, d := range other {
		if d != keyOf(aKey(), "a", uint64(i)) {
			t.Errorf("%d is changed by who had it before", i)
		}
	}
}

func TestNothingIsKept(t *testing.T) {
	// What was asked in between has no say in what is answered.
	before := mac.Tag([]byte("key"), []byte("b"))
	mac.Tag(sample(300), sample(300))
	mac.Derive(aKey(), "", 1)
	mac.Keys(api.Digest{}, "label", 2)
	if mac.Tag([]byte("key"), []byte("b")) != before {
		t.Error("the same question has another answer")
	}
}
