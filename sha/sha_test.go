package sha_test

import (
	"bytes"
	"crypto/sha256"
	"encoding"
	"encoding/binary"
	"encoding/hex"
	"math"
	"math/big"
	"math/rand"
	"slices"
	"strings"
	"testing"

	"anchorite/api"
	"anchorite/sha"
)

// sample is n bytes that are unlike those beside them.
func sample(n int) []byte {
	b := make([]byte, n)
	for i := range b {
		b[i] = byte(11*i + i/64 + 3)
	}
	return b
}

// edges is how long the messages are of whose last block little is left, or nothing.
func edges() []int { return []int{0, 1, 54, 55, 56, 57, 63, 64, 65, 118, 119, 120, 127, 128, 129, 192} }

func startState() [8]uint32 {
	var h [8]uint32
	for i := range h {
		h[i] = sha.Start(i)
	}
	return h
}

func stateBytes(h [8]uint32) (d api.Digest) {
	for i, w := range h {
		binary.BigEndian.PutUint32(d[4*i:], w)
	}
	return d
}

// P2.1

func TestSum(t *testing.T) {
	for _, c := range []struct{ of, want string }{
		{"", "e3b0c44298fc1c149afbf4c8996fb92427ae41e4649b934ca495991b7852b855"},
		{"abc", "ba7816bf8f01cfea414140de5dae2223b00361a396177a9cb410ff61f20015ad"},
		{"abcdbcdecdefdefgefghfghighijhijkijkljklmklmnlmnomnopnopq", "248d6a61d20638b8e5c026930c3e6039a33ce45964ff2167f6ecedd419db06c1"},
		{"abcdefghbcdefghicdefghijdefghijkefghijklfghijklmghijklmnhijklmnoijklmnopjklmnopqklmnopqrlmnopqrsmnopqrstnopqrstu", "cf5b16a778af8380036ce59e7b0492370b249b11e8f07a51afac45037afee9d1"},
		{strings.Repeat("a", 1000000), "cdc76e5c9914fb9281a1c7e284d73e67f1809a48a497200e046d39ccc7112cd0"},
	} {
		d := sha.Sum([]byte(c.of))
		if got := hex.EncodeToString(d[:]); got != c.want {
			t.Errorf("Sum of %d bytes: %s", len(c.of), got)
		}
	}
}

func TestSumOfEachLength(t *testing.T) {
	for n := range 400 {
		for _, b := range [][]byte{sample(n), make([]byte, n), bytes.Repeat([]byte{255}, n), bytes.Repeat([]byte{128}, n)} {
			if d := sha.Sum(b); d != sha256.Sum256(b) {
				t.Errorf("Sum of %d bytes: %x", n, d)
			}
		}
	}
}

func TestSumOfNil(t *testing.T) {
	if sha.Sum(nil) != sha.Sum([]byte{}) {
		t.Error("nil and empty are not one")
	}
}

func TestPad(t *testing.T) {
	for _, n := range append(edges(), 1000, 8192) {
		b := sample(n)
		want := append(slices.Clone(b), 128)
		for len(want)%64 != 56 {
			want = append(want, 0)
		}
		want = binary.BigEndian.AppendUint64(want, 8*uint64(n))
		if got := sha.Pad(b); !bytes.Equal(got, want) {
			t.Errorf("Pad of %d bytes: %x", n, got)
		}
	}
}

func TestPadIsAsShortAsMayBe(t *testing.T) {
	for n, want := range map[int]int{0: 64, 55: 64, 56: 128, 63: 128, 64: 128, 65: 128, 119: 128, 120: 192, 128: 192} {
		if got := len(sha.Pad(make([]byte, n))); got != want {
			t.Errorf("Pad of %d bytes: %d", n, got)
		}
	}
	if !bytes.Equal(sha.Pad(nil), sha.Pad([]byte{})) {
		t.Error("nil and empty are not one")
	}
}

// pressedElsewhere is what the library's SHA-256 makes of a state and a block:
// it takes any state in by its saved form.
func pressedElsewhere(t *testing.T, h [8]uint32, block [64]byte) [8]uint32 {
	t.Helper()
	const head = 4 // the form's name, ahead of the eight words
	other := sha256.New()
	saved, err := other.(encoding.BinaryMarshaler).MarshalBinary()
	if err != nil {
		t.Fatal(err)
	}
	for i, w := range h {
		binary.BigEndian.PutUint32(saved[head+4*i:], w)
	}
	if err := other.(encoding.BinaryUnmarshaler).UnmarshalBinary(saved); err != nil {
		t.Fatal(err)
	}
	other.Write(block[:])
	saved, err = other.(encoding.BinaryMarshaler).MarshalBinary()
	if err != nil {
		t.Fatal(err)
	}
	for i := range h {
		h[i] = binary.BigEndian.Uint32(saved[head+4*i:])
	}
	return h
}

func TestPress(t *testing.T) {
	var ones [8]uint32
	for i := range ones {
		ones[i] = math.MaxUint32
	}
	for _, h := range [][8]uint32{{}, ones, {1}, {7: 1}, startState()} {
		for _, b := range [][64]byte{{}, {1}, {63: 1}, [64]byte(sample(64)), [64]byte(bytes.Repeat([]byte{255}, 64))} {
			if got, want := sha.Press(h, b), pressedElsewhere(t, h, b); got != want {
				t.Errorf("Press(%x, %x): %x, not %x", h, b, got, want)
			}
		}
	}
}

func TestPressOfAnyStateAndBlock(t *testing.T) {
	r := rand.New(rand.NewSource(2))
	for range 200 {
		var h [8]uint32
		var b [64]byte
		for i := range h {
			h[i] = r.Uint32()
		}
		r.Read(b[:])
		if got, want := sha.Press(h, b), pressedElsewhere(t, h, b); got != want {
			t.Errorf("Press(%x, %x): %x, not %x", h, b, got, want)
		}
	}
}

func TestSumIsThePaddedBlocksPressed(t *testing.T) {
	for _, n := range edges() {
		h := startState()
		for block := range slices.Chunk(sha.Pad(sample(n)), 64) {
			h = sha.Press(h, [64]byte(block))
		}
		if got, want := stateBytes(h), sha.Sum(sample(n)); got != want {
			t.Errorf("%d bytes: %x, not %x", n, got, want)
		}
	}
}

// P2.2

// firstPrimes tells the first n primes by the library.
func firstPrimes(n int) []*big.Int {
	var l []*big.Int
	for k := int64(2); len(l) < n; k++ {
		if p := big.NewInt(k); p.ProbablyPrime(20) {
			l = append(l, p)
		}
	}
	return l
}

// behindPoint is the first 32 bits behind the point of the power-th root of p,
// found by halves.
func behindPoint(p *big.Int, power int64) uint32 {
	n := new(big.Int).Lsh(p, uint(32*power))
	low, high := big.NewInt(0), new(big.Int).Set(n)
	for low.Cmp(high) < 0 {
		mid := new(big.Int).Add(low, high)
		mid.Add(mid, big.NewInt(1)).Rsh(mid, 1)
		if new(big.Int).Exp(mid, big.NewInt(power), nil).Cmp(n) <= 0 {
			low = mid
		} else {
			high = mid.Sub(mid, big.NewInt(1))
		}
	}
	return uint32(low.Uint64())
}

func TestConstant(t *testing.T) {
	for i, want := range map[int]uint32{0: 1116352408, 1: 0x71374491, 2: 0xb5c0fbcf, 31: 0x14292967, 32: 0x27b70a85, 62: 0xbef9a3f7, 63: 3329325298} {
		if got := sha.Constant(i); got != want {
			t.Errorf("Constant(%d): %d", i, got)
		}
	}
	for i, p := range firstPrimes(64) {
		if got, want := sha.Constant(i), behindPoint(p, 3); got != want {
			t.Errorf("Constant(%d): %x, not %x", i, got, want)
		}
	}
}

func TestStart(t *testing.T) {
	for i, want := range []uint32{1779033703, 0xbb67ae85, 0x3c6ef372, 0xa54ff53a, 0x510e527f, 0x9b05688c, 0x1f83d9ab, 0x5be0cd19} {
		if got := sha.Start(i); got != want {
			t.Errorf("Start(%d): %x", i, got)
		}
	}
	for i, p := range firstPrimes(8) {
		if got, want := sha.Start(i), behindPoint(p, 2); got != want {
			t.Errorf("Start(%d): %x, not %x", i, got, want)
		}
	}
}

func TestNoSuchConstantIsZero(t *testing.T) {
	for _, i := range []int{math.MinInt, math.MinInt32, -64, -8, -1, 64, 65, 128, math.MaxInt32, math.MaxInt} {
		if got := sha.Constant(i); got != 0 {
			t.Errorf("Constant(%d): %x", i, got)
		}
	}
	for _, i := range []int{math.MinInt, math.MinInt32, -8, -1, 8, 9, 63, 64, math.MaxInt32, math.MaxInt} {
		if got := sha.Start(i); got != 0 {
			t.Errorf("Start(%d): %x", i, got)
		}
	}
}

// P2.3

// has fails unless h is of just the bytes b; asking is no change, so that it asks twice.
func has(t *testing.T, h *sha.Hash, b []byte) {
	t.Helper()
	for range 2 {
		d, e := h.Sum()
		if e != api.OK || d != sha256.Sum256(b) {
			t.Errorf("Sum of %d bytes: %x, %v", len(b), d, e)
		}
		if n := h.Len(); n != len(b) {
			t.Errorf("Len of %d bytes: %d", len(b), n)
		}
	}
}

func writes(t *testing.T, h *sha.Hash, b []byte) {
	t.Helper()
	if e := h.Write(b); e != api.OK {
		t.Errorf("Write of %d bytes: %v", len(b), e)
	}
}

func TestNewIsOfNoBytes(t *testing.T) {
	h := sha.New()
	has(t, h, nil)
	writes(t, h, nil)
	writes(t, h, []byte{})
	has(t, h, nil)
	writes(t, h, []byte("abc"))
	has(t, h, []byte("abc"))
	has(t, sha.New(), nil)
}

func TestWriteOfEachEdge(t *testing.T) {
	for _, n := range edges() {
		h := sha.New()
		writes(t, h, sample(n))
		has(t, h, sample(n))
	}
}

func TestSumBetweenWritesStays(t *testing.T) {
	h := sha.New()
	var all []byte
	for _, n := range []int{0, 1, 54, 0, 1, 1, 7, 1, 0, 63, 128, 129, 200, 0} {
		part := sample(n + len(all))[len(all):]
		writes(t, h, part)
		all = append(all, part...)
		has(t, h, all)
	}
}

func TestCopyGoesOnApart(t *testing.T) {
	for _, n := range edges() {
		b := sample(n)
		h := sha.New()
		writes(t, h, b)
		c := h.Copy()
		has(t, c, b)

		writes(t, c, []byte("copy"))
		has(t, h, b)
		has(t, c, append(slices.Clone(b), "copy"...))

		writes(t, h, sample(70))
		has(t, h, append(slices.Clone(b), sample(70)...))
		has(t, c, append(slices.Clone(b), "copy"...))

		again := c.Copy()
		writes(t, c, sample(64))
		has(t, again, append(slices.Clone(b), "copy"...))
	}
}

func TestNoHash(t *testing.T) {
	var zero sha.Hash
	for _, h := range []*sha.Hash{nil, &zero, new(sha.Hash), {}} {
		for _, b := range [][]byte{nil, {}, {1}, sample(64), sample(200)} {
			if e := h.Write(b); e != api.ErrNil {
				t.Errorf("Write of %d bytes: %v", len(b), e)
			}
			if d, e := h.Sum(); e != api.ErrNil || d != (api.Digest{}) {
				t.Errorf("Sum: %x, %v", d, e)
			}
			if n := h.Len(); n != 0 {
				t.Errorf("Len: %d", n)
			}
			if h.Copy() != nil {
				t.Error("Copy of none is one")
			}
		}
	}
}

// P2.4

func TestCutInTwo(t *testing.T) {
	b := sample(200)
	want := sha.Sum(b)
	for n := range len(b) + 1 {
		h := sha.New()
		writes(t, h, b[:n])
		writes(t, h, b[n:])
		if d, e := h.Sum(); e != api.OK || d != want {
			t.Errorf("cut at %d: %x, %v", n, d, e)
		}
	}
}

func TestCutInPartsOfOneSize(t *testing.T) {
	b := sample(400)
	want := sha.Sum(b)
	for _, size := range []int{1, 2, 3, 31, 55, 56, 63, 64, 65, 119, 120, 127, 128, 399} {
		h := sha.New()
		for part := range slices.Chunk(b, size) {
			writes(t, h, part)
			writes(t, h, nil)
		}
		if d, e := h.Sum(); e != api.OK || d != want || h.Len() != len(b) {
			t.Errorf("parts of %d: %x, %v", size, d, e)
		}
	}
}

func TestCutAnyhow(t *testing.T) {
	r := rand.New(rand.NewSource(4))
	for range 200 {
		b := make([]byte, r.Intn(600))
		r.Read(b)
		h := sha.New()
		for left := b; len(left) > 0; {
			n := r.Intn(min(len(left), 150) + 1)
			writes(t, h, left[:n])
			left = left[n:]
			if r.Intn(4) == 0 {
				h = h.Copy()
			}
		}
		if d, e := h.Sum(); e != api.OK || d != sha.Sum(b) || d != sha256.Sum256(b) {
			t.Errorf("%d bytes: %x, %v", len(b), d, e)
		}
	}
}

// The rules for all layers

func TestArgumentsStay(t *testing.T) {
	for _, n := range edges() {
		room := sample(n + 200)
		b := room[:n] // what is behind it may not be written into either
		h := sha.New()
		sha.Sum(b)
		sha.Pad(b)
		writes(t, h, b)
		writes(t, h, b)
		h.Sum()
		if !bytes.Equal(room, sample(n+200)) {
			t.Errorf("%d bytes were changed", n)
		}
	}
	state, block := startState(), [64]byte(sample(64))
	sha.Press(state, block)
	if state != startState() || block != [64]byte(sample(64)) {
		t.Error("Press changed what it was handed")
	}
}

func TestNothingIsKeptOfAnArgument(t *testing.T) {
	for _, n := range edges() {
		b := sample(n)
		h := sha.New()
		writes(t, h, b)
		padded := sha.Pad(b)
		clear(b)
		has(t, h, sample(n))
		if !bytes.Equal(padded, sha.Pad(sample(n))) {
			t.Errorf("Pad of %d bytes shares them", n)
		}
	}
}

func TestAnswersAreNewMemory(t *testing.T) {
	b := sample(20)
	one := sha.Pad(b)
	clear(one)
	if !bytes.Equal(b, sample(20)) || !bytes.Equal(sha.Pad(b)[:20], b) {
		t.Error("Pad's answer is shared")
	}
}
