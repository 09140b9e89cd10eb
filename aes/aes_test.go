package aes_test

import (
	"bytes"
	stdaes "crypto/aes"
	"crypto/cipher"
	"encoding/binary"
	"encoding/hex"
	"math"
	"math/rand"
	"slices"
	"strings"
	"testing"

	"anchorite/aes"
	"anchorite/api"
)

// box is Sub of each byte, as the standard prints it.
const box = "637c777bf26b6fc53001672bfed7ab76" +
	"ca82c97dfa5947f0add4a2af9ca472c0" +
	"b7fd9326363ff7cc34a5e5f171d83115" +
	"04c723c31896059a071280e2eb27b275" +
	"09832c1a1b6e5aa0523bd6b329e32f84" +
	"53d100ed20fcb15b6acbbe394a4c58cf" +
	"d0efaafb434d338545f9027f503c9fa8" +
	"51a3408f929d38f5bcb6da2110fff3d2" +
	"cd0c13ec5f974417c4a77e3d645d1973" +
	"60814fdc222a908846eeb814de5e0bdb" +
	"e0323a0a4906245cc2d3ac629195e479" +
	"e7c8376d8dd54ea96c56f4ea657aae08" +
	"ba78252e1ca6b4c6e8dd741f4bbd8b8a" +
	"703eb5664803f60e613557b986c11d9e" +
	"e1f8981169d98e949b1e87e9ce5528df" +
	"8ca1890dbfe6426841992d0fb054bb16"

// boxed is box as bytes.
func boxed(t *testing.T) []byte {
	b, err := hex.DecodeString(box)
	if err != nil || len(b) != 256 {
		t.Fatal(len(b), err)
	}
	return b
}

// product is a times b, multiplied out first, and then divided by 283.
func product(a, b byte) byte {
	n := 0
	for i := range 8 {
		if b>>i&1 == 1 {
			n ^= int(a) << i
		}
	}
	for i := 14; i >= 8; i-- {
		if n>>i&1 == 1 {
			n ^= 283 << (i - 8)
		}
	}
	return byte(n)
}

// block is the block that a text of hex digits tells.
func block(t *testing.T, s string) [16]byte {
	b, err := hex.DecodeString(s)
	if err != nil || len(b) != 16 {
		t.Fatal(s, err)
	}
	return [16]byte(b)
}

// full is sixteen times that byte.
func full(b byte) [16]byte { return [16]byte(bytes.Repeat([]byte{b}, 16)) }

// sample is n bytes that are unlike those beside them.
func sample(n int) []byte {
	b := make([]byte, n)
	for i := range b {
		b[i] = byte(7*i + i/64 + 5)
	}
	return b
}

// library is the library's cipher of the key.
func library(t *testing.T, key [16]byte) cipher.Block {
	c, err := stdaes.NewCipher(key[:])
	if err != nil {
		t.Fatal(err)
	}
	return c
}

// maskElsewhere is what the library's counter mode makes of b.
func maskElsewhere(t *testing.T, key [16]byte, nonce [8]byte, b []byte) []byte {
	var first [16]byte
	copy(first[:], nonce[:])
	out := make([]byte, len(b))
	cipher.NewCTR(library(t, key), first[:]).XORKeyStream(out, b)
	return out
}

// P4.1

func TestTimes(t *testing.T) {
	if got := aes.Times(87, 19); got != 254 {
		t.Error(got)
	}
	for a := range 256 {
		for b := range 256 {
			if got, want := aes.Times(byte(a), byte(b)), product(byte(a), byte(b)); got != want {
				t.Fatalf("Times(%d, %d): %d, not %d", a, b, got, want)
			}
		}
	}
}

func TestTimesByNoneAndOne(t *testing.T) {
	for i := range 256 {
		a := byte(i)
		if aes.Times(a, 0) != 0 || aes.Times(0, a) != 0 {
			t.Error("by 0:", a)
		}
		if aes.Times(a, 1) != a || aes.Times(1, a) != a {
			t.Error("by 1:", a)
		}
	}
}

func TestInverse(t *testing.T) {
	if got := aes.Inverse(83); got != 202 {
		t.Error(got)
	}
	if got := aes.Inverse(0); got != 0 {
		t.Error(got)
	}
	for i := 1; i < 256; i++ {
		a := byte(i)
		if got := aes.Inverse(a); product(a, got) != 1 {
			t.Errorf("Inverse(%d): %d", a, got)
		}
	}
}

func TestSub(t *testing.T) {
	if aes.Sub(0) != 99 || aes.Sub(83) != 237 {
		t.Error(aes.Sub(0), aes.Sub(83))
	}
	for i, want := range boxed(t) {
		if got := aes.Sub(byte(i)); got != want {
			t.Errorf("Sub(%d): %d, not %d", i, got, want)
		}
	}
}

func TestUnsub(t *testing.T) {
	if got := aes.Unsub(237); got != 83 {
		t.Error(got)
	}
	for i, s := range boxed(t) {
		if got := aes.Unsub(s); got != byte(i) {
			t.Errorf("Unsub(%d): %d, not %d", s, got, i)
		}
	}
}

// P4.2

func TestExpand(t *testing.T) {
	for _, want := range [][]string{
		{
			"2b7e151628aed2a6abf7158809cf4f3c",
			"a0fafe1788542cb123a339392a6c7605",
			"f2c295f27a96b9435935807a7359f67f",
			"3d80477d4716fe3e1e237e446d7a883b",
			"ef44a541a8525b7fb671253bdb0bad00",
			"d4d1c6f87c839d87caf2b8bc11f915bc",
			"6d88a37a110b3efddbf98641ca0093fd",
			"4e54f70e5f5fc9f384a64fb24ea6dc4f",
			"ead27321b58dbad2312bf5607f8d292f",
			"ac7766f319fadc2128d12941575c006e",
			"d014f9a8c9ee2589e13f0cc8b6630ca6",
		},
		{
			"00000000000000000000000000000000",
			"62636363626363636263636362636363",
			"9b9898c9f9fbfbaa9b9898c9f9fbfbaa",
			"90973450696ccffaf2f457330b0fac99",
			"ee06da7b876a1581759e42b27e91ee2b",
			"7f2e2b88f8443e098dda7cbbf34b9290",
			"ec614b851425758c99ff09376ab49ba7",
			"217517873550620bacaf6b3cc61bf09b",
			"0ef903333ba9613897060a04511dfa9f",
			"b1d4d8e28a7db9da1d7bb3de4c664941",
			"b4ef5bcb3e92e21123e951cf6f8f188e",
		},
		{
			"ffffffffffffffffffffffffffffffff",
			"e8e9e9e917161616e8e9e9e917161616",
			"adaeae19bab8b80f525151e6454747f0",
			"090e2277b3b69a78e1e7cb9ea4a08c6e",
			"e16abd3e52dc2746b33becd8179b60b6",
			"e5baf3ceb766d488045d385013c658e6",
			"71d07db3c6b6a93bc2eb916bd12dc98d",
			"e90d208d2fbb89b6ed5018dd3c7dd150",
			"96337366b988fad054d8e20d68a5335d",
			"8bf03f233278c5f366a027fe0e0514a3",
			"d60a3588e472f07b82d2d7858cd7c326",
		},
	} {
		keys := aes.Expand(block(t, want[0]))
		for r, k := range keys {
			if k != block(t, want[r]) {
				t.Errorf("%s, round %d: %x", want[0], r, k)
			}
		}
	}
}

func TestExpandByWords(t *testing.T) {
	subs := boxed(t)
	chance := rand.New(rand.NewSource(42))
	for range 200 {
		var key [16]byte
		chance.Read(key[:])
		var w [44][4]byte
		for i := range w {
			if i < 4 {
				w[i] = [4]byte(key[4*i:])
				continue
			}
			x := w[i-1]
			if i%4 == 0 {
				x = [4]byte{subs[x[1]], subs[x[2]], subs[x[3]], subs[x[0]]}
				x[0] ^= [...]byte{1, 2, 4, 8, 16, 32, 64, 128, 27, 54}[i/4-1]
			}
			for r := range x {
				w[i][r] = w[i-4][r] ^ x[r]
			}
		}
		for r, k := range aes.Expand(key) {
			if !bytes.Equal(k[:], slices.Concat(w[4*r][:], w[4*r+1][:], w[4*r+2][:], w[4*r+3][:])) {
				t.Fatalf("%x, round %d: %x", key, r, k)
			}
		}
	}
}

func TestEncipherAndDecipher(t *testing.T) {
	none, all := strings.Repeat("00", 16), strings.Repeat("ff", 16)
	for _, c := range []struct{ key, plain, enciphered string }{
		{"000102030405060708090a0b0c0d0e0f", "00112233445566778899aabbccddeeff", "69c4e0d86a7b0430d8cdb78070b4c55a"},
		{"2b7e151628aed2a6abf7158809cf4f3c", "3243f6a8885a308d313198a2e0370734", "3925841d02dc09fbdc118597196a0b32"},
		{"2b7e151628aed2a6abf7158809cf4f3c", "6bc1bee22e409f96e93d7e117393172a", "3ad77bb40d7a3660a89ecaf32466ef97"},
		{none, none, "66e94bd4ef8a2c3b884cfa59ca342b2e"},
		{none, all, "3f5b8cc9ea855a0afa7347d23e8d664e"},
		{all, none, "a1f6258c877d5fcd8964484538bfc92c"},
		{all, all, "bcbf217cb280cf30b2517052193ab979"},
	} {
		key := block(t, c.key)
		if got := aes.Encipher(key, block(t, c.plain)); got != block(t, c.enciphered) {
			t.Errorf("Encipher(%s, %s): %x", c.key, c.plain, got)
		}
		if got := aes.Decipher(key, block(t, c.enciphered)); got != block(t, c.plain) {
			t.Errorf("Decipher(%s, %s): %x", c.key, c.enciphered, got)
		}
	}
}

func TestBlocksAsElsewhere(t *testing.T) {
	chance := rand.New(rand.NewSource(43))
	for range 500 {
		var key, b, want [16]byte
		chance.Read(key[:])
		chance.Read(b[:])
		c := library(t, key)
		c.Encrypt(want[:], b[:])
		if got := aes.Encipher(key, b); got != want {
			t.Fatalf("Encipher(%x, %x): %x, not %x", key, b, got, want)
		}
		c.Decrypt(want[:], b[:])
		if got := aes.Decipher(key, b); got != want {
			t.Fatalf("Decipher(%x, %x): %x, not %x", key, b, got, want)
		}
	}
}

// A single byte that is not 0, in each place, with each value in one of them.
func TestBlocksOfOneByte(t *testing.T) {
	for i := range 16 {
		for j := range 256 {
			if j != 255 && j%16 != i {
				continue
			}
			var b, key, want [16]byte
			b[i], key[15-i] = byte(j), byte(255-j)
			library(t, key).Encrypt(want[:], b[:])
			if got := aes.Encipher(key, b); got != want || aes.Decipher(key, want) != b {
				t.Errorf("byte %d is %d: %x", i, j, got)
			}
		}
	}
}

// P4.3

// lengths is those of streams that end where a block does, or beside it; the
// number of the block 256 has two bytes that are not 0.
func lengths() []int {
	return []int{0, 1, 15, 16, 17, 31, 32, 33, 128, 4095, 4096, 4097, 4112, 4113, api.MaxCipher - 1, api.MaxCipher}
}

func TestStream(t *testing.T) {
	key, nonce := [16]byte(sample(16)), [8]byte(sample(8))
	for _, n := range lengths() {
		got, e := aes.Stream(key, nonce, n)
		want := maskElsewhere(t, key, nonce, make([]byte, n))
		if e != api.OK || !bytes.Equal(got, want) {
			t.Errorf("%d bytes: %d of them, %v", n, len(got), e)
		}
	}
}

func TestStreamOfNoughtsAnd255s(t *testing.T) {
	for _, x := range []byte{0, 255} {
		key, nonce := full(x), [8]byte(bytes.Repeat([]byte{x}, 8))
		got, e := aes.Stream(key, nonce, 50)
		if e != api.OK || !bytes.Equal(got, maskElsewhere(t, key, nonce, make([]byte, 50))) {
			t.Errorf("%d: %x, %v", x, got, e)
		}
	}
}

func TestStreamByBlocks(t *testing.T) {
	key, nonce := full(9), [8]byte{8, 7, 6, 5, 4, 3, 2, 1}
	const blocks = 600
	got, e := aes.Stream(key, nonce, 16*blocks)
	if e != api.OK || len(got) != 16*blocks {
		t.Fatal(len(got), e)
	}
	for i := range blocks {
		var b [16]byte
		copy(b[:], nonce[:])
		binary.BigEndian.PutUint64(b[8:], uint64(i))
		if aes.Encipher(key, b) != [16]byte(got[16*i:]) {
			t.Fatal(i)
		}
	}
}

func TestStreamRefused(t *testing.T) {
	for _, n := range []int{-1, -16, math.MinInt, api.MaxCipher + 1, api.MaxCipher + 16, math.MaxInt - 15, math.MaxInt} {
		if got, e := aes.Stream([16]byte{1}, [8]byte{2}, n); e != api.ErrArg || got != nil {
			t.Error(n, len(got), e)
		}
	}
}

func TestMask(t *testing.T) {
	key, nonce := [16]byte(sample(16)), [8]byte(sample(8))
	for _, n := range lengths() {
		b := sample(n)
		got, e := aes.Mask(key, nonce, b)
		if e != api.OK || !bytes.Equal(got, maskElsewhere(t, key, nonce, b)) {
			t.Errorf("%d bytes: %d of them, %v", n, len(got), e)
		}
	}
}

func TestMaskOfNoughtsIsTheStream(t *testing.T) {
	key, nonce := [16]byte{3}, [8]byte{4}
	masked, e := aes.Mask(key, nonce, make([]byte, 100))
	stream, f := aes.Stream(key, nonce, 100)
	if e != api.OK || f != api.OK || !bytes.Equal(masked, stream) {
		t.Error(masked, stream, e, f)
	}
}

func TestMaskOfNothing(t *testing.T) {
	for _, b := range [][]byte{nil, {}} {
		if got, e := aes.Mask([16]byte{1}, [8]byte{2}, b); e != api.OK || len(got) != 0 {
			t.Error(got, e)
		}
	}
}

func TestMaskRefused(t *testing.T) {
	for _, n := range []int{api.MaxCipher + 1, 2 * api.MaxCipher} {
		if got, e := aes.Mask([16]byte{1}, [8]byte{2}, make([]byte, n)); e != api.ErrArg || got != nil {
			t.Error(n, len(got), e)
		}
	}
}

func TestStreamsHangOnKeyAndNonce(t *testing.T) {
	first, _ := aes.Stream([16]byte{}, [8]byte{}, 64)
	for i := range 16 {
		var key [16]byte
		key[i] = 1
		other, e := aes.Stream(key, [8]byte{}, 64)
		if e != api.OK || bytes.Equal(first, other) {
			t.Error("key", i, e)
		}
	}
	for i := range 8 {
		var nonce [8]byte
		nonce[i] = 1
		other, e := aes.Stream([16]byte{}, nonce, 64)
		if e != api.OK || bytes.Equal(first, other) {
			t.Error("nonce", i, e)
		}
	}
}

// P4.4

func TestThereAndBack(t *testing.T) {
	chance := rand.New(rand.NewSource(44))
	blocks := [][16]byte{full(0), full(255), full(1), [16]byte(sample(16))}
	for range 100 {
		var b [16]byte
		chance.Read(b[:])
		blocks = append(blocks, b)
	}
	for i, b := range blocks {
		key := blocks[(7*i+1)%len(blocks)]
		if aes.Decipher(key, aes.Encipher(key, b)) != b {
			t.Errorf("deciphered behind enciphered: %x, %x", key, b)
		}
		if aes.Encipher(key, aes.Decipher(key, b)) != b {
			t.Errorf("enciphered behind deciphered: %x, %x", key, b)
		}
	}
}

func TestMaskOfMask(t *testing.T) {
	key, nonce := full(77), [8]byte(sample(8))
	for _, n := range lengths() {
		b := sample(n)
		masked, e := aes.Mask(key, nonce, b)
		back, f := aes.Mask(key, nonce, masked)
		if e != api.OK || f != api.OK || !bytes.Equal(back, b) {
			t.Errorf("%d bytes: %v, %v", n, e, f)
		}
	}
}

func TestShorterStreams(t *testing.T) {
	key, nonce := full(78), [8]byte(sample(8))
	whole, e := aes.Stream(key, nonce, 70)
	if e != api.OK || len(whole) != 70 {
		t.Fatal(whole, e)
	}
	for n := range 70 {
		got, e := aes.Stream(key, nonce, n)
		if e != api.OK || !bytes.Equal(got, whole[:n]) {
			t.Errorf("%d: %x, %v", n, got, e)
		}
	}
	longest, e := aes.Stream(key, nonce, api.MaxCipher)
	if e != api.OK || !bytes.Equal(longest[:70], whole) {
		t.Error(e)
	}
}

// The rules for all layers

func TestArgumentsStay(t *testing.T) {
	b := sample(100)
	masked, e := aes.Mask(full(1), [8]byte{2}, b[:50])
	if e != api.OK || !bytes.Equal(b, sample(100)) {
		t.Error(b, e)
	}
	before := bytes.Clone(masked)
	clear(b)
	if !bytes.Equal(masked, before) {
		t.Error("an answer hangs on the argument's memory")
	}
}

func TestAnswersAreNew(t *testing.T) {
	first, _ := aes.Stream(full(1), [8]byte{2}, 50)
	before := bytes.Clone(first)
	second, _ := aes.Stream(full(1), [8]byte{2}, 50)
	clear(second)
	if !bytes.Equal(first, before) {
		t.Error("two answers share memory")
	}
	if third, _ := aes.Stream(full(1), [8]byte{2}, 50); !bytes.Equal(third, before) {
		t.Error("an answer hangs on one that was handed out")
	}
}

// Nobody is to find more of a stream behind an answer than was asked for.
func TestNothingBehindAnAnswer(t *testing.T) {
	for n := range 40 {
		got, e := aes.Stream(full(1), [8]byte{2}, n)
		behind := got[len(got):cap(got)]
		if e != api.OK || bytes.ContainsFunc(behind, func(r rune) bool { return r != 0 }) {
			t.Errorf("%d: %x, %v", n, behind, e)
		}
	}
}

func TestAnyInput(t *testing.T) {
	chance := rand.New(rand.NewSource(45))
	for range 300 {
		var key [16]byte
		var nonce [8]byte
		chance.Read(key[:])
		chance.Read(nonce[:])
		b := make([]byte, chance.Intn(300))
		chance.Read(b)
		got, e := aes.Mask(key, nonce, b)
		if e != api.OK || !bytes.Equal(got, maskElsewhere(t, key, nonce, b)) {
			t.Fatalf("%x, %x, %x: %x, %v", key, nonce, b, got, e)
		}
		n := int(chance.Uint64())
		if _, e := aes.Stream(key, nonce, n); (e == api.OK) != (n >= 0 && n <= api.MaxCipher) {
			t.Fatal(n, e)
		}
	}
}
