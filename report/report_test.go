package report_test

import (
	"math"
	"math/rand"
	"slices"
	"strings"
	"testing"

	"anchorite/api"
	"anchorite/report"
)

// The chapter's examples.
func TestExamples(t *testing.T) {
	b := report.Bytes(api.Report{Instance: 258})
	if len(b) != 80 || b[0] != 114 || b[8] != 2 || b[9] != 1 {
		t.Errorf("%v", b)
	}
	if r, e := report.Of(make([]byte, 79)); r != (api.Report{}) || e != api.ErrBytes {
		t.Errorf("79 bytes: %v, %d", r, e)
	}
	if r, e := report.Of(b[:79]); r != (api.Report{}) || e != api.ErrBytes {
		t.Errorf("79 bytes of a report: %v, %d", r, e)
	}
	if r, e := report.Of(make([]byte, 80)); r != (api.Report{}) || e != api.ErrBytes {
		t.Errorf("80 noughts: %v, %d", r, e)
	}
	if r, e := report.Untext(""); r != (api.Report{}) || e != api.ErrBytes {
		t.Errorf("nothing: %v, %d", r, e)
	}
}

// P18.1

func TestSize(t *testing.T) {
	if report.Size() != 80 {
		t.Error(report.Size())
	}
	for _, r := range reports() {
		if n := len(report.Bytes(r)); n != 80 {
			t.Error(r, "has", n)
		}
	}
}

// Bytes, written out.
func TestBytes(t *testing.T) {
	want := []byte{'r', 'e', 'p', 'o', 'r', 't', 0, 0, 1, 2, 3, 4, 5, 6, 7, 8}
	for i := range 32 {
		want = append(want, byte(11+7*i))
	}
	for i := range 32 {
		want = append(want, byte(240+7*i))
	}
	if b := report.Bytes(usual()); !slices.Equal(b, want) {
		t.Errorf("%x; not %x", b, want)
	}
	if r, e := report.Of(want); r != usual() || e != api.OK {
		t.Errorf("%v, %d", r, e)
	}
	nothing := append([]byte("report"), make([]byte, 74)...)
	if b := report.Bytes(api.Report{}); !slices.Equal(b, nothing) {
		t.Errorf("%x; not %x", b, nothing)
	}
	full := append([]byte("report\x00\x00"), slices.Repeat([]byte{255}, 72)...)
	if b := report.Bytes(api.Report{Instance: math.MaxUint64, Measure: filled(255), Challenge: filled(255)}); !slices.Equal(b, full) {
		t.Errorf("%x; not %x", b, full)
	}
}

// Each bit of a report is one of its bytes' bits, and no other.
func TestBytesOfEachBit(t *testing.T) {
	for _, r := range []api.Report{{}, usual(), {Instance: math.MaxUint64, Measure: filled(255), Challenge: filled(255)}} {
		for bit := range reportBits {
			want := report.Bytes(r)
			want[8+bit/8] ^= 1 << (bit % 8)
			if b := report.Bytes(turned(r, bit)); !slices.Equal(b, want) {
				t.Errorf("the bit %d: %x; not %x", bit, b, want)
			}
			if x, e := report.Of(want); x != turned(r, bit) || e != api.OK {
				t.Errorf("the bit %d: %v, %d", bit, x, e)
			}
		}
	}
}

// Whatever stands behind the name is some report's.
func TestOfWhateverStandsBehindTheName(t *testing.T) {
	r := rand.New(rand.NewSource(80))
	for range 2000 {
		b := make([]byte, 80)
		for i := range b {
			b[i] = byte(r.Intn(256))
		}
		noBytes(t, b)
		copy(b, "report\x00\x00")
		if !checkBytes(t, b) {
			t.Errorf("%x should be a report's", b)
		}
		if x, _ := report.Of(b); !slices.Equal(report.Bytes(x), b) {
			t.Errorf("%x; not %x", report.Bytes(x), b)
		}
	}
}

// What is handed in stays as it was, and is not kept; what is told is new memory.
func TestMemory(t *testing.T) {
	for _, r := range []api.Report{{}, usual()} {
		a, b := report.Bytes(r), report.Bytes(r)
		x, _ := report.Of(a)
		for i := range a {
			a[i] ^= 255
		}
		if !slices.Equal(b, modelBytes(r)) || !slices.Equal(report.Bytes(r), b) {
			t.Errorf("%x, by what was done to another: %x", modelBytes(r), b)
		}
		if x != r {
			t.Errorf("%v; not %v", x, r)
		}
		// Even what stands behind the bytes, in what a caller has room for.
		room := append(slices.Clone(b), 1, 2, 3)
		if y, e := report.Of(room[:80]); y != r || e != api.OK || !slices.Equal(room, append(slices.Clone(b), 1, 2, 3)) {
			t.Errorf("%v, %d: %x", y, e, room)
		}
		if c := append(b[:79], 9); !slices.Equal(report.Bytes(r), modelBytes(r)) {
			t.Errorf("by what was laid behind another: %x", c)
		}
	}
}

// P18.2

// Texts, written out.
func TestText(t *testing.T) {
	nought, most := strings.Repeat("0", 64), strings.Repeat("f", 64)
	var some, other api.Digest
	for i := range some {
		some[i], other[i] = byte(i), byte(255-i)
	}
	for _, c := range []struct {
		r api.Report
		s string
	}{
		{api.Report{}, "instance 0 measure " + nought + " challenge " + nought},
		{api.Report{Instance: 258}, "instance 258 measure " + nought + " challenge " + nought},
		{api.Report{Instance: 1, Measure: filled(255)}, "instance 1 measure " + most + " challenge " + nought},
		{api.Report{Instance: 10, Challenge: filled(255)}, "instance 10 measure " + nought + " challenge " + most},
		{api.Report{Instance: 1 << 63, Measure: some, Challenge: other}, "instance 9223372036854775808 measure 000102030405060708090a0b0c0d0e0f101112131415161718191a1b1c1d1e1f challenge fffefdfcfbfaf9f8f7f6f5f4f3f2f1f0efeeedecebeae9e8e7e6e5e4e3e2e1e0"},
		{api.Report{Instance: math.MaxUint64, Measure: other, Challenge: some}, "instance 18446744073709551615 measure fffefdfcfbfaf9f8f7f6f5f4f3f2f1f0efeeedecebeae9e8e7e6e5e4e3e2e1e0 challenge 000102030405060708090a0b0c0d0e0f101112131415161718191a1b1c1d1e1f"},
	} {
		if s := report.Text(c.r); s != c.s {
			t.Errorf("Text of %v: %q; not %q", c.r, s, c.s)
		}
		if r, e := report.Untext(c.s); r != c.r || e != api.OK {
			t.Errorf("Untext %q: %v, %d", c.s, r, e)
		}
	}
}

// Alike: by the measure and the challenge alone.
func TestAlike(t *testing.T) {
	for _, r := range []api.Report{{}, usual(), {Instance: math.MaxUint64, Measure: filled(255), Challenge: filled(255)}, {Measure: digest(1), Challenge: digest(1)}} {
		for bit := range reportBits {
			x := turned(r, bit)
			if is := bit < 64; report.Alike(r, x) != is || report.Alike(x, r) != is {
				t.Errorf("the bit %d: not %v", bit, is)
			}
		}
		for _, n := range instances() {
			x := r
			x.Instance = n
			if !report.Alike(r, x) || !report.Alike(x, r) {
				t.Error("parted by the instance", n)
			}
			x.Measure[9]++
			if report.Alike(r, x) || report.Alike(x, r) {
				t.Error("alike, of another measure", n)
			}
			x.Challenge[9]++
			if report.Alike(r, x) || report.Alike(x, r) {
				t.Error("alike, of another measure and challenge", n)
			}
			x.Measure[9]--
			if report.Alike(r, x) || report.Alike(x, r) {
				t.Error("alike, of another challenge", n)
			}
		}
	}
	if a, b := (api.Report{Measure: digest(1), Challenge: digest(2)}), (api.Report{Measure: digest(2), Challenge: digest(1)}); report.Alike(a, b) {
		t.Error("alike, though the other way round")
	}
}

// All that a list of reports are, held against each other.
func TestAlikeOfEach(t *testing.T) {
	for _, a := range reports() {
		for _, b := range reports() {
			if report.Alike(a, b) != (a.Measure == b.Measure && a.Challenge == b.Challenge) {
				t.Errorf("%v, %v", a, b)
			}
		}
	}
}

// P18.3

func TestThereAndBack(t *testing.T) {
	for _, r := range reports() {
		whole(t, r)
	}
	for n := range uint64(3000) {
		whole(t, api.Report{Instance: n, Measure: digest(byte(n)), Challenge: digest(byte(n >> 8))})
	}
	for bit := range reportBits {
		whole(t, turned(api.Report{}, bit))
		whole(t, turned(usual(), bit))
	}
}

// Unlike reports have unlike bytes, and unlike texts.
func TestUnlike(t *testing.T) {
	l := reports()
	for bit := range reportBits {
		l = append(l, turned(api.Report{}, bit), turned(usual(), bit))
	}
	byBytes, byText := map[string]api.Report{}, map[string]api.Report{}
	for _, r := range l {
		b, s := string(report.Bytes(r)), report.Text(r)
		if x, is := byBytes[b]; is && x != r {
			t.Errorf("%v has the bytes of %v", r, x)
		}
		if x, is := byText[s]; is && x != r {
			t.Errorf("%v has the text of %v", r, x)
		}
		byBytes[b], byText[s] = r, r
	}
}
