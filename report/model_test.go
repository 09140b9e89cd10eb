package report_test

import (
	"encoding/binary"
	"encoding/hex"
	"fmt"
	"math"
	"math/rand"
	"regexp"
	"strconv"
	"testing"

	"anchorite/api"
	"anchorite/report"
)

// modelBytes is the bytes of a report by the chapter's words.
func modelBytes(r api.Report) []byte {
	b := []byte("report\x00\x00")
	b = binary.LittleEndian.AppendUint64(b, r.Instance)
	b = append(b, r.Measure[:]...)
	return append(b, r.Challenge[:]...)
}

// modelOf is the report that has these bytes, and whether there is one.
func modelOf(b []byte) (api.Report, bool) {
	if len(b) != 80 || string(b[:8]) != "report\x00\x00" {
		return api.Report{}, false
	}
	return api.Report{
		Instance:  binary.LittleEndian.Uint64(b[8:16]),
		Measure:   api.Digest(b[16:48]),
		Challenge: api.Digest(b[48:80]),
	}, true
}

// modelText is the text of a report by the chapter's words.
func modelText(r api.Report) string {
	return fmt.Sprintf("instance %d measure %x challenge %x", r.Instance, r.Measure, r.Challenge)
}

// pattern is how a report's text looks, but for the number, which may be too great.
var pattern = regexp.MustCompile(`\Ainstance (0|[1-9][0-9]{0,19}) measure ([0-9a-f]{64}) challenge ([0-9a-f]{64})\z`)

// modelUntext is the report that has this text, and whether there is one.
func modelUntext(s string) (api.Report, bool) {
	m := pattern.FindStringSubmatch(s)
	if m == nil {
		return api.Report{}, false
	}
	n, err := strconv.ParseUint(m[1], 10, 64)
	if err != nil {
		return api.Report{}, false
	}
	measure, _ := hex.DecodeString(m[2])
	challenge, _ := hex.DecodeString(m[3])
	return api.Report{Instance: n, Measure: api.Digest(measure), Challenge: api.Digest(challenge)}, true
}

// checkBytes holds what Of answers against the model, and says whether they are some report's.
func checkBytes(t *testing.T, b []byte) bool {
	t.Helper()
	was := string(b)
	want, is := modelOf(b)
	r, e := report.Of(b)
	if r != want || is != (e == api.OK) || !is && e != api.ErrBytes {
		t.Errorf("Of %x: %v, %d; not %v, %v", b, r, e, want, is)
	}
	if string(b) != was {
		t.Errorf("Of changed %x to %x", was, b)
	}
	return is
}

// checkText holds what Untext answers against the model, and says whether it is some report's.
func checkText(t *testing.T, s string) bool {
	t.Helper()
	want, is := modelUntext(s)
	r, e := report.Untext(s)
	if r != want || is != (e == api.OK) || !is && e != api.ErrBytes {
		t.Errorf("Untext %.400q: %v, %d; not %v, %v", s, r, e, want, is)
	}
	return is
}

// noBytes says that Of tells of bytes that they are none's.
func noBytes(t *testing.T, b []byte, what ...any) {
	t.Helper()
	if checkBytes(t, b) {
		t.Errorf("%v: %x should be no report's", what, b)
	}
}

// noText says that Untext tells of a text that it is none's.
func noText(t *testing.T, s string, what ...any) {
	t.Helper()
	if checkText(t, s) {
		t.Errorf("%v: %.400q should be no report's", what, s)
	}
}

// whole holds all that is told of a report against the model, there and back.
func whole(t *testing.T, r api.Report) {
	t.Helper()
	if b := report.Bytes(r); string(b) != string(modelBytes(r)) {
		t.Errorf("Bytes of %v: %x", r, b)
	}
	if back, e := report.Of(report.Bytes(r)); back != r || e != api.OK {
		t.Errorf("Of of Bytes of %v: %v, %d", r, back, e)
	}
	if s := report.Text(r); s != modelText(r) {
		t.Errorf("Text of %v: %q", r, s)
	}
	if back, e := report.Untext(report.Text(r)); back != r || e != api.OK {
		t.Errorf("Untext of Text of %v: %v, %d", r, back, e)
	}
	if !report.Alike(r, r) {
		t.Errorf("%v is not alike itself", r)
	}
}

// digest has 32 bytes that all differ, from by on.
func digest(by byte) api.Digest {
	var d api.Digest
	for i := range d {
		d[i] = by + byte(7*i)
	}
	return d
}

// filled has 32 bytes that are all the same.
func filled(by byte) api.Digest {
	var d api.Digest
	for i := range d {
		d[i] = by
	}
	return d
}

// usual is a report no two parts of which could be taken for one another.
func usual() api.Report {
	return api.Report{Instance: 0x0807060504030201, Measure: digest(11), Challenge: digest(240)}
}

// instances are the edges, and such as lie on both sides of where a number has a byte, or a digit, more.
func instances() []uint64 {
	out := []uint64{0, 1, 2, 7, 258, math.MaxInt32, math.MaxUint32, 1 << 32, 1<<32 + 1, math.MaxInt64, 1 << 63, 1<<63 + 1, math.MaxUint64 - 1, math.MaxUint64}
	for bytes := 1; bytes < 8; bytes++ {
		out = append(out, 1<<(8*bytes)-1, 1<<(8*bytes))
	}
	for n := uint64(10); n != 1e19; n *= 10 {
		out = append(out, n-1, n, n+1)
	}
	return append(out, 1e19-1, 1e19, 1e19+1)
}

// digests are of noughts, of bytes 255, ordinary ones, and such as have a half byte alone.
func digests() []api.Digest {
	return []api.Digest{{}, filled(255), digest(1), digest(200), {0: 1}, {31: 1}, {0: 0x10}, {31: 0xf0}, {16: 0xa5}, filled(0x0f), filled(0xf0), filled('0'), filled('f'), filled(' ')}
}

// reports are all instances with digests in turn, and all digests on either side.
func reports() []api.Report {
	l := digests()
	out := []api.Report{{}, usual()}
	for i, n := range instances() {
		out = append(out, api.Report{Instance: n, Measure: l[i%len(l)], Challenge: l[(i+5)%len(l)]})
	}
	for i, m := range l {
		for _, c := range l {
			out = append(out, api.Report{Instance: uint64(i), Measure: m, Challenge: c})
		}
	}
	return out
}

// turned is a report one bit of which is another: the bits 0 to 63 are the
// instance's, the next 256 the measure's, the others the challenge's.
func turned(r api.Report, bit int) api.Report {
	switch {
	case bit < 64:
		r.Instance ^= 1 << bit
	case bit < 320:
		r.Measure[(bit-64)/8] ^= 1 << (bit % 8)
	default:
		r.Challenge[(bit-320)/8] ^= 1 << (bit % 8)
	}
	return r
}

// reportBits is how many bits there are to turn.
const reportBits = 64 + 2*256

// drawn is a report by chance; each part is often an edge.
func drawn(r *rand.Rand) api.Report {
	pick := func() api.Digest {
		if l := digests(); r.Intn(3) == 0 {
			return l[r.Intn(len(l))]
		}
		var d api.Digest
		for i := range d {
			d[i] = byte(r.Intn(256))
		}
		return d
	}
	x := api.Report{Instance: r.Uint64() >> r.Intn(64), Measure: pick(), Challenge: pick()}
	if l := instances(); r.Intn(3) == 0 {
		x.Instance = l[r.Intn(len(l))]
	}
	return x
}

// spoilt is a list that is drawn of another: a place or more turned, left out, doubled, laid in, or exchanged.
func spoilt(r *rand.Rand, b, signs []byte) []byte {
	out := append([]byte(nil), b...)
	for range 1 + r.Intn(2) {
		if len(out) == 0 {
			return out
		}
		i, j := r.Intn(len(out)), r.Intn(len(out))
		switch r.Intn(6) {
		case 0:
			out[i] ^= 1 << r.Intn(8)
		case 1:
			out[i] = signs[r.Intn(len(signs))]
		case 2:
			out = append(out[:i], out[i+1:]...)
		case 3:
			out = append(out[:i+1], out[i:]...)
		case 4:
			out = append(out[:i], append([]byte{signs[r.Intn(len(signs))]}, out[i:]...)...)
		default:
			out[i], out[j] = out[j], out[i]
		}
	}
	return out
}

// P18.1 to P18.3, P0.8: reports that are drawn, and what is spoilt of them, each held against the model.
func TestAnyReports(t *testing.T) {
	r := rand.New(rand.NewSource(18))
	right, wrong := 0, 0
	count := func(is bool) {
		if is {
			right++
		} else {
			wrong++
		}
	}
	for range 5000 {
		x := drawn(r)
		whole(t, x)
		count(checkBytes(t, spoilt(r, modelBytes(x), []byte{0, 1, 255, 'r', 't'})))
		count(checkText(t, string(spoilt(r, []byte(modelText(x)), []byte("0123456789abcdefAF gG+-\t\n\x00\xff")))))
	}
	if right < 500 || wrong < 500 {
		t.Error("one-sided:", right, wrong)
	}
}
