package call_test

import (
	"bytes"
	"encoding/binary"
	"fmt"
	"math"
	"math/rand"
	"regexp"
	"strconv"
	"strings"
	"testing"

	"anchorite/api"
	"anchorite/call"
)

// chapter is the chapter's table, an operation behind the other: its name, and how many arguments it has.
const chapter = `delegate 1, undelegate 1, realm 3, activate 1, kill 1, end 1, table 4,
untable 3, fold 3, data 4, zero 3, destroy 2, share 3, unshare 2,
rec 3, unrec 1, enter 3, export 3, import 5, look 2, row 1`

// row is what the table tells of an operation; pattern is how its texts look,
// but for the bounds of their numbers.
type row struct {
	name    string
	arity   int
	pattern *regexp.Regexp
}

// rows stand each at its operation's number; at 0 there is none.
var rows = func() []row {
	out := []row{{}}
	for _, s := range strings.Split(chapter, ",") {
		var r row
		if _, err := fmt.Sscan(s, &r.name, &r.arity); err != nil {
			panic(err)
		}
		r.pattern = regexp.MustCompile(`\A` + r.name + strings.Repeat(` (0|[1-9][0-9]{0,19})`, r.arity) + `\z`)
		out = append(out, r)
	}
	return out
}()

// lastOp is the number of the last operation.
const lastOp = 21

// allOps are the operations that there are.
func allOps() []api.CallOp {
	var out []api.CallOp
	for op := range lastOp {
		out = append(out, api.CallOp(op+1))
	}
	return out
}

// noOps are numbers of none.
func noOps() []api.CallOp {
	return []api.CallOp{0, -1, -2, -21, -22, 22, 23, 32, 64, 127, 128, 255, 256, 257, 256 + 21, 1 << 16, 1<<16 + 1, 1 << 32, 1<<32 + 1, 1<<32 + 21, 1 << 62, math.MaxInt, math.MinInt, math.MinInt + 1, math.MinInt + 21}
}

func isOp(op api.CallOp) bool { return op >= 1 && op <= lastOp }

// mayModel goes over the arguments from behind.
func mayModel(c api.Call) bool {
	if !isOp(c.Op) {
		return false
	}
	last := 6
	for last > 0 && c.Args[last-1] == 0 {
		last--
	}
	return last <= rows[c.Op].arity
}

// bytesModel is the bytes of a call, whether it may be or not.
func bytesModel(c api.Call) []byte {
	b := binary.LittleEndian.AppendUint64(nil, uint64(c.Op))
	for _, x := range c.Args {
		b = binary.LittleEndian.AppendUint64(b, x)
	}
	return b
}

// ofModel is the call that has these bytes, and whether there is one.
func ofModel(b []byte) (api.Call, bool) {
	if len(b) != 56 {
		return api.Call{}, false
	}
	var words [7]uint64
	if err := binary.Read(bytes.NewReader(b), binary.LittleEndian, &words); err != nil {
		panic(err)
	}
	if words[0] < 1 || words[0] > lastOp {
		return api.Call{}, false
	}
	c := api.Call{Op: api.CallOp(words[0]), Args: [6]uint64(words[1:])}
	if !mayModel(c) {
		return api.Call{}, false
	}
	return c, true
}

// textModel is the text of one that may be.
func textModel(c api.Call) string {
	s := rows[c.Op].name
	for i := range rows[c.Op].arity {
		s += fmt.Sprintf(" %d", c.Args[i])
	}
	return s
}

// untextModel is the call of a text, and whether there is one.
func untextModel(s string) (api.Call, bool) {
	for _, op := range allOps() {
		l := rows[op].pattern.FindStringSubmatch(s)
		if l == nil {
			continue
		}
		c := api.Call{Op: op}
		for i, word := range l[1:] {
			x, err := strconv.ParseUint(word, 10, 64)
			if err != nil {
				return api.Call{}, false
			}
			c.Args[i] = x
		}
		return c, true
	}
	return api.Call{}, false
}

// unlistModel goes over a text byte by byte.
func unlistModel(text string) ([]api.Call, int, api.Errno) {
	var lines []string
	var line []byte
	for _, b := range []byte(text) {
		if b != 10 {
			line = append(line, b)
			continue
		}
		lines, line = append(lines, string(line)), nil
	}
	whole := len(lines)
	if len(line) > 0 {
		lines = append(lines, string(line))
	}
	if len(lines) > 65536 {
		return nil, 0, api.ErrLong
	}
	var calls []api.Call
	for n, s := range lines {
		c, is := untextModel(s)
		if !is || n == whole {
			return nil, n, api.ErrBytes
		}
		calls = append(calls, c)
	}
	return calls, 0, api.OK
}

// of is a call, argument by argument.
func of(op api.CallOp, args ...uint64) api.Call {
	c := api.Call{Op: op}
	for i, x := range args {
		c.Args[i] = x
	}
	return c
}

// edges are arguments on both sides of where a number has a byte, or a digit, more.
func edges() []uint64 {
	out := []uint64{0, 1, 2, 7, 128, 258, math.MaxInt32, math.MaxUint32, 1 << 32, 1<<32 + 1, 0x0807060504030201, math.MaxInt64, 1 << 63, 1<<63 + 1, math.MaxUint64 - 1, math.MaxUint64}
	for size := 1; size < 8; size++ {
		out = append(out, 1<<(8*size)-1, 1<<(8*size))
	}
	for n := uint64(10); n != 1e19; n *= 10 {
		out = append(out, n-1, n, n+1)
	}
	return append(out, 1e19-1, 1e19, 1e19+1)
}

// usual is a call of an operation no two arguments of which could be taken for one another.
func usual(op api.CallOp) api.Call {
	c := api.Call{Op: op}
	for i := range rows[op].arity {
		c.Args[i] = 0x1122334455667700 + uint64(i+1)*0x0101010101010101
	}
	return c
}

// calls may all be: of each operation with each edge at each of its arguments.
func calls() []api.Call {
	var out []api.Call
	for _, op := range allOps() {
		out = append(out, api.Call{Op: op}, usual(op))
		for i := range rows[op].arity {
			for _, x := range edges() {
				c := usual(op)
				c.Args[i] = x
				out = append(out, c)
				c = api.Call{Op: op}
				c.Args[i] = x
				out = append(out, c)
			}
		}
	}
	return out
}

func pick[T any](r *rand.Rand, l []T) T { return l[r.Intn(len(l))] }

// anyRight is one that may be, by chance, with edges often.
func anyRight(r *rand.Rand) api.Call {
	c := api.Call{Op: pick(r, allOps())}
	for i := range rows[c.Op].arity {
		if r.Intn(2) == 0 {
			c.Args[i] = pick(r, edges())
		} else {
			c.Args[i] = r.Uint64() >> r.Intn(64)
		}
	}
	return c
}

// listOf is so many calls that may be, in turn.
func listOf(n int) []api.Call {
	all := calls()
	out := make([]api.Call, n)
	for i := range out {
		out[i] = all[i%len(all)]
	}
	return out
}

// textOf is the text of a list of calls that may be.
func textOf(l []api.Call) string {
	var s strings.Builder
	for _, c := range l {
		s.WriteString(textModel(c) + "\n")
	}
	return s.String()
}

// check holds all that is told of a call by itself against the model, and says whether it may be.
func check(t *testing.T, c api.Call) bool {
	t.Helper()
	may := mayModel(c)
	if call.May(c) != may {
		t.Errorf("May(%v): %v", c, !may)
	}
	var b []byte
	s, l, why := "", "", api.ErrArg
	if may {
		b, s, why = bytesModel(c), textModel(c), api.OK
		l = s + "\n"
	}
	if x, e := call.Bytes(c); !bytes.Equal(x, b) || e != why {
		t.Errorf("Bytes(%v): %x, %d; not %x, %d", c, x, e, b, why)
	}
	if x, e := call.Text(c); x != s || e != why {
		t.Errorf("Text(%v): %q, %d; not %q, %d", c, x, e, s, why)
	}
	if x, e := call.List(c); x != l || e != why {
		t.Errorf("List(%v): %q, %d; not %q, %d", c, x, e, l, why)
	}
	return may
}

// checkMake holds what Make answers against the model, and says whether it makes a call.
func checkMake(t *testing.T, op api.CallOp, args ...uint64) bool {
	t.Helper()
	is := isOp(op) && len(args) == rows[op].arity
	want, why := api.Call{}, api.ErrArg
	if is {
		want, why = of(op, args...), api.OK
	}
	if c, e := call.Make(op, args...); c != want || e != why {
		t.Errorf("Make(%d, %v): %v, %d; not %v, %d", op, args, c, e, want, why)
	}
	return is
}

// checkBytes holds what Of answers against the model, and says whether they are some call's.
func checkBytes(t *testing.T, b []byte) bool {
	t.Helper()
	was := string(b)
	want, is := ofModel(b)
	c, e := call.Of(b)
	if c != want || is != (e == api.OK) || !is && e != api.ErrBytes {
		t.Errorf("Of(%.100x): %v, %d; not %v, %v", b, c, e, want, is)
	}
	if string(b) != was {
		t.Errorf("Of changed %.100x to %.100x", was, b)
	}
	return is
}

// checkText holds what is told of a line's text against the model, and says whether it is some call's.
func checkText(t *testing.T, s string) bool {
	t.Helper()
	want, is := untextModel(s)
	c, e := call.Untext(s)
	if c != want || is != (e == api.OK) || !is && e != api.ErrBytes {
		t.Errorf("Untext(%.400q): %v, %d; not %v, %v", s, c, e, want, is)
	}
	return is
}

// checkList holds what is told of a list's text against the model.
func checkList(t *testing.T, text string) api.Errno {
	t.Helper()
	want, line, why := unlistModel(text)
	l, n, e := call.Unlist(text)
	if !sameList(l, want) || n != line || e != why {
		t.Errorf("Unlist(%.400q): %d calls, %d, %d; not %d, %d, %d", text, len(l), n, e, len(want), line, why)
	}
	if e == api.OK {
		if s, f := call.List(l...); s != text || f != api.OK {
			t.Errorf("List of what Unlist took of %.400q: %.400q, %d", text, s, f)
		}
	}
	return e
}

// sameList says whether both are the same, nil and empty lists being one.
func sameList(a, b []api.Call) bool {
	if len(a) != len(b) {
		return false
	}
	for i := range a {
		if a[i] != b[i] {
			return false
		}
	}
	return true
}

// whole holds all that is told of a call that may be, there and back.
func whole(t *testing.T, c api.Call) {
	t.Helper()
	if !check(t, c) {
		t.Error("may not be:", c)
	}
	b, _ := call.Bytes(c)
	if x, e := call.Of(b); x != c || e != api.OK {
		t.Errorf("Of of Bytes of %v: %v, %d", c, x, e)
	}
	s, _ := call.Text(c)
	if x, e := call.Untext(s); x != c || e != api.OK {
		t.Errorf("Untext of Text of %v: %v, %d", c, x, e)
	}
}

// spoilt is a list that is drawn of another: a place or more turned, left out, doubled, laid in, or exchanged.
func spoilt(r *rand.Rand, b []byte, signs string) []byte {
	out := bytes.Clone(b)
	for range 1 + r.Intn(2) {
		if len(out) == 0 {
			return out
		}
		i, j, sign := r.Intn(len(out)), r.Intn(len(out)), signs[r.Intn(len(signs))]
		switch r.Intn(6) {
		case 0:
			out[i] ^= 1 << r.Intn(8)
		case 1:
			out[i] = sign
		case 2:
			out = append(out[:i], out[i+1:]...)
		case 3:
			out = append(out[:i+1], out[i:]...)
		case 4:
			out = append(out[:i], append([]byte{sign}, out[i:]...)...)
		default:
			out[i], out[j] = out[j], out[i]
		}
	}
	return out
}
