package call_test

import (
	"bytes"
	"iter"
	"math"
	"math/rand"
	"slices"
	"strings"
	"testing"

	"anchorite/api"
	"anchorite/call"
)

// known are a call of each operation, and its text, written out: the model and the program may not err together.
var known = []struct {
	c api.Call
	s string
}{
	{of(1, 128), "delegate 128"},
	{of(2, 0), "undelegate 0"},
	{of(3, 128, 256, 384), "realm 128 256 384"},
	{of(4, 7), "activate 7"},
	{of(5, 128), "kill 128"},
	{of(6, math.MaxUint64), "end 18446744073709551615"},
	{of(7, 1, 2, 3, 0), "table 1 2 3 0"},
	{of(8, 1, 255, 3), "untable 1 255 3"},
	{of(9, 0, 0, 0), "fold 0 0 0"},
	{of(10, 128, 256, 9, 512), "data 128 256 9 512"},
	{of(11, 128, 256, 10), "zero 128 256 10"},
	{of(12, 128, 10), "destroy 128 10"},
	{of(13, 128, 129, 7680), "share 128 129 7680"},
	{of(14, 128, 129), "unshare 128 129"},
	{of(15, 1, 0, 0), "rec 1 0 0"},
	{of(16, 9223372036854775808), "unrec 9223372036854775808"},
	{of(17, 640, 768, 10000), "enter 640 768 10000"},
	{of(18, 128, 77, 896), "export 128 77 896"},
	{of(19, 1, 2, 3, 4, 5), "import 1 2 3 4 5"},
	{of(20, 128, 5), "look 128 5"},
	{of(21, 0), "row 0"},
}

func TestKnown(t *testing.T) {
	seen := 0
	for _, k := range known {
		whole(t, k.c)
		if s := textModel(k.c); s != k.s {
			t.Errorf("%v: %q; not %q", k.c, s, k.s)
		}
		if s, e := call.Text(k.c); s != k.s || e != api.OK {
			t.Errorf("%v: %q, %d; not %q", k.c, s, e, k.s)
		}
		if c, e := call.Untext(k.s); c != k.c || e != api.OK {
			t.Errorf("%q: %v, %d; not %v", k.s, c, e, k.c)
		}
		seen |= 1 << k.c.Op
	}
	if seen != 1<<22-2 {
		t.Errorf("not each operation: %b", seen)
	}
}

// The numbers of operations, and the limit, are the chapter's.
func TestNumbers(t *testing.T) {
	ops := []api.CallOp{api.CallDelegate, api.CallUndelegate, api.CallRealm, api.CallActivate, api.CallKill, api.CallEnd, api.CallTable, api.CallUntable, api.CallFold, api.CallData, api.CallZero, api.CallDestroy, api.CallShare, api.CallUnshare, api.CallRec, api.CallUnrec, api.CallEnter, api.CallExport, api.CallImport, api.CallLook, api.CallRow}
	if !slices.Equal(ops, allOps()) || len(rows) != 22 || api.MaxCalls != 65536 {
		t.Error(ops, len(rows), api.MaxCalls)
	}
}

// The chapter's examples.
func TestExamples(t *testing.T) {
	if s, e := call.Text(api.Call{Op: api.CallTable, Args: [6]uint64{1, 2, 3, 0}}); s != "table 1 2 3 0" || e != api.OK {
		t.Error(s, e)
	}
	if c, e := call.Untext("kill 128"); c != (api.Call{Op: api.CallKill, Args: [6]uint64{128}}) || e != api.OK {
		t.Error(c, e)
	}
	for _, s := range []string{"kill", "kill 01"} {
		if c, e := call.Untext(s); c != (api.Call{}) || e != api.ErrBytes {
			t.Error(s, c, e)
		}
	}
	if c, e := call.Make(api.CallKill, 1, 2); c != (api.Call{}) || e != api.ErrArg {
		t.Error(c, e)
	}
	if c, e := call.Make(22); c != (api.Call{}) || e != api.ErrArg {
		t.Error(c, e)
	}
	if n := call.Arity(api.CallImport); n != 5 {
		t.Error(n)
	}
	if op := call.Op("fly"); op != 0 {
		t.Error(op)
	}
}

// P21.1

// What each operation is called, and how many arguments it has.
func TestOperations(t *testing.T) {
	for _, op := range allOps() {
		r := rows[op]
		if call.Name(op) != r.name || call.Op(r.name) != op || call.Arity(op) != r.arity {
			t.Errorf("%d: %q, %d, %d", op, call.Name(op), call.Op(r.name), call.Arity(op))
		}
	}
}

// The least and the most that an argument is, at each place of each operation.
func TestMay(t *testing.T) {
	for _, op := range allOps() {
		for i := range rows[op].arity {
			for _, x := range edges() {
				c := api.Call{Op: op}
				c.Args[i] = x
				if !call.May(c) {
					t.Error("may not be:", c)
				}
			}
		}
		c := api.Call{Op: op}
		for i := range rows[op].arity {
			c.Args[i] = math.MaxUint64
		}
		if !call.May(c) || !call.May(api.Call{Op: op}) {
			t.Error("may not be:", c)
		}
	}
}

// Each operation made, of as many arguments as it has.
func TestMake(t *testing.T) {
	for _, c := range calls() {
		if !checkMake(t, c.Op, c.Args[:rows[c.Op].arity]...) {
			t.Error("not made:", c)
		}
		if x, _ := call.Make(c.Op, c.Args[:rows[c.Op].arity]...); x != c || !call.May(x) {
			t.Error(x, c)
		}
	}
}

// gone is what is gone over until so many were told.
func gone(ops iter.Seq2[api.CallOp, string], most int) []row {
	var out []row
	for op, name := range ops {
		out = append(out, row{name: name, arity: int(op)})
		if len(out) == most {
			break
		}
	}
	return out
}

// The operations are gone over, rising, each once, and as often as one likes.
func TestOps(t *testing.T) {
	var want []row
	for i, r := range rows[1:] {
		want = append(want, row{name: r.name, arity: i + 1})
	}
	ops := call.Ops()
	for range 3 {
		if l := gone(ops, 99); !slices.Equal(l, want) {
			t.Error(l)
		}
		if l := gone(call.Ops(), 99); !slices.Equal(l, want) {
			t.Error(l)
		}
	}
}

// Left at each place, and gone over again: from the beginning on.
func TestOpsLeft(t *testing.T) {
	want := gone(call.Ops(), 99)
	ops := call.Ops()
	for most := 1; most <= 21; most++ {
		if l := gone(ops, most); !slices.Equal(l, want[:most]) {
			t.Error(most, l)
		}
		if l := gone(ops, 99); !slices.Equal(l, want) {
			t.Error(most, l)
		}
		told := 0
		ops(func(api.CallOp, string) bool {
			told++
			return told < most
		})
		if told != most {
			t.Error("told", told, "not", most)
		}
	}
}

// One within another: neither changes the other.
func TestOpsWithinOps(t *testing.T) {
	want := gone(call.Ops(), 99)
	ops := call.Ops()
	n := 0
	for op, name := range ops {
		if op != api.CallOp(n+1) || name != want[n].name || !slices.Equal(gone(ops, 99), want) {
			t.Error(op, name)
		}
		n++
	}
	if n != 21 {
		t.Error(n)
	}
}

// P21.2

// Bytes, written out: of an operation of one argument, and of that of the most.
func TestBytes(t *testing.T) {
	noughts := func(n int) []byte { return make([]byte, n) }
	for _, k := range []struct {
		c api.Call
		b []byte
	}{
		{of(21, 0), slices.Concat([]byte{21}, noughts(55))},
		{of(1, 258), slices.Concat([]byte{1}, noughts(7), []byte{2, 1}, noughts(46))},
		{of(7, 1, 2, 3, 0), slices.Concat([]byte{7}, noughts(7), []byte{1}, noughts(7), []byte{2}, noughts(7), []byte{3}, noughts(31))},
		{of(5, 0x0807060504030201), slices.Concat([]byte{5}, noughts(7), []byte{1, 2, 3, 4, 5, 6, 7, 8}, noughts(40))},
		{of(19, 0, math.MaxUint64, 0, 1<<63, 256), slices.Concat([]byte{19}, noughts(15), slices.Repeat([]byte{255}, 8), noughts(15), []byte{128, 0, 1}, noughts(14))},
	} {
		if b, e := call.Bytes(k.c); !bytes.Equal(b, k.b) || e != api.OK {
			t.Errorf("Bytes(%v): %x, %d; not %x", k.c, b, e, k.b)
		}
		if c, e := call.Of(k.b); c != k.c || e != api.OK {
			t.Errorf("Of(%x): %v, %d; not %v", k.b, c, e, k.c)
		}
	}
}

func TestBytesOfEach(t *testing.T) {
	for _, c := range calls() {
		b, e := call.Bytes(c)
		if len(b) != 56 || e != api.OK || !bytes.Equal(b, bytesModel(c)) {
			t.Errorf("%v: %x, %d", c, b, e)
		}
		if !checkBytes(t, b) {
			t.Errorf("%v: %x are none's", c, b)
		}
	}
}

// Whatever stands where an operation has its arguments is some call's.
func TestOfAnyArguments(t *testing.T) {
	r := rand.New(rand.NewSource(212))
	for range 5000 {
		c := api.Call{Op: pick(r, allOps())}
		for i := range rows[c.Op].arity {
			c.Args[i] = r.Uint64()
		}
		if b := bytesModel(c); !checkBytes(t, b) {
			t.Errorf("%x should be a call's", b)
		}
	}
}

// What is handed in stays as it was, and is not kept; what is told is new memory.
func TestMemory(t *testing.T) {
	for _, c := range []api.Call{of(21), usual(19), of(1, math.MaxUint64)} {
		a, _ := call.Bytes(c)
		b, _ := call.Bytes(c)
		x, _ := call.Of(a)
		for i := range a {
			a[i] ^= 255
		}
		if again, _ := call.Bytes(c); !bytes.Equal(b, bytesModel(c)) || !bytes.Equal(again, b) || x != c {
			t.Errorf("%x, by what was done to another: %x, %v", bytesModel(c), b, x)
		}
		room := append(slices.Clone(b), 1, 2, 3)
		if y, e := call.Of(room[:56]); y != c || e != api.OK || !bytes.Equal(room, append(slices.Clone(b), 1, 2, 3)) {
			t.Errorf("%v, %d: %x", y, e, room)
		}
	}
}

// Arguments and lists that are handed in stay as they were, and are not kept.
func TestHandedIn(t *testing.T) {
	args := []uint64{1, 2, 3, 4, 5, 99, 98}
	c, e := call.Make(api.CallImport, args[:5]...)
	d, f := call.Make(api.CallImport, args...)
	if !slices.Equal(args, []uint64{1, 2, 3, 4, 5, 99, 98}) || e != api.OK || f != api.ErrArg || d != (api.Call{}) {
		t.Error(args, e, d, f)
	}
	clear(args)
	if c != of(19, 1, 2, 3, 4, 5) {
		t.Error(c)
	}
	l := listOf(9)
	was := slices.Clone(l)
	s, _ := call.List(l[:7]...)
	l[8].Op = 0
	if x, e := call.List(l...); x != "" || e != api.ErrArg {
		t.Error(x, e)
	}
	if s != textOf(was[:7]) || !slices.Equal(l[:8], was[:8]) || l[8].Args != was[8].Args {
		t.Error(s, l)
	}
}

// P21.3

func TestTexts(t *testing.T) {
	r := rand.New(rand.NewSource(213))
	l := calls()
	for range 5000 {
		l = append(l, anyRight(r))
	}
	for _, c := range l {
		whole(t, c)
		if !checkText(t, textModel(c)) {
			t.Error("none's:", textModel(c))
		}
	}
}

// Lists of several calls, written out.
func TestList(t *testing.T) {
	want := ""
	var l []api.Call
	for _, k := range known {
		if s, e := call.List(l...); s != want || e != api.OK {
			t.Errorf("%q, %d; not %q", s, e, want)
		}
		if x, n, e := call.Unlist(want); !sameList(x, l) || n != 0 || e != api.OK {
			t.Errorf("%q: %v, %d, %d", want, x, n, e)
		}
		want += k.s + "\n"
		l = append(l, k.c)
	}
	if s, e := call.List(of(1, 128), of(21, 128), of(1, 128)); s != "delegate 128\nrow 128\ndelegate 128\n" || e != api.OK {
		t.Errorf("%q, %d", s, e)
	}
}

// Of no call: no text. Nil and empty lists are one.
func TestListOfNone(t *testing.T) {
	for _, l := range [][]api.Call{nil, {}} {
		if s, e := call.List(l...); s != "" || e != api.OK {
			t.Error(s, e)
		}
	}
	if l, n, e := call.Unlist(""); len(l) != 0 || n != 0 || e != api.OK {
		t.Error(l, n, e)
	}
}

// As many as may be, and fewer.
func TestListsOfMany(t *testing.T) {
	for _, n := range []int{1, 2, 3, 100, 1000, 65535, 65536} {
		l := listOf(n)
		want := textOf(l)
		if s, e := call.List(l...); s != want || e != api.OK {
			t.Error(n, len(s), e)
		}
		if x, line, e := call.Unlist(want); !sameList(x, l) || line != 0 || e != api.OK {
			t.Error(n, len(x), line, e)
		}
	}
}

// What Unlist tells is the caller's.
func TestUnlistIsNew(t *testing.T) {
	text := textOf(listOf(5))
	a, _, _ := call.Unlist(text)
	b, _, _ := call.Unlist(text)
	clear(a)
	_ = append(a[:1], of(5, 5))
	if c, _, _ := call.Unlist(text); !sameList(b, listOf(5)) || !sameList(c, b) {
		t.Error(b, c)
	}
}

// P21.4

// Each call has bytes and a text of its own, and they lead back to it.
func TestThereAndBack(t *testing.T) {
	r := rand.New(rand.NewSource(214))
	l := calls()
	for range 5000 {
		l = append(l, anyRight(r))
	}
	byBytes, byText := map[string]api.Call{}, map[string]api.Call{}
	for _, c := range l {
		b, _ := call.Bytes(c)
		if x, e := call.Of(b); x != c || e != api.OK {
			t.Error(c, x, e)
		}
		s, _ := call.Text(c)
		if x, e := call.Untext(s); x != c || e != api.OK {
			t.Error(c, x, e)
		}
		if x, is := byBytes[string(b)]; is && x != c {
			t.Error("the same bytes:", x, c)
		}
		if x, is := byText[s]; is && x != c {
			t.Error("the same text:", x, c)
		}
		byBytes[string(b)], byText[s] = c, c
	}
}

// Of lists by chance: Unlist of List are the calls, and List of these the text.
func TestListsThereAndBack(t *testing.T) {
	r := rand.New(rand.NewSource(215))
	for range 300 {
		var l []api.Call
		for range r.Intn(40) {
			l = append(l, anyRight(r))
		}
		s, e := call.List(l...)
		if s != textOf(l) || strings.Count(s, "\n") != len(l) || e != api.OK {
			t.Errorf("%q, %d", s, e)
		}
		if x, n, e := call.Unlist(s); !sameList(x, l) || n != 0 || e != api.OK {
			t.Error(l, x, n, e)
		}
		checkList(t, s)
	}
}
