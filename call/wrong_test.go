package call_test

import (
	"math"
	"math/rand"
	"slices"
	"strings"
	"testing"

	"anchorite/api"
	"anchorite/call"
)

// none says that a call may not be, wherever it is told.
func none(t *testing.T, c api.Call) {
	t.Helper()
	if check(t, c) {
		t.Error("may be:", c)
	}
	if b, e := call.Bytes(c); b != nil || e != api.ErrArg {
		t.Error("Bytes", c, b, e)
	}
	if s, e := call.Text(c); s != "" || e != api.ErrArg {
		t.Error("Text", c, s, e)
	}
	if s, e := call.List(of(21, 128), c, of(21, 128)); s != "" || e != api.ErrArg {
		t.Error("List", c, s, e)
	}
	if checkBytes(t, bytesModel(c)) {
		t.Error("has bytes:", c)
	}
}

// noBytes says that Of tells of bytes that they are none's.
func noBytes(t *testing.T, b []byte, what ...any) {
	t.Helper()
	if checkBytes(t, b) {
		t.Errorf("%v: %.100x should be no call's", what, b)
	}
}

// noText says that Untext tells of a text that it is none's.
func noText(t *testing.T, s string, what ...any) {
	t.Helper()
	if checkText(t, s) {
		t.Errorf("%v: %.400q should be no call's", what, s)
	}
}

// noList says that Unlist tells that line of a text, and nothing else.
func noList(t *testing.T, text string, line int) {
	t.Helper()
	l, n, e := call.Unlist(text)
	if l != nil || n != line || e != api.ErrBytes {
		t.Errorf("%.400q: %d calls, %d, %d; not %d", text, len(l), n, e, line)
	}
	checkList(t, text)
}

// tooLong says that Unlist tells of a text that it is too long, and nothing else.
func tooLong(t *testing.T, text string) {
	t.Helper()
	if l, n, e := call.Unlist(text); l != nil || n != 0 || e != api.ErrLong {
		t.Errorf("%d bytes: %d calls, %d, %d", len(text), len(l), n, e)
	}
	checkList(t, text)
}

// P21.1

// Numbers that are no operation's.
func TestNoOperations(t *testing.T) {
	for _, op := range noOps() {
		if s, n := call.Name(op), call.Arity(op); s != "" || n != -1 {
			t.Errorf("%d: %q, %d", op, s, n)
		}
		none(t, api.Call{Op: op})
		none(t, of(op, 1))
		none(t, of(op, 0, 0, 0, 0, 0, 1))
		none(t, of(op, 1, 2, 3, 4, 5, 6))
		for n := range 9 {
			if checkMake(t, op, make([]uint64, n)...) {
				t.Error("made:", op, n)
			}
		}
	}
}

// Names that are no operation's.
func TestNoNames(t *testing.T) {
	l := []string{"", " ", "fly", "0", "1", "21", "row ", " row", "row 1", "row\n", "\x00", "call", "load", "store", "verify", "granules", "none", "r\u043ew", "\xff", strings.Repeat("row", 1<<16)}
	for _, r := range rows[1:] {
		name := r.name
		l = append(l, strings.ToUpper(name), strings.ToUpper(name[:1])+name[1:], name[:len(name)-1]+strings.ToUpper(name[len(name)-1:]), name+"s", "x"+name, name+" ", " "+name, name+"\x00", name+name)
	}
	for _, name := range l {
		if op := call.Op(name); op != 0 {
			t.Errorf("%q: %d", name, op)
		}
		noText(t, name+" 1")
	}
	// A piece of a name, but where that is a name itself.
	for _, r := range rows[1:] {
		for n := range r.name {
			for _, piece := range []string{r.name[:n], r.name[n+1:]} {
				want := api.CallOp(max(0, slices.IndexFunc(rows, func(x row) bool { return x.name == piece })))
				if op := call.Op(piece); op != want {
					t.Errorf("%q: %d, not %d", piece, op, want)
				}
			}
		}
	}
}

// An argument behind those that an operation has, each by itself.
func TestArgumentsBehind(t *testing.T) {
	for _, op := range allOps() {
		for i := rows[op].arity; i < 6; i++ {
			for _, x := range edges() {
				c := usual(op)
				c.Args[i] = x
				if x == 0 {
					whole(t, c)
					continue
				}
				none(t, c)
				c = api.Call{Op: op}
				c.Args[i] = x
				none(t, c)
			}
		}
	}
}

// All sets of arguments that are not 0, of all operations and their neighbours.
func TestAllPlaces(t *testing.T) {
	for op := api.CallOp(-1); op < 24; op++ {
		for set := range 64 {
			for _, x := range []uint64{1, 256, math.MaxUint64} {
				c := api.Call{Op: op}
				for i := range c.Args {
					if set&(1<<i) != 0 {
						c.Args[i] = x
					}
				}
				check(t, c)
				checkBytes(t, bytesModel(c))
			}
		}
	}
}

// Fewer arguments than an operation has, and more; also such as are 0.
func TestMakeOfOtherNumbers(t *testing.T) {
	for _, op := range allOps() {
		for _, n := range []int{0, 1, 2, 3, 4, 5, 6, 7, 8, 100, 1 << 16} {
			for _, x := range []uint64{0, 1, math.MaxUint64} {
				if checkMake(t, op, slices.Repeat([]uint64{x}, n)...) != (n == rows[op].arity) {
					t.Error(op, n, x)
				}
			}
		}
		if c, e := call.Make(op); c != (api.Call{}) || e != api.ErrArg {
			t.Error(op, c, e)
		}
	}
}

// P21.2

// Any other number of bytes than 56, whatever they are.
func TestOfNumbersOfBytes(t *testing.T) {
	noBytes(t, nil)
	noBytes(t, []byte{})
	for _, op := range allOps() {
		long := append(bytesModel(usual(op)), bytesModel(usual(op))...)
		for n := range len(long) + 1 {
			if n == 56 {
				continue
			}
			noBytes(t, long[:n:n], n)
			noBytes(t, long[:n], n)
			noBytes(t, long[len(long)-n:], n)
			noBytes(t, append([]byte{byte(op)}, make([]byte, n)...)[:n], n)
		}
	}
	for _, n := range []int{64, 1 << 10, 1 << 16, 1<<16 + 56, 1 << 20} {
		noBytes(t, append(bytesModel(of(21)), make([]byte, n-56)...), n)
	}
}

// Of 56 noughts, and of the word of an operation as each other number.
func TestOfNoOperation(t *testing.T) {
	noBytes(t, make([]byte, 56))
	noBytes(t, slices.Repeat([]byte{255}, 56))
	for x := range 256 {
		for at := range 8 {
			b := make([]byte, 56)
			b[at] = byte(x)
			if is := checkBytes(t, b); is != (at == 0 && x >= 1 && x <= 21) {
				t.Error(at, x, is)
			}
		}
	}
	for _, op := range allOps() {
		for at := 1; at < 8; at++ {
			for x := 1; x < 256; x++ {
				b := bytesModel(usual(op))
				b[at] = byte(x)
				noBytes(t, b, op, at, x)
			}
		}
	}
}

// Each byte behind an operation's arguments.
func TestOfAnArgumentTooMany(t *testing.T) {
	for _, op := range allOps() {
		for _, c := range []api.Call{{Op: op}, usual(op)} {
			for at := 8 + 8*rows[op].arity; at < 56; at++ {
				for _, x := range []byte{1, 2, 128, 255} {
					b := bytesModel(c)
					b[at] = x
					noBytes(t, b, op, at, x)
				}
			}
		}
	}
}

// A call's text is not its bytes, nor are these in another order.
func TestOfOtherForms(t *testing.T) {
	b := bytesModel(usual(19))
	back := slices.Clone(b)
	slices.Reverse(back)
	noBytes(t, back, "turned")
	noBytes(t, slices.Concat(b[8:], b[:8]), "the operation behind")
	noBytes(t, []byte("import 18446744073709551615 18446744073709551615 1 2 3 4 5 6")[:56], "a text")
}

// P21.3

// Texts that are none's, one by one.
func TestNoTexts(t *testing.T) {
	for _, s := range []string{
		"", " ", "  ", "\n", "\x00", "0", "1", "-1", "fly", "fly 1", "Row 1", "ROW 1", "rOw 1", "roW 1", "ro 1", "rows 1", "row1", "1 row", "row row", "21 1", "row,1", "row=1",
		"row", "row ", "row  ", " row", " row 1", "row 1 ", "row 1  ", "row  1", "row   1", "row\t1", "row\n1", "row 1\n", "row 1\r", "row 1\r\n", "\nrow 1", "row 1\x00", "row\x001", "row\x00 1", "\ufeffrow 1", "row\u00a01", "row 1\u00a0", "row\v1",
		"row 1 2", "row 1 0", "row 1 1", "look 1", "look 1 2 3", "look 1  2", "look  1 2", "look 1 2 ", "look  2", "look 1 ", "look 1\t2", "look 1,2", "look ,1 2",
		"row +1", "row -1", "row +0", "row -0", "row 01", "row 00", "row 001", "row 000", "row 1.0", "row 1e3", "row 0x1", "row 0b1", "row 0o1", "row 1_0", "row 1_000", "row _1", "row ", "row a", "row f", "row one", "row '1'", "row \"1\"", "row 1-", "row 1+", "row --1", "row ++1", "row - 1", "row + 1",
		"row 18446744073709551616", "row 18446744073709551617", "row 18446744073709551625", "row 20000000000000000000", "row 99999999999999999999", "row 100000000000000000000", "row 184467440737095516150", "row 018446744073709551615", "row 36893488147419103232", "row 340282366920938463463374607431768211456",
		"row \u0661", "row \uff11", "row 1\u0661", "row \xb1", "row 1\xff", "r\xc3\xb6w 1", "row\xa01", "\xff\xfe", "row 1\x80",
		"table 1 2 3", "table 1 2 3 0 0", "table 1 2 3 ", "table 1 2  3 0", "table 1 2 3 00", "table 1 2 3 -0", "table 01 2 3 0", "table 1 02 3 0", "table 1 2 03 0", "table 18446744073709551616 2 3 0", "table 1 18446744073709551616 3 0", "table 1 2 3 18446744073709551616",
		"import 1 2 3 4", "import 1 2 3 4 5 6", "import 1 2 3 4 5 0", "import 1 2 3 4 5 6 7", "import 1 2 3 4 5 6 7 8 9",
		"undelegate", "delegate 1 1", "de legate 1", "un delegate 1", "delegate 1delegate 1", "delegate 1 delegate 1", "delegate 1\ndelegate 1",
	} {
		noText(t, s)
		if c, e := call.Untext(s); c != (api.Call{}) || e != api.ErrBytes {
			t.Errorf("%q: %v, %d", s, c, e)
		}
	}
}

// numbersOf are words that are no number's text.
func numbersOf() []string {
	return []string{
		"", "+0", "-0", "+1", "-1", "00", "01", "0258", "000000000000000000000", "00000000000000000001", "018446744073709551615",
		"18446744073709551616", "18446744073709551617", "18446744073709551715", "20000000000000000000", "99999999999999999999", "100000000000000000000", "36893488147419103232", strings.Repeat("9", 1000), strings.Repeat("0", 1000) + "1",
		"0x102", "1e3", "1.0", "1_000", "a", "row", "1a", "a1", "1-", "\x00", "1\x00", "\u0661", "\xff", "1\xff", "\t1", "1\t",
	}
}

// Each such word at each place of each operation.
func TestNoNumbers(t *testing.T) {
	for _, op := range allOps() {
		for _, c := range []api.Call{{Op: op}, usual(op)} {
			l := strings.Split(textModel(c), " ")
			for i := 1; i < len(l); i++ {
				for _, word := range numbersOf() {
					x := slices.Clone(l)
					x[i] = word
					noText(t, strings.Join(x, " "), op, i, word)
				}
			}
		}
	}
}

// Numbers near each bound, at each place.
func TestNumbersNearBounds(t *testing.T) {
	for _, op := range allOps() {
		for i := range rows[op].arity {
			for _, x := range edges() {
				c := usual(op)
				c.Args[i] = x
				if s, e := call.Text(c); e != api.OK || !checkText(t, s) || checkText(t, s+" 0") {
					t.Error(c, s, e)
				}
			}
		}
	}
}

// Words left out, doubled, laid in, and blanks that are more, fewer or others.
func TestOtherWords(t *testing.T) {
	for _, op := range allOps() {
		l := strings.Split(textModel(usual(op)), " ")
		join := func(l []string) string { return strings.Join(l, " ") }
		for i := range l {
			noText(t, join(slices.Delete(slices.Clone(l), i, i+1)), "left out", op, i)
			noText(t, join(slices.Insert(slices.Clone(l), i, l[i])), "doubled", op, i)
			noText(t, join(slices.Insert(slices.Clone(l), i, "")), "a blank more", op, i)
			noText(t, join(slices.Insert(slices.Clone(l), i, "0")), "a nought laid in", op, i)
		}
		for i := 1; i < len(l); i++ {
			for _, blank := range []string{"", "  ", "   ", "\t", "\n", "\r", "\v", "\x00", "_", ",", " \t", "\u00a0", "\u2003"} {
				noText(t, join(l[:i])+blank+join(l[i:]), "a blank", op, i, blank)
			}
		}
		noText(t, join(l)+" ", "a blank behind", op)
		noText(t, " "+join(l), "a blank ahead", op)
		noText(t, join(l)+"\n", "its line's end", op)
	}
}

// Names of other operations, with the arguments of each.
func TestNamesWithOthersArguments(t *testing.T) {
	for _, op := range allOps() {
		for _, k := range known {
			_, words, _ := strings.Cut(k.s, " ")
			s := rows[op].name + " " + words
			if want := rows[op].arity == rows[k.c.Op].arity; checkText(t, s) != want {
				t.Errorf("%q: %v", s, !want)
			}
		}
	}
}

// Right texts with one byte more, one fewer, and another one.
func TestTextsByteByByte(t *testing.T) {
	for _, k := range known {
		for at := range len(k.s) + 1 {
			for by := range 256 {
				one := string([]byte{byte(by)})
				is := checkText(t, k.s[:at]+one+k.s[at:])
				if is && (by < '0' || by > '9') {
					t.Errorf("%q laid into %q at %d", one, k.s, at)
				}
				if at < len(k.s) {
					checkText(t, k.s[:at]+one+k.s[at+1:])
				}
			}
			checkText(t, k.s[:at])
			checkText(t, k.s[at:])
			if at < len(k.s) {
				checkText(t, k.s[:at]+k.s[at+1:])
			}
		}
	}
}

// One line of very many bytes is one line.
func TestLongTexts(t *testing.T) {
	for _, s := range []string{strings.Repeat("row ", 1<<18), strings.Repeat(" ", 1<<20), "row " + strings.Repeat("1", 1<<20), "row " + strings.Repeat("0", 1<<20) + "1", "row 1" + strings.Repeat(" ", 1<<20), strings.Repeat("x", 1<<20), strings.Repeat("\xff", 1<<20), "import" + strings.Repeat(" 1", 1<<19)} {
		noText(t, s)
		noList(t, "row 1\n"+s, 1)
		noList(t, "row 1\n"+s+"\n", 1)
	}
}

// The first wrong line is told, and no call.
func TestWrongLines(t *testing.T) {
	for text, line := range map[string]int{
		"\n":                               0,
		"\n\n":                             0,
		"\nrow 1":                          0,
		"\nrow 1\n":                        0,
		"fly":                              0,
		"fly\n":                            0,
		" ":                                0,
		"row 1":                            0,
		"row 1\n\n":                        1,
		"row 1\n\nrow 1":                   1,
		"row 1\n\nrow 1\n":                 1,
		"row 1\n\n\n":                      1,
		"row 1\nrow 1":                     1,
		"row 1\nfly":                       1,
		"row 1\nfly\n":                     1,
		"row 1\nfly\nfly\n\n":              1,
		"row 1\nrow +1\nrow 18446\n":       1,
		"row 1\nrow 1\nlook 1\nfly":        2,
		"row 1\nrow 1\nrow 1\nrow 1":       3,
		"row 1\r\nrow 1\r\n":               0,
		"row 1\nrow 1\r\n":                 1,
		"row 1\nrow 1 \n":                  1,
		"row 1\n row 1\n":                  1,
		"row 1\n ":                         1,
		"row 1\x00\nrow 1\n":               0,
		"row 1\n\x00":                      1,
		"row 1\u2028row 1\n":               0,
		"row 1 row 1\n":                    0,
		"row\n1\n":                         0,
		"row 1\nrow\n1\n":                  1,
		"row 1\nrow 1\nrow 1\n\n":          3,
		"row 1\nrow 1\nRow 1\nrow 1\nfly ": 2,
		"row 1\n\xff\n":                    1,
	} {
		noList(t, text, line)
	}
}

// A wrong line, and then a second one, at each place of long texts and short ones.
func TestWrongLineAtEachPlace(t *testing.T) {
	for _, many := range []int{1, 2, 3, 40, 65535, 65536} {
		lines := strings.Split(strings.TrimSuffix(textOf(listOf(many)), "\n"), "\n")
		for at := 0; at < many; at += 1 + many/9 {
			for _, wrong := range []string{"fly", "", "row -0", "row 1 "} {
				l := slices.Clone(lines)
				l[at] = wrong
				l[at+(many-at)/2] = wrong
				if x, n, e := call.Unlist(strings.Join(l, "\n") + "\n"); x != nil || n != at || e != api.ErrBytes {
					t.Error(many, at, wrong, len(x), n, e)
				}
			}
		}
		// The last one alone: it has no byte 10.
		if x, n, e := call.Unlist(strings.Join(lines, "\n")); x != nil || n != many-1 || e != api.ErrBytes {
			t.Error(many, len(x), n, e)
		}
	}
	for _, end := range []string{"\n", "fly\n", "x"} {
		if x, n, e := call.Unlist(textOf(listOf(65535)) + end); x != nil || n != 65535 || e != api.ErrBytes {
			t.Errorf("%q: %d, %d, %d", end, len(x), n, e)
		}
	}
}

// Too long is told ahead of every wrong line.
func TestTextTooLong(t *testing.T) {
	most := textOf(listOf(65536))
	for _, text := range []string{
		textOf(listOf(65537)), strings.TrimSuffix(textOf(listOf(65537)), "\n"), textOf(listOf(70000)),
		most + "\n", most + "x", most + "fly\n", most + "row 1", most + "row 1\n", most + " ",
		"\n" + most, "fly\n" + most, strings.Repeat("\n", 65537), strings.Repeat("x\n", 65537), strings.Repeat("x\n", 65536) + "x", strings.Repeat("\n", 1<<20),
	} {
		tooLong(t, text)
	}
	// One line fewer each: not too long.
	for _, text := range []string{strings.Repeat("\n", 65536), strings.Repeat("x\n", 65536), strings.Repeat("x\n", 65535) + "x"} {
		noList(t, text, 0)
	}
}

// A list that is too long is told ahead of a call that may not be.
func TestListTooLong(t *testing.T) {
	is := func(want api.Errno, l []api.Call) {
		t.Helper()
		if s, e := call.List(l...); s != "" || e != want {
			t.Errorf("%d calls: %d bytes, %d; not %d", len(l), len(s), e, want)
		}
	}
	is(api.ErrArg, []api.Call{{}})
	is(api.ErrArg, []api.Call{of(1), {}})
	is(api.ErrArg, []api.Call{{}, of(1)})
	is(api.ErrArg, []api.Call{of(1), of(21, 1, 1), of(1)})
	is(api.ErrArg, make([]api.Call, 65536))
	is(api.ErrLong, make([]api.Call, 65537))
	is(api.ErrLong, make([]api.Call, 100000))
	is(api.ErrLong, listOf(65537))
	l := listOf(65537)
	l[0] = api.Call{}
	is(api.ErrLong, l)
	is(api.ErrArg, l[:65536])
	l = listOf(65537)
	l[65536] = of(22)
	is(api.ErrLong, l)
	l[65535] = of(21, 0, 1)
	is(api.ErrArg, l[:65536])
}

// P21.1 to P21.4, P0.8: calls, bytes and texts by chance, each held against the model.
func TestAny(t *testing.T) {
	r := rand.New(rand.NewSource(216))
	right, wrong := 0, 0
	count := func(is bool) {
		if is {
			right++
		} else {
			wrong++
		}
	}
	for range 5000 {
		c := anyRight(r)
		count(checkBytes(t, spoilt(r, bytesModel(c), "\x00\x01\x15\x16\xff")))
		count(checkText(t, string(spoilt(r, []byte(textModel(c)), "0123456789rowk +-\t\n\x00\xff"))))
		c.Op += api.CallOp(r.Intn(3) - 1)
		c.Args[r.Intn(6)] = pick(r, edges())
		count(check(t, c))
	}
	if right < 2000 || wrong < 2000 {
		t.Error("one-sided:", right, wrong)
	}
}

// Lists of pieces by chance.
func TestAnyList(t *testing.T) {
	r := rand.New(rand.NewSource(217))
	pieces := []string{"\n", "\n", "\n", "row 1", "kill 0", "look 1 2", "row 1\n", "row 1\n", "table 1 2 3 0\n", " ", "0", "-", "fly", "\r", "\x00"}
	right := 0
	for range 20000 {
		var s string
		for range r.Intn(8) {
			s += pick(r, pieces)
		}
		if checkList(t, s) == api.OK {
			right++
		}
	}
	if right < 1000 || right > 19000 {
		t.Error("one-sided:", right)
	}
}

// What was refused leaves nothing behind: what comes after it is as it was.
func TestRefusedKeepsNothing(t *testing.T) {
	for range 3 {
		none(t, api.Call{})
		noBytes(t, make([]byte, 56))
		noText(t, "row 01")
		noList(t, "row 1\nrow", 1)
		checkMake(t, 22)
		for _, k := range known {
			whole(t, k.c)
		}
	}
}
