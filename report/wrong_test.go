package report_test

import (
	"slices"
	"strings"
	"testing"

	"anchorite/api"
	"anchorite/report"
)

// P18.1

// Of any other number of bytes than 80, whatever they are.
func TestOfNumbersOfBytes(t *testing.T) {
	long := append(modelBytes(usual()), modelBytes(usual())...)
	noBytes(t, nil)
	noBytes(t, []byte{})
	for n := range len(long) + 1 {
		if n == 80 {
			continue
		}
		noBytes(t, long[:n:n], n)
		noBytes(t, long[:n], n)
		noBytes(t, make([]byte, n), n)
		noBytes(t, long[len(long)-n:], n)
	}
	for _, n := range []int{1 << 16, 1<<16 + 80, 1 << 20, 1<<20 + 80} {
		noBytes(t, append(modelBytes(usual()), make([]byte, n-80)...), n)
	}
}

// A byte that is missing, or doubled, at each place.
func TestOfAByteLessOrMore(t *testing.T) {
	b := modelBytes(usual())
	for i := range b {
		noBytes(t, slices.Delete(slices.Clone(b), i, i+1), "less", i)
		noBytes(t, slices.Insert(slices.Clone(b), i, b[i]), "more", i)
		noBytes(t, slices.Insert(slices.Clone(b), i, 0), "more, a nought", i)
	}
	noBytes(t, append(b, 0), "behind")
}

// The name in front: each bit, each byte.
func TestOfOtherNames(t *testing.T) {
	for _, r := range []api.Report{{}, usual()} {
		for i := range 8 {
			for by := range 256 {
				b := modelBytes(r)
				same := b[i] == byte(by)
				b[i] = byte(by)
				if is := checkBytes(t, b); is != same {
					t.Errorf("the byte %d as %d: %v", i, by, is)
				}
			}
		}
		for _, name := range []string{"", "Report\x00\x00", "REPORT\x00\x00", "report  ", "report\x00 ", "report00", "\x00\x00report", "\x00report\x00", "reports\x00", "repotr\x00\x00", "realm\x00\x00\x00", "rec\x00\x00\x00\x00\x00", "troper\x00\x00"} {
			b := modelBytes(r)
			copy(b, make([]byte, 8))
			copy(b, name)
			noBytes(t, b, name)
		}
	}
}

// Parts of a report in another order, ahead of its name.
func TestOfPartsInAnotherOrder(t *testing.T) {
	b := modelBytes(usual())
	noBytes(t, slices.Concat(b[8:], b[:8]))
	noBytes(t, slices.Concat(b[8:16], b[:8], b[16:]))
	noBytes(t, slices.Concat(b[16:48], b[:16], b[48:]))
	back := slices.Clone(b)
	slices.Reverse(back)
	noBytes(t, back)
	noBytes(t, []byte(report.Text(usual()))[:80], "a text")
}

// P18.2

// A text that is cut short, on either side, and what is laid ahead or behind.
func TestUntextShortOrLong(t *testing.T) {
	for _, r := range []api.Report{{}, usual()} {
		s := modelText(r)
		for n := range s {
			noText(t, s[:n], "its begin", n)
			noText(t, s[n+1:], "its end", n)
		}
		for _, x := range []string{" ", "  ", "\n", "\r\n", "\t", "\x00", "0", "f", "instance", s, " " + s, "\n" + s, "\u00a0", "\ufeff"} {
			noText(t, x+s, "ahead", x)
			noText(t, s+x, "behind", x)
		}
	}
	for _, s := range []string{"", " ", "     ", "      ", "instance", "report", "instance measure challenge", "instance 1 measure  challenge ", "instance  measure  challenge "} {
		noText(t, s)
	}
}

// Each byte of a text as each other one.
func TestUntextOfEachByte(t *testing.T) {
	s := []byte(modelText(api.Report{Instance: 1907, Measure: digest(11), Challenge: digest(240)}))
	right := 0
	for i, was := range s {
		for by := range 256 {
			s[i] = byte(by)
			if checkText(t, string(s)) {
				right++
			}
		}
		s[i] = was
	}
	// 128 digits of 16, one that is no nought, three that may be, and 29 bytes that are themselves alone.
	if right != 128*16+9+3*10+29 {
		t.Error(right)
	}
}

// Each byte left out, doubled, and each of some signs laid in at each place.
func TestUntextOfAByteLessOrMore(t *testing.T) {
	s := modelText(api.Report{Instance: 1907, Measure: digest(11), Challenge: digest(240)})
	for i := range len(s) {
		less, more := checkText(t, s[:i]+s[i+1:]), checkText(t, s[:i+1]+s[i:])
		// Of a digit of the number alone: of 1907, 907 begins with no nought.
		if number := i >= 9 && i < 13; less != number || more != number {
			t.Errorf("the byte %d left out: %v; doubled: %v", i, less, more)
		}
		for _, x := range " \t\n\r\x00+-_.,0fFxg\u00a0" {
			is := checkText(t, s[:i]+string(x)+s[i:])
			if number := x == '0' && i > 9 && i <= 13; is != number {
				t.Errorf("%q laid in at %d: %v", x, i, is)
			}
		}
	}
}

// blanks: one more, or another sign, in place of each.
func TestUntextOfBlanks(t *testing.T) {
	l := strings.Split(modelText(usual()), " ")
	for i := 1; i < len(l); i++ {
		for _, blank := range []string{"", "  ", "   ", "\t", "\n", "\r", "\v", "\x00", "_", ",", ":", "=", " \t", "\t ", "\u00a0", "\u2003"} {
			noText(t, strings.Join(l[:i], " ")+blank+strings.Join(l[i:], " "), i, blank)
		}
	}
	for _, blank := range []string{"", "  ", "\t", "\n"} {
		noText(t, strings.Join(l, blank), "all", blank)
	}
}

// with is the text of usual, but for one word.
func with(i int, word string) string {
	l := strings.Split(modelText(usual()), " ")
	l[i] = word
	return strings.Join(l, " ")
}

// Numbers with signs, noughts ahead, too great, of other digits, or none.
func TestUntextOfNumbers(t *testing.T) {
	for _, n := range []string{
		"", "+0", "-0", "+1", "-1", "+258", "-258", "--1", "00", "01", "0258", "000000000000000000000", "00000000000000000001",
		"18446744073709551616", "18446744073709551617", "18446744073709551625", "18446744073709551715", "18446744073709552000", "20000000000000000000", "99999999999999999999", "100000000000000000000", "184467440737095516150", "018446744073709551615",
		"36893488147419103232", "340282366920938463463374607431768211456", strings.Repeat("9", 1000), strings.Repeat("0", 1000) + "1",
		"0x102", "0b1", "0o7", "1e3", "1.0", "1_000", "1,000", "a", "f", "ff", "one", "nan", "inf", "1a", "a1", "1-", "1+", "\x00", "1\x00", "\u0661", "\uff11", "\xff",
	} {
		noText(t, with(1, n), "the number", n)
	}
	for _, n := range []string{"0", "1", "9", "10", "9223372036854775807", "9223372036854775808", "18446744073709551614", "18446744073709551615"} {
		if !checkText(t, with(1, n)) {
			t.Error("the number", n, "should be one")
		}
	}
}

// Names misspelt, left out, twice, or where others stand.
func TestUntextOfNames(t *testing.T) {
	for i, name := range map[int]string{0: "instance", 2: "measure", 4: "challenge"} {
		for _, x := range []string{
			"", strings.ToUpper(name), strings.ToUpper(name[:1]) + name[1:], name[1:], name[:len(name)-1], name + "s", name + ":", name + "=", name + name, name + " " + name,
			"x", "0", "report", "instances", "measured", "challange", name[:1], "\x00", name + "\x00",
		} {
			noText(t, with(i, x), "the name", i, x)
		}
		for _, other := range []string{"instance", "measure", "challenge"} {
			if other != name {
				noText(t, with(i, other), "the name", i, other)
			}
		}
	}
}

// Words left out, doubled, and exchanged with each other one.
func TestUntextOfWordsInAnotherOrder(t *testing.T) {
	l := strings.Split(modelText(usual()), " ")
	join := func(l []string) string { return strings.Join(l, " ") }
	for i := range l {
		noText(t, join(slices.Delete(slices.Clone(l), i, i+1)), "left out", i)
		noText(t, join(slices.Insert(slices.Clone(l), i, l[i])), "doubled", i)
		noText(t, join(slices.Insert(slices.Clone(l), i, "")), "a blank more", i)
		for j := range i {
			x := slices.Clone(l)
			x[i], x[j] = x[j], x[i]
			if both := i == 5 && j == 3; checkText(t, join(x)) != both {
				t.Error("exchanged", i, j)
			}
			for k := range l {
				noText(t, join(slices.Insert(slices.Clone(x), k, x[k])), "exchanged, and doubled", i, j, k)
			}
		}
	}
	for _, order := range [][]int{{1, 0, 2}, {0, 2, 1}, {2, 1, 0}, {1, 2, 0}, {2, 0, 1}, {0, 1}, {0, 2}, {1, 2}, {0}, {1}, {2}, {0, 0, 1, 2}, {0, 1, 1, 2}, {0, 1, 2, 2}, {0, 0, 0}, {0, 1, 2, 0, 1, 2}} {
		var x []string
		for _, i := range order {
			x = append(x, l[2*i], l[2*i+1])
		}
		noText(t, join(x), "parts", order)
	}
	back := slices.Clone(l)
	slices.Reverse(back)
	noText(t, join(back), "all of them back")
}

// Hexadecimal texts of other lengths, of great letters, or of signs that are none.
func TestUntextOfHexadecimal(t *testing.T) {
	word := strings.Fields(modelText(usual()))[3]
	for _, i := range []int{3, 5} {
		for n := range 200 {
			if is := checkText(t, with(i, strings.Repeat("a", n))); is != (n == 64) {
				t.Error("the word", i, "of", n, "digits:", is)
			}
			if is := checkText(t, with(i, strings.Repeat("0", n))); is != (n == 64) {
				t.Error("the word", i, "of", n, "noughts:", is)
			}
		}
		for _, x := range []string{
			strings.ToUpper(word), strings.ToUpper(word[:32]) + word[32:], word[:62] + "0A", "0x" + word, "0x" + word[2:], word + word, word + "00", word[2:], word[:62], word[1:], word[:63],
			word[:63] + "g", "g" + word[1:], word[:32] + " " + word[32:], word[:31] + " " + word[32:], word[:63] + "\x00", word + "\x00", word[:62] + "\u00e9", word[:61] + "\uff11", "+" + word[1:], "-" + word[1:], word[:20] + "_" + word[21:], "\xff" + word[1:],
			strings.Repeat("0", 1<<16), strings.Repeat("f", 1<<16), word + strings.Repeat("0", 1<<10),
		} {
			noText(t, with(i, x), "the word", i)
		}
	}
}

// Texts of very many words, and very long ones.
func TestUntextOfLongTexts(t *testing.T) {
	s := modelText(usual())
	for _, x := range []string{strings.Repeat(" ", 1<<20), s + strings.Repeat(" ", 1<<20), strings.Repeat(" ", 1<<20) + s, strings.Repeat(s+" ", 1<<10), strings.Repeat("instance ", 1<<16), strings.Repeat("9", 1<<20), with(1, strings.Repeat("9", 1<<20)), with(3, strings.Repeat("9", 1<<20)), strings.Repeat("\xff", 1<<20)} {
		noText(t, x)
	}
}

// What was refused leaves nothing behind: what comes after it is as it was.
func TestRefusedKeepsNothing(t *testing.T) {
	for range 3 {
		noBytes(t, make([]byte, 80))
		noText(t, with(5, "00"))
		noText(t, with(0, "Instance"))
		whole(t, usual())
		whole(t, api.Report{})
	}
}
