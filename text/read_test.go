package text_test

import (
	"fmt"
	"math/rand"
	"strings"
	"testing"

	"studwork/api"
	"studwork/text"
)

func wantRead(t *testing.T, s string, want api.Doc) {
	t.Helper()
	if d, n, e := text.Read(s); e != api.OK || n != 0 || !sameDocs(d, want) {
		t.Errorf("%.200q: got %v %d %d, want %v", s, d, n, e, want)
	}
}

func wantFail(t *testing.T, s string, number int, want api.Errno) {
	t.Helper()
	if d, n, e := text.Read(s); e != want || n != number || d.Subs != nil {
		t.Errorf("%.200q: got %v %d %d, want %d %d", s, d, n, e, number, want)
	}
}

func TestP2_2Example(t *testing.T) {
	wantRead(t, carText, car())
	wantRead(t, strings.Replace(carText, "use ", "use  \t", 1), car())
	wantFail(t, strings.Replace(carText, "use", "USE", 1), 2, api.ErrForm)
	wantFail(t, strings.Replace(carText, "brick 2 1 0 0 1 0", "brick 16 1 0 0 1 0", 1), 6, api.ErrForm)
	wantFail(t, strings.Replace(carText, "use axle", "use wheel", 1), 2, api.ErrName)
	wantFail(t, strings.TrimSuffix(carText, "end\n"), 7, api.ErrForm)
}

func TestP2_2Tolerant(t *testing.T) {
	a := doc(sub("a", line(1, 2, -3, 4, 5, 6)))
	for _, s := range []string{
		"sub a\nbrick 1 2 -3 4 5 6\nend\n",
		"sub a\nbrick 1 2 -3 4 5 6\nend",
		"sub a\r\nbrick 1 2 -3 4 5 6\r\nend\r\n",
		"sub a\r\nbrick 1 2 -3 4 5 6\nend\r",
		"\tsub \t a\t\n  brick\t1  2\t\t-3 \t4 5 6 \r\n end \t\n",
		"\n\r\n \t\n#\n# a\n#sub b\n\t #brick\r\nsub a\n\n#end\nbrick 1 2 -3 4 5 6\n\r\n ##\nend\n\n# end\n  ",
		"# \xff\x00\u00e9\nsub a\nbrick 1 2 -3 4 5 6\nend\n#",
	} {
		wantRead(t, s, a)
	}
	wantRead(t, "sub sub\nuse end 0 0 0 0 0\nuse use 0 0 0 0 0\nend\nsub brick\nend\nsub use\nend\nsub end\nend", doc(sub("sub", use(3, 0, 0, 0, 0, 0), use(2, 0, 0, 0, 0, 0)), sub("brick"), sub("use"), sub("end")))
}

// wrongLines are lines that are wrong inside of a sub-model.
func wrongLines() []string {
	l := []string{
		"sub b", "sub", "Sub b", "brick", "use", "end end", "end 0", "End", "END", "ends", "en", "x", "brick1 0 0 0 0 0", "use2 0 0 0 0 0", "brick #", "end # of a", "end#",
		"brick 0 0 0 0 0", "brick 0 0 0 0 0 0 0", "brick 0 0 0 0 0 0 #", "brick 0 0 0 0 0,0", "brick a 0 0 0 0 0", "brick 0 0 0 0 0 red",
		"use b", "use b 0 0 0 0", "use b 0 0 0 0 0 0", "use b 0 0 0 0 0 #", "use 0 0 0 0 0", "use 0 0 0 0 0 0", "use b 0 0 0 0 x", "usage b 0 0 0 0 0",
		"\rend", "end\r\r", "end\r \r", "end\v", "end\u00a0", "\ufeffend", "brick 0 0 0\r0 0 0", "brick 0 0 0\f0 0 0", "brick 0 0 0\u00a00 0 0", "brick 0 0 0\v0 0 0", "\r\r", "\v", "\f", "\x00", "\u00a0", "\u2028", "\xff",
	}
	for _, n := range []string{"-0", "+0", "+1", "00", "01", "007", "-01", "--1", "- 1", "1.0", "1e0", "0x1", "0b1", "1_0", "\u0661", "1\u00a0", "-", "+", "x", "1-", "99999999999999999999", "-99999999999999999999", "9223372036854775808", "4294967296", "18446744073709551616", "1001", "-1001"} {
		for i := range 6 {
			words := strings.Fields("0 0 0 0 0 0")
			words[i] = n
			l = append(l, "brick "+strings.Join(words, " "))
			if i > 0 {
				l = append(l, "use b "+strings.Join(words[1:], " "))
			}
		}
	}
	for _, s := range badNames() {
		if !strings.ContainsAny(s, " \t\n") { // blanks would part words, or belong to none
			l = append(l, "use "+s+" 0 0 0 0 0")
		}
	}
	return append(l, "brick 16 0 0 0 0 0", "brick -1 0 0 0 0 0", "brick 256 0 0 0 0 0", "brick 0 0 0 0 24 0", "brick 0 0 0 0 -1 0", "brick 0 0 0 0 256 0", "brick 0 0 0 0 0 16", "brick 0 0 0 0 0 -1", "brick 0 0 0 0 0 256",
		"use b 0 0 0 24 0", "use b 0 0 0 -1 0", "use b 0 0 0 0 16", "use b 0 0 0 0 -1")
}

func TestP2_2WrongInside(t *testing.T) {
	for _, l := range wrongLines() {
		wantFail(t, "sub a\n"+l+"\nend\nsub b\nend\n", 2, api.ErrForm)
		wantFail(t, "# c\n\nsub a\nbrick 0 0 0 0 0 0\n"+l+"\nbrick\nend\nsub b\nend\n", 5, api.ErrForm)
		wantFail(t, "sub a\nend\nsub b\nbrick 0 0 0 0 0 0\n"+l, 5, api.ErrForm)
	}
}

func TestP2_2WrongOutside(t *testing.T) {
	wrong := []string{"end", "brick 0 0 0 0 0 0", "use a 0 0 0 0 0", "use b 0 0 0 0 0", "sub", "sub a b", "sub b #", "SUB b", "x", "subs b", "sub# b", "sub\rb", "b"}
	for _, s := range badNames() {
		if !strings.ContainsAny(s, " \t\n\r") {
			wrong = append(wrong, "sub "+s)
		}
	}
	for _, l := range wrong {
		wantFail(t, l, 1, api.ErrForm)
		wantFail(t, l+"\nsub a\nend\n", 1, api.ErrForm)
		wantFail(t, "sub a\nend\n\n"+l+"\nsub b\nend\n", 4, api.ErrForm)
		wantFail(t, "sub a\nend\n"+l, 3, api.ErrForm)
	}
}

// Skipped lines have numbers, and the end of a text is at its last line.
func TestP2_2TheEnd(t *testing.T) {
	for s, n := range map[string]int{
		"": 1, "\n": 1, "\r": 1, " ": 1, "\n\n": 2, "\n ": 2, "#": 1, "# a\n\n\n#\n": 4,
		"sub a": 1, "sub a\n": 1, "sub a\n\n": 2, "sub a\n\n ": 3, "sub a\nbrick 0 0 0 0 0 0\n# end\n": 3,
		"sub a\nend\nsub b\n": 3, "sub a\nend\nsub b\nbrick 0 0 0 0 0 0\n\n\n": 6,
		// An earlier line is wrong.
		"x\n\n": 1, "sub a\nx\n\n": 2, "\nend\n": 2,
	} {
		wantFail(t, s, n, api.ErrForm)
	}
}

func TestP2_2Names(t *testing.T) {
	for s, n := range map[string]int{
		"sub a\nend\nsub a\nend\n":                                       3,
		"sub a\nend\n#\n\nsub b\nend\nsub a\nend\nsub b\nend":            7,
		"sub a\nuse a 0 0 0 0 0\nend\n":                                  2,
		"sub a\nuse b 0 0 0 0 0\nend\n":                                  2,
		"sub b\nend\nsub a\nbrick 0 0 0 0 0 0\nuse b 0 0 0 0 0\nend\n":   5,
		"sub b\nend\nsub a\nuse b 0 0 0 0 0\nuse c 0 0 0 0 0\nend":       4,
		"sub a\nuse b 0 0 0 0 0\nuse c 0 0 0 0 0\nend\nsub b\nend\n":     3,
		"sub a\nend\nsub a\nuse c 0 0 0 0 0\nend\nsub b\nend\n":          3,
		"sub a\nuse c 0 0 0 0 0\nend\nsub a\nend\nsub b\nend\n":          2,
		"sub a\nuse a 0 0 0 0 0\nend\nsub a\nend\n":                      4, // a later sub-model has the name a
		"sub a\nuse b 0 0 0 0 0\nend\nsub b\nend\nsub b\nend\n":          6,
		"sub a\nend\nsub b\nuse b 0 0 0 0 0\nend\nsub b\nend\n":          6,
		"sub a\nuse abcdefghijkl 0 0 0 0 0\nend\nsub abcdefghijk\nend\n": 2,
	} {
		wantFail(t, s, n, api.ErrName)
		// A line that is wrong comes first, wherever it is.
		wantFail(t, s+"\nend\n", strings.Count(s+"\nend\n", "\n"), api.ErrForm)
	}
}

// subs is a text of n sub-models with m bricks each.
func subs(n, m int) string {
	var b strings.Builder
	for i := range n {
		fmt.Fprintf(&b, "sub s%d\n%send\n", i, strings.Repeat("brick 0 0 0 0 0 0\n", m))
	}
	return b.String()
}

func TestP2_2Many(t *testing.T) {
	full := doc()
	for i := range 8 {
		full.Subs = append(full.Subs, sub(fmt.Sprint("s", i), times(20, line(0, 0, 0, 0, 0, 0))...))
	}
	wantRead(t, subs(8, 20), full)
	wantRead(t, strings.ReplaceAll(subs(8, 20), "brick", "\n#\nbrick"), full) // skipped lines do not count
	wantFail(t, subs(9, 0), 0, api.ErrMany)
	wantFail(t, subs(1, 21), 0, api.ErrMany)
	wantFail(t, subs(8, 20)+"sub x\nend\n", 0, api.ErrMany)
	wantFail(t, subs(3, 20)+"sub x\n"+strings.Repeat("brick 0 0 0 0 0 0\n", 21)+"end\n", 0, api.ErrMany)
	wantFail(t, "sub x\n"+strings.Repeat("brick 0 0 0 0 0 0\n", 10)+strings.Repeat("use s0 0 0 0 0 0\n", 11)+"end\n"+subs(1, 1), 0, api.ErrMany)
	// Wrong lines and names come first.
	wantFail(t, subs(9, 21)+"x\n", 9*23+1, api.ErrForm)
	wantFail(t, subs(9, 21)+"sub s0\nend\n", 9*23+1, api.ErrName)
	wantFail(t, subs(9, 21)+"sub x\nuse s0 0 0 0 0 0\nend\n", 9*23+2, api.ErrName)
}

func TestP2_2Long(t *testing.T) {
	fill := func(s string, n int) string { return s + strings.Repeat(" ", n-len(s)) }
	wantRead(t, fill(carText, 20000), car())
	wantRead(t, carText+strings.Repeat("\n", 20000-len(carText)), car())
	wantFail(t, fill(carText, 20001), 0, api.ErrMany)
	wantFail(t, fill(carText+"x", 20000), 9, api.ErrForm)
	wantFail(t, fill(carText+"x", 20001), 0, api.ErrMany) // before ErrForm
	wantFail(t, fill(carText+"sub car\nend\n", 20001), 0, api.ErrMany)
	wantFail(t, strings.Repeat("\n", 20000), 20000, api.ErrForm)
	wantFail(t, strings.Repeat("\n", 20001), 0, api.ErrMany)
	wantFail(t, strings.Repeat("a", 20000), 1, api.ErrForm)
	wantFail(t, strings.Repeat("x", 3000000), 0, api.ErrMany)
}

func TestP2_6WrittenAndRead(t *testing.T) {
	r := rand.New(rand.NewSource(3))
	docs := []api.Doc{car(), tree(), chain(8, 20, times(20, line(0, 0, 0, 0, 0, 0))...), doc(sub("a"))}
	for range 300 {
		docs = append(docs, randomDoc(r, 1000, 20))
	}
	for _, d := range docs {
		s, e := text.Write(d)
		wantErr(t, d, e, api.OK)
		wantRead(t, s, d)
		wantErr(t, d, text.Check(d), api.OK)
		again, n, e := text.Read(s)
		if s2, f := text.Write(again); e != api.OK || f != api.OK || n != 0 || s2 != s {
			t.Fatalf("%q is written again as %q", s, s2)
		}
	}
}

// spread returns the same text with other blanks, skipped lines and ends of lines.
func spread(r *rand.Rand, s string) string {
	var b strings.Builder
	blanks := func(least int) string {
		var s string
		for range least + r.Intn(3) {
			s += string(" \t"[r.Intn(2)])
		}
		return s
	}
	newline := func() string { return []string{"\n", "\r\n"}[r.Intn(2)] }
	for _, l := range strings.Split(strings.TrimSuffix(s, "\n"), "\n") {
		for range r.Intn(3) {
			b.WriteString(blanks(0) + []string{"", "#", "# end", "#\t brick 0", "##\r"}[r.Intn(5)] + newline())
		}
		b.WriteString(blanks(0))
		for i, w := range strings.Split(l, " ") {
			if i > 0 {
				b.WriteString(blanks(1))
			}
			b.WriteString(w)
		}
		b.WriteString(blanks(0) + newline())
	}
	return b.String()
}

func TestP2_6SaysTheSame(t *testing.T) {
	r := rand.New(rand.NewSource(4))
	for range 300 {
		d := randomDoc(r, 1000, 12)
		s := spread(r, wantText(d))
		if len(s) <= api.MaxText {
			wantRead(t, s, d)
		}
	}
}

// What is read at all is a valid document, is written, and is read as the same: here texts with a few bytes changed.
func TestP2_6ReadAndWritten(t *testing.T) {
	r := rand.New(rand.NewSource(5))
	words := []string{" ", "\n", "\r", "\t", "#", "0", "-", "1", "a", "end", "sub", "use", "brick", "b", "\xff", "end\n", "sub c\n"}
	good := 0
	for range 20000 {
		s := carText
		if r.Intn(2) == 0 {
			s = wantText(randomDoc(r, 30, 3))
		}
		for range 1 + r.Intn(2) {
			at := r.Intn(len(s) + 1)
			to := min(len(s), at+r.Intn(3))
			s = s[:at] + words[r.Intn(len(words))] + s[to:]
		}
		d, n, e := text.Read(s)
		if e != api.OK {
			last := max(1, strings.Count(strings.TrimSuffix(s, "\n"), "\n")+1)
			if d.Subs != nil || e == api.ErrMany && n != 0 || e != api.ErrMany && (n < 1 || n > last) {
				t.Fatalf("%q: %v %d %d", s, d, n, e)
			}
			continue
		}
		good++
		w, e := text.Write(d)
		if e != api.OK || n != 0 {
			t.Fatalf("%q is read as %v", s, d)
		}
		wantRead(t, w, d)
	}
	if good < 1000 {
		t.Error("only", good, "texts were read")
	}
}
