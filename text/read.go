package text

import (
	"iter"
	"strconv"
	"strings"

	"studwork/api"
)

// reader is what is known of a text after some of its lines.
type reader struct {
	number int // of the line that is read
	inside bool
	subs   []draft
}

// draft is a sub-model with the names of those that it uses: they are looked up when the whole text is known.
type draft struct {
	name   string
	number int
	lines  []entry
}

// entry is a brick, or a use of what has the name used.
type entry struct {
	number int
	used   string
	brick  api.Brick
}

func (l entry) isUse() bool { return l.used != "" }

// Read returns the document that a text says, or the number of a line that is wrong.
func Read(s string) (api.Doc, int, api.Errno) {
	if len(s) > api.MaxText {
		return api.Doc{}, 0, api.ErrMany
	}
	subs, wrong := parse(s)
	if wrong > 0 {
		return api.Doc{}, wrong, api.ErrForm
	}
	if n := wrongName(subs); n > 0 {
		return api.Doc{}, n, api.ErrName
	}
	if areTooMany(subs) {
		return api.Doc{}, 0, api.ErrMany
	}
	return docOf(subs), 0, api.OK
}

// lines yields the lines of a text: their numbers from 1 on, and their words.
func lines(s string) iter.Seq2[int, []string] {
	return func(yield func(int, []string) bool) {
		for number := 1; s != ""; number++ {
			line, rest, _ := strings.Cut(s, "\n")
			s = rest
			if !yield(number, strings.FieldsFunc(strings.TrimSuffix(line, "\r"), isBlank)) {
				return
			}
		}
	}
}

func isBlank(c rune) bool { return c == ' ' || c == '\t' }

// beginnings returns what reads a line, by its first word. It is given the other words, and tells whether the line is right.
func beginnings() map[string]func(*reader, []string) bool {
	return map[string]func(*reader, []string) bool{
		wordSub:   (*reader).sub,
		wordEnd:   (*reader).end,
		wordBrick: (*reader).brick,
		wordUse:   (*reader).use,
	}
}

// parse returns the sub-models of a text, or the number of the first line that is wrong.
func parse(s string) ([]draft, int) {
	begin := beginnings()
	var r reader
	last := 1
	for number, words := range lines(s) {
		last = number
		if len(words) == 0 || strings.HasPrefix(words[0], remark) {
			continue
		}
		r.number = number
		read, known := begin[words[0]]
		if !known || !read(&r, words[1:]) {
			return nil, number
		}
	}
	if r.inside || len(r.subs) == 0 {
		return nil, last
	}
	return r.subs, 0
}

func (r *reader) sub(words []string) bool {
	if r.inside || len(words) != 1 || !isName(words[0]) {
		return false
	}
	r.inside = true
	r.subs = append(r.subs, draft{name: words[0], number: r.number})
	return true
}

func (r *reader) end(words []string) bool {
	if !r.inside || len(words) > 0 {
		return false
	}
	r.inside = false
	return true
}

func (r *reader) brick(words []string) bool {
	if len(words) == 0 {
		return false
	}
	kind, fits := numberOf(words[0], 0, api.MaxKinds-1)
	return fits && r.add("", kind, words[1:])
}

func (r *reader) use(words []string) bool {
	return len(words) > 0 && isName(words[0]) && r.add(words[0], 0, words[1:])
}

// add adds a line to the sub-model that is read. The words are the numbers that bricks and uses have in common.
func (r *reader) add(used string, kind int, words []string) bool {
	ranges := [5][2]int{
		{-api.MaxPlace, api.MaxPlace}, {-api.MaxPlace, api.MaxPlace}, {-api.MaxPlace, api.MaxPlace},
		{0, api.MaxTurns - 1}, {0, api.MaxColor},
	}
	if !r.inside || len(words) != len(ranges) {
		return false
	}
	var n [len(ranges)]int
	for i, w := range words {
		var fits bool
		if n[i], fits = numberOf(w, ranges[i][0], ranges[i][1]); !fits {
			return false
		}
	}
	b := api.Brick{Kind: kind, At: api.Cell{X: n[0], Y: n[1], Z: n[2]}, Turn: uint8(n[3]), Color: uint8(n[4])}
	last := &r.subs[len(r.subs)-1]
	last.lines = append(last.lines, entry{number: r.number, used: used, brick: b})
	return true
}

// numberOf returns the number that a word is, and whether it fits. There is one way to write a number, so that a word that is not written so differs from what is written for it.
func numberOf(word string, lo, hi int) (int, bool) {
	n, err := strconv.Atoi(word)
	return n, err == nil && within(n, lo, hi) && strconv.Itoa(n) == word
}

// wrongName returns the number of the first line with a name that may not be there, or 0.
func wrongName(subs []draft) int {
	first, last := map[string]int{}, map[string]int{}
	for i, s := range subs {
		if _, known := first[s.name]; !known {
			first[s.name] = i
		}
		last[s.name] = i
	}
	for i, s := range subs {
		if first[s.name] < i {
			return s.number
		}
		for _, l := range s.lines {
			if l.isUse() && last[l.used] <= i {
				return l.number
			}
		}
	}
	return 0
}

func areTooMany(subs []draft) bool {
	if len(subs) > api.MaxSubs {
		return true
	}
	for _, s := range subs {
		if len(s.lines) > api.MaxLines {
			return true
		}
	}
	return false
}

// docOf looks up the names, all of which are right.
func docOf(subs []draft) api.Doc {
	index := map[string]int{}
	for i, s := range subs {
		index[s.name] = i
	}
	var d api.Doc
	for _, s := range subs {
		var all []api.Line
		for _, l := range s.lines {
			sub := noSub
			if l.isUse() {
				sub = index[l.used]
			}
			all = append(all, api.Line{Sub: sub, Brick: l.brick})
		}
		d.Subs = append(d.Subs, subOf(s.name, all))
	}
	return d
}
