package text

import (
	"strconv"
	"strings"

	"studwork/api"
)

// Write returns the text of a document.
func Write(d api.Doc) (string, api.Errno) {
	if e := Check(d); e != api.OK {
		return "", e
	}
	var b strings.Builder
	for _, s := range d.Subs {
		writeLine(&b, wordSub, s.Name)
		for _, l := range s.Lines {
			writeLine(&b, wordsOf(d, l)...)
		}
		writeLine(&b, wordEnd)
	}
	return b.String(), api.OK
}

func writeLine(b *strings.Builder, words ...string) {
	b.WriteString(strings.Join(words, " "))
	b.WriteByte('\n')
}

// wordsOf returns the words of a brick or a use.
func wordsOf(d api.Doc, l api.Line) []string {
	b := l.Brick
	words := []string{wordBrick, strconv.Itoa(b.Kind)}
	if !isBrick(l) {
		words = []string{wordUse, d.Subs[l.Sub].Name}
	}
	for _, n := range [...]int{b.At.X, b.At.Y, b.At.Z, int(b.Turn), int(b.Color)} {
		words = append(words, strconv.Itoa(n))
	}
	return words
}
