package text

import "studwork/api"

// Check returns ErrBad unless a document is valid.
func Check(d api.Doc) api.Errno {
	if !within(len(d.Subs), 1, api.MaxSubs) {
		return api.ErrBad
	}
	for i, s := range d.Subs {
		if !isName(s.Name) || indexOf(d.Subs, s.Name) != i || !areLines(s.Lines, i, len(d.Subs)) {
			return api.ErrBad
		}
	}
	return api.OK
}

// isName counts bytes: characters of more than one byte are in no name.
func isName(s string) bool {
	if !within(len(s), 1, api.MaxName) {
		return false
	}
	for i, c := range s {
		letter := 'a' <= c && c <= 'z'
		later := '0' <= c && c <= '9' || c == '-'
		if !letter && (i == 0 || !later) {
			return false
		}
	}
	return true
}

// areLines tells whether lines are those of the sub-model i of n.
func areLines(l []api.Line, i, n int) bool {
	if len(l) > api.MaxLines {
		return false
	}
	for _, x := range l {
		if !isLine(x, i, n) {
			return false
		}
	}
	return true
}

func isLine(l api.Line, i, n int) bool {
	b := l.Brick
	if !isPlace(b.At) || b.Turn >= api.MaxTurns || b.Color > api.MaxColor {
		return false
	}
	if isBrick(l) {
		return within(b.Kind, 0, api.MaxKinds-1)
	}
	return within(l.Sub, i+1, n-1) && b.Kind == 0
}
