package compose

import "studwork/api"

// CheckShape returns ErrShape unless a shape is valid (P7.1).
func CheckShape(s api.Shape) api.Errno {
	if !within(s.W, 1, api.MaxSide) || !within(s.D, 1, api.MaxSide) || !within(s.H, 1, api.MaxHigh) {
		return api.ErrShape
	}
	if len(s.Cells) != s.W*s.D*s.H || !within(full(s), 1, api.MaxFull) {
		return api.ErrShape
	}
	for _, color := range s.Cells {
		if color > api.MaxColor {
			return api.ErrShape
		}
	}
	return api.OK
}

// full returns how many cells of a shape are full.
func full(s api.Shape) int {
	n := 0
	for _, color := range s.Cells {
		if color != 0 {
			n++
		}
	}
	return n
}

// Paint returns the shape of a picture in the colours of a palette (P7.4).
func Paint(pixels []api.Hue, palette []api.Hue, w int) (api.Shape, api.Errno) {
	n := len(pixels)
	if !within(w, 1, api.MaxSide) || !within(n, 1, api.MaxFull) || n%w != 0 || n/w > api.MaxSide {
		return api.Shape{}, api.ErrArg
	}
	if !within(len(palette), 1, api.MaxHues) {
		return api.Shape{}, api.ErrArg
	}
	s := api.Shape{W: w, D: n / w, H: 1}
	for _, hue := range pixels {
		s.Cells = append(s.Cells, uint8(nearest(hue, palette)+1))
	}
	return s, api.OK
}

// nearest returns the least index of a hue of the palette that has the least distance.
func nearest(hue api.Hue, palette []api.Hue) int {
	best := 0
	for i, other := range palette {
		if distance(hue, other) < distance(hue, palette[best]) {
			best = i
		}
	}
	return best
}

func distance(a, b api.Hue) int { return square(a.R, b.R) + square(a.G, b.G) + square(a.B, b.B) }

func square(a, b uint8) int {
	d := int(a) - int(b)
	return d * d
}
