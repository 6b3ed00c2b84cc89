package hinge_test

import (
	"testing"

	"studwork/api"
)

func TestP5_1Angle(t *testing.T) {
	if len(wantTable) != 36 {
		t.Fatal(len(wantTable))
	}
	for n, want := range wantTable {
		if got := angle(n); got != (result{turn{want[0], want[1], want[2]}, api.OK}) {
			t.Error(n, got, want)
		}
	}
	for n, want := range map[int]turn{0: {-1, 0, 1}, 1: {0, -1, 1}, 2: {0, 1, 1}, 3: {1, 0, 1}, 4: {-4, -3, 5}, 11: {4, 3, 5}, 12: {-12, -5, 13}, 20: {-15, -8, 17}, 28: {-24, -7, 25}, 34: {24, -7, 25}, 35: {24, 7, 25}} {
		if got := angle(n); got != (result{want, api.OK}) {
			t.Error(n, got, want)
		}
	}
}

func TestP5_1AngleErrArg(t *testing.T) {
	for _, n := range append([]int{-1, 36, 37}, extremes...) {
		allFail(t, n, map[string]result{"Angle": angle(n)}, api.ErrArg)
	}
}
