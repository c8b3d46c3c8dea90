package link

import (
	"math"
	"testing"

	"diurnal/api"
)

// P12.1: the example; 4, then each twice as many, at most MaxItems.
func TestRoom(t *testing.T) {
	for k, want := range []int{4, 8, 16, 32, 64, 128, 256, 256, 256, 256} {
		if got := Room(k); got != want {
			t.Errorf("Room(%d): %d; want %d", k, got, want)
		}
	}
	for k := range 1000 {
		if got, next := Room(k), Room(k+1); next != min(2*got, api.MaxItems) {
			t.Errorf("Room(%d): %d, and behind it %d", k, got, next)
		}
	}
}

// P12.1: at the greatest numbers it ends, and does not go round; below 0 there
// is none.
func TestRoomAtTheEdges(t *testing.T) {
	for _, k := range []int{61, 62, 63, 64, 65, 127, 128, 1 << 31, 1<<32 + 3, 1 << 40, math.MaxInt - 1, math.MaxInt} {
		if got := Room(k); got != 256 {
			t.Errorf("Room(%d): %d; want 256", k, got)
		}
	}
	for _, k := range []int{-1, -2, -63, -64, -1 << 32, math.MinInt + 1, math.MinInt} {
		if got := Room(k); got != 0 {
			t.Errorf("Room(%d): %d; want 0", k, got)
		}
	}
}
