package tree

import (
	"slices"
	"testing"

	"junction/rules"
)

var powers = [...]int{1, 10, 100, 1000, 10000, 100000, 1000000}

// wantParts asks that the parts are, one behind the other, just the numbers
// of the range, and that none could be greater.
func wantParts(t *testing.T, digits, low, high int) {
	t.Helper()
	next := low
	for p := range parts(digits, rules.Span{Low: low, High: high}) {
		if p.digits < 0 || p.digits > digits {
			t.Fatalf("a part of %d digits, of %d to %d with %d", p.digits, low, high, digits)
		}
		size := powers[digits-p.digits]
		if p.number*size != next {
			t.Fatalf("part %+v of %d to %d with %d digits: %d was to be next", p, low, high, digits, next)
		}
		next += size
		if p.digits > 0 {
			around := size * 10
			first := next - size - (next-size)%around
			if first >= low && first+around-1 <= high {
				t.Fatalf("part %+v of %d to %d with %d digits could be greater", p, low, high, digits)
			}
		}
	}
	if next != high+1 {
		t.Fatalf("the parts of %d to %d with %d digits end ahead of %d", low, high, digits, next)
	}
}

func TestPartsOfEveryShortRange(t *testing.T) {
	for digits := 1; digits <= 3; digits++ {
		for low := range powers[digits] {
			for high := low; high < powers[digits]; high++ {
				wantParts(t, digits, low, high)
			}
		}
	}
}

func TestPartsOfLongRanges(t *testing.T) {
	for digits := 4; digits <= 6; digits++ {
		size := powers[digits]
		ends := []int{0, 1, 9, 10, 99, 100, 1000, size/2 - 1, size / 2, size - 1000, size - 100, size - 11, size - 10, size - 9, size - 2, size - 1}
		for _, low := range ends {
			for _, high := range ends {
				if low <= high {
					wantParts(t, digits, low, high)
				}
			}
		}
	}
}

func TestPartsOfAnExample(t *testing.T) {
	got := slices.Collect(parts(3, rules.Span{Low: 398, High: 521}))
	want := []part{{3, 398}, {3, 399}, {1, 4}, {2, 50}, {2, 51}, {3, 520}, {3, 521}}
	if !slices.Equal(got, want) {
		t.Errorf("parts of 398 to 521: %v, want %v", got, want)
	}
	if got := slices.Collect(parts(6, rules.Span{Low: 0, High: 999999})); !slices.Equal(got, []part{{0, 0}}) {
		t.Errorf("parts of all cards: %v", got)
	}
}

// Who goes through the parts may stop behind each of them.
func TestPartsStopEarly(t *testing.T) {
	span := rules.Span{Low: 11, High: 98887}
	all := slices.Collect(parts(5, span))
	for n := 1; n <= len(all); n++ {
		var got []part
		for p := range parts(5, span) {
			got = append(got, p)
			if len(got) == n {
				break
			}
		}
		if !slices.Equal(got, all[:n]) {
			t.Errorf("the first %d parts: %v, want %v", n, got, all[:n])
		}
	}
}

func TestHolds(t *testing.T) {
	for _, c := range []struct {
		p, q part
		want bool
	}{
		{part{}, part{}, true},
		{part{}, part{6, 123456}, true},
		{part{6, 123456}, part{}, false},
		{part{1, 4}, part{1, 4}, true},
		{part{1, 4}, part{2, 41}, true},
		{part{1, 4}, part{2, 4}, false},
		{part{1, 0}, part{2, 4}, true},
		{part{2, 4}, part{1, 4}, false},
		{part{2, 4}, part{1, 0}, false},
		{part{2, 41}, part{5, 41999}, true},
		{part{2, 41}, part{5, 42000}, false},
	} {
		if got := c.p.holds(c.q); got != c.want {
			t.Errorf("%v holds %v: %v", c.p, c.q, got)
		}
	}
}
