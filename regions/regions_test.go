package regions

import (
	"math/rand"
	"slices"
	"testing"

	"junction/api"
	"junction/rules"
)

var mosts = [sides]int{card: 999999, mcc: api.MaxMcc, amount: api.MaxAmount, cur: api.MaxCur}

// drawArea draws spans next to one another on each side; some are all of it.
func drawArea(r *rand.Rand) area {
	var a area
	for side := range a {
		switch {
		case r.Intn(3) == 0:
			a[side] = []rules.Span{{Low: 0, High: mosts[side]}}
		case side == mcc || side == cur:
			for range 1 + r.Intn(api.MaxList) {
				n := r.Intn(6)
				a[side] = append(a[side], rules.Span{Low: n, High: n})
			}
		default:
			low := r.Intn(6)
			a[side] = []rules.Span{{Low: low, High: low + r.Intn(4)}}
		}
	}
	return a
}

func (a area) holds(p payment) bool {
	for side, n := range p {
		if !a.has(side, n) {
			return false
		}
	}
	return true
}

// members tells which areas have a payment.
func members(areas []area, p payment) (bits int) {
	for i, a := range areas {
		if a.holds(p) {
			bits |= 1 << i
		}
	}
	return bits
}

func drawAreas(r *rand.Rand) (area, []area) {
	var others []area
	for range r.Intn(api.MaxRules) {
		others = append(others, drawArea(r))
	}
	return drawArea(r), others
}

// Each payment is of the area, is told once, and with how many have it.
func TestPaymentsAreOfTheArea(t *testing.T) {
	r := rand.New(rand.NewSource(1))
	for range 300 {
		a, others := drawAreas(r)
		told := map[payment]bool{}
		for p, had := range payments(a, others) {
			count := 0
			for _, o := range others {
				if o.holds(p) {
					count++
				}
			}
			if !a.holds(p) || told[p] || had != count {
				t.Fatalf("payment %v, told to be of %d areas: of its own area %v, told before %v, of %d of %v", p, had, a.holds(p), told[p], count, others)
			}
			told[p] = true
		}
	}
}

// Whatever others a payment of the area is in: one that is told is in the same.
func TestPaymentsStandForAll(t *testing.T) {
	r := rand.New(rand.NewSource(2))
	for range 100 {
		a, others := drawAreas(r)
		stand := map[int]bool{}
		for p := range payments(a, others) {
			stand[members(others, p)] = true
		}
		for code := range 10 * 7 * 11 * 7 {
			p := payment{card: code % 10, mcc: code / 10 % 7, amount: code / 70 % 11, cur: code / 770}
			if p[amount] == 10 {
				p[amount] = api.MaxAmount
			}
			if a.holds(p) && !stand[members(others, p)] {
				t.Fatalf("no payment of %v stands for %v among %v", a, p, others)
			}
		}
	}
}

// Who goes through the payments may stop behind each of them.
func TestPaymentsStopEarly(t *testing.T) {
	r := rand.New(rand.NewSource(3))
	for range 50 {
		a, others := drawAreas(r)
		var all []payment
		for p := range payments(a, others) {
			all = append(all, p)
		}
		for n := 1; n <= len(all); n += 1 + n/10 {
			var got []payment
			for p := range payments(a, others) {
				got = append(got, p)
				if len(got) == n {
					break
				}
			}
			if !slices.Equal(got, all[:n]) {
				t.Fatalf("the first %d payments: %v, want %v", n, got, all[:n])
			}
		}
	}
}

func TestAnAreaAloneIsOneRegion(t *testing.T) {
	a := areaOf(rules.Rule{Digits: 2, Bin: rules.Span{Low: 4, High: 17}})
	count := 0
	for p, had := range payments(a, nil) {
		if p != (payment{card: 40000}) || had != 0 {
			t.Errorf("payment %v of %d others stands for %v", p, had, a)
		}
		count++
	}
	if count != 1 {
		t.Errorf("%d payments stand for one region", count)
	}
}

// However rules lie, the regions stay few: no call takes long.
func TestRegionsAreFew(t *testing.T) {
	r := rand.New(rand.NewSource(4))
	most := 0
	for range 3000 {
		a, others := drawAreas(r)
		count := 0
		for range payments(a, others) {
			count++
		}
		most = max(most, count)
	}
	if most > 20000 {
		t.Errorf("%d regions", most)
	}
}
