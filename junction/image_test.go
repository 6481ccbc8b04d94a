package junction_test

import (
	"fmt"
	"math/rand"
	"strconv"
	"strings"
	"sync"
	"testing"
	"unsafe"

	"junction/api"
	"junction/junction"
	"junction/seal"
)

func wantLoaded(t *testing.T, image string) *junction.Table {
	t.Helper()
	table, ok := junction.Load(image)
	if table == nil || !ok {
		t.Fatalf("P7: Load of an image of %d bytes = a table: %v, %v", len(image), table != nil, ok)
	}
	return table
}

func wantNoImage(t *testing.T, image, why string) {
	t.Helper()
	if table, ok := junction.Load(image); table != nil || ok {
		t.Fatalf("P7: Load of %d bytes = a table: %v, %v, though %s", len(image), table != nil, ok, why)
	}
}

// throughImage tells the table that comes of a text by its image.
func throughImage(t *testing.T, text string) *junction.Table {
	t.Helper()
	table := wantFine(t, text)
	image := table.Image()
	if len(image) > api.MaxImage {
		t.Fatalf("P7: the image of %q has %d bytes", text, len(image))
	}
	loaded := wantLoaded(t, image)
	if loaded.Image() != image || table.Image() != image {
		t.Fatalf("P7: the image of %q, loaded, has another image", text)
	}
	wantNothingOfTheText(t, loaded)
	return loaded
}

func wantNothingOfTheText(t *testing.T, loaded *junction.Table) {
	t.Helper()
	if text := loaded.Text(); text != "" {
		t.Fatalf("P3: a table that was loaded has the text %q", text)
	}
	if list := loaded.Overlaps(); len(list) != 0 {
		t.Fatalf("P5: a table that was loaded has the overlaps %+v", list)
	}
	if list := loaded.Dead(); len(list) != 0 {
		t.Fatalf("P6: a table that was loaded has the dead rules %q", list)
	}
}

// greatest writes as many rules as can be, with all that they may have, whose
// ranges share as few digits as can be.
func greatest() string {
	text := ""
	for i := range api.MaxRoutes {
		text += "route nnnnnnn" + strconv.Itoa(i) + " 1000000 1000;"
	}
	for i := range api.MaxRules {
		text += fmt.Sprintf("rule nnnnnnn%d %d: bin %s..%s", i, 1000-i, ofDigits(12345+50001*i, 6), ofDigits(512345+54321*i, 6))
		text += fmt.Sprintf(" mcc 9999, %d, 9998, 0 amount %d..999999999 cur 999, %d, 998, 0", i, i, i)
		text += " -> cheapest nnnnnnn5, nnnnnnn4, nnnnnnn3, nnnnnnn2;"
	}
	return text
}

func TestImageOfTheExample(t *testing.T) {
	table := throughImage(t, example)
	for _, c := range []struct {
		amount, cur int
		down        string
		want        api.Outcome
	}{
		{100, 840, "", forward("us", "a")},
		{300, 840, "", forward("us", "b")},
		{300, 840, "b q", forward("us", "a")},
		{300, 840, "b a", isDown("us")},
		{2000, 840, "", forward("big", "c")},
		{2000, 840, "c", forward("big", "a")},
		{2000, 840, "a c", isDown("big")},
		{1, 978, "", refused("no")},
	} {
		wantOutcome(t, table, api.Payment{Pan: "411111", Mcc: 1, Amount: c.amount, Cur: c.cur}, strings.Fields(c.down), c.want)
	}
	wantOutcome(t, table, card("510000"), nil, noRule)
	wantOutcome(t, table, card("51000"), nil, noPayment)
}

func TestImageWithoutRules(t *testing.T) {
	for _, text := range []string{"", "route a 1 2;"} {
		table := throughImage(t, text)
		wantOutcome(t, table, card("411111"), nil, noRule)
		wantOutcome(t, table, card("4"), nil, noPayment)
	}
}

// wantSameOutcomes holds a table against the text that it comes of.
func wantSameOutcomes(t *testing.T, table *junction.Table, text string, r *rand.Rand, times int) {
	t.Helper()
	asker := newAsker(text)
	for range times {
		p, down := asker.payment(r), drawDown(r)
		wantOutcome(t, table, p, down, asker.decide(p, down))
	}
	if t.Failed() {
		t.Fatalf("by the image of the text %q", plainByTokens(text))
	}
}

func TestImagesOfDrawnTexts(t *testing.T) {
	for seed := range int64(1500) {
		r := rand.New(rand.NewSource(seed))
		for _, text := range []string{writeText(seed), nested(r), crowded(r)} {
			wantSameOutcomes(t, throughImage(t, text), text, r, 30)
		}
	}
}

func TestImageOfTheGreatestRules(t *testing.T) {
	wantSameOutcomes(t, throughImage(t, greatest()), greatest(), rand.New(rand.NewSource(1)), 5000)
}

// What the text looks like, but for its rules, has no say in the image.
func TestImageIsOfTheRules(t *testing.T) {
	for seed := range int64(300) {
		text := writeText(seed)
		if wantFine(t, text).Image() != wantFine(t, plainByTokens(text)).Image() {
			t.Errorf("P7: %q and its plain text have two images", text)
		}
	}
}

// turned turns the bits of a mask from a place on, counted byte by byte, in
// each byte from bit 0 up.
func turned(image string, at int, mask uint32) string {
	b := []byte(image)
	for k := 0; k < 32 && at+k < 8*len(b); k++ {
		b[(at+k)/8] ^= byte(mask>>k&1) << ((at + k) % 8)
	}
	return string(b)
}

func TestEachBitTurned(t *testing.T) {
	for _, text := range []string{"", example, greatest()} {
		image := wantFine(t, text).Image()
		for at := range 8 * len(image) {
			wantNoImage(t, turned(image, at, 1), "a bit was turned")
		}
	}
}

func TestSeveralBitsTurned(t *testing.T) {
	r := rand.New(rand.NewSource(1))
	for _, text := range []string{"", example, writeText(7)} {
		image := wantFine(t, text).Image()
		for at := range 8 * len(image) {
			for _, mask := range []uint32{3, 5, 0x81, 0xff, 0x101, 0xffff, 0x80000001, 0xffffffff, r.Uint32() | 1, r.Uint32() | 0x80000001} {
				wantNoImage(t, turned(image, at, mask), "bits were turned")
			}
		}
	}
}

// The rows at an image's ends are turned in many more ways.
func TestBitsTurnedAtTheEnds(t *testing.T) {
	r := rand.New(rand.NewSource(2))
	image := wantFine(t, example).Image()
	bits := 8 * len(image)
	for _, at := range []int{0, 1, 7, 8, 16, 31, 32, 33, bits - 65, bits - 64, bits - 63, bits - 48, bits - 33, bits - 32, bits - 31, bits - 8, bits - 1} {
		for mask := uint32(1); mask < 1<<12; mask += 2 {
			wantNoImage(t, turned(image, at, mask), "few bits were turned")
		}
		for range 3000 {
			wantNoImage(t, turned(image, at, r.Uint32()|1), "bits were turned")
		}
	}
}

func TestBytesMissing(t *testing.T) {
	for _, text := range []string{"", "route a 0 0;", example, greatest(), writeText(7)} {
		image := wantFine(t, text).Image()
		for i := range image {
			wantNoImage(t, image[:i], "bytes are missing")
		}
	}
}

func TestBytesBehind(t *testing.T) {
	other := wantFine(t, example).Image()
	for _, text := range []string{"", "route a 0 0;", example, greatest(), writeText(7)} {
		image := wantFine(t, text).Image()
		for c := range 256 {
			wantNoImage(t, image+string([]byte{byte(c)}), "a byte stands behind it")
		}
		for n := range 100 {
			wantNoImage(t, image+strings.Repeat("\x00", n+1), "noughts stand behind it")
		}
		for _, more := range []string{image, other, image[len(image)-4:], image[:4]} {
			wantNoImage(t, image+more, "bytes stand behind it")
		}
	}
}

// wantHonest holds for a table that came of any bytes at all.
func wantHonest(t *testing.T, table *junction.Table, image string, r *rand.Rand) {
	t.Helper()
	for range 10 {
		p := api.Payment{Pan: ofDigits(r.Intn(1000000), 6), Mcc: r.Intn(3), Amount: r.Intn(3), Cur: r.Intn(3)}
		if r.Intn(2) == 0 {
			p = api.Payment{Pan: "4" + ofDigits(r.Intn(100000), 5), Mcc: 5411 + r.Intn(2), Amount: r.Intn(api.MaxAmount + 1), Cur: 840}
		}
		if r.Intn(5) == 0 {
			p.Amount -= api.MaxAmount
		}
		down := strings.Split("abc", "")[r.Intn(4):]
		got := table.Decide(p, down)
		wantHonestOutcome(t, got, isDrawnPayment(p))
		if t.Failed() {
			t.Fatalf("P7: Decide(%+v, %q) = %+v by the image %q", p, down, got, image)
		}
	}
	if table.Image() != image {
		t.Fatalf("P7: the image %q, loaded, has another image", image)
	}
	wantNothingOfTheText(t, table)
}

func wantHonestOutcome(t *testing.T, got api.Outcome, is bool) {
	t.Helper()
	decided := got.Kind == api.Forward || got.Kind == api.Refused || got.Kind == api.Down
	switch {
	case got.Kind < api.Forward || got.Kind > api.Down:
		t.Error("P7: there is no such kind")
	case (got.Kind == api.Format) == is:
		t.Error("P7: Format is just for what is no payment")
	case (got.Rule != "") != decided || (got.Route != "") != (got.Kind == api.Forward):
		t.Error("P4: names that are missing, or too many")
	}
}

// checkBytes holds for any bytes; it tells whether they were an image.
func checkBytes(t *testing.T, image string, r *rand.Rand) bool {
	t.Helper()
	table, ok := junction.Load(image)
	if (table != nil) != ok {
		t.Fatalf("P7: Load(%q) = a table: %v, %v", image, table != nil, ok)
	}
	if ok {
		wantHonest(t, table, image, r)
	}
	return ok
}

func TestAnyBytes(t *testing.T) {
	r := rand.New(rand.NewSource(1))
	for code := range 1 << 16 {
		wantNoImage(t, string([]byte{byte(code), byte(code >> 8)}), "it has two bytes")
	}
	for range 20000 {
		b := make([]byte, r.Intn(100))
		r.Read(b)
		checkBytes(t, string(b), r)
		checkBytes(t, seal.Close(string(b)), r)
	}
	for _, image := range []string{"", "\x00", example, strings.Repeat("\x00", 100), strings.Repeat("\xff", 100), strings.Repeat("\x00", 1<<22), strings.Repeat("x", api.MaxImage+1)} {
		wantNoImage(t, image, "nothing was made an image")
	}
}

// The longest chain of nodes, and one that has no end.
func TestBytesThatLeadDeep(t *testing.T) {
	image := wantFine(t, "").Image()
	body, ok := seal.Open(image)
	if !ok {
		t.Fatal("P7: an image is not sealed")
	}
	ahead := body[:len(body)-1]
	for _, depth := range []int{1, 2, 5, 6} {
		nodes := strings.Repeat("\x00", depth) + strings.Repeat("\x01", 9*depth+1)
		table := wantLoaded(t, seal.Close(ahead+nodes))
		wantOutcome(t, table, card("000000"), nil, noRule)
		wantOutcome(t, table, card("999999"), nil, noRule)
	}
	for _, depth := range []int{7, 8, 1000, 150000} {
		wantNoImage(t, seal.Close(ahead+strings.Repeat("\x00", depth)+strings.Repeat("\x01", 9*depth+1)), "it is too deep")
		wantNoImage(t, seal.Close(ahead+strings.Repeat("\x00", depth)), "it has no leaf")
	}
}

// spoiled changes few bytes, puts some in, or takes some out.
func spoiled(body string, r *rand.Rand) string {
	b := []byte(body)
	for range 1 + r.Intn(3) {
		at := r.Intn(len(b))
		switch r.Intn(6) {
		case 0:
			b = append(b[:at], b[at+1:]...)
		case 1:
			b = append(b[:at], append([]byte{byte(r.Intn(8))}, b[at:]...)...)
		case 2:
			b[at] = byte(r.Intn(256))
		case 3:
			b[at] = b[r.Intn(len(b))]
		case 4:
			b[at] ^= 1 << r.Intn(8)
		default:
			b[at] += byte(1 + 254*r.Intn(2))
		}
		if len(b) == 0 {
			break
		}
	}
	return string(b)
}

// Bytes that are nearly an image, with a length and a checksum that fit.
func TestBytesThatAreNearlyAnImage(t *testing.T) {
	r := rand.New(rand.NewSource(3))
	good, bad := 0, 0
	for seed := range int64(60) {
		for _, text := range []string{example, writeText(seed), nested(r), ""} {
			body, ok := seal.Open(wantFine(t, text).Image())
			if !ok {
				t.Fatal("P7: an image is not sealed")
			}
			for range 300 {
				if checkBytes(t, seal.Close(spoiled(body, r)), r) {
					good++
				} else {
					bad++
				}
			}
		}
	}
	if good < 1000 || bad < 1000 {
		t.Errorf("%d are images, %d are none: they are badly drawn", good, bad)
	}
}

// Three images of one length make a fourth one whose checksum fits.
func TestImagesLaidOverOneAnother(t *testing.T) {
	r := rand.New(rand.NewSource(4))
	for range 3000 {
		var images [3]string
		for i := range images {
			low := r.Intn(10)
			images[i] = wantFine(t, fmt.Sprintf("route %c %d %d; rule r %d: bin %d..%d mcc %d -> %c;", 'a', r.Intn(1000001), r.Intn(1001), i, low, low, r.Intn(10000), 'a')).Image()
		}
		if len(images[0]) != len(images[1]) || len(images[1]) != len(images[2]) {
			continue
		}
		b := []byte(images[0])
		for i := range b {
			b[i] ^= images[1][i] ^ images[2][i]
		}
		if _, ok := seal.Open(string(b)); !ok {
			t.Fatal("the checksum does not fit: nothing is tested here")
		}
		checkBytes(t, string(b), r)
	}
}

func FuzzLoad(f *testing.F) {
	for _, text := range []string{"", example, writeText(7)} {
		image := wantFineIn(f, text).Image()
		body, _ := seal.Open(image)
		f.Add(image)
		f.Add(body)
	}
	f.Fuzz(func(t *testing.T, text string) {
		r := rand.New(rand.NewSource(1))
		checkBytes(t, text, r)
		checkBytes(t, seal.Close(text), r)
	})
}

func wantFineIn(f *testing.F, text string) *junction.Table {
	table, _, _ := junction.Compile(text)
	if table == nil {
		f.Fatalf("P2: Compile(%q) tells a fault", text)
	}
	return table
}

// P1: the memory of an image may be used anew once Load has answered.
func TestImageIsNotKept(t *testing.T) {
	image := wantFine(t, example).Image()
	memory := []byte(image)
	table := wantLoaded(t, unsafe.String(&memory[0], len(memory)))
	if string(memory) != image {
		t.Error("P1: the image was changed")
	}
	for i := range memory {
		memory[i] = 'z'
	}
	wantOutcome(t, table, api.Payment{Pan: "411111", Amount: 2000}, []string{"c"}, forward("big", "a"))
	if table.Image() != image {
		t.Error("P1: the table has another image, once the image's memory is used anew")
	}
}

// P1: who writes over an image, or an outcome, changes nothing else.
func TestImageIsNewMemory(t *testing.T) {
	table := wantFine(t, example)
	want := strings.Clone(table.Image())
	for _, one := range []*junction.Table{table, wantLoaded(t, want)} {
		image := one.Image()
		clear(unsafe.Slice(unsafe.StringData(image), len(image)))
		p := api.Payment{Pan: "411111", Amount: 2000}
		first := one.Decide(p, nil)
		*unsafe.StringData(first.Rule), *unsafe.StringData(first.Route) = 'Z', 'Z'
		wantOutcome(t, one, p, nil, forward("big", "c"))
		if one.Image() != want {
			t.Error("P1: the table has another image, once an answer was written over")
		}
	}
	if got := table.Text(); got != plainByTokens(example) {
		t.Errorf("P1: Text() = %q, once an image was written over", got)
	}
}

// P1: tables know nothing of one another, and asking changes nothing.
func TestTablesBesideOneAnother(t *testing.T) {
	one, two := wantFine(t, example), wantFine(t, "route a 1 1; rule s 1: bin 4..5 -> a;")
	oneImage, twoImage := one.Image(), two.Image()
	first, second := wantLoaded(t, oneImage), wantLoaded(t, twoImage)
	p := api.Payment{Pan: "411111", Amount: 300, Cur: 840}
	var wait sync.WaitGroup
	for range 4 {
		wait.Go(func() {
			for range 50 {
				if one.Image() != oneImage || two.Image() != twoImage || first.Image() != oneImage || second.Image() != twoImage {
					t.Error("P1: a table has another image than it had")
				}
				wantOutcome(t, first, p, []string{"b"}, forward("us", "a"))
				wantOutcome(t, first, p, nil, forward("us", "b"))
				wantOutcome(t, second, p, []string{"a"}, isDown("s"))
				wantOutcome(t, second, p, nil, forward("s", "a"))
				if one.Text() != plainByTokens(example) || first.Text() != "" {
					t.Error("P1: a table has another text than it had")
				}
				if len(one.Overlaps()) != 6 || len(one.Dead()) != 1 || len(first.Overlaps()) != 0 || len(first.Dead()) != 0 {
					t.Error("P1: other rules meet than did, or other rules are dead")
				}
			}
		})
	}
	wait.Wait()
}
