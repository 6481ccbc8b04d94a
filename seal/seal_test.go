package seal

import (
	"hash/crc32"
	"math/rand"
	"strings"
	"testing"

	"junction/api"
)

func drawBody(r *rand.Rand, length int) string {
	b := make([]byte, length)
	r.Read(b)
	return string(b)
}

func wantOpen(t *testing.T, body string) string {
	t.Helper()
	sealed := Close(body)
	if got, ok := Open(sealed); got != body || !ok {
		t.Fatalf("P7: Open of %d bytes, sealed, = the body: %v, %v", len(body), got == body, ok)
	}
	return sealed
}

func wantSpoiled(t *testing.T, sealed, how string) {
	t.Helper()
	if got, ok := Open(sealed); got != "" || ok {
		t.Fatalf("P7: Open = %q, %v, once %s", got, ok, how)
	}
}

func TestSumIsTheOneThatIsWellKnown(t *testing.T) {
	r := rand.New(rand.NewSource(1))
	for length := range 300 {
		body := drawBody(r, length)
		if got, want := sum(body), crc32.ChecksumIEEE([]byte(body)); got != want {
			t.Fatalf("sum(%q) = %x, want %x", body, got, want)
		}
	}
}

func TestWhatIsSealedOpens(t *testing.T) {
	r := rand.New(rand.NewSource(2))
	for length := range 300 {
		wantOpen(t, drawBody(r, length))
		wantOpen(t, strings.Repeat("\x00", length))
		wantOpen(t, strings.Repeat("\xff", length))
	}
}

// turned turns the bits of a mask from a place on, counted from bit 0 up.
func turned(sealed string, at int, mask uint32) string {
	b := []byte(sealed)
	for k := 0; k < 32 && at+k < 8*len(b); k++ {
		b[(at+k)/8] ^= byte(mask>>k&1) << ((at + k) % 8)
	}
	return string(b)
}

// Every row begins at each bit: within the length, the body and the checksum,
// and across their borders.
func TestTurnedBitsShow(t *testing.T) {
	r := rand.New(rand.NewSource(3))
	for _, length := range []int{0, 1, 2, 3, 5, 40} {
		sealed := wantOpen(t, drawBody(r, length))
		for at := range 8 * len(sealed) {
			for mask := uint32(1); mask < 1<<10; mask += 2 {
				wantSpoiled(t, turned(sealed, at, mask), "few bits were turned")
			}
			for range 200 {
				wantSpoiled(t, turned(sealed, at, r.Uint32()|1), "many bits were turned")
			}
			wantSpoiled(t, turned(sealed, at, 1<<31|1), "two bits were turned")
			wantSpoiled(t, turned(sealed, at, 1<<32-1), "all bits of a row were turned")
		}
	}
}

func TestMissingBytesShow(t *testing.T) {
	r := rand.New(rand.NewSource(4))
	for length := range 100 {
		for _, body := range []string{drawBody(r, length), strings.Repeat("\x00", length), Close(strings.Repeat("x", length))} {
			sealed := wantOpen(t, body)
			for i := range sealed {
				wantSpoiled(t, sealed[:i], "bytes were missing")
			}
		}
	}
}

func TestBytesBehindShow(t *testing.T) {
	r := rand.New(rand.NewSource(5))
	for length := range 50 {
		sealed := wantOpen(t, drawBody(r, length))
		for c := range 256 {
			wantSpoiled(t, sealed+string([]byte{byte(c)}), "a byte stood behind")
		}
		wantSpoiled(t, sealed+sealed, "it stood there twice")
		wantSpoiled(t, sealed+word(sum(sealed)), "its checksum stood behind")
	}
}

// A length that fits, with a checksum that does not, is not enough.
func TestTheSumIsAskedFor(t *testing.T) {
	for n := range uint32(8) {
		wantSpoiled(t, word(9+n)+strings.Repeat("x", int(n+1))+"\x00\x00\x00\x00", "the checksum was none")
	}
}

func TestNothingIsLongerThanAnImage(t *testing.T) {
	const ends = 2 * wordSize
	wantOpen(t, strings.Repeat("x", api.MaxImage-ends))
	wantSpoiled(t, Close(strings.Repeat("x", api.MaxImage-ends+1)), "it was too long")
	wantSpoiled(t, strings.Repeat("\x00", 1<<24), "it was far too long")
}
