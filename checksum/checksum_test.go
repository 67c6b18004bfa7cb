package checksum

import (
	"bytes"
	"hash/crc32"
	"slices"
	"testing"

	"transit/api"
)

// The chapter's definitions.

// shiftedIn returns the number that shifting the byte x into c gives.
func shiftedIn(c uint32, x byte) uint32 {
	c ^= uint32(x)
	for range 8 {
		if c%2 == 1 {
			c = c/2 ^ 0xEDB88320
		} else {
			c /= 2
		}
	}
	return c
}

// wantedChecksum returns the checksum of b.
func wantedChecksum(b []byte) uint32 {
	c := uint32(0xFFFFFFFF)
	for _, x := range b {
		c = shiftedIn(c, x)
	}
	return c ^ 0xFFFFFFFF
}

// wantedUpdate inverts all bits of c, shifts in each byte of b, and inverts all bits.
func wantedUpdate(c uint32, b []byte) uint32 {
	c ^= 0xFFFFFFFF
	for _, x := range b {
		c = shiftedIn(c, x)
	}
	return c ^ 0xFFFFFFFF
}

// sealedBy returns b and the four bytes of c, most significant byte first.
func sealedBy(b []byte, c uint32) []byte {
	sealed := bytes.Clone(b)
	for _, part := range []uint32{c / (1 << 24), c / (1 << 16), c / (1 << 8), c} {
		sealed = append(sealed, byte(part%256))
	}
	return sealed
}

// wantedAppend returns the sealed string of b.
func wantedAppend(b []byte) []byte {
	return sealedBy(b, wantedChecksum(b))
}

// wantedVerify returns the byte string whose sealed string is b, or the error.
func wantedVerify(b []byte) ([]byte, api.Errno) {
	if len(b) < 4 {
		return nil, api.ErrTruncated
	}
	content := b[:len(b)-4]
	if !bytes.Equal(wantedAppend(content), b) {
		return nil, api.ErrChecksum
	}
	return content, api.OK
}

// inverted returns b, of which the bits first + i are inverted for each bit i of the pattern.
func inverted(b []byte, first int, pattern uint64) []byte {
	changed := bytes.Clone(b)
	for i := range 64 {
		if pattern>>i&1 == 1 {
			bit := first + i
			changed[bit/8] ^= 1 << (bit % 8)
		}
	}
	return changed
}

// Checks of the functions against the definitions.

// checkAll checks CRC32, Append, Verify of the sealed string and of b itself, and Update from several numbers.
func checkAll(t *testing.T, b []byte) {
	t.Helper()
	if got, want := CRC32(b), wantedChecksum(b); got != want {
		t.Fatalf("CRC32(%x) = %08X; want %08X", b, got, want)
	}
	sealed := wantedAppend(b)
	if got := Append(b); !bytes.Equal(got, sealed) {
		t.Fatalf("Append(%x) = %x; want %x", b, got, sealed)
	}
	if got, e := Verify(sealed); !bytes.Equal(got, b) || e != api.OK {
		t.Fatalf("Verify(%x) = %x, %d; want %x", sealed, got, e, b)
	}
	checkVerify(t, b)
	for _, c := range []uint32{0, 0xFFFFFFFF, 0xCBF43926} {
		checkUpdate(t, c, b)
	}
}

// checkUpdate checks Update.
func checkUpdate(t *testing.T, c uint32, b []byte) {
	t.Helper()
	if got, want := Update(c, b), wantedUpdate(c, b); got != want {
		t.Fatalf("Update(%08X, %x) = %08X; want %08X", c, b, got, want)
	}
}

// checkVerify checks Verify.
func checkVerify(t *testing.T, b []byte) {
	t.Helper()
	want, err := wantedVerify(b)
	if got, e := Verify(b); !bytes.Equal(got, want) || e != err {
		t.Fatalf("Verify(%x) = %x, %d; want %x, %d", b, got, e, want, err)
	}
}

// checkDetected checks that Verify finds that b is not a sealed string, and returns no bytes.
func checkDetected(t *testing.T, b []byte) {
	t.Helper()
	if got, e := Verify(b); len(got) != 0 || e != api.ErrChecksum {
		t.Fatalf("Verify(%x) = %x, %d; want no bytes, %d", b, got, e, api.ErrChecksum)
	}
}

// Byte strings.

// number returns the next of some 32-bit numbers without a pattern.
func number(state *uint64) uint32 {
	*state = *state*6364136223846793005 + 1442695040888963407
	return uint32(*state >> 32)
}

// scattered returns n bytes without a pattern.
func scattered(seed, n int) []byte {
	state := uint64(seed)
	b := make([]byte, n)
	for i := range b {
		b[i] = byte(number(&state) >> 24)
	}
	return b
}

// samples returns byte strings of several lengths and kinds.
func samples() [][]byte {
	all := [][]byte{
		nil, {}, {0}, {1}, {0x7F}, {0x80}, {0xFF}, {0, 0}, {0, 1}, {1, 0}, {0xFF, 0xFF}, {0x12, 0x34, 0x56}, {0, 0, 0}, {0xFF, 0, 0xFF},
		{0, 0, 0, 0}, {0xFF, 0xFF, 0xFF, 0xFF}, {1, 2, 3, 4}, {0, 0, 0, 0, 0}, {1, 2, 3, 4, 5}, {0, 0, 0, 0, 0, 0, 0, 0, 1},
		[]byte("a"), []byte("123456789"), []byte("The quick brown fox jumps over the lazy dog"),
		bytes.Repeat([]byte{0}, 32), bytes.Repeat([]byte{0xFF}, 32), bytes.Repeat([]byte{0x20, 0x83, 0xB8, 0xED}, 5),
	}
	for n := range 40 {
		all = append(all, scattered(n, n))
	}
	return append(all, scattered(1, 255), scattered(2, 256), scattered(3, 257), scattered(4, 1000))
}

// starts returns numbers that are updated.
func starts() []uint32 {
	all := []uint32{0, 0xFFFFFFFF, 0xCBF43926, 0xEDB88320, 0x04C11DB7, 0x12345678, 0xFF, 0xFFFFFF00, 0xFF000000, 0x7FFFFFFF}
	for i := range 32 {
		all = append(all, 1<<i)
	}
	return all
}

// P10.1 (CRC32)

func TestCRC32(t *testing.T) {
	tests := []struct {
		b    []byte
		want uint32
	}{
		{nil, 0},
		{[]byte{}, 0},
		{[]byte("123456789"), 0xCBF43926},
		{[]byte("12345678"), 0x9AE0DAAF},
		{[]byte{0}, 0xD202EF8D},
		{[]byte{1}, 0xA505DF1B},
		{[]byte{0x80}, 0x3FBA6CAD},
		{[]byte{0xFF}, 0xFF000000},
		{[]byte{0xFF, 0xFF}, 0xFFFF0000},
		{[]byte{0xFF, 0xFF, 0xFF, 0xFF}, 0xFFFFFFFF},
		{[]byte{0, 0, 0, 0}, 0x2144DF1C},
		{[]byte("a"), 0xE8B7BE43},
		{[]byte("abc"), 0x352441C2},
		{[]byte("cba"), 0xD8AEF480},
		{[]byte("The quick brown fox jumps over the lazy dog"), 0x414FA339},
		{make([]byte, 32), 0x190A55AD},
		{bytes.Repeat([]byte{0xFF}, 32), 0xFF6CAB0B},
		{make([]byte, 1<<16), 0xD7978EEB},
	}
	for _, c := range tests {
		if got := CRC32(c.b); got != c.want {
			t.Errorf("CRC32(%x) = %08X; want %08X", c.b, got, c.want)
		}
	}
}

func TestCRC32OfEachByte(t *testing.T) {
	seen := map[uint32]bool{}
	for x := range 256 {
		b := []byte{byte(x)}
		checkAll(t, b)
		if got, want := CRC32(b), crc32.ChecksumIEEE(b); got != want {
			t.Errorf("CRC32(%x) = %08X; want %08X", b, got, want)
		}
		seen[CRC32(b)] = true
		checkAll(t, []byte{'a', byte(x), 0, 'b', 0xFF})
		checkAll(t, []byte{1, 2, 3, 4, byte(x)})
	}
	if len(seen) != 256 {
		t.Errorf("the strings of one byte have %d checksums", len(seen))
	}
}

func TestAllStringsOfTwoBytes(t *testing.T) {
	for x := range 256 {
		for y := range 256 {
			b := []byte{byte(x), byte(y)}
			if got, want := CRC32(b), wantedChecksum(b); got != want {
				t.Fatalf("CRC32(%x) = %08X; want %08X", b, got, want)
			}
		}
	}
}

func TestManyStrings(t *testing.T) {
	all := samples()
	for seed := range 300 {
		all = append(all, scattered(seed+100, seed))
	}
	for n := range 100 {
		all = append(all, bytes.Repeat([]byte{0}, n), bytes.Repeat([]byte{0xFF}, n), bytes.Repeat([]byte{0, 0, 1}, n))
	}
	all = append(all, scattered(5, 1<<16), scattered(6, 1<<16+1), scattered(7, 100000))
	for _, b := range all {
		checkAll(t, b)
		if got, want := CRC32(b), crc32.ChecksumIEEE(b); got != want {
			t.Fatalf("CRC32(%x) = %08X; want %08X", b, got, want)
		}
	}
}

// P10.2 (Update)

func TestUpdate(t *testing.T) {
	tests := []struct {
		c    uint32
		b    []byte
		want uint32
	}{
		{0, nil, 0},
		{0, []byte("123456789"), 0xCBF43926},
		{0xCBF43926, nil, 0xCBF43926},
		{0xCBF43926, []byte{}, 0xCBF43926},
		{0x9AE0DAAF, []byte("9"), 0xCBF43926},
		{0xFFFFFFFF, nil, 0xFFFFFFFF},
		// All bits of the number are 0 while the bytes 0 are shifted in.
		{0xFFFFFFFF, []byte{0}, 0xFFFFFFFF},
		{0xFFFFFFFF, make([]byte, 100), 0xFFFFFFFF},
		{0xFFFFFFFF, []byte{0x80}, ^uint32(0xEDB88320)},
		{0xFFFFFFFF, []byte{0xC0}, ^uint32(0xEDB88320 ^ 0x76DC4190)},
		{0xFFFFFFFF, []byte{0xFF}, 0xD2FD1072},
		// The upper 24 bits are only moved.
		{0x123456FF, []byte{0}, 0xFF123456},
		{0, []byte{0xFF}, 0xFF000000},
		{0, []byte{0}, 0xD202EF8D},
		{0, []byte{0, 0, 0, 0}, 0x2144DF1C},
	}
	for _, c := range tests {
		if got := Update(c.c, c.b); got != c.want {
			t.Errorf("Update(%08X, %x) = %08X; want %08X", c.c, c.b, got, c.want)
		}
	}
}

func TestUpdateOfManyNumbers(t *testing.T) {
	for _, c := range starts() {
		for _, b := range samples() {
			checkUpdate(t, c, b)
		}
		for x := range 256 {
			checkUpdate(t, c, []byte{byte(x)})
		}
	}
	state := uint64(1)
	for i := range 3000 {
		checkUpdate(t, number(&state), scattered(i, i%20))
	}
}

func TestUpdateInPieces(t *testing.T) {
	b := scattered(8, 30)
	for _, start := range starts() {
		want := wantedUpdate(start, b)
		one := start
		for i := range b {
			one = Update(one, b[i:i+1])
		}
		if one != want {
			t.Errorf("the bytes of %x update %08X to %08X; want %08X", b, start, one, want)
		}
		for i := range len(b) + 1 {
			j := (i + len(b)) / 2
			if got := Update(Update(Update(start, b[:i]), b[i:j]), b[j:]); got != want {
				t.Errorf("the pieces of %x up to %d, %d and the end update %08X to %08X; want %08X", b, i, j, start, got, want)
			}
		}
	}
	b = scattered(9, 1000)
	state := uint64(2)
	for range 50 {
		var c uint32
		for rest := b; len(rest) > 0; {
			n := min(int(number(&state)%50), len(rest))
			c = Update(c, rest[:n])
			rest = rest[n:]
		}
		if want := wantedChecksum(b); c != want {
			t.Errorf("many pieces have the checksum %08X; want %08X", c, want)
		}
	}
}

// P10.3 (Append)

func TestAppend(t *testing.T) {
	tests := []struct {
		b    string
		want string
	}{
		{"", "\x00\x00\x00\x00"},
		{"123456789", "123456789\xCB\xF4\x39\x26"},
		{"abc", "abc\x35\x24\x41\xC2"},
		{"\x00", "\x00\xD2\x02\xEF\x8D"},
		{"\xFF", "\xFF\xFF\x00\x00\x00"},
		{"\xFF\xFF", "\xFF\xFF\xFF\xFF\x00\x00"},
		{"\x00\x00\x00\x00", "\x00\x00\x00\x00\x21\x44\xDF\x1C"},
	}
	for _, c := range tests {
		if got := Append([]byte(c.b)); string(got) != c.want {
			t.Errorf("Append(%q) = %q; want %q", c.b, got, c.want)
		}
	}
	if got := Append(nil); !bytes.Equal(got, []byte{0, 0, 0, 0}) {
		t.Errorf("Append(nil) = %x", got)
	}
}

func TestAppendOfManyStrings(t *testing.T) {
	for _, b := range samples() {
		got := Append(b)
		if len(got) != len(b)+4 || !bytes.Equal(got[:len(b)], b) {
			t.Fatalf("Append(%x) = %x", b, got)
		}
		want := crc32.ChecksumIEEE(b)
		for i, part := range got[len(b):] {
			if part != byte(want>>(24-8*i)) {
				t.Errorf("Append(%x) ends with %x; want %08X", b, got[len(b):], want)
			}
		}
		// A sealed string is a byte string that is sealed like any other.
		if again := Append(got); !bytes.Equal(again, wantedAppend(got)) {
			t.Errorf("Append(%x) = %x", got, again)
		}
	}
}

// P10.4 (Verify)

func TestVerify(t *testing.T) {
	tests := []struct {
		b    string
		want string
		e    api.Errno
	}{
		{"", "", api.ErrTruncated},
		{"\x00", "", api.ErrTruncated},
		{"\x00\x00", "", api.ErrTruncated},
		{"\x00\x00\x00", "", api.ErrTruncated},
		{"abc", "", api.ErrTruncated},
		{"\xFF\xFF\xFF", "", api.ErrTruncated},
		{"\x00\x00\x00\x00", "", api.OK},
		{"\x00\x00\x00\x01", "", api.ErrChecksum},
		{"\x01\x00\x00\x00", "", api.ErrChecksum},
		{"\x80\x00\x00\x00", "", api.ErrChecksum},
		{"\xFF\xFF\xFF\xFF", "", api.ErrChecksum},
		{"\xFF\xFF\x00\x00\x00", "\xFF", api.OK},
		{"\x00\x00\x00\x00\x00", "", api.ErrChecksum},
		{"\x00\xD2\x02\xEF\x8D", "\x00", api.OK},
		{"abc\x35\x24\x41\xC2", "abc", api.OK},
		{"123456789\xCB\xF4\x39\x26", "123456789", api.OK},
		// The checksum with the least significant byte first, with all bits inverted, and of other bytes.
		{"123456789\x26\x39\xF4\xCB", "", api.ErrChecksum},
		{"123456789\x34\x0B\xC6\xD9", "", api.ErrChecksum},
		{"123456788\xCB\xF4\x39\x26", "", api.ErrChecksum},
		{"012345678\xCB\xF4\x39\x26", "", api.ErrChecksum},
		// A byte is missing, or there is one more.
		{"123456789\xCB\xF4\x39", "", api.ErrChecksum},
		{"23456789\xCB\xF4\x39\x26", "", api.ErrChecksum},
		{"123456789\xCB\xF4\x39\x26\x00", "", api.ErrChecksum},
		{"\x00123456789\xCB\xF4\x39\x26", "", api.ErrChecksum},
	}
	for _, c := range tests {
		if got, e := Verify([]byte(c.b)); string(got) != c.want || e != c.e {
			t.Errorf("Verify(%q) = %q, %d; want %q, %d", c.b, got, e, c.want, c.e)
		}
	}
	if got, e := Verify(nil); len(got) != 0 || e != api.ErrTruncated {
		t.Errorf("Verify(nil) = %x, %d", got, e)
	}
}

func TestVerifyOfFewBytes(t *testing.T) {
	for n := range 4 {
		for x := range 256 {
			for y := range 256 {
				b := []byte{byte(x), byte(y), byte(x + y)}[:n]
				if got, e := Verify(b); len(got) != 0 || e != api.ErrTruncated {
					t.Fatalf("Verify(%x) = %x, %d", b, got, e)
				}
			}
		}
	}
	for i := range 4 {
		for x := range 256 {
			b := make([]byte, 4)
			b[i] = byte(x)
			checkVerify(t, b)
			if x != 0 {
				checkDetected(t, b)
			}
		}
	}
}

func TestVerifyOfOneByte(t *testing.T) {
	for x := range 256 {
		for y := range 256 {
			b := sealedBy([]byte{byte(x)}, wantedChecksum([]byte{byte(y)}))
			if x != y {
				checkDetected(t, b)
			} else if got, e := Verify(b); !bytes.Equal(got, []byte{byte(x)}) || e != api.OK {
				t.Fatalf("Verify(%x) = %x, %d", b, got, e)
			}
		}
	}
}

func TestVerifyOfParts(t *testing.T) {
	for _, b := range [][]byte{nil, []byte("123456789"), make([]byte, 9), scattered(10, 60)} {
		sealed := wantedAppend(wantedAppend(b))
		for i := range len(sealed) + 1 {
			for j := i; j <= len(sealed); j++ {
				checkVerify(t, sealed[i:j])
			}
		}
	}
}

// P10.5 (continuation)

func TestContinuation(t *testing.T) {
	all := samples()
	for _, a := range all {
		for _, b := range all {
			want := wantedChecksum(slices.Concat(a, b))
			if got := Update(CRC32(a), b); got != want {
				t.Fatalf("Update(CRC32(%x), %x) = %08X; want %08X", a, b, got, want)
			}
			if got := CRC32(slices.Concat(a, b)); got != want {
				t.Fatalf("CRC32 of %x and %x = %08X; want %08X", a, b, got, want)
			}
		}
	}
	b := scattered(11, 200)
	for i := range len(b) + 1 {
		if got, want := Update(CRC32(b[:i]), b[i:]), CRC32(b); got != want {
			t.Errorf("Update(CRC32(%x), %x) = %08X; want %08X", b[:i], b[i:], got, want)
		}
	}
}

// P10.6 (detection)

func TestDetectionOfBitsAndBytes(t *testing.T) {
	for _, b := range samples() {
		sealed := wantedAppend(b)
		for bit := range min(8*len(sealed), 600) {
			checkDetected(t, inverted(sealed, bit, 1))
		}
		for i := range min(len(sealed), 20) {
			for mask := uint64(1); mask < 256; mask += 6 {
				checkDetected(t, inverted(sealed, 8*i, mask))
			}
			checkDetected(t, inverted(sealed, 8*i, 0xFF))
		}
	}
	sealed := wantedAppend([]byte("1234"))
	for i := range sealed {
		for mask := uint64(1); mask < 256; mask++ {
			checkDetected(t, inverted(sealed, 8*i, mask))
		}
	}
}

// checkBursts checks that Verify detects all patterns of up to length bits that are inverted in b before its last four bytes.
func checkBursts(t *testing.T, b []byte, length int) {
	t.Helper()
	bits := 8 * (len(b) - 4)
	for first := range bits {
		for pattern := uint64(1); pattern < 1<<min(length, bits-first); pattern += 2 {
			checkDetected(t, inverted(b, first, pattern))
		}
	}
}

func TestDetectionOfShortBursts(t *testing.T) {
	checkBursts(t, wantedAppend([]byte{0x5A}), 8)
	checkBursts(t, wantedAppend([]byte{0, 0}), 16)
	checkBursts(t, wantedAppend(scattered(12, 3)), 9)
	checkBursts(t, wantedAppend(scattered(13, 12)), 9)
}

// bursts returns patterns of up to 32 bits of which the first one is set.
func bursts(seed int) []uint64 {
	patterns := []uint64{0xEDB88321, 0x04C11DB7, 0xDB710641, 0x01010101, 0x10000001, 0xAAAAAAAB, 0x55555555}
	state := uint64(seed)
	for i := range 32 {
		mask := uint64(2)<<i - 1
		patterns = append(patterns, mask, 1|1<<i, uint64(number(&state))&mask|1, uint64(number(&state))&mask|1<<i|1)
	}
	return patterns
}

func TestDetectionOfLongBursts(t *testing.T) {
	for _, b := range [][]byte{{1, 2, 3, 4}, make([]byte, 5), []byte("123456789"), bytes.Repeat([]byte{0xFF}, 12), scattered(14, 40)} {
		sealed := wantedAppend(b)
		for first := range 8 * len(b) {
			mask := uint64(1)<<min(32, 8*len(b)-first) - 1
			for _, pattern := range bursts(first) {
				checkDetected(t, inverted(sealed, first, pattern&mask))
			}
		}
	}
	long := wantedAppend(scattered(15, 3000))
	for i, pattern := range bursts(16) {
		checkDetected(t, inverted(long, 175*i, pattern))
	}
}

func TestDetectionInTheLastBytes(t *testing.T) {
	for _, b := range [][]byte{nil, {0}, {0xFF}, []byte("123456789"), make([]byte, 20), scattered(17, 33)} {
		sealed := wantedAppend(b)
		for i := range 32 {
			for j := range i + 1 {
				checkDetected(t, inverted(sealed, 8*len(b), 1<<i|1<<j))
			}
		}
		for _, pattern := range bursts(18) {
			for move := range 32 {
				checkDetected(t, inverted(sealed, 8*len(b), (pattern<<move|pattern>>(32-move))&0xFFFFFFFF))
			}
		}
	}
}

func TestPatternsOfThirtyThreeBits(t *testing.T) {
	// The promise ends at 32 bits: the polynomial itself has 33 bits, and what it changes is a sealed string again.
	for _, b := range [][]byte{make([]byte, 5), []byte("123456789"), scattered(19, 30)} {
		sealed := wantedAppend(b)
		for first := range 8*len(b) - 32 {
			changed := inverted(sealed, first, 0xEDB88320<<1|1)
			if got, e := Verify(changed); !bytes.Equal(got, changed[:len(b)]) || e != api.OK {
				t.Fatalf("Verify(%x) = %x, %d", changed, got, e)
			}
			checkDetected(t, inverted(sealed, first, 0xEDB88320<<1&0xFFFFFFFF|1))
		}
	}
}

// P10.7 (linearity)

// xor returns the bitwise exclusive or of three byte strings of the same length.
func xor(a, b, c []byte) []byte {
	sum := bytes.Clone(a)
	for i := range sum {
		sum[i] ^= b[i] ^ c[i]
	}
	return sum
}

// checkLinear checks P10.7 for a, b and c.
func checkLinear(t *testing.T, a, b, c []byte) {
	t.Helper()
	if got, want := CRC32(xor(a, b, c)), CRC32(a)^CRC32(b)^CRC32(c); got != want {
		t.Fatalf("the exclusive or of %x, %x and %x has the checksum %08X; want %08X", a, b, c, got, want)
	}
}

func TestLinearity(t *testing.T) {
	for n := range 200 {
		zeros, ones := make([]byte, n), bytes.Repeat([]byte{0xFF}, n)
		for seed := range 10 {
			a, b, c := scattered(seed+20, n), scattered(seed+30, n), scattered(seed+40, n)
			checkLinear(t, a, b, c)
			checkLinear(t, a, b, zeros)
			checkLinear(t, zeros, a, ones)
			checkLinear(t, a, a, b)
			checkLinear(t, c, c, c)
		}
	}
	var sums [256]uint32
	for x := range sums {
		sums[x] = CRC32([]byte{byte(x)})
	}
	for x := range sums {
		for y := range sums {
			for z := range x + 1 {
				if sums[x^y^z] != sums[x]^sums[y]^sums[z] {
					t.Fatalf("the checksums of the bytes %d, %d and %d have another exclusive or than %08X", x, y, z, sums[x^y^z])
				}
			}
		}
	}
}

// Rules: arguments are unchanged, and results are new memory.

// roomy returns b with memory behind it, and a function that reports whether all of it is unchanged.
func roomy(b []byte) ([]byte, func() bool) {
	all := slices.Concat(b, []byte("behind the string"))
	before := bytes.Clone(all)
	return all[:len(b)], func() bool { return bytes.Equal(all, before) }
}

// results returns the results of Append and Verify.
func results(b []byte) [][]byte {
	verified, _ := Verify(b)
	return [][]byte{Append(b), verified}
}

// overwrite changes all bytes of b, and those for which it has room.
func overwrite(b []byte) {
	for i := range b[:cap(b)] {
		b[:cap(b)][i] ^= 0xA5
	}
}

// stringsToPass returns byte strings of which some are sealed strings.
func stringsToPass() [][]byte {
	all := samples()
	for _, b := range samples() {
		all = append(all, wantedAppend(b))
	}
	return all
}

func TestArgumentsAreUnchanged(t *testing.T) {
	for _, one := range stringsToPass() {
		b, same := roomy(one)
		got, want := results(b), results(bytes.Clone(one))
		CRC32(b)
		Update(0x12345678, b)
		if !same() {
			t.Errorf("%x was changed", one)
		}
		for i, r := range got {
			if !bytes.Equal(r, want[i]) {
				t.Errorf("result %d of %x = %x; want %x", i, one, r, want[i])
			}
			overwrite(r)
		}
		if !same() {
			t.Errorf("a result shares memory with %x", one)
		}
	}
}

func TestResultsShareNoMemory(t *testing.T) {
	for _, b := range stringsToPass() {
		first, second := results(b), results(b)
		for _, r := range first {
			overwrite(r)
		}
		for i, r := range results(b) {
			if !bytes.Equal(r, second[i]) {
				t.Errorf("result %d of %x = %x after another result was changed; want %x", i, b, r, second[i])
			}
		}
	}
}

func TestArgumentsAreNotKept(t *testing.T) {
	for _, one := range stringsToPass() {
		b := bytes.Clone(one)
		got, want := results(b), results(one)
		sum := CRC32(b)
		overwrite(b)
		for i, r := range got {
			if !bytes.Equal(r, want[i]) {
				t.Errorf("result %d of %x = %x after the string was changed; want %x", i, one, r, want[i])
			}
		}
		if again := CRC32(one); again != sum {
			t.Errorf("CRC32(%x) = %08X, and %08X before", one, again, sum)
		}
	}
}

func TestResultsDependOnArgumentsOnly(t *testing.T) {
	all := stringsToPass()
	var sums []uint32
	for _, b := range all {
		sums = append(sums, CRC32(b))
	}
	for i, b := range slices.Backward(all) {
		Update(sums[i], b)
		Verify(b)
		if got := CRC32(b); got != sums[i] {
			t.Errorf("CRC32(%x) = %08X, and %08X before", b, got, sums[i])
		}
	}
}

// P1: every function terminates and does not panic.

func FuzzChecksum(f *testing.F) {
	for i, b := range stringsToPass() {
		f.Add(uint32(i)*0x9E3779B1, b, uint64(i), uint32(1)<<(i%32))
	}
	f.Fuzz(func(t *testing.T, c uint32, b []byte, place uint64, pattern uint32) {
		checkAll(t, b)
		checkUpdate(t, c, b)
		checkVerify(t, sealedBy(b, c))
		i := int(place % uint64(len(b)+1))
		if got, want := Update(Update(c, b[:i]), b[i:]), wantedUpdate(c, b); got != want {
			t.Fatalf("Update of %08X by %x and %x gives %08X; want %08X", c, b[:i], b[i:], got, want)
		}
		sealed := wantedAppend(b)
		if pattern == 0 {
			return
		}
		checkDetected(t, inverted(sealed, 8*len(b), uint64(pattern)))
		if places := 8*len(b) - 31; places > 0 {
			checkDetected(t, inverted(sealed, int(place%uint64(places)), uint64(pattern)))
		}
	})
}
