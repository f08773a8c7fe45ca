package sum_test

import (
	"bytes"
	"encoding/binary"
	"hash/crc32"
	"math"
	"math/big"
	"math/rand"
	"slices"
	"strings"
	"testing"

	"horarium/api"
	"horarium/sum"
)

const long = 1 << 20

// sumBytes: so many bytes stand behind what is sealed.
const sumBytes = 4

// zeroSum are bytes whose sum is 0, fullSum bytes whose sum is the greatest uint32.
const (
	zeroSum = "\x9d\x0a\xd9\x6d"
	fullSum = "\xff\xff\xff\xff"
)

// allBytes is each byte once.
func allBytes() []byte {
	row := make([]byte, 256)
	for i := range row {
		row[i] = byte(i)
	}
	return row
}

// rows are bytes of all kinds, the same in each run.
func rows() [][]byte {
	out := [][]byte{nil, {}, allBytes(), []byte(zeroSum), []byte(fullSum), []byte("123456789"), []byte(zeroSum + "a"), []byte(zeroSum + zeroSum), []byte(fullSum + fullSum)}
	for _, length := range []int{1, 2, 3, 4, 5, 7, 8, 9, 31, 32, 33, 255, 256, 257, 1000} {
		for _, x := range []byte{0, 1, 127, 128, 255} {
			out = append(out, bytes.Repeat([]byte{x}, length))
		}
	}
	chance := rand.New(rand.NewSource(1))
	for range 500 {
		row := make([]byte, chance.Intn(200))
		chance.Read(row)
		out = append(out, row)
	}
	return out
}

// numbers are numbers at which shifts and products change, and some by chance, the same in each run.
func numbers() []uint64 {
	out := []uint64{0, 1, 2, 3, 255, 256, 123456789, 0x0123456789abcdef, 0x9e3779b97f4a7c15, 0xd6e8feb86659fd93, 0xaaaaaaaaaaaaaaaa, 0x5555555555555555}
	for i := range 64 {
		out = append(out, 1<<i, 1<<i-1, 1<<i+1, math.MaxUint64<<i, math.MaxUint64>>i, ^(uint64(1) << i))
	}
	chance := rand.New(rand.NewSource(2))
	for range 3000 {
		out = append(out, chance.Uint64()>>chance.Intn(64))
	}
	return out
}

// The chapter's words once more, by means of their own

// sealed: what Seal answers.
func sealed(b []byte) []byte {
	return binary.LittleEndian.AppendUint32(bytes.Clone(b), crc32.ChecksumIEEE(b))
}

// opened: what Open answers.
func opened(b []byte) ([]byte, api.Errno) {
	if len(b) < sumBytes {
		return nil, api.ErrShort
	}
	if row := b[:len(b)-sumBytes]; bytes.Equal(sealed(row), b) {
		return row, api.OK
	}
	return nil, api.ErrSum
}

// two: 2^power.
func two(power uint) *big.Int { return new(big.Int).Lsh(big.NewInt(1), power) }

// times: n times a factor, modulo 2^64.
func times(n *big.Int, factor uint64) *big.Int {
	product := new(big.Int).Mul(n, new(big.Int).SetUint64(factor))
	return product.Mod(product, two(64))
}

// by: n put together with itself by 2^power.
func by(n *big.Int, power uint) *big.Int {
	return new(big.Int).Xor(n, new(big.Int).Quo(n, two(power)))
}

// mixed: what Mix answers.
func mixed(n uint64) uint64 {
	row := by(new(big.Int).SetUint64(n), 32)
	row = by(times(row, 0x9e3779b97f4a7c15), 29)
	return by(times(row, 0xd6e8feb86659fd93), 32).Uint64()
}

// digested: what Digest answers.
func digested(b []byte) uint64 {
	n := big.NewInt(int64(len(b)))
	for _, x := range b {
		n.Add(n, big.NewInt(int64(x)+1))
		n.SetUint64(mixed(n.Mod(n, two(64)).Uint64()))
	}
	return n.Uint64()
}

func wantBytes(t *testing.T, call string, got, want []byte) {
	t.Helper()
	if !bytes.Equal(got, want) {
		t.Errorf("%s is % .30x (%d bytes), want % .30x (%d bytes)", call, got, len(got), want, len(want))
	}
}

func wantCrc(t *testing.T, b []byte, want uint32) {
	t.Helper()
	if got := sum.Crc(b); got != want {
		t.Errorf("Crc(% .30x) = %#x, want %#x", b, got, want)
	}
}

func wantMore(t *testing.T, from uint32, b []byte, want uint32) {
	t.Helper()
	if got := sum.More(from, b); got != want {
		t.Errorf("More(%#x, % .30x) = %#x, want %#x", from, b, got, want)
	}
}

func wantOpen(t *testing.T, b, want []byte, err api.Errno) {
	t.Helper()
	if got, e := sum.Open(b); !bytes.Equal(got, want) || e != err {
		t.Errorf("Open(% .30x) = % .30x (%d bytes), %d, want % .30x (%d bytes), %d", b, got, len(got), e, want, len(want), err)
	}
}

func wantMix(t *testing.T, n, want uint64) {
	t.Helper()
	if got := sum.Mix(n); got != want {
		t.Errorf("Mix(%#x) = %#x, want %#x", n, got, want)
	}
	if got := sum.Unmix(want); got != n {
		t.Errorf("Unmix(%#x) = %#x, want %#x", want, got, n)
	}
}

func wantDigest(t *testing.T, b []byte, want uint64) {
	t.Helper()
	if got := sum.Digest(b); got != want {
		t.Errorf("Digest(% .30x) = %#x, want %#x", b, got, want)
	}
}

// P4.1: Crc, More

func TestKnownSums(t *testing.T) {
	for _, c := range []struct {
		text string
		sum  uint32
	}{
		{"", 0}, {"\x00", 0xd202ef8d}, {"\xff", 0xff000000}, {"a", 0xe8b7be43}, {"abc", 0x352441c2}, {"123456789", 0xcbf43926},
		{"\x00\x00\x00\x00", 0x2144df1c}, {strings.Repeat("\x00", 32), 0x190a55ad}, {strings.Repeat("\xff", 32), 0xff6cab0b},
		{"horarium", 0x1e11a2b2}, {"The quick brown fox jumps over the lazy dog", 0x414fa339}, {string(allBytes()), 0x29058c73},
		{zeroSum, 0}, {fullSum, math.MaxUint32},
	} {
		wantCrc(t, []byte(c.text), c.sum)
		wantMore(t, 0, []byte(c.text), c.sum)
	}
	wantCrc(t, nil, 0)
}

func TestSumsOfOneByteAndOfTwo(t *testing.T) {
	for a := range 256 {
		one := []byte{byte(a)}
		wantCrc(t, one, crc32.ChecksumIEEE(one))
		for b := range 256 {
			both := []byte{byte(a), byte(b)}
			wantCrc(t, both, crc32.ChecksumIEEE(both))
		}
	}
}

func TestSumsAgainstTheLibrary(t *testing.T) {
	for _, b := range rows() {
		wantCrc(t, b, crc32.ChecksumIEEE(b))
	}
}

// TestMoreOfCutTexts: from the sum of each beginning the sum of the whole comes, also in many pieces.
func TestMoreOfCutTexts(t *testing.T) {
	for _, b := range rows() {
		whole, byOnes := sum.Crc(b), sum.Crc(nil)
		for cut := range len(b) + 1 {
			wantMore(t, sum.Crc(b[:cut]), b[cut:], whole)
		}
		for i := range b {
			wantCrc(t, b[:i], byOnes)
			byOnes = sum.More(byOnes, b[i:i+1])
		}
		wantCrc(t, b, byOnes)
	}
	b := allBytes()
	for from := range len(b) + 1 {
		for to := from; to <= len(b); to++ {
			wantMore(t, sum.More(sum.Crc(b[:from]), b[from:to]), b[to:], 0x29058c73)
		}
	}
}

// sums are sums of all kinds: each is that of some text.
func sums() []uint32 {
	out := []uint32{0, 1, 255, 256, 0xedb88320, 0xcbf43926, 0x80000000, 0x7fffffff, math.MaxUint32 - 1, math.MaxUint32}
	chance := rand.New(rand.NewSource(3))
	for range 100 {
		out = append(out, chance.Uint32())
	}
	for i := range 32 {
		out = append(out, 1<<i, ^(uint32(1) << i))
	}
	return out
}

func TestMoreFromAnySum(t *testing.T) {
	for _, from := range sums() {
		wantMore(t, from, nil, from)
		wantMore(t, from, []byte{}, from)
		for x := range 256 {
			one := []byte{byte(x)}
			wantMore(t, from, one, crc32.Update(from, crc32.IEEETable, one))
		}
	}
	for i, b := range rows() {
		for _, from := range []uint32{0, math.MaxUint32, uint32(i) * 0x9e3779b9} {
			wantMore(t, from, b, crc32.Update(from, crc32.IEEETable, b))
		}
	}
	wantMore(t, sum.Crc([]byte(zeroSum)), []byte("abc"), crc32.ChecksumIEEE([]byte(zeroSum+"abc")))
	wantMore(t, sum.Crc([]byte(fullSum)), []byte("abc"), crc32.ChecksumIEEE([]byte(fullSum+"abc")))
}

// P4.2: Seal, Open

func TestKnownSeals(t *testing.T) {
	for _, c := range []struct{ text, sealed string }{
		{"", "\x00\x00\x00\x00"},
		{"a", "a\x43\xbe\xb7\xe8"},
		{"123456789", "123456789\x26\x39\xf4\xcb"},
		{"\x00\x00\x00\x00", "\x00\x00\x00\x00\x1c\xdf\x44\x21"},
		{zeroSum, zeroSum + "\x00\x00\x00\x00"},
		{fullSum, fullSum + "\xff\xff\xff\xff"},
	} {
		wantBytes(t, "Seal", sum.Seal([]byte(c.text)), []byte(c.sealed))
		wantOpen(t, []byte(c.sealed), []byte(c.text), api.OK)
	}
	wantBytes(t, "Seal(nil)", sum.Seal(nil), make([]byte, sumBytes))
}

func TestSealsAgainstTheLibrary(t *testing.T) {
	for _, b := range rows() {
		wantBytes(t, "Seal", sum.Seal(b), sealed(b))
		wantOpen(t, sealed(b), b, api.OK)
	}
	for x := range 256 {
		one := []byte{byte(x)}
		wantBytes(t, "Seal", sum.Seal(one), sealed(one))
		wantOpen(t, sealed(one), one, api.OK)
	}
}

// TestFewerThanFourBytes: that there are too few is told ahead of what they are.
func TestFewerThanFourBytes(t *testing.T) {
	wantOpen(t, nil, nil, api.ErrShort)
	wantOpen(t, []byte{}, nil, api.ErrShort)
	for a := range 256 {
		for length := 1; length < sumBytes; length++ {
			wantOpen(t, bytes.Repeat([]byte{byte(a)}, length), nil, api.ErrShort)
			wantOpen(t, sealed([]byte{byte(a)})[:length], nil, api.ErrShort)
		}
	}
}

// TestJustFourBytes: of all of these just the sum of no bytes is one.
func TestJustFourBytes(t *testing.T) {
	wantOpen(t, []byte{0, 0, 0, 0}, []byte{}, api.OK)
	for at := range sumBytes {
		for x := 1; x < 256; x++ {
			row := make([]byte, sumBytes)
			row[at] = byte(x)
			wantOpen(t, row, nil, api.ErrSum)
		}
	}
	for _, n := range sums()[1:] {
		wantOpen(t, binary.LittleEndian.AppendUint32(nil, n), nil, api.ErrSum)
	}
}

// TestSealsCutAndWithMore: neither a seal without some bytes, at either end, nor one with bytes more is one.
func TestSealsCutAndWithMore(t *testing.T) {
	for _, text := range []string{"", "a", "abc", "123456789", zeroSum, fullSum, "horarium", string(allBytes())} {
		row := sealed([]byte(text))
		for length := range row {
			want := api.ErrSum
			if length < sumBytes {
				want = api.ErrShort
			}
			wantOpen(t, row[:length], nil, want)
		}
		for x := range 256 {
			wantOpen(t, append(slices.Clone(row), byte(x)), nil, api.ErrSum)
			wantOpen(t, append([]byte{byte(x)}, row...), nil, api.ErrSum)
		}
		wantOpen(t, append(slices.Clone(row), make([]byte, sumBytes)...), nil, api.ErrSum)
	}
	for _, b := range rows() {
		row := sealed(b)
		for length := range row {
			want, err := opened(row[:length])
			wantOpen(t, row[:length], want, err)
			want, err = opened(row[length:])
			wantOpen(t, row[length:], want, err)
		}
	}
}

// TestOtherSums: the sum's bytes in another order, another sum, and a sum at the wrong end.
func TestOtherSums(t *testing.T) {
	text := []byte("123456789")
	wantOpen(t, binary.BigEndian.AppendUint32(bytes.Clone(text), 0xcbf43926), nil, api.ErrSum)
	wantOpen(t, binary.LittleEndian.AppendUint32(bytes.Clone(text), ^uint32(0xcbf43926)), nil, api.ErrSum)
	wantOpen(t, binary.LittleEndian.AppendUint32(bytes.Clone(text), crc32.Checksum(text, crc32.MakeTable(crc32.Castagnoli))), nil, api.ErrSum)
	wantOpen(t, append([]byte{0x26, 0x39, 0xf4, 0xcb}, text...), nil, api.ErrSum)
	wantOpen(t, append([]byte("123456780"), 0x26, 0x39, 0xf4, 0xcb), nil, api.ErrSum)
	for _, n := range sums() {
		row := binary.LittleEndian.AppendUint32(bytes.Clone(text), n)
		want, err := opened(row)
		wantOpen(t, row, want, err)
	}
	for _, b := range rows() {
		want, err := opened(b)
		wantOpen(t, b, want, err)
	}
}

// P4.3: Mix, Unmix, Digest

func TestKnownMixes(t *testing.T) {
	for _, c := range []struct{ n, mix uint64 }{
		{0, 0}, {1, 0xd8685893e3d7d0e9}, {2, 0x54e9c3468930cdc1}, {3, 0x2ccd08591959cf8d}, {255, 0x5061fabeb3c94ea1},
		{1<<29 - 1, 0xb1905f7feff61179}, {1 << 29, 0xac0c4fd3f9bf4edc}, {1<<32 - 1, 0x625a3ef2c2968367}, {1 << 32, 0x366cbf956d102107}, {1<<32 + 1, 0x2d929202800a9a7a},
		{1 << 58, 0x9e55280c14eb09aa}, {math.MaxInt64, 0x02dcb96babef42af}, {1 << 63, 0x96c94901c0054d3d}, {math.MaxUint64 - 1, 0x88fab292b2887290}, {math.MaxUint64, 0x38895f6f6aeea8e7},
		{0x9e3779b97f4a7c15, 0x36615752e4a1f706}, {0xd6e8feb86659fd93, 0x51ef9b0b08264fe7}, {0x0123456789abcdef, 0xfb59ec87ba5f3971}, {123456789, 0xd635820e50505a43},
		{0x61f32256d0213ee2, 1}, {0xf7215addbd992138, 2}, {0x918d2055cb88edb0, 1 << 32}, {0xfb0fc0e8f1421e21, 1 << 63}, {0x09076809059502a8, math.MaxUint64},
	} {
		wantMix(t, c.n, c.mix)
	}
}

func TestMixesAgainstTheChapter(t *testing.T) {
	for _, n := range numbers() {
		wantMix(t, n, mixed(n))
	}
	for n := range uint64(3000) {
		wantMix(t, n, mixed(n))
	}
}

func TestUnmixIsTurnedBack(t *testing.T) {
	for _, n := range numbers() {
		if got := sum.Unmix(sum.Mix(n)); got != n {
			t.Errorf("Unmix of Mix of %#x is %#x", n, got)
		}
		if got := sum.Mix(sum.Unmix(n)); got != n {
			t.Errorf("Mix of Unmix of %#x is %#x", n, got)
		}
	}
	// A walk by Mix comes back by Unmix.
	from := uint64(0x0123456789abcdef)
	n := from
	for range 100000 {
		n = sum.Mix(n)
	}
	for range 100000 {
		n = sum.Unmix(n)
	}
	if n != from {
		t.Errorf("100000 Mixes and as many Unmixes of %#x lead to %#x", from, n)
	}
}

func TestKnownDigests(t *testing.T) {
	for _, c := range []struct {
		text   string
		digest uint64
	}{
		{"", 0}, {"\x00", 0x54e9c3468930cdc1}, {"\x01", 0x2ccd08591959cf8d}, {"\xff", 0x65d5249bbda0bcb2},
		{"\x00\x00", 0x868567cf872bda4b}, {"\x00\x00\x00\x00", 0xbbdb7eb357cc06df}, {"\xff\xff", 0xe1b535c6b5f60020}, {"\xff\xff\xff\xff", 0x8f1b40899e1c9c1b},
		{"a", 0x926db028c18c52f2}, {"b", 0xab25b1ee6bb6bc35}, {"ab", 0x94eb305b3f957c5c}, {"ba", 0xfe5d90cc62b8673e}, {"abc", 0xf786697dfea9c10c},
		{"horarium", 0x2363d2b74211b5f0}, {"123456789", 0x707d3a5f8312ad30}, {string(allBytes()), 0x08a07e3d2e88ed39},
		{strings.Repeat("\x00", 256), 0x19534c3cd095980c}, {strings.Repeat("\xff", 256), 0x2dd79736a63808e5},
	} {
		wantDigest(t, []byte(c.text), c.digest)
	}
	wantDigest(t, nil, 0)
}

func TestDigestsAgainstTheChapter(t *testing.T) {
	for _, b := range rows() {
		wantDigest(t, b, digested(b))
	}
	for x := range 256 {
		one := []byte{byte(x)}
		wantDigest(t, one, sum.Mix(uint64(x)+2))
		wantDigest(t, append(one, 7), sum.Mix(sum.Mix(uint64(x)+3)+8))
	}
}

// TestUnlikeDigests: bytes of unlike lengths, orders and ends are told apart, though all are 0, or all 255.
func TestUnlikeDigests(t *testing.T) {
	seen := map[uint64]string{}
	tell := func(b []byte) {
		if other, ok := seen[sum.Digest(b)]; ok {
			t.Errorf("of % .30x (%d bytes) and of % .30x (%d bytes) the Digest is %#x", b, len(b), other, len(other), sum.Digest(b))
		}
		seen[sum.Digest(b)] = string(b)
	}
	for length := 1; length < 300; length++ {
		for _, x := range []byte{0, 1, 128, 255} {
			tell(bytes.Repeat([]byte{x}, length))
		}
	}
	for a := range 256 {
		for b := range 256 {
			if a != b {
				tell([]byte{byte(a), byte(b)})
			}
		}
	}
}

// P4.4: what follows

func TestOpenOfSeal(t *testing.T) {
	for _, b := range rows() {
		wantOpen(t, sum.Seal(b), b, api.OK)
		wantOpen(t, sum.Seal(sum.Seal(b)), sum.Seal(b), api.OK)
	}
}

// turn turns the bits of row that pattern has, from the place at on. Bits stand as they are summed: of each byte the lowest one first.
func turn(row []byte, at int, pattern uint32) {
	for i := range 32 {
		if pattern>>i&1 == 1 {
			row[(at+i)/8] ^= 1 << ((at + i) % 8)
		}
	}
}

// patterns are bursts of just so many bits: the first and the last one are turned, of those between none, all, or some.
func patterns(length int, chance *rand.Rand) []uint32 {
	ends := uint32(1) | 1<<(length-1)
	all := uint32(1<<length - 1)
	out := []uint32{ends, all, ends | all&0xaaaaaaaa, ends | all&0xedb88320}
	for range 6 {
		out = append(out, ends|all&chance.Uint32())
	}
	return out
}

// wantBurstTold turns the bits, opens the row, and turns them back.
func wantBurstTold(t *testing.T, row []byte, at int, pattern uint32) {
	t.Helper()
	turn(row, at, pattern)
	wantOpen(t, row, nil, api.ErrSum)
	turn(row, at, pattern)
}

func TestOneBitTurned(t *testing.T) {
	for _, b := range rows() {
		row := sum.Seal(b)
		for at := range 8 * len(row) {
			wantBurstTold(t, row, at, 1)
		}
		wantOpen(t, row, b, api.OK)
	}
}

// TestBurstsTurned: of up to 32 bits, at each place, the sum's own bytes among them.
func TestBurstsTurned(t *testing.T) {
	chance := rand.New(rand.NewSource(4))
	for _, text := range []string{"", "a", "ab", "abcd", zeroSum, fullSum, "123456789", strings.Repeat("\x00", 40), strings.Repeat("\xff", 40), string(allBytes()[:50])} {
		row := sum.Seal([]byte(text))
		for length := 1; length <= 32; length++ {
			for at := range 8*len(row) - length + 1 {
				for _, pattern := range patterns(length, chance) {
					wantBurstTold(t, row, at, pattern)
				}
			}
		}
		wantOpen(t, row, []byte(text), api.OK)
	}
}

// TestEachByteExchanged: any other byte, at each place, is told.
func TestEachByteExchanged(t *testing.T) {
	for _, text := range []string{"", "a", "horarium", string(allBytes())} {
		row := sum.Seal([]byte(text))
		for at, was := range row {
			for x := range 256 {
				if byte(x) == was {
					continue
				}
				row[at] = byte(x)
				wantOpen(t, row, nil, api.ErrSum)
			}
			row[at] = was
		}
	}
}

func TestUnlikeMixes(t *testing.T) {
	seen := map[uint64]uint64{}
	tell := func(n uint64) {
		if other, ok := seen[sum.Mix(n)]; ok && other != n {
			t.Errorf("of %#x and of %#x the Mix is %#x", n, other, sum.Mix(n))
		}
		seen[sum.Mix(n)] = n
	}
	for _, n := range numbers() {
		tell(n)
	}
	for n := range uint64(100000) {
		tell(n)
		tell(n << 32)
		tell(math.MaxUint64 - n)
	}
}

// The rules of the whole

// TestHandedInStays: bytes that are handed in stay as they were, their spare room, too (R4).
func TestHandedInStays(t *testing.T) {
	whole := slices.Concat(sealed([]byte("spare room")), []byte("behind it all"))
	was := bytes.Clone(whole)
	for length := range len(whole) + 1 {
		b := whole[:length]
		sum.Crc(b)
		sum.More(5, b)
		sum.Digest(b)
		row := append(sum.Seal(b), 9, 9, 9, 9)
		clear(row[:cap(row)])
		row, _ = sum.Open(b)
		row = append(row, 9, 9, 9, 9)
		clear(row[:cap(row)])
		wantBytes(t, "what was handed in", whole, was)
	}
}

// TestHandedOutIsNew: what was handed out may be changed, and what was handed in, too: neither is to be seen in the other, nor in a later answer (R4, R6).
func TestHandedOutIsNew(t *testing.T) {
	for _, text := range []string{"", "a", "123456789", string(allBytes())} {
		want := sealed([]byte(text))
		for range 3 {
			b := append(make([]byte, 0, 1000), text...)
			one, other := sum.Seal(b), sum.Seal(b)
			clear(b[:cap(b)])
			wantBytes(t, "Seal", one, want)
			clear(one[:cap(one)])
			wantBytes(t, "Seal", other, want)
			first, _ := sum.Open(other)
			second, _ := sum.Open(other)
			clear(other[:cap(other)])
			wantBytes(t, "Open", first, []byte(text))
			clear(first[:cap(first)])
			wantBytes(t, "Open", second, []byte(text))
		}
	}
}

// TestNothingBesideAnError: beside an error stands no byte (R3).
func TestNothingBesideAnError(t *testing.T) {
	for _, b := range [][]byte{nil, {}, {0, 0, 0}, {0, 0, 0, 1}, []byte("123456789"), bytes.Repeat([]byte{0}, 100)} {
		if row, err := sum.Open(b); len(row) != 0 || err == api.OK {
			t.Errorf("Open(% .30x) = % .30x, %d", b, row, err)
		}
	}
}

func TestLongRows(t *testing.T) {
	b := make([]byte, long)
	rand.New(rand.NewSource(5)).Read(b)
	wantCrc(t, b, crc32.ChecksumIEEE(b))
	wantMore(t, sum.Crc(b[:long/3]), b[long/3:], crc32.ChecksumIEEE(b))
	row := sum.Seal(b)
	wantBytes(t, "Seal", row, sealed(b))
	wantOpen(t, row, b, api.OK)
	row[long/2] ^= 16
	wantOpen(t, row, nil, api.ErrSum)
	n := uint64(long)
	for _, x := range b {
		n = sum.Mix(n + uint64(x) + 1)
	}
	wantDigest(t, b, n)
}
