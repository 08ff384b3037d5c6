package crc_test

import (
	"bytes"
	"encoding/hex"
	"sync"
	"testing"

	"brevet/api"
	"brevet/crc"
)

// pattern is data in which neighbours, and bytes a word apart, are unlike.
func pattern(n int) []byte {
	b := make([]byte, n)
	for i := range b {
		b[i] = byte(7*i + 3)
	}
	return b
}

func refused(t *testing.T, what any, data []byte, want api.Errno) {
	t.Helper()
	if got, err := crc.Open(data); err != want || len(got) != 0 {
		t.Errorf("Open of %v: %x, %v, want nothing, %v", what, got, err, want)
	}
}

func opened(t *testing.T, what any, data, want []byte) {
	t.Helper()
	if got, err := crc.Open(data); err != api.OK || !bytes.Equal(got, want) {
		t.Errorf("Open of %v: %x, %v, want %x", what, got, err, want)
	}
}

// P2.1: the smallest and the greatest sum are among these.
func TestSumOfKnown(t *testing.T) {
	for _, c := range []struct {
		data string
		want int
	}{
		{"", 0},
		{"\x00", 3523407757},
		{"\x00\x00", 1104745215},
		{"\x00\x00\x00\x00", 558161692},
		{"\x01", 2768625435},
		{"\x80", 1069182125},
		{"\xff", 4278190080},
		{"\xff\xff\xff\xff", 4294967295},
		{"a", 3904355907},
		{"b", 1908338681},
		{"ab", 2659403885},
		{"ba", 749160980},
		{"abc", 891568578},
		{"123456789", 3421780262},
		{"message digest", 538287487},
		{"The quick brown fox jumps over the lazy dog", 1095738169},
		{string(make([]byte, 32)), 420107693},
		{string(bytes.Repeat([]byte{255}, 32)), 4285311755},
		{"abc\xc2\x41\x24\x35", 558161692},
	} {
		if got := crc.Sum([]byte(c.data)); got != c.want {
			t.Errorf("Sum of %x: %d, want %d", c.data, got, c.want)
		}
	}
}

// P2.1
func TestSumOfLengths(t *testing.T) {
	for n, want := range map[int]int{
		1: 0x4b0bbe37, 2: 0x8a21a822, 3: 0x6d58af33, 4: 0x7ed34e62, 5: 0xfcc83142,
		7: 0x54491cdb, 8: 0xe2e35978, 9: 0x3d351cfe,
		31: 0xd07f9b5b, 32: 0xa10e8695, 33: 0x6bc53502,
		127: 0xefb66daa, 128: 0xbd5d2e01, 129: 0xd10950af,
		255: 0x8af1eb92, 256: 0x78825239, 257: 0x1476b46d,
		1000: 0x17bc2a46, 32768: 0x76de2acd, 1000000: 0x12ad5d03,
	} {
		if got := crc.Sum(pattern(n)); got != want {
			t.Errorf("Sum of %d bytes: %x, want %x", n, got, want)
		}
	}
}

// P2.1: the sums of each single byte, and of each length, put into one by an outside program.
func TestSumOfSums(t *testing.T) {
	var single, lengths []byte
	for b := range 256 {
		single = append(single, lowestFirst(crc.Sum([]byte{byte(b)}))...)
	}
	for n := range 401 {
		lengths = append(lengths, lowestFirst(crc.Sum(pattern(n)))...)
	}
	if got := crc.Sum(single); got != 0x5e117a53 {
		t.Errorf("Sum of the sums of single bytes: %x", got)
	}
	if got := crc.Sum(lengths); got != 0x624eca1b {
		t.Errorf("Sum of the sums of lengths: %x", got)
	}
}

func lowestFirst(sum int) []byte {
	return []byte{byte(sum), byte(sum >> 8), byte(sum >> 16), byte(sum >> 24)}
}

// byWords is the check sum as the document's words tell it, step by step.
func byWords(data []byte) int {
	sum := 1<<32 - 1
	for _, b := range data {
		sum = sum - sum%256 + (sum%256 ^ int(b))
		for range 8 {
			if sum%2 == 1 {
				sum = sum/2 ^ 0xEDB88320
			} else {
				sum = sum / 2
			}
		}
	}
	return 1<<32 - 1 - sum
}

// P2.1
func TestSumByWords(t *testing.T) {
	for n := range 300 {
		if got, want := crc.Sum(pattern(n)), byWords(pattern(n)); got != want {
			t.Fatalf("Sum of %d bytes: %x, want %x", n, got, want)
		}
	}
	for i := range 1 << 16 {
		data := []byte{byte(i), byte(i >> 8)}
		if got, want := crc.Sum(data), byWords(data); got != want {
			t.Fatalf("Sum of %x: %x, want %x", data, got, want)
		}
	}
}

// P2.1
func TestSumIsOf32Bits(t *testing.T) {
	for n := range 1000 {
		if got := crc.Sum(pattern(n)); got < 0 || got > 1<<32-1 {
			t.Fatalf("Sum of %d bytes: %d", n, got)
		}
	}
}

// P2.1
func TestSealOfKnown(t *testing.T) {
	for data, want := range map[string]string{
		"":                    "00000000",
		"\x00":                "008def02d2",
		"\xff":                "ff000000ff",
		"\xff\xff\xff\xff":    "ffffffffffffffff",
		"\x00\x00\x00\x00":    "000000001cdf4421",
		"a":                   "6143beb7e8",
		"abc":                 "616263c2412435",
		"abc\x00\x00\x00\x00": "61626300000000e33b032b",
		"123456789":           "3132333435363738392639f4cb",
	} {
		if got := hex.EncodeToString(crc.Seal([]byte(data))); got != want {
			t.Errorf("Seal of %x: %s, want %s", data, got, want)
		}
	}
}

// P2.1
func TestSealIsDataAndSum(t *testing.T) {
	for n := range 300 {
		want := append(pattern(n), lowestFirst(crc.Sum(pattern(n)))...)
		if got := crc.Seal(pattern(n)); !bytes.Equal(got, want) {
			t.Fatalf("Seal of %d bytes: %x, want %x", n, got, want)
		}
	}
}

// P2.1
func TestOpenOfKnown(t *testing.T) {
	for data, want := range map[string]string{
		"\x00\x00\x00\x00":                 "",
		"\x00\x8d\xef\x02\xd2":             "\x00",
		"a\x43\xbe\xb7\xe8":                "a",
		"abc\xc2\x41\x24\x35":              "abc",
		"\xff\xff\xff\xff\xff\xff\xff\xff": "\xff\xff\xff\xff",
		"123456789\x26\x39\xf4\xcb":        "123456789",
	} {
		opened(t, []byte(data), []byte(data), []byte(want))
	}
}

// P2.1: too short is told first, also of bytes that begin as what is sealed.
func TestOpenOfShort(t *testing.T) {
	refused(t, "nil", nil, api.ErrShort)
	for n := range 4 {
		refused(t, n, make([]byte, n), api.ErrShort)
		refused(t, n, pattern(n), api.ErrShort)
		refused(t, n, crc.Seal([]byte("abc"))[:n], api.ErrShort)
	}
	opened(t, "four noughts", make([]byte, 4), nil)
	refused(t, "four others", pattern(4), api.ErrSum)
}

// P2.1: the last four bytes are a sum, but of something else, or not in their order.
func TestOpenOfWrongSum(t *testing.T) {
	for _, data := range []string{
		"\x00\x00\x00\x01",
		"\x01\x00\x00\x00",
		"\xff\xff\xff\xff",
		"\x00\x00\x00\x00\x00",
		"abc\x35\x24\x41\xc2",
		"abc\x3d\xbe\xdb\xca",
		"abd\xc2\x41\x24\x35",
		"abc\x43\xbe\xb7\xe8",
		"abc\x00\x00\x00\x00",
		"abc\xc2\x41\x24\x35\x00",
		"\x00abc\xc2\x41\x24\x35",
		"bc\xc2\x41\x24\x35",
		"ab\xc2\x41\x24\x35",
		"\xc2\x41\x24\x35abc",
		"abc\xc2\x41\x24",
		"acb\xc2\x41\x24\x35",
		"123456789",
	} {
		refused(t, []byte(data), []byte(data), api.ErrSum)
	}
}

// P2.1
func TestOpenOfCutOff(t *testing.T) {
	sealed := crc.Seal(pattern(60))
	for n := 4; n < len(sealed); n++ {
		refused(t, n, sealed[:n], api.ErrSum)
		refused(t, n, sealed[len(sealed)-n:], api.ErrSum)
	}
}

// P2.2
func TestSealedIsOpened(t *testing.T) {
	for n := range 500 {
		opened(t, n, crc.Seal(pattern(n)), pattern(n))
		opened(t, n, crc.Seal(make([]byte, n)), make([]byte, n))
		opened(t, n, crc.Seal(bytes.Repeat([]byte{255}, n)), bytes.Repeat([]byte{255}, n))
	}
	opened(t, "nil", crc.Seal(nil), nil)
}

// P2.2
func TestSealedTwice(t *testing.T) {
	once := crc.Seal(pattern(20))
	twice := crc.Seal(once)
	opened(t, "twice", twice, once)
	opened(t, "once", once, pattern(20))
}

// P2.2: each byte of what is sealed, those of the sum too, as each other byte.
func TestNoByteIsAnother(t *testing.T) {
	for _, n := range []int{0, 1, 2, 3, 4, 5, 9, 40, 128} {
		sealed := crc.Seal(pattern(n))
		for i := range sealed {
			for other := 1; other < 256; other++ {
				sealed[i] ^= byte(other)
				if got, err := crc.Open(sealed); err != api.ErrSum || len(got) != 0 {
					t.Fatalf("of %d bytes, byte %d xored with %d: %x, %v", n, i, other, got, err)
				}
				sealed[i] ^= byte(other)
			}
		}
		opened(t, n, sealed, pattern(n))
	}
}

// R4
func TestNilIsEmpty(t *testing.T) {
	if crc.Sum(nil) != crc.Sum([]byte{}) {
		t.Error("Sum: nil and empty are unlike")
	}
	if !bytes.Equal(crc.Seal(nil), crc.Seal([]byte{})) {
		t.Error("Seal: nil and empty are unlike")
	}
	_, one := crc.Open(nil)
	_, other := crc.Open([]byte{})
	if one != other {
		t.Error("Open: nil and empty are unlike")
	}
}

// R4
func TestHandedInStays(t *testing.T) {
	for n := range 200 {
		memory := pattern(600)
		copy(memory[300:], crc.Seal(pattern(n)))
		want := bytes.Clone(memory)
		data, sealed := memory[100:100+n], memory[300:300+n+4]
		crc.Sum(data)
		crc.Seal(data)
		crc.Open(data)
		crc.Open(sealed)
		if !bytes.Equal(memory, want) {
			t.Fatalf("of %d bytes handed in some, or their spare room, were changed", n)
		}
	}
}

// R4: also the room behind an answer.
func TestAnsweredIsNew(t *testing.T) {
	for _, n := range []int{0, 1, 4, 8, 100} {
		memory := append(crc.Seal(pattern(n)), pattern(100)...)
		want := bytes.Clone(memory)
		sealed := memory[:n+4]
		first, _ := crc.Open(sealed)
		second, _ := crc.Open(sealed)
		clear(first[:cap(first)])
		if !bytes.Equal(memory, want) || !bytes.Equal(second, pattern(n)) {
			t.Errorf("Open, %d bytes: the answer shares memory", n)
		}
		clear(memory)
		if !bytes.Equal(second, pattern(n)) {
			t.Errorf("Open, %d bytes: what was handed in is kept in the answer", n)
		}

		memory = pattern(n + 100)
		one, other := crc.Seal(memory[:n]), crc.Seal(memory[:n])
		clear(one[:cap(one)])
		if !bytes.Equal(memory, pattern(n+100)) || !bytes.Equal(other, want[:n+4]) {
			t.Errorf("Seal, %d bytes: the answer shares memory", n)
		}
		clear(memory)
		if !bytes.Equal(other, want[:n+4]) {
			t.Errorf("Seal, %d bytes: what was handed in is kept in the answer", n)
		}
	}
}

// R5: not on the place, the spare room, or what was asked ahead.
func TestHangsOnBytesAlone(t *testing.T) {
	for _, n := range []int{0, 1, 3, 4, 8, 61} {
		sum, sealed := crc.Sum(pattern(n)), crc.Seal(pattern(n))
		for shift := range 9 {
			memory := bytes.Repeat([]byte{0xa5}, shift+n+50)
			copy(memory[shift:], sealed)
			wide := memory[shift : shift+n]
			narrow := memory[shift : shift+n : shift+n]
			crc.Sum(memory)
			if crc.Sum(wide) != sum || crc.Sum(narrow) != sum {
				t.Fatalf("Sum of %d bytes is another one at %d", n, shift)
			}
			if !bytes.Equal(crc.Seal(wide), sealed) || !bytes.Equal(crc.Seal(narrow), sealed) {
				t.Fatalf("Seal of %d bytes is another one at %d", n, shift)
			}
			opened(t, n, memory[shift:shift+n+4], pattern(n))
			opened(t, n, memory[shift:shift+n+4:shift+n+4], pattern(n))
		}
	}
}

// R5: nothing is kept between calls by which two at once could meet.
func TestAtOnce(t *testing.T) {
	var wait sync.WaitGroup
	for n := range 8 {
		wait.Go(func() {
			for range 50 {
				opened(t, n, crc.Seal(pattern(100*n)), pattern(100*n))
			}
		})
	}
	wait.Wait()
}
