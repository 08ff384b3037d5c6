package b64_test

import (
	"bytes"
	"encoding/base64"
	"encoding/hex"
	"math/rand"
	"strings"
	"sync"
	"testing"

	"brevet/api"
	"brevet/b64"
)

const letters = "ABCDEFGHIJKLMNOPQRSTUVWXYZabcdefghijklmnopqrstuvwxyz0123456789-_"

// pattern is data in which neighbours, and bytes that stand alike in their three, are unlike.
func pattern(n int) []byte {
	b := make([]byte, n)
	for i := range b {
		b[i] = byte(7*i + i/256 + 3)
	}
	return b
}

func unhex(t *testing.T, text string) []byte {
	t.Helper()
	b, err := hex.DecodeString(text)
	if err != nil {
		t.Fatal(err)
	}
	return b
}

func encoded(t *testing.T, b []byte, want string) {
	t.Helper()
	if got := b64.Encode(b); got != want {
		t.Fatalf("Encode of %x: %q, want %q", b, got, want)
	}
}

func decoded(t *testing.T, s string, want []byte) {
	t.Helper()
	if got, err := b64.Decode(s); err != api.OK || !bytes.Equal(got, want) {
		t.Fatalf("Decode of %q: %x, %v, want %x", s, got, err, want)
	}
}

func refused(t *testing.T, s string) {
	t.Helper()
	if got, err := b64.Decode(s); err != api.ErrForm || len(got) != 0 {
		t.Fatalf("Decode of %q: %x, %v, want nothing, %v", s, got, err, api.ErrForm)
	}
}

// known are bytes, hexadecimal, and their letters: the document's example, those of RFC 4648, 7515 and 8037, and the edges.
var known = []struct{ bytes, letters string }{
	{"6869", "aGk"},
	{"", ""},
	{"66", "Zg"},
	{"666f", "Zm8"},
	{"666f6f", "Zm9v"},
	{"666f6f62", "Zm9vYg"},
	{"666f6f6261", "Zm9vYmE"},
	{"666f6f626172", "Zm9vYmFy"},
	{"14fb9c03", "FPucAw"},
	{"14fb9c03d9", "FPucA9k"},
	{"14fb9c03d97e", "FPucA9l-"},
	{"03ecffe0c1", "A-z_4ME"},
	{"7b22616c67223a224564445341227d", "eyJhbGciOiJFZERTQSJ9"},
	{"d75a980182b10ab7d54bfed3c964073a0ee172f3daa62325af021a68f707511a", "11qYAYKxCrfVS_7TyWQHOg7hcvPapiMlrwIaaPcHURo"},
	{"00", "AA"},
	{"0000", "AAA"},
	{"000000", "AAAA"},
	{"00000000", "AAAAAA"},
	{"01", "AQ"},
	{"0001", "AAE"},
	{"000001", "AAAB"},
	{"00000001", "AAAAAQ"},
	{"80", "gA"},
	{"8000", "gAA"},
	{"800000", "gAAA"},
	{"ff", "_w"},
	{"ffff", "__8"},
	{"ffffff", "____"},
	{"ffffffff", "_____w"},
	{"fb", "-w"},
	{"fbef", "--8"},
	{"fbefbe", "----"},
	{"fbefbefb", "-----w"},
}

// P7.1
func TestKnown(t *testing.T) {
	for _, c := range known {
		encoded(t, unhex(t, c.bytes), c.letters)
		decoded(t, c.letters, unhex(t, c.bytes))
	}
}

// P7.1: the example, and the other last letters of two bytes.
func TestExampleRefused(t *testing.T) {
	for _, s := range []string{"aGl", "aGm", "aGn"} {
		refused(t, s)
	}
	decoded(t, "aGo", []byte("hj"))
}

// P7.1: the bytes whose letters are all 64, in their order and in the other one.
func TestAllLetters(t *testing.T) {
	rising := unhex(t, "00108310518720928b30d38f41149351559761969b71d79f8218a39259a7a29aabb2dbafc31cb3d35db7e39ebbf3dfbf")
	encoded(t, rising, letters)
	decoded(t, letters, rising)
	falling := unhex(t, "ffef7cefae78df6d74cf2c70beeb6caeaa689e69648e28607de75c6da6585d65544d24503ce34c2ca2481c61440c2040")
	encoded(t, falling, "_-9876543210zyxwvutsrqponmlkjihgfedcbaZYXWVUTSRQPONMLKJIHGFEDCBA")
	decoded(t, "_-9876543210zyxwvutsrqponmlkjihgfedcbaZYXWVUTSRQPONMLKJIHGFEDCBA", falling)
}

// P7.1: each letter at each of the four places.
func TestEachLetter(t *testing.T) {
	for place := range 4 {
		for n := range 64 {
			bits := n << (18 - 6*place)
			b := []byte{byte(bits >> 16), byte(bits >> 8), byte(bits)}
			s := strings.Repeat("A", place) + letters[n:n+1] + strings.Repeat("A", 3-place)
			encoded(t, b, s)
			decoded(t, s, b)
		}
	}
}

// byWords is the letters of bytes as the document's words tell them, bit by bit.
func byWords(b []byte) string {
	var bits []int
	for _, x := range b {
		for place := 128; place > 0; place /= 2 {
			bits = append(bits, int(x)/place%2)
		}
	}
	for len(bits)%6 != 0 {
		bits = append(bits, 0)
	}
	var text strings.Builder
	for i := 0; i < len(bits); i += 6 {
		n := 0
		for _, bit := range bits[i : i+6] {
			n = 2*n + bit
		}
		text.WriteByte(letters[n])
	}
	return text.String()
}

// P7.1, P7.2: of every length, so of each modulo three: no letter is added to fill up, and no bit is left off.
func TestLengths(t *testing.T) {
	for n := range 400 {
		for _, b := range [][]byte{pattern(n), make([]byte, n), bytes.Repeat([]byte{255}, n), bytes.Repeat([]byte{0xaa}, n)} {
			s := byWords(b)
			if want := (8*n + 5) / 6; len(s) != want {
				t.Fatalf("%d bytes: %d letters, want %d", n, len(s), want)
			}
			encoded(t, b, s)
			decoded(t, s, b)
		}
	}
}

// P7.1, P7.2: each single bit of up to nine bytes.
func TestSingleBits(t *testing.T) {
	for n := 1; n < 10; n++ {
		for bit := range 8 * n {
			b := make([]byte, n)
			b[bit/8] = 128 >> (bit % 8)
			want := []byte(strings.Repeat("A", (8*n+5)/6))
			want[bit/6] = letters[32>>(bit%6)]
			encoded(t, b, string(want))
			decoded(t, string(want), b)
		}
	}
}

// P7.1, P7.2: all of one and of two bytes, and many of three, against the library's.
func TestShortBytes(t *testing.T) {
	check := func(b []byte) {
		t.Helper()
		s := base64.RawURLEncoding.EncodeToString(b)
		encoded(t, b, s)
		decoded(t, s, b)
	}
	for n := range 1 << 8 {
		check([]byte{byte(n)})
	}
	for n := range 1 << 16 {
		check([]byte{byte(n >> 8), byte(n)})
	}
	for n := 0; n < 1<<24; n += 89 {
		check([]byte{byte(n >> 16), byte(n >> 8), byte(n)})
	}
}

// P7.1, P7.2
func TestLongBytes(t *testing.T) {
	chance := rand.New(rand.NewSource(7))
	for _, n := range []int{1000, 4095, 4096, 4097, 65536, 1 << 20, 1<<20 + 1, 1<<20 + 2} {
		b := make([]byte, n)
		chance.Read(b)
		s := base64.RawURLEncoding.EncodeToString(b)
		encoded(t, b, s)
		decoded(t, s, b)
		refused(t, s+"=")
		refused(t, "="+s)
	}
}

// lettersOf are n letters that are some bytes', if so many can be.
func lettersOf(n int) string {
	s := b64.Encode(pattern(n))[:n]
	return s[:max(n-1, 0)] + strings.Repeat("A", min(n, 1))
}

// P7.1: each byte that is none of the 64, put in the place of each letter, and ahead of and behind each.
func TestDecodeOfOtherBytes(t *testing.T) {
	for b := range 256 {
		other := string([]byte{byte(b)})
		if strings.Contains(letters, other) {
			continue
		}
		for n := range 14 {
			s := lettersOf(n)
			for i := range n {
				refused(t, s[:i]+other+s[i+1:])
				refused(t, s[:i]+other+s[i:])
			}
			refused(t, s+other)
			refused(t, s+other+other)
			refused(t, s+strings.Repeat(other, 4))
		}
		long := lettersOf(1000)
		for _, i := range []int{0, 1, 499, 500, 998, 999} {
			refused(t, long[:i]+other+long[i+1:])
		}
	}
}

// P7.1: what other ways to write bytes as letters would take.
func TestDecodeOfOtherForms(t *testing.T) {
	for _, s := range []string{
		"Zg==", "Zg=", "Zm8=", "Zm9v=", "Zm9v====", "=", "==", "====", "=Zg=", "Z=g=", "Zg==Zg==", "Zm9vYg==",
		"FPucA9l+", "++++", "//8", "/w", "+w",
		" ", "    ", " Zm9v", "Zm9v ", "Zm 9v", "\n", "Zm9v\n", "Zm9v\r\n", "\nZm9v", "Zm\n9v", "Zm\r9v", "Zg\n", "Zm8\n", "\tZm9v", "\r\n\r\n",
		"\x00", "\x00\x00\x00\x00", "Zm9v\x00", "Zg\x00", "Zg\x00\x00", "Zm8\x00",
		"Zm9v.", "Zm.v", "Zm9,", "Zm9v~", "@@@@", "[[[[", "``", "{{{{", "::::", "Zm9%", "Zm9v%3D",
		"\x80\x80", "\xff\xff\xff\xff", "Zm9\xc1", "\xc1\xc1\xc1\xc1", "ÀÀ", "Ａ", "Zm9v\u2028", "ZmＡv",
	} {
		refused(t, s)
	}
}

// P7.1: a letter of which no bit is one of a byte's.
func TestDecodeOfOneTooMany(t *testing.T) {
	for n := range len(letters) {
		refused(t, letters[n:n+1])
		refused(t, "Zm9v"+letters[n:n+1])
		refused(t, "AAAAAAAA"+letters[n:n+1])
	}
	for n := 1; n < 800; n += 4 {
		refused(t, lettersOf(n))
		refused(t, strings.Repeat("A", n))
		refused(t, strings.Repeat("_", n))
	}
}

// P7.1: each last letter behind letters of each number.
func TestDecodeOfMissingBits(t *testing.T) {
	for n := range 50 {
		for last := range 64 {
			s := lettersOf(n) + letters[last:last+1]
			missing := 6 * (n + 1) % 8
			if missing == 6 || last%(1<<missing) != 0 {
				refused(t, s)
				continue
			}
			b, err := b64.Decode(s)
			if err != api.OK || len(b) != 6*(n+1)/8 || b64.Encode(b) != s {
				t.Fatalf("Decode of %q: %x, %v", s, b, err)
			}
		}
	}
	for _, s := range []string{"AB", "AC", "AE", "AI", "A_", "AP", "AAB", "AAC", "AAD", "AA_", "_x", "_z", "_4", "__9", "__-", "___", "Zh", "Zm9", "Zm9vYh", "Zm9vYmF"} {
		refused(t, s)
	}
}

// P7.2: what is taken is what its bytes are encoded as, and as many are taken as there are bytes.
func TestTakenIsGiven(t *testing.T) {
	taken := make([]int, 4)
	check := func(s string) {
		t.Helper()
		b, err := b64.Decode(s)
		if err == api.ErrForm && len(b) == 0 {
			return
		}
		if err != api.OK || b64.Encode(b) != s {
			t.Fatalf("Decode of %q: %x, %v", s, b, err)
		}
		taken[len(b)]++
	}
	check("")
	for n := range 1 << 8 {
		check(string([]byte{byte(n)}))
	}
	for n := range 1 << 16 {
		check(string([]byte{byte(n >> 8), byte(n)}))
	}
	for n := range 1 << 18 {
		check(string([]byte{letters[n>>12], letters[n>>6&63], letters[n&63]}))
		check(string([]byte{letters[n>>12], letters[n>>6&63], letters[n&63], 'q'}))
	}
	for n, want := range []int{1, 1 << 8, 1 << 16, 1 << 18} {
		if taken[n] != want {
			t.Errorf("of %d bytes %d are taken, want %d", n, taken[n], want)
		}
	}
}

// P7.2: any bytes at all, of which most are refused, and any letters.
func TestTakenOfChance(t *testing.T) {
	chance := rand.New(rand.NewSource(8))
	strict := base64.RawURLEncoding.Strict()
	for range 100000 {
		s := make([]byte, chance.Intn(40))
		for i := range s {
			s[i] = letters[chance.Intn(64)]
		}
		if len(s) > 0 && chance.Intn(4) == 0 {
			s[chance.Intn(len(s))] = byte(chance.Intn(256))
		}
		want, err := strict.DecodeString(string(s))
		// The library passes over the ends of lines.
		if err != nil || bytes.ContainsAny(s, "\r\n") {
			refused(t, string(s))
		} else {
			decoded(t, string(s), want)
			encoded(t, want, string(s))
		}
	}
}

// R2: no bytes beside an error, however many were read ahead of what is wrong; and none of them come again.
func TestRefusedTellsNothing(t *testing.T) {
	for _, s := range []string{"Zm9vYmFy=", "Zm9vYmFyZm9vYmFyA", "Zm9vYmFyZh", "Zm9vYmFyZm9", "Zm9vYmFy\x00\x00"} {
		refused(t, s)
		decoded(t, "Zg", []byte("f"))
		decoded(t, "", nil)
	}
}

// R4
func TestNilIsEmpty(t *testing.T) {
	encoded(t, nil, "")
	encoded(t, []byte{}, "")
	decoded(t, "", nil)
}

// R4
func TestHandedInStays(t *testing.T) {
	for n := range 200 {
		memory := pattern(600)
		b64.Encode(memory[100 : 100+n])
		b64.Encode(memory[100 : 100+n : 100+n])
		if !bytes.Equal(memory, pattern(600)) {
			t.Fatalf("of %d bytes handed in some, or their spare room, were changed", n)
		}
	}
}

// R4: also the room behind an answer.
func TestAnsweredIsNew(t *testing.T) {
	for n := range 50 {
		memory := pattern(n)
		s := b64.Encode(memory)
		want := strings.Clone(s)
		first, _ := b64.Decode(s)
		second, _ := b64.Decode(s)
		clear(first[:cap(first)])
		if !bytes.Equal(second, memory) || s != want {
			t.Fatalf("Decode, %d bytes: the answer shares memory", n)
		}
		clear(memory)
		if s != want {
			t.Fatalf("Encode, %d bytes: what was handed in is kept in the answer", n)
		}
	}
}

// R5: not on the place, the spare room, or what was asked ahead.
func TestHangsOnBytesAlone(t *testing.T) {
	for n := range 20 {
		want := b64.Encode(pattern(n))
		for shift := range 9 {
			memory := bytes.Repeat([]byte{0xa5}, shift+n+50)
			copy(memory[shift:], pattern(n))
			b64.Encode(memory)
			encoded(t, memory[shift:shift+n], want)
			encoded(t, memory[shift:shift+n:shift+n], want)
			text := strings.Repeat("_", shift) + want + "___"
			b64.Decode(text)
			decoded(t, text[shift:shift+len(want)], pattern(n))
		}
	}
}

// R5: nothing is kept between calls by which two at once could meet.
func TestAtOnce(t *testing.T) {
	var wait sync.WaitGroup
	for n := range 8 {
		wait.Go(func() {
			for range 200 {
				s := b64.Encode(pattern(100 * n))
				if b, err := b64.Decode(s); err != api.OK || !bytes.Equal(b, pattern(100*n)) {
					t.Errorf("%d bytes: %x, %v", 100*n, b, err)
				}
			}
		})
	}
	wait.Wait()
}
