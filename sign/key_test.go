package sign

import (
	"bytes"
	"crypto/sha512"
	"testing"

	"brevet/scalar"
)

// P6.1: of each bit that the secret number's rule names both kinds are seen in digests.
func TestKeyOf(t *testing.T) {
	var ones, all [2]byte
	for n := range 64 {
		seed := bytes.Repeat([]byte{byte(n)}, size)
		sum := sha512.Sum512(seed)
		ones[0], ones[1] = ones[0]|sum[0], ones[1]|sum[31]
		all[0], all[1] = all[0]|^sum[0], all[1]|^sum[31]
		k := keyOf(seed)
		if k.secret[0] != sum[0]/8*8 || k.secret[31] != sum[31]%64+64 {
			t.Errorf("%x is the secret number of %x", k.secret, sum)
		}
		if !bytes.Equal(k.secret[1:31], sum[1:31]) || !bytes.Equal(k.prefix, sum[32:]) {
			t.Errorf("%x, %x are cut from %x", k.secret, k.prefix, sum)
		}
	}
	if ones[0]&7 != 7 || all[0]&7 != 7 || ones[1]&0xc0 != 0xc0 || all[1]&0xc0 != 0xc0 {
		t.Error("too few digests")
	}
}

// R4: what is put behind a half takes new memory.
func TestHalvesEndWhereTheyEnd(t *testing.T) {
	whole := bytes.Repeat([]byte{9}, 100)
	first, second := halves(whole)
	if len(first) != size || len(second) != size {
		t.Fatalf("%d, %d", len(first), len(second))
	}
	first, second = append(first, 1, 2, 3), append(second, 1, 2, 3)
	if !bytes.Equal(whole, bytes.Repeat([]byte{9}, 100)) {
		t.Errorf("%x", whole)
	}
	first[0], second[0] = 1, 2
	if whole[0] != 9 || whole[size] != 9 {
		t.Error("a half that was made longer is still cut from the whole")
	}
}

// P6.1: parts are hashed as if they were one.
func TestNumberOfParts(t *testing.T) {
	msg := []byte("of many parts")
	sum, none := sha512.Sum512(msg), sha512.Sum512(nil)
	want := scalar.Reduce(sum[:])
	for i := range msg {
		for j := i; j <= len(msg); j++ {
			if got := number(msg[:i], nil, msg[i:j], msg[j:]); !bytes.Equal(got, want) {
				t.Errorf("cut at %d and %d: %x, want %x", i, j, got, want)
			}
		}
	}
	if !bytes.Equal(number(), scalar.Reduce(none[:])) || !bytes.Equal(number(nil, []byte{}), number()) {
		t.Error("no parts")
	}
	if string(msg) != "of many parts" {
		t.Errorf("%q", msg)
	}
}
