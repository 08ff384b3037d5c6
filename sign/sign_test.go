package sign_test

import (
	"bytes"
	"crypto/ed25519"
	"crypto/sha512"
	"encoding/hex"
	"math/big"
	"math/rand"
	"slices"
	"sync"
	"testing"

	"brevet/api"
	"brevet/curve"
	"brevet/sign"
)

var one = big.NewInt(1)

// power is 2^n, and k more.
func power(n uint, k int64) *big.Int { return plus(new(big.Int).Lsh(one, n), k) }

func plus(n *big.Int, k int64) *big.Int { return new(big.Int).Add(n, big.NewInt(k)) }

var prime = power(255, -19)

// order is L, as chapter 4 has it.
var order = func() *big.Int {
	tail, _ := new(big.Int).SetString("27742317777372353535851937790883648493", 10)
	return tail.Add(tail, power(252, 0))
}()

// lowestFirst is a number below 2^256 as 32 bytes.
func lowestFirst(n *big.Int) []byte {
	b := n.FillBytes(make([]byte, 32))
	slices.Reverse(b)
	return b
}

func number(b []byte) *big.Int {
	b = bytes.Clone(b)
	slices.Reverse(b)
	return new(big.Int).SetBytes(b)
}

func unhex(t *testing.T, text string) []byte {
	t.Helper()
	b, err := hex.DecodeString(text)
	if err != nil {
		t.Fatal(err)
	}
	return b
}

// highBit is a copy with the highest bit turned.
func highBit(b []byte) []byte {
	b = bytes.Clone(b)
	b[len(b)-1] ^= 0x80
	return b
}

func seedOf(n int) []byte {
	sum := sha512.Sum512([]byte{byte(n), byte(n >> 8), 'S'})
	return sum[:32]
}

// pattern is a message in which neighbours, and bytes a block apart, are unlike.
func pattern(n int) []byte {
	b := make([]byte, n)
	for i := range b {
		b[i] = byte(7*i + i/256 + 3)
	}
	return b
}

func public(t *testing.T, seed []byte) []byte {
	t.Helper()
	pub, err := sign.Public(seed)
	if err != api.OK || len(pub) != 32 {
		t.Fatalf("Public of %x: %x, %v", seed, pub, err)
	}
	return pub
}

func signed(t *testing.T, seed, msg []byte) []byte {
	t.Helper()
	sig, err := sign.Sign(seed, msg)
	if err != api.OK || len(sig) != 64 {
		t.Fatalf("Sign of %x by %x: %x, %v", msg, seed, sig, err)
	}
	return sig
}

func verify(t *testing.T, what any, pub, msg, sig []byte, want api.Errno) {
	t.Helper()
	if got := sign.Verify(pub, msg, sig); got != want {
		t.Errorf("%v: Verify of %x, %x, %x: %v, want %v", what, pub, msg, sig, got, want)
	}
}

// known are those of RFC 8032, the first of them the document's example.
var known = []struct{ seed, public, message, signature string }{
	{
		"9d61b19deffd5a60ba844af492ec2cc44449c5697b326919703bac031cae7f60",
		"d75a980182b10ab7d54bfed3c964073a0ee172f3daa62325af021a68f707511a",
		"",
		"e5564300c360ac729086e2cc806e828a84877f1eb8e5d974d873e065224901555fb8821590a33bacc61e39701cf9b46bd25bf5f0595bbe24655141438e7a100b",
	},
	{
		"4ccd089b28ff96da9db6c346ec114e0f5b8a319f35aba624da8cf6ed4fb8a6fb",
		"3d4017c3e843895a92b70aa74d1b7ebc9c982ccf2ec4968cc0cd55f12af4660c",
		"72",
		"92a009a9f0d4cab8720e820b5f642540a2b27b5416503f8fb3762223ebdb69da085ac1e43e15996e458f3613d0f11d8c387b2eaeb4302aeeb00d291612bb0c00",
	},
	{
		"c5aa8df43f9f837bedb7442f31dcb7b166d38535076f094b85ce3a2e0b4458f7",
		"fc51cd8e6218a1a38da47ed00230f0580816ed13ba3303ac5deb911548908025",
		"af82",
		"6291d657deec24024827e69c3abe01a30ce548a284743a445e3680d7db5ac3ac18ff9b538d16f290ae67f760984dc6594a7c15e9716ed28dc027beceea1ec40a",
	},
	{
		"833fe62409237b9d62ec77587520911e9a759cec1d19755b7da901b96dca3d42",
		"ec172b93ad5e563bf4932c70e1245034c35467ef2efd4d64ebf819683467e2bf",
		"ddaf35a193617abacc417349ae20413112e6fa4e89a97ea20a9eeee64b55d39a2192992a274fc1a836ba3c23a3feebbd454d4423643ce80e2a9ac94fa54ca49f",
		"dc2a4459e7369633a52b1bf277839a00201009a3efbf3ecb69bea2186c26b58909351fc9ac90b3ecfdfbc7c66431e0303dca179c138ac17ad9bef1177331a704",
	},
}

// P6.1, P6.2, P6.3
func TestKnown(t *testing.T) {
	for _, c := range known {
		seed, msg := unhex(t, c.seed), unhex(t, c.message)
		if got := public(t, seed); hex.EncodeToString(got) != c.public {
			t.Errorf("Public of %s: %x", c.seed, got)
		}
		if got := signed(t, seed, msg); hex.EncodeToString(got) != c.signature {
			t.Errorf("Sign of %q by %s: %x", c.message, c.seed, got)
		}
		verify(t, "known", unhex(t, c.public), msg, unhex(t, c.signature), api.OK)
	}
}

func refused(t *testing.T, seed []byte) {
	t.Helper()
	if got, err := sign.Public(seed); err != api.ErrArg || len(got) != 0 {
		t.Errorf("Public of %d bytes: %x, %v", len(seed), got, err)
	}
	for _, msg := range [][]byte{nil, {}, {1}, pattern(100)} {
		if got, err := sign.Sign(seed, msg); err != api.ErrArg || len(got) != 0 {
			t.Errorf("Sign by %d bytes: %x, %v", len(seed), got, err)
		}
	}
}

// P6.1
func TestSeedsOfOtherLengths(t *testing.T) {
	refused(t, nil)
	whole := slices.Concat(unhex(t, known[0].seed), pattern(100))
	for n := range len(whole) {
		if n == 32 {
			continue
		}
		refused(t, whole[:n])
		refused(t, whole[:n:n])
		refused(t, make([]byte, n))
	}
	refused(t, pattern(1<<20))
}

// checkAgainst holds a seed's public key and a message's signature against the library's.
func checkAgainst(t *testing.T, seed, msg []byte) {
	t.Helper()
	other := ed25519.NewKeyFromSeed(seed)
	pub, sig := public(t, seed), signed(t, seed, msg)
	if want := other[32:]; !bytes.Equal(pub, want) {
		t.Fatalf("Public of %x: %x, want %x", seed, pub, want)
	}
	if want := ed25519.Sign(other, msg); !bytes.Equal(sig, want) {
		t.Fatalf("Sign of %d bytes by %x: %x, want %x", len(msg), seed, sig, want)
	}
	verify(t, "what was signed", pub, msg, sig, api.OK)
}

// P6.1, P6.3: seeds of single bits, and as they fall, so that the bits that are set anew in the secret number were all that they may be.
func TestSeeds(t *testing.T) {
	for _, b := range []byte{0, 1, 127, 128, 255} {
		checkAgainst(t, bytes.Repeat([]byte{b}, 32), []byte("seed"))
	}
	for bit := range 256 {
		seed := make([]byte, 32)
		seed[bit/8] = 1 << (bit % 8)
		checkAgainst(t, seed, pattern(bit%5))
	}
	for n := range 250 {
		checkAgainst(t, seedOf(n), pattern(n))
	}
}

// P6.1, P6.3: with the 32 and the 64 bytes that are hashed ahead of a message, its end is at each place of a digest's block.
func TestMessagesOfAllLengths(t *testing.T) {
	seed := seedOf(1)
	for n := range 300 {
		checkAgainst(t, seed, pattern(n))
	}
	for _, n := range []int{1000, 65536, 1 << 20} {
		checkAgainst(t, seed, pattern(n))
	}
}

// P6.1
func TestSignOfSingleBytes(t *testing.T) {
	seen := map[string]int{}
	other := ed25519.NewKeyFromSeed(seedOf(2))
	for b := range 256 {
		sig := signed(t, seedOf(2), []byte{byte(b)})
		if want := ed25519.Sign(other, []byte{byte(b)}); !bytes.Equal(sig, want) {
			t.Errorf("Sign of %d: %x, want %x", b, sig, want)
		}
		seen[string(sig)] = b
	}
	if len(seen) != 256 {
		t.Errorf("of 256 messages there are %d signatures", len(seen))
	}
}

// P6.1: R is a point's bytes, and s a number below L.
func TestSignatureIsTwoHalves(t *testing.T) {
	for n := range 50 {
		sig := signed(t, seedOf(n), pattern(n))
		if _, err := curve.Read(sig[:32]); err != api.OK {
			t.Errorf("R is %x: %v", sig[:32], err)
		}
		if number(sig[32:]).Cmp(order) >= 0 {
			t.Errorf("s is %x", sig[32:])
		}
	}
}

// P6.1, R5
func TestSameEachTime(t *testing.T) {
	for n := range 10 {
		pub, sig := public(t, seedOf(n)), signed(t, seedOf(n), pattern(n))
		signed(t, seedOf(n+1), pattern(n))
		signed(t, seedOf(n), pattern(n+1))
		for range 5 {
			if !bytes.Equal(public(t, seedOf(n)), pub) || !bytes.Equal(signed(t, seedOf(n), pattern(n)), sig) {
				t.Errorf("seed %d: another time it is another one", n)
			}
		}
	}
}

// P6.3
func TestVerifyOfOtherMessages(t *testing.T) {
	seed := seedOf(3)
	pub := public(t, seed)
	for _, n := range []int{0, 1, 2, 31, 32, 33, 47, 48, 63, 64, 65, 111, 112, 128, 300} {
		msg := pattern(n)
		sig := signed(t, seed, msg)
		verify(t, "a byte more", pub, append(pattern(n), 0), sig, api.ErrSign)
		verify(t, "a byte ahead", pub, append([]byte{0}, msg...), sig, api.ErrSign)
		verify(t, "twice as long", pub, append(pattern(n), pattern(n+1)...), sig, api.ErrSign)
		if n == 0 {
			continue
		}
		verify(t, "a byte less", pub, msg[:n-1], sig, api.ErrSign)
		verify(t, "no bytes", pub, nil, sig, api.ErrSign)
		for i := range n {
			other := bytes.Clone(msg)
			other[i] ^= 1 << (i % 8)
			verify(t, "a bit", pub, other, sig, api.ErrSign)
		}
	}
}

// P6.3: each of five seeds with each of five messages.
func TestVerifyOfOtherSeeds(t *testing.T) {
	var keys [][]byte
	for n := range 5 {
		keys = append(keys, public(t, seedOf(n)))
	}
	for i := range 25 {
		sig := signed(t, seedOf(i%5), pattern(i/5))
		for j := range 25 {
			want := api.ErrSign
			if i == j {
				want = api.OK
			}
			verify(t, "seeds and messages", keys[j%5], pattern(j/5), sig, want)
		}
	}
}

// P6.2: R of one signature, and s of another one.
func TestVerifyOfMixedHalves(t *testing.T) {
	seed := seedOf(4)
	pub, first, second := public(t, seed), signed(t, seed, []byte("a")), signed(t, seed, []byte("b"))
	mixed := slices.Concat(first[:32], second[32:])
	turned := slices.Concat(first[32:], first[:32])
	for _, msg := range []string{"a", "b"} {
		verify(t, "mixed", pub, []byte(msg), mixed, api.ErrSign)
		verify(t, "turned round", pub, []byte(msg), turned, api.ErrSign)
	}
}

// P6.2: each bit of R and of s, and each byte as another one.
func TestVerifyOfChangedSignature(t *testing.T) {
	seed, msg := seedOf(5), pattern(50)
	pub, sig := public(t, seed), signed(t, seed, msg)
	for bit := range 512 {
		bad := bytes.Clone(sig)
		bad[bit/8] ^= 1 << (bit % 8)
		verify(t, "a bit", pub, msg, bad, api.ErrSign)
	}
	for i := range 64 {
		bad := bytes.Clone(sig)
		bad[i] += byte(i + 1)
		verify(t, "a byte", pub, msg, bad, api.ErrSign)
		bad[i] = ^sig[i]
		verify(t, "a byte", pub, msg, bad, api.ErrSign)
	}
}

// P6.2: of a changed key there is a point, or none.
func TestVerifyOfChangedKey(t *testing.T) {
	seed, msg := seedOf(6), pattern(20)
	pub, sig := public(t, seed), signed(t, seed, msg)
	count := map[api.Errno]int{}
	for bit := range 256 {
		bad := bytes.Clone(pub)
		bad[bit/8] ^= 1 << (bit % 8)
		want := api.ErrSign
		if _, err := curve.Read(bad); err != api.OK {
			want = api.ErrKey
		}
		count[want]++
		verify(t, "a bit", bad, msg, sig, want)
	}
	if count[api.ErrSign] < 50 || count[api.ErrKey] < 50 {
		t.Errorf("too few of a kind: %v", count)
	}
}

// noKeys are bytes that are no point's.
func noKeys(t *testing.T) [][]byte {
	t.Helper()
	pub := unhex(t, known[0].public)
	all := [][]byte{nil, {}, {1}, make([]byte, 31), pub[:31], pub[:31:31], make([]byte, 33), append(bytes.Clone(pub), 0), append(bytes.Clone(pub), pub...), pattern(1000)}
	for k := int64(0); k < 19; k++ {
		b := lowestFirst(plus(prime, k))
		all = append(all, b, highBit(b))
	}
	// 2 and -2 go with no x; 1 and -1 with x = 0 alone.
	for _, y := range []*big.Int{big.NewInt(2), plus(prime, -2)} {
		all = append(all, lowestFirst(y), highBit(lowestFirst(y)))
	}
	for _, y := range []*big.Int{one, plus(prime, -1)} {
		all = append(all, highBit(lowestFirst(y)))
	}
	return append(all, bytes.Repeat([]byte{255}, 32))
}

// P6.2, R2: the key is asked first.
func TestVerifyOfNoKey(t *testing.T) {
	msg := []byte("message")
	right := signed(t, unhex(t, known[0].seed), msg)
	greatS := slices.Concat(right[:32], lowestFirst(order))
	neutral := slices.Concat(lowestFirst(one), make([]byte, 32))
	for _, pub := range noKeys(t) {
		for _, sig := range [][]byte{right, nil, {}, right[:63], append(bytes.Clone(right), 0), greatS, neutral, make([]byte, 64), bytes.Repeat([]byte{255}, 64)} {
			verify(t, "no key", pub, msg, sig, api.ErrKey)
			verify(t, "no key", pub, nil, sig, api.ErrKey)
		}
		// What would be right, if the key were read as p less, or as the other x = 0.
		made := withR(curve.Base(), pub, msg, big.NewInt(1), new(big.Int))
		verify(t, "no key", pub, msg, made, api.ErrKey)
	}
}

// P6.2
func TestVerifyOfOtherLengths(t *testing.T) {
	seed, msg := seedOf(7), pattern(9)
	pub := public(t, seed)
	whole := slices.Concat(signed(t, seed, msg), make([]byte, 100))
	for n := range len(whole) {
		if n == 64 {
			continue
		}
		verify(t, n, pub, msg, whole[:n], api.ErrSign)
		verify(t, n, pub, msg, whole[:n:n], api.ErrSign)
		verify(t, n, pub, msg, make([]byte, n), api.ErrSign)
		verify(t, n, pub, msg, bytes.Repeat([]byte{255}, n), api.ErrSign)
	}
	verify(t, "nil", pub, msg, nil, api.ErrSign)
	verify(t, "twice", pub, msg, slices.Concat(whole[:64], whole[:64]), api.ErrSign)
	verify(t, "right", pub, msg, whole[:64], api.OK)
	verify(t, "right", pub, msg, whole[:64:64], api.OK)
}

// numberOf is k: of R, the key and the message.
func numberOf(head, pub, msg []byte) *big.Int {
	sum := sha512.Sum512(slices.Concat(head, pub, msg))
	k := number(sum[:])
	return k.Mod(k, order)
}

// withBytes is a signature with just these bytes as R, and s = r + k a.
func withBytes(head, pub, msg []byte, r, a *big.Int) []byte {
	s := new(big.Int).Mul(numberOf(head, pub, msg), a)
	s.Add(s, r)
	return slices.Concat(head, lowestFirst(s.Mod(s, order)))
}

// withR is the same with a point's bytes.
func withR(head curve.Point, pub, msg []byte, r, a *big.Int) []byte {
	return withBytes(head.Bytes(), pub, msg, r, a)
}

// bases is as many bases as n says.
func bases(n *big.Int) curve.Point { return curve.Base().Mul(lowestFirst(n)) }

// smallOrders are the eight points of which eight come to the neutral one: the i-th is i times the one at 1.
func smallOrders(t *testing.T) []curve.Point {
	t.Helper()
	eighth, err := curve.Read(unhex(t, "26e8958fc2b227b045c3f489f2ef98f0d5dfac05d3c63339b13802886d53fc05"))
	if err != api.OK {
		t.Fatal(err)
	}
	all := []curve.Point{curve.Zero()}
	for range 7 {
		all = append(all, all[len(all)-1].Add(eighth))
	}
	if !all[7].Add(eighth).Equal(curve.Zero()) || all[4].Equal(curve.Zero()) {
		t.Fatal("not of order 8")
	}
	return all
}

// P6.2: s with L added as often as there is room for comes to the same point, and is refused.
func TestVerifyOfGreatS(t *testing.T) {
	for n := range 20 {
		seed, msg := seedOf(n), pattern(n)
		pub, sig := public(t, seed), signed(t, seed, msg)
		s := new(big.Int).Add(number(sig[32:]), order)
		for ; s.BitLen() <= 256; s.Add(s, order) {
			bad := slices.Concat(sig[:32], lowestFirst(s))
			verify(t, "s and L", pub, msg, bad, api.ErrSign)
		}
		verify(t, "s", pub, msg, sig, api.OK)
	}
}

// P6.2: the neutral key's signatures have R = s bases, so that s may be what it will.
func TestVerifyOfEdgesOfS(t *testing.T) {
	pub := curve.Zero().Bytes()
	ask := func(s *big.Int, want api.Errno) {
		t.Helper()
		sig := slices.Concat(bases(s).Bytes(), lowestFirst(s))
		verify(t, s, pub, []byte("any"), sig, want)
		verify(t, s, pub, nil, sig, want)
	}
	for k := int64(0); k < 4; k++ {
		ask(big.NewInt(k), api.OK)
		ask(plus(order, -1-k), api.OK)
		ask(plus(order, k), api.ErrSign)
		ask(power(252, k), api.OK)
		ask(power(252, -1-k), api.OK)
		ask(power(253, k), api.ErrSign)
		ask(power(253, -1-k), api.ErrSign)
		ask(power(254, k), api.ErrSign)
		ask(power(255, k), api.ErrSign)
		ask(power(256, -1-k), api.ErrSign)
	}
	for bit := range uint(253) {
		ask(power(bit, 0), api.OK)
	}
}

// otherBytes are bytes that are none's, but stand for this point if they are read with a blind eye: y with p more, x = 0 as an odd one.
func otherBytes(p curve.Point) [][]byte {
	own := p.Bytes()
	odd, low := own[31]&0x80, bytes.Clone(own)
	low[31] &= 0x7f
	forms := [][]byte{low}
	if more := new(big.Int).Add(number(low), prime); more.BitLen() <= 255 {
		forms = append(forms, lowestFirst(more))
	}
	var all [][]byte
	for _, form := range forms {
		for _, bit := range []byte{0, 0x80} {
			b := bytes.Clone(form)
			b[31] |= bit
			if !bytes.Equal(b, own) && (bit == odd || p.Equal(p.Neg())) {
				all = append(all, b)
			}
		}
	}
	return all
}

// rightMessage is one by which k points of the i-th small order, and the j-th, come to the neutral one.
func rightMessage(t *testing.T, head, pub []byte, i, j int) []byte {
	t.Helper()
	for n := range 1000 {
		msg := pattern(n)
		k := numberOf(head, pub, msg)
		if left := new(big.Int).Mod(k, big.NewInt(8)); (int(left.Int64())*i+j)%8 == 0 {
			return msg
		}
	}
	t.Fatal("no message")
	return nil
}

// P6.2: R's bytes are asked for, not its point. Keys are bases alone, as seeds' are, and bases with a point of small order.
func TestVerifyOfOtherBytesOfR(t *testing.T) {
	small := smallOrders(t)
	a, nought, count := big.NewInt(987654321), new(big.Int), 0
	for j, head := range small {
		asked := head.Bytes()
		for _, other := range otherBytes(head) {
			for _, i := range []int{0, 1, 3, 5, 7} {
				if i == 0 && j != 0 {
					continue
				}
				pub := bases(a).Add(small[i]).Bytes()
				msg := rightMessage(t, asked, pub, i, j)
				right := withBytes(asked, pub, msg, nought, a)
				verify(t, "as asked", pub, msg, right, api.OK)
				verify(t, "hashed as asked", pub, msg, slices.Concat(other, right[32:]), api.ErrSign)
				msg = rightMessage(t, other, pub, i, j)
				verify(t, "other bytes", pub, msg, withBytes(other, pub, msg, nought, a), api.ErrSign)
				count++
			}
		}
	}
	if count != 3*5+3*4 {
		t.Errorf("%d were asked", count)
	}
}

// P6.2: a key that is of small order, or is a seed's and one of small order more: OK only where all comes to just R, not where eight times all would.
func TestVerifyOfSmallOrders(t *testing.T) {
	small := smallOrders(t)
	count := map[api.Errno]int{}
	r := big.NewInt(1234567)
	for _, a := range []*big.Int{new(big.Int), plus(order, -5)} {
		for i := range 8 {
			pub := bases(a).Add(small[i]).Bytes()
			for j := range 8 {
				head := bases(r).Add(small[j])
				for n := range 6 {
					msg := pattern(n)
					sig := withR(head, pub, msg, r, a)
					left := new(big.Int).Mod(numberOf(sig[:32], pub, msg), big.NewInt(8))
					want := api.ErrSign
					if (int(left.Int64())*i+j)%8 == 0 {
						want = api.OK
					}
					count[want]++
					verify(t, []int{i, j}, pub, msg, sig, want)
					if ed25519.Verify(pub, msg, sig) != (want == api.OK) {
						t.Errorf("the library knows better of %x, %x, %x", pub, msg, sig)
					}
				}
			}
		}
	}
	if count[api.OK] < 50 || count[api.ErrSign] < 300 {
		t.Errorf("too few of a kind: %v", count)
	}
}

// P6.2: keys of small orders with signatures of noughts, and of themselves.
func TestVerifyOfSmallKeys(t *testing.T) {
	for i, p := range smallOrders(t) {
		pub := p.Bytes()
		for _, sig := range [][]byte{make([]byte, 64), slices.Concat(pub, make([]byte, 32)), slices.Concat(lowestFirst(one), make([]byte, 32)), slices.Concat(pub, lowestFirst(one)), slices.Concat(pub, pub)} {
			for n := range 10 {
				want := api.ErrSign
				if ed25519.Verify(pub, pattern(n), sig) {
					want = api.OK
				}
				verify(t, i, pub, pattern(n), sig, want)
			}
		}
		verify(t, i, pub, nil, nil, api.ErrSign)
	}
}

// P6.2: the one who knows what a key is made of may take any R.
func TestVerifyOfAnyR(t *testing.T) {
	source := rand.New(rand.NewSource(6))
	for n := range 60 {
		a, r := new(big.Int).Rand(source, order), new(big.Int).Rand(source, order)
		pub, msg := bases(a).Bytes(), pattern(n)
		verify(t, "any R", pub, msg, withR(bases(r), pub, msg, r, a), api.OK)
		verify(t, "its negative", pub, msg, withR(bases(r).Neg(), pub, msg, r, a), api.ErrSign)
		verify(t, "the negative key", highBit(pub), msg, withR(bases(r), pub, msg, r, a), api.ErrSign)
		less := new(big.Int).Sub(order, a)
		verify(t, "k points more", pub, msg, withR(bases(r), pub, msg, r, less), api.ErrSign)
		verify(t, "no k", pub, msg, slices.Concat(bases(r).Bytes(), lowestFirst(r)), api.ErrSign)
	}
}

// P6.2: whatever comes, the library says the same.
func TestVerifyOfChance(t *testing.T) {
	source := rand.New(rand.NewSource(66))
	for range 300 {
		pub, sig, msg := make([]byte, 32), make([]byte, 64), make([]byte, source.Intn(200))
		source.Read(pub)
		source.Read(sig)
		source.Read(msg)
		sig[63] &= 0x1f
		want := api.ErrSign
		if _, err := curve.Read(pub); err != api.OK {
			want = api.ErrKey
		} else if ed25519.Verify(pub, msg, sig) {
			want = api.OK
		}
		verify(t, "chance", pub, msg, sig, want)
	}
}

// R4
func TestNilIsEmpty(t *testing.T) {
	seed := seedOf(8)
	if !bytes.Equal(signed(t, seed, nil), signed(t, seed, []byte{})) {
		t.Error("Sign: nil and empty are unlike")
	}
	pub, sig := public(t, seed), signed(t, seed, nil)
	verify(t, "nil", pub, nil, sig, api.OK)
	verify(t, "empty", pub, []byte{}, sig, api.OK)
}

// R4: bytes, and their spare room; also where one piece of memory is handed in as all of them.
func TestHandedInStays(t *testing.T) {
	for n := range 70 {
		memory := make([]byte, 500)
		rand.New(rand.NewSource(int64(n))).Read(memory)
		msg := memory[100 : 100+n]
		copy(memory[200:], public(t, memory[10:42]))
		copy(memory[300:], signed(t, memory[10:42], msg))
		want := bytes.Clone(memory)
		sign.Public(memory[10:42])
		sign.Public(memory[:n])
		sign.Sign(memory[10:42], msg)
		sign.Sign(memory[10:42], memory[20:20+n])
		sign.Sign(memory[:n], msg)
		verify(t, "one memory", memory[200:232], msg, memory[300:364], api.OK)
		sign.Verify(memory[200:232], memory[10:], memory[300:364])
		sign.Verify(memory[200:232], msg, memory[300:300+n])
		sign.Verify(memory[200:200+n], msg, memory[300:364])
		sign.Verify(memory[200:232], memory[200:300], memory[200:264])
		if !bytes.Equal(memory, want) {
			t.Fatalf("with %d bytes handed in some, or their spare room, were changed", n)
		}
	}
}

// R4: also the room behind an answer.
func TestAnsweredIsNew(t *testing.T) {
	seed, msg := seedOf(9), pattern(64)
	for _, ask := range []func() []byte{
		func() []byte { return public(t, seed) },
		func() []byte { return signed(t, seed, msg) },
		func() []byte { return signed(t, seed, seed) },
	} {
		first, second := ask(), ask()
		want := bytes.Clone(first)
		for i := range cap(first) {
			first[:cap(first)][i] ^= 255
		}
		if !bytes.Equal(second, want) || !bytes.Equal(ask(), want) {
			t.Error("two answers share memory")
		}
		if !bytes.Equal(seed, seedOf(9)) || !bytes.Equal(msg, pattern(64)) {
			t.Error("an answer shares memory with what was handed in")
		}
		clear(seed)
		clear(msg)
		if !bytes.Equal(second, want) {
			t.Error("what was handed in is kept in an answer")
		}
		copy(seed, seedOf(9))
		copy(msg, pattern(64))
	}
}

// R5: not on the place, the spare room, or what was asked ahead.
func TestHangsOnBytesAlone(t *testing.T) {
	seed, msg := seedOf(10), pattern(40)
	pub, sig := public(t, seed), signed(t, seed, msg)
	for shift := range 9 {
		place := func(b []byte, spare int) []byte {
			memory := bytes.Repeat([]byte{0xa5}, shift+len(b)+spare)
			copy(memory[shift:], b)
			return memory[shift : shift+len(b)]
		}
		for _, spare := range []int{0, 1, 100} {
			sign.Sign(seedOf(shift), pattern(shift))
			if got := public(t, place(seed, spare)); !bytes.Equal(got, pub) {
				t.Errorf("Public at %d: %x", shift, got)
			}
			if got := signed(t, place(seed, spare), place(msg, spare)); !bytes.Equal(got, sig) {
				t.Errorf("Sign at %d: %x", shift, got)
			}
			verify(t, shift, place(pub, spare), place(msg, spare), place(sig, spare), api.OK)
		}
	}
}

// R5: nothing is kept between calls by which two at once could meet.
func TestAtOnce(t *testing.T) {
	var wait sync.WaitGroup
	for n := range 8 {
		pub, sig := public(t, seedOf(n)), signed(t, seedOf(n), pattern(n))
		wait.Go(func() {
			for range 10 {
				again, err := sign.Sign(seedOf(n), pattern(n))
				if err != api.OK || !bytes.Equal(again, sig) || sign.Verify(pub, pattern(n), again) != api.OK {
					t.Errorf("seed %d: another signature beside others", n)
				}
			}
		})
	}
	wait.Wait()
}
