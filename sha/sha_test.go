package sha_test

import (
	"bytes"
	"encoding/hex"
	"strings"
	"sync"
	"testing"

	"brevet/sha"
)

var digests = []struct {
	name string
	size int
	sum  func([]byte) []byte
}{
	{"Sum256", 32, sha.Sum256},
	{"Sum512", 64, sha.Sum512},
}

// pattern is a message in which neighbours, and bytes a word or a block apart, are unlike.
func pattern(n int) []byte {
	b := make([]byte, n)
	for i := range b {
		b[i] = byte(7*i + 3)
	}
	return b
}

func checkBoth(t *testing.T, what any, data []byte, want256, want512 string) {
	t.Helper()
	if got := hex.EncodeToString(sha.Sum256(data)); got != want256 {
		t.Errorf("Sum256 of %v: %s, want %s", what, got, want256)
	}
	if got := hex.EncodeToString(sha.Sum512(data)); got != want512 {
		t.Errorf("Sum512 of %v: %s, want %s", what, got, want512)
	}
}

// P1.1
func TestKnownMessages(t *testing.T) {
	for _, c := range []struct{ text, want256, want512 string }{
		{"",
			"e3b0c44298fc1c149afbf4c8996fb92427ae41e4649b934ca495991b7852b855",
			"cf83e1357eefb8bdf1542850d66d8007d620e4050b5715dc83f4a921d36ce9ce47d0d13c5d85f2b0ff8318d2877eec2f63b931bd47417a81a538327af927da3e"},
		{"a",
			"ca978112ca1bbdcafac231b39a23dc4da786eff8147c4e72b9807785afee48bb",
			"1f40fc92da241694750979ee6cf582f2d5d7d28e18335de05abc54d0560e0f5302860c652bf08d560252aa5e74210546f369fbbbce8c12cfc7957b2652fe9a75"},
		{"abc",
			"ba7816bf8f01cfea414140de5dae2223b00361a396177a9cb410ff61f20015ad",
			"ddaf35a193617abacc417349ae20413112e6fa4e89a97ea20a9eeee64b55d39a2192992a274fc1a836ba3c23a3feebbd454d4423643ce80e2a9ac94fa54ca49f"},
		{"message digest",
			"f7846f55cf23e14eebeab5b4e1550cad5b509e3348fbc4efa3a1413d393cb650",
			"107dbf389d9e9f71a3a95f6c055b9251bc5268c2be16d6c13492ea45b0199f3309e16455ab1e96118e8a905d5597b72038ddb372a89826046de66687bb420e7c"},
		{"abcdbcdecdefdefgefghfghighijhijkijkljklmklmnlmnomnopnopq",
			"248d6a61d20638b8e5c026930c3e6039a33ce45964ff2167f6ecedd419db06c1",
			"204a8fc6dda82f0a0ced7beb8e08a41657c16ef468b228a8279be331a703c33596fd15c13b1b07f9aa1d3bea57789ca031ad85c7a71dd70354ec631238ca3445"},
		{"abcdefghbcdefghicdefghijdefghijkefghijklfghijklmghijklmnhijklmnoijklmnopjklmnopqklmnopqrlmnopqrsmnopqrstnopqrstu",
			"cf5b16a778af8380036ce59e7b0492370b249b11e8f07a51afac45037afee9d1",
			"8e959b75dae313da8cf4f72814fc143f8f7779c6eb9f7fa17299aeadb6889018501d289e4900f7e4331b99dec4b5433ac7d329eeb6dd26545e96e55b874be909"},
	} {
		checkBoth(t, c.text, []byte(c.text), c.want256, c.want512)
	}
}

// P1.1
func TestNilIsEmpty(t *testing.T) {
	for _, d := range digests {
		if !bytes.Equal(d.sum(nil), d.sum([]byte{})) {
			t.Errorf("%s: nil and empty are unlike", d.name)
		}
	}
}

// P1.1: one block more or less, by the room that the length takes.
func TestBlockEnds(t *testing.T) {
	for _, c := range []struct {
		n                int
		want256, want512 string
	}{
		{1,
			"084fed08b978af4d7d196a7446a86b58009e636b611db16211b65a9aadff29c5",
			"e45bf5817ddf94aa2f7a407071f0eedc6beb98f768b4cd33d1176d44d1563a45a5d7212290eb7670c6786b13591aedac86478993895e8b24e612014abaa6ba04"},
		{55,
			"e7313d333c272e639f790978283f9eb392e843d0f29b7016828bb1daa4aac70b",
			"14fd424b1fcadee624da946ab03f7e1def7c0d6e00f689594319881a26ff30b875ba4c622ac13100c8cc784c9c2eb23159aecbb4a02e3999062f551193e2b256"},
		{56,
			"4324d65f3c103567f5589c710bc08f8523f929a9272e3af36fc968e52abc6c27",
			"480fa85be41ef55a41208ca28ffc8743c91cf7d24758defe6f95bfb16de614fc86b701034896b047dd571de4318853d80e0809df162f1752cb26da6ddb94a0dd"},
		{57,
			"35df609437dcfea3279283ab79fd554e2bf78f8f7ae2de532d8ee300b09e8f73",
			"0582c85feba6881e7c3c371a82a645547a1a9bdb3fd0709d6a42e271697333b23d1692ff0076071fef520f46d04ca74c2b088b58a60ade3ba0c18380d230789c"},
		{63,
			"81c80242132f230c3bd41b3e63bbcff16107339549214a99614ff26664625055",
			"ecd42a703a4e93e163d60d55e3785b1a763838b0351bc2e6f7c94b4bfb24f9aa15da5d744ebcebe11f0fc4315d45ba3a047b6e60e07448357f2795bf34b73502"},
		{64,
			"39e3d7b6b5d075d37d053ad89b24b41bef4f3c29760c84447cab3f3be1882241",
			"8f3cc30b3fb5bf963688a46488249248ac2c67f0f85a145233c6c1e3c16dcd1df634c07d1d31da02576f65b9cf64e1c3fdb318b689b8a14e2e9552bcf30fb133"},
		{65,
			"aacca6ff74fdbb296d165a45cecfa04e5127bc008770fbbdd48006f2d2fae95e",
			"22050d1b2c5bd016c4b04c3e84f513ffbbbc057f83dc9ab196fee6684e5ee19d98b84c6538b3c5e1fc67dbc484e9d0a198254e41d0fa0cf5106991e106632419"},
		{110,
			"4a70b5e28bfd48b3786770f8bc1c3c1967c9d5bc01872993580e22646e94c2c6",
			"a915c6b13dc3bcb70211a6b7913896b606740d7e2341257db7db9b4a5aa3f0e650116aa3f56ad7e97c218da1a9c74043331631d747036d88cdcdb5c21fffcdb5"},
		{111,
			"67d9492e628fd376e0b2efec8ca2b99b123e202cf620deb270728df979b2f73e",
			"68cffa6d0d76f309c9ce0d35280939f8e25990c43b7b086ccdf709be35b07d4ddba599541ff2b1c19d34ea49aeafb9659adb7ac3c0b078bb30a22d57fc6687ef"},
		{112,
			"96b928cff8528dbb99602c709a65b846cb6467acb8b722f0d758e4dc27bfc508",
			"d0865c524d1dddf7c23b799c413f5adcd7caefd3f66a9b49750ec81066012c25a8bcf94ddea6dc525691673097ca40e0101e897fc97218cfdb0704084e2bef4b"},
		{119,
			"9ce7368e4daf32341631b492e80359dc9f594b48453cd0dd5bf0b19279cc177e",
			"236bdd7f38a611b5014b239245c381ae5d20a96f1e5b3178227c00056b7fa8c44ef54880085d82b7e20cd65f2bfda1326696c3f94a6a5bad0cb5ce289aa46167"},
		{120,
			"7836b787757e95e58b3ca5aec90b1b004e8deba1e50e9675af9cabf1a13a04b5",
			"4bd16fefaa35cc2df9fbb8ff379ec04a4070ffd5d4992574af239fa175534df87cbedceeb96be08e15090a78b83a328a2900c5411683ab47bab914591048548f"},
		{127,
			"a8d23e75d936f303d248888d9b165ee543f4cbafcad3c9dd2a79bd84faa11d07",
			"e0b6a20f1c0c88970a9340152cd5a1c1ecf3d3b8de55102741879438079473540133b812706e5dbec322c8c9523b6fc8c6d16ee626e87ad5fe3d2916afedc369"},
		{128,
			"d2742f1f4ac6bb7ca2b239ee18402ba8b3f9f8e652d2a72973c2b9ba11c08cf6",
			"99b16f17aa0b969a5b8f08f367719d516e330ccd2660b6f0688ec031dbc783de50a1cd185a2568dba75070a2403d17d4741d163578515dfd2ff756ddfe4d47b1"},
		{129,
			"307f8fc2c1622b92762e818d39a185d4d667ad49a4b07ceae1f4afa008a93ec4",
			"a1556e29185778aa5991e34b8884c840d589f0fbb4b8ed590e51e9ac4eb03a008125000db2671f8fe7f485b59a77b518670078ecb41a54b4cd02a7f1d2ca4c6d"},
		{191,
			"52be17f8f5d0b166f3b1917d2b6bb862083001967fd0aa39d2da9947eeba437d",
			"e5ccdc9c1fb1da19e8db56c371e837ebb5015cbe3bfb4275d477335c36f493c859b84b1cbff0f6da077f6a4535a9c154576191100769aadeaa2b4bd7b370946e"},
		{192,
			"ec6732214091fa8455ee2251fb756475b04ec62610fbceaa64218a11faf571cd",
			"800d33c5feea8029d4a8b09f029110e10b56261510870f866fe78110473ad142239e00c9f30436571aa5f7a4a712f95f5d05a137191df48c0a20ad5a84c75c85"},
		{239,
			"8fac859e9c893811bb92a43a2732590fe20bb1649726400d0ca05c6261ef2062",
			"18ee83f30261c3c645d52aee6a209105b25bba39d33845ef48984cc238e4f21661fb7bd7dd4336f71c40fe87d95e5115d6c7be52e0d3e7e7877d24500b5b58df"},
		{240,
			"93fa68266890012c592634767c711c9c23c685eeeff6ddbc76051c0b4e6249bb",
			"9d60ee60d29ec4fa0b9690c04c1c29413bbe3ed345639182d9d53dcc05926b77b04f4fec1562fb85182954c96b7cbb5d5e4410251ff4f352d09a2da90419fb13"},
		{256,
			"d9c76fa34978cb9620dab8c3f46bbe075fddc145eb282b39009141f98d0cfe82",
			"e49c208e41556e859d1a52d14784a061c2d5ae2c8690a5360e9f9344f60861c1362a9ec05a9f08a4167b3da41bdd122a387413dd06976470e4beff5053f2ac71"},
		{1000,
			"1e9bc38cbf860b9ec31918b065f9b52476c549a782e0e7990bed8ce3868d2371",
			"00e36fccf193e59697a92b5ab24666ce6326d7fa16bf10832d0991ddc591112e9dfa6a636950ed9c4d67344a760654c2ff7785e1d60094d651038735b5dccabd"},
	} {
		checkBoth(t, c.n, pattern(c.n), c.want256, c.want512)
	}
}

// P1.1
func TestEveryLength(t *testing.T) {
	var all256, all512 []byte
	for n := range 401 {
		all256 = append(all256, sha.Sum256(pattern(n))...)
		all512 = append(all512, sha.Sum512(pattern(n))...)
	}
	if got := hex.EncodeToString(sha.Sum256(all256)); got != "23bed21d7383b2e22cc840ecf94aac0c19be3427052d53c3e83a111821d6e3f5" {
		t.Errorf("Sum256 of all digests: %s", got)
	}
	if got := hex.EncodeToString(sha.Sum512(all512)); got != "aff69fc2d810c85c6a078c689affd4090dab0f2277f5d1c662a1ead8bf3187af8c5f33b216ed68119124ad44dac016d1070a4d35cddcbe1e2c6337a1d69e4069" {
		t.Errorf("Sum512 of all digests: %s", got)
	}
}

// P1.1
func TestManyBlocks(t *testing.T) {
	checkBoth(t, "a million times a", []byte(strings.Repeat("a", 1000000)),
		"cdc76e5c9914fb9281a1c7e284d73e67f1809a48a497200e046d39ccc7112cd0",
		"e718483d0ce769644e2e42c7bc15b4638e1f98b13b2044285632a803afa973ebde0ff244877ea60a4cb0432ce577c31beb009c5c2c49aa2e4eadb217ad8cc09b")
}

// P1.1
func TestSize(t *testing.T) {
	for _, d := range digests {
		for n := range 300 {
			if got := len(d.sum(pattern(n))); got != d.size {
				t.Fatalf("%s of %d bytes has %d bytes, want %d", d.name, n, got, d.size)
			}
		}
	}
}

// P1.2
func TestEqual(t *testing.T) {
	for _, c := range []struct {
		a, b []byte
		want bool
	}{
		{nil, nil, true},
		{nil, []byte{}, true},
		{[]byte{}, nil, true},
		{[]byte{}, []byte{}, true},
		{nil, []byte{0}, false},
		{[]byte{0}, nil, false},
		{[]byte{0}, []byte{0}, true},
		{[]byte{0}, []byte{0, 0}, false},
		{[]byte{0, 0}, []byte{0}, false},
		{[]byte{1, 2}, []byte{1, 2}, true},
		{[]byte{1, 2}, []byte{2, 1}, false},
		{[]byte{1, 2}, []byte{1, 2, 3}, false},
		{[]byte{1, 2, 3}, []byte{1, 2}, false},
		{[]byte{255}, []byte{127}, false},
		{pattern(1000), pattern(1000), true},
		{pattern(1000), pattern(999), false},
	} {
		if got := sha.Equal(c.a, c.b); got != c.want {
			t.Errorf("Equal(%v, %v) = %v", c.a, c.b, got)
		}
	}
}

// P1.2
func TestEqualEachBit(t *testing.T) {
	a := pattern(65)
	for i := range 8 * len(a) {
		b := bytes.Clone(a)
		b[i/8] ^= 1 << (i % 8)
		if sha.Equal(a, b) || sha.Equal(b, a) {
			t.Errorf("bit %d is another one, and Equal does not tell", i)
		}
	}
}

// P1.2: bytes that lie in one another.
func TestEqualOverlapping(t *testing.T) {
	same, rising := make([]byte, 20), pattern(20)
	if !sha.Equal(same[:10], same[5:15]) {
		t.Error("the same bytes at another place are unlike")
	}
	if sha.Equal(rising[:10], rising[5:15]) || !sha.Equal(rising[:10], rising[:10]) {
		t.Error("bytes of one memory are not told apart")
	}
}

// P1.3: not on the address, the spare room, or what was asked ahead.
func TestDigestsHangOnBytesAlone(t *testing.T) {
	for _, d := range digests {
		for _, n := range []int{0, 1, 55, 56, 64, 111, 112, 128, 200} {
			want := d.sum(pattern(n))
			for shift := range 9 {
				memory := bytes.Repeat([]byte{0xa5}, n+shift+300)
				copy(memory[shift:], pattern(n))
				wide := memory[shift : shift+n]
				narrow := memory[shift : shift+n : shift+n]
				d.sum(memory)
				if !bytes.Equal(d.sum(wide), want) || !bytes.Equal(d.sum(narrow), want) {
					t.Fatalf("%s of %d bytes is another one at %d", d.name, n, shift)
				}
			}
		}
	}
}

// P1.3
func TestEachBitCounts(t *testing.T) {
	for _, d := range digests {
		data := pattern(130)
		seen := map[string]int{string(d.sum(data)): -1}
		for i := range 8 * len(data) {
			data[i/8] ^= 1 << (i % 8)
			sum := string(d.sum(data))
			data[i/8] ^= 1 << (i % 8)
			if j, ok := seen[sum]; ok {
				t.Fatalf("%s: bits %d and %d turned tell the same", d.name, i, j)
			}
			seen[sum] = i
		}
	}
}

// P1.3: nothing is kept between calls by which two at once could meet.
func TestDigestsAtOnce(t *testing.T) {
	var wait sync.WaitGroup
	for _, d := range digests {
		for n := range 8 {
			want := d.sum(pattern(100 * n))
			wait.Go(func() {
				for range 50 {
					if !bytes.Equal(d.sum(pattern(100*n)), want) {
						t.Errorf("%s of %d bytes is another one beside others", d.name, 100*n)
					}
				}
			})
		}
	}
	wait.Wait()
}

// R4
func TestHandedInStays(t *testing.T) {
	for n := range 260 {
		memory := pattern(700)
		data, other := memory[100:100+n], memory[300:300+n]
		sha.Sum256(data)
		sha.Sum512(data)
		sha.Equal(data, other)
		sha.Equal(data, data)
		if !bytes.Equal(memory, pattern(700)) {
			t.Fatalf("of %d bytes handed in some, or their spare room, were changed", n)
		}
	}
}

// R4
func TestAnsweredIsNew(t *testing.T) {
	for _, d := range digests {
		for _, n := range []int{0, 32, 64, 128, 200} {
			data := pattern(n)
			first := d.sum(data)
			want := bytes.Clone(first)
			second := d.sum(data)
			clear(first[:cap(first)])
			if !bytes.Equal(second, want) || !bytes.Equal(d.sum(data), want) {
				t.Errorf("%s of %d bytes: answers share memory", d.name, n)
			}
			if !bytes.Equal(data, pattern(n)) {
				t.Errorf("%s of %d bytes: the answer shares memory with what was handed in", d.name, n)
			}
			clear(data)
			if !bytes.Equal(second, want) {
				t.Errorf("%s of %d bytes: what was handed in is kept in the answer", d.name, n)
			}
		}
	}
}
