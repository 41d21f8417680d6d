package sha_test

import (
	"bytes"
	"crypto/hmac"
	"crypto/sha256"
	"encoding/hex"
	"math"
	"math/big"
	"math/rand/v2"
	"slices"
	"strings"
	"testing"

	"minster/api"
	"minster/sha"
)

func libraryCode(secret, message []byte) api.Hash {
	m := hmac.New(sha256.New, secret)
	m.Write(message)
	return api.Hash(m.Sum(nil))
}

// codeByWords is the code just as the chapter's words say it, with the
// library's hash.
func codeByWords(secret, message []byte) api.Hash {
	k := slices.Clone(secret)
	if len(k) > 64 {
		h := sha256.Sum256(k)
		k = h[:]
	}
	for len(k) < 64 {
		k = append(k, 0)
	}
	var inner, outer []byte
	for _, c := range k {
		inner = append(inner, c^54)
		outer = append(outer, c^92)
	}
	h := sha256.Sum256(slices.Concat(inner, message))
	return sha256.Sum256(slices.Concat(outer, h[:]))
}

func random(g *rand.Rand, n int) []byte {
	b := make([]byte, n)
	for i := range b {
		b[i] = byte(g.Uint32())
	}
	return b
}

// parted is b in lists, some of them nil or empty.
func parted(g *rand.Rand, b []byte) [][]byte {
	l := [][]byte{}
	for len(b) > 0 {
		switch g.IntN(6) {
		case 0:
			l = append(l, nil)
		case 1:
			l = append(l, []byte{})
		default:
			n := 1 + g.IntN(len(b))
			l = append(l, b[:n])
			b = b[n:]
		}
	}
	return l
}

func primes(n int) []int64 {
	var l []int64
	for p := int64(2); len(l) < n; p++ {
		if !slices.ContainsFunc(l, func(q int64) bool { return p%q == 0 }) {
			l = append(l, p)
		}
	}
	return l
}

// behindThePoint is the first 32 bits behind the point of the root of p of
// that degree: the lowest 32 of the greatest number whose power is not above
// p * 2^(32 * degree).
func behindThePoint(p, degree int64) uint32 {
	bound := new(big.Int).Lsh(big.NewInt(p), uint(32*degree))
	root := new(big.Int)
	for bit := 40; bit >= 0; bit-- {
		more := new(big.Int).SetBit(root, bit, 1)
		if new(big.Int).Exp(more, big.NewInt(degree), nil).Cmp(bound) <= 0 {
			root = more
		}
	}
	return uint32(root.Uint64())
}

// P3.1: the chapter's examples.
func TestExamples(t *testing.T) {
	if h := sha.Sum(); !bytes.Equal(h[:4], []byte{227, 176, 196, 66}) {
		t.Error(h)
	}
	if h := sha.Sum([]byte("abc")); !bytes.Equal(h[:4], []byte{186, 120, 22, 191}) {
		t.Error(h)
	}
	h := sha.Code([]byte("Jefe"), []byte("what do ya want for nothing?"))
	if !bytes.Equal(h[:4], []byte{91, 220, 193, 70}) {
		t.Error(h)
	}
	if s, c := sha.Start(0), sha.Constant(0); s != 1779033703 || c != 1116352408 {
		t.Error(s, c)
	}
}

// P3.1: hashes that are known, whole.
func TestSumOfKnownMessages(t *testing.T) {
	for message, want := range map[string]string{
		"":    "e3b0c44298fc1c149afbf4c8996fb92427ae41e4649b934ca495991b7852b855",
		"abc": "ba7816bf8f01cfea414140de5dae2223b00361a396177a9cb410ff61f20015ad",
		"abcdbcdecdefdefgefghfghighijhijkijkljklmklmnlmnomnopnopq": "248d6a61d20638b8e5c026930c3e6039a33ce45964ff2167f6ecedd419db06c1",
		strings.Repeat("a", 1000000):                               "cdc76e5c9914fb9281a1c7e284d73e67f1809a48a497200e046d39ccc7112cd0",
	} {
		if got := sha.Text(sha.Sum([]byte(message))); got != want {
			t.Errorf("%d bytes: %s", len(message), got)
		}
	}
}

// P3.1: each length around the ends of blocks, where the padding goes on into
// one block more.
func TestSumOfEachLength(t *testing.T) {
	g := rand.New(rand.NewPCG(3, 1))
	for n := range 400 {
		for _, b := range [][]byte{make([]byte, n), bytes.Repeat([]byte{255}, n), random(g, n)} {
			if got := sha.Sum(b); got != sha256.Sum256(b) {
				t.Errorf("%d bytes: %v", n, got)
			}
		}
	}
}

// P3.1: a message of so many bits that their number has four bytes.
func TestSumOfALongMessage(t *testing.T) {
	b := random(rand.New(rand.NewPCG(3, 2)), 1<<21+77)
	if got := sha.Sum(b[:1<<20], b[1<<20:]); got != sha256.Sum256(b) {
		t.Error(got)
	}
}

// P3.1: no lists, nil ones and empty ones are the message without bytes.
func TestSumOfNothing(t *testing.T) {
	want := api.Hash(sha256.Sum256(nil))
	for i, l := range [][][]byte{nil, {}, {nil}, {{}}, {nil, {}, nil}} {
		if got := sha.Sum(l...); got != want {
			t.Error(i, got)
		}
		if got := sha.Code(nil, l...); got != libraryCode(nil, nil) {
			t.Error(i, got)
		}
	}
}

// P3.1: codes that are known, whole (RFC 4231).
func TestCodeOfKnownMessages(t *testing.T) {
	for _, c := range []struct {
		secret        []byte
		message, want string
	}{
		{bytes.Repeat([]byte{11}, 20), "Hi There", "b0344c61d8db38535ca8afceaf0bf12b881dc200c9833da726e9376c2e32cff7"},
		{[]byte("Jefe"), "what do ya want for nothing?", "5bdcc146bf60754e6a042426089575c75a003f089d2739839dec58b964ec3843"},
		{bytes.Repeat([]byte{170}, 20), strings.Repeat("\xdd", 50), "773ea91e36800e46854db8ebd09181a72959098b3ef8c122d9635514ced565fe"},
		{bytes.Repeat([]byte{170}, 131), "Test Using Larger Than Block-Size Key - Hash Key First", "60e431591ee0b67f0d8a26aacbf5b77f8e0bc6213728c5140546040f0ee37f54"},
	} {
		if got := sha.Text(sha.Code(c.secret, []byte(c.message))); got != c.want {
			t.Errorf("%q: %s", c.message, got)
		}
	}
}

// P3.1: secrets of each length around a block, by the library's codes and by
// the chapter's words.
func TestCodeOfEachSecret(t *testing.T) {
	g := rand.New(rand.NewPCG(3, 3))
	for n := range 200 {
		for _, length := range []int{0, 1, 31, 55, 56, 64, g.IntN(300)} {
			secret, message := random(g, n), random(g, length)
			got := sha.Code(secret, message)
			if got != libraryCode(secret, message) || got != codeByWords(secret, message) {
				t.Errorf("a secret of %d, a message of %d: %v", n, length, got)
			}
		}
	}
}

// P3.1: a secret of 64 bytes is taken as it is, one of 65 by its hash.
func TestCodeOfALongSecretIsThatOfItsHash(t *testing.T) {
	message := []byte("a message")
	for _, n := range []int{63, 64, 65, 66, 128, 1000} {
		secret := bytes.Repeat([]byte{7}, n)
		short := sha.Sum(secret)
		same := sha.Code(secret, message) == sha.Code(short[:], message)
		if same != (n > 64) {
			t.Error(n, same)
		}
	}
	if sha.Code([]byte("a"), message) != sha.Code([]byte("a\x00"), message) {
		t.Error("the secret is not filled up with noughts")
	}
}

// P3.1: a code hangs on the secret and on each byte of the message.
func TestCodeTellsSecretsAndMessagesApart(t *testing.T) {
	secret, message := []byte("a secret of some bytes"), []byte("a message of some bytes")
	code := sha.Code(secret, message)
	for i := range secret {
		other := slices.Clone(secret)
		other[i] ^= 1
		if sha.Code(other, message) == code {
			t.Error("secret", i)
		}
	}
	for i := range message {
		other := slices.Clone(message)
		other[i] ^= 128
		if sha.Code(secret, other) == code {
			t.Error("message", i)
		}
	}
	if sha.Code(message, secret) == code || sha.Sum(secret, message) == code {
		t.Error("secret and message are one")
	}
}

// P3.1: two hashes are the same if each byte is.
func TestEqual(t *testing.T) {
	var none api.Hash
	if !sha.Equal(none, api.Hash{}) || sha.Equal(none, sha.Sum()) || sha.Equal(sha.Sum(), none) {
		t.Error("the zero hash")
	}
	a := sha.Sum([]byte("a"))
	if !sha.Equal(a, sha.Sum([]byte("a"))) {
		t.Error("a and a")
	}
	for i := range a {
		for bit := range 8 {
			b := a
			b[i] ^= 1 << bit
			if sha.Equal(a, b) || sha.Equal(b, a) {
				t.Error(i, bit)
			}
		}
	}
	b := a
	b[3], b[9] = b[3]^64, b[9]^64
	if sha.Equal(a, b) {
		t.Error("two bytes that differ alike")
	}
}

// P3.2: two digits a byte, the higher half first.
func TestText(t *testing.T) {
	if s := sha.Text(api.Hash{}); s != strings.Repeat("0", 64) {
		t.Error(s)
	}
	h := api.Hash{0: 1, 1: 16, 2: 171, 3: 205, 4: 239, 30: 255, 31: 9}
	if s := sha.Text(h); s != "0110abcdef"+strings.Repeat("00", 25)+"ff09" {
		t.Error(s)
	}
	for c := range 256 {
		for i := range h {
			h[i] = byte(c + i)
		}
		if s := sha.Text(h); s != hex.EncodeToString(h[:]) {
			t.Error(s)
		}
	}
}

// P3.2, P3.4: Of of Text is the hash.
func TestOf(t *testing.T) {
	g := rand.New(rand.NewPCG(3, 4))
	for range 500 {
		h := api.Hash(random(g, 32))
		if got, code := sha.Of(sha.Text(h)); got != h || code != api.OK {
			t.Error(h, got, code)
		}
	}
	for _, h := range []api.Hash{{}, {31: 1}, {0: 128}, api.Hash(bytes.Repeat([]byte{255}, 32))} {
		if got, code := sha.Of(sha.Text(h)); got != h || code != api.OK {
			t.Error(h, got, code)
		}
	}
}

// P3.2: texts of another length than a hash's, and such as only look like one.
func TestOfRefusesTexts(t *testing.T) {
	text := sha.Text(sha.Sum([]byte("abc")))
	for _, s := range []string{
		"", "0", "00", text[:62], text[:63], text[1:], text + "0", text + "00", text + text, " " + text, text + " ", text + "\n",
		"0x" + text, "0x" + text[2:], " " + text[1:], text[:63] + " ", text[:63] + "\n", "+" + text[1:], "-" + text[1:],
		strings.ToUpper(text), "B" + text[1:], text[:63] + "D", text[:32] + "-" + text[33:], text[:62] + "é", "é" + text[2:],
		text[:62] + "g0", text[:31] + "z" + text[32:], text[:63] + "\x00", strings.Repeat("é", 32), strings.Repeat("\xff", 64),
		strings.Repeat("é", 64), strings.Repeat("0", 1000),
	} {
		if got, code := sha.Of(s); got != (api.Hash{}) || code != api.ErrBytes {
			t.Errorf("%q: %v %d", s, got, code)
		}
	}
}

// P3.2: at each place the sixteen digits alone are taken.
func TestOfTakesTheDigitsAlone(t *testing.T) {
	text := []byte(sha.Text(sha.Sum([]byte("abc"))))
	for i := range text {
		for c := range 256 {
			b := slices.Clone(text)
			b[i] = byte(c)
			got, code := sha.Of(string(b))
			if strings.IndexByte("0123456789abcdef", byte(c)) >= 0 {
				if code != api.OK || sha.Text(got) != string(b) {
					t.Errorf("%q: %v %d", b, got, code)
				}
			} else if got != (api.Hash{}) || code != api.ErrBytes {
				t.Errorf("%q: %v %d", b, got, code)
			}
		}
	}
}

// P3.3: the words of the start are those of the primes' square roots.
func TestStart(t *testing.T) {
	for i, p := range primes(8) {
		if got := sha.Start(i); got != behindThePoint(p, 2) {
			t.Error(i, got)
		}
	}
	for _, i := range []int{-1, -8, 8, 9, 63, 64, 256, 1 << 32, math.MaxInt, math.MinInt} {
		if got := sha.Start(i); got != 0 {
			t.Error(i, got)
		}
	}
}

// P3.3: the constants are those of the primes' cube roots.
func TestConstant(t *testing.T) {
	for i, p := range primes(64) {
		if got := sha.Constant(i); got != behindThePoint(p, 3) {
			t.Error(i, got)
		}
	}
	for _, i := range []int{-1, -64, 64, 65, 128, 256, 1 << 32, math.MaxInt, math.MinInt} {
		if got := sha.Constant(i); got != 0 {
			t.Error(i, got)
		}
	}
}

// P3.4: each place at which a message of some blocks may be parted in two.
func TestWhereAMessageIsParted(t *testing.T) {
	b := random(rand.New(rand.NewPCG(3, 5)), 200)
	secret := []byte("secret")
	for i := range len(b) + 1 {
		if got := sha.Sum(b[:i], b[i:]); got != sha.Sum(b) {
			t.Error(i, got)
		}
		if got := sha.Code(secret, b[:i], b[i:]); got != sha.Code(secret, b) {
			t.Error(i, got)
		}
	}
}

// P3.4: messages that are parted in many lists.
func TestAMessageInManyLists(t *testing.T) {
	g := rand.New(rand.NewPCG(3, 6))
	for range 300 {
		b, secret := random(g, g.IntN(400)), random(g, g.IntN(100))
		l := parted(g, b)
		if got := sha.Sum(l...); got != sha256.Sum256(b) {
			t.Error(len(b), got)
		}
		if got := sha.Code(secret, l...); got != libraryCode(secret, b) {
			t.Error(len(b), len(secret), got)
		}
	}
}

// The order of lists counts.
func TestTheOrderOfLists(t *testing.T) {
	a, b := []byte("a"), []byte("b")
	if sha.Sum(a, b) == sha.Sum(b, a) || sha.Code(nil, a, b) == sha.Code(nil, b, a) {
		t.Error("the order is not told")
	}
}

// What is handed in is not changed, nor what lies behind it in its memory.
func TestWhatIsHandedInStays(t *testing.T) {
	g := rand.New(rand.NewPCG(3, 7))
	memory := random(g, 600)
	want := slices.Clone(memory)
	secrets := [][]byte{memory[:5], memory[:64], memory[:100]}
	for _, secret := range secrets {
		l := make([][]byte, 2, 8)
		l[0], l[1] = memory[100:150], memory[300:429]
		behind := l[:8]
		behind[2] = memory[1:2]
		sha.Sum(l...)
		sha.Code(secret, l...)
		sha.Sum(memory[200:210])
		if !bytes.Equal(memory, want) {
			t.Fatal("the bytes are changed")
		}
		if len(l[0]) != 50 || &l[0][0] != &memory[100] || len(l[1]) != 129 || &behind[2][0] != &memory[1] || behind[3] != nil {
			t.Fatal("the lists are changed")
		}
	}
}

// The start is not changed by what is summed, nor is it summed on to: each
// call begins anew.
func TestEachCallBeginsAnew(t *testing.T) {
	first := sha.Sum([]byte("x"))
	for i := range 5 {
		sha.Code([]byte{byte(i)}, bytes.Repeat([]byte{byte(i)}, 100))
		if got := sha.Sum([]byte("x")); got != first {
			t.Error(i, got)
		}
		if sha.Start(0) != 1779033703 || sha.Constant(63) != 0xc67178f2 {
			t.Error(i, "the tables are changed")
		}
	}
}
