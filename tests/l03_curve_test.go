package tests

import (
	"crypto/ecdh"
	"math/big"
	"math/rand"
	"slices"
	"strings"
	"testing"

	"loop.example/g00702/impl"
)

func power(n uint) *big.Int {
	return new(big.Int).Lsh(big.NewInt(1), n)
}

func plus(n *big.Int, k int64) *big.Int {
	return new(big.Int).Add(n, big.NewInt(k))
}

func realPrime() *big.Int {
	return plus(power(255), -19)
}

// little encodes an integer less than 2^256.
func little(n *big.Int) string {
	out := n.FillBytes(make([]byte, 32))
	slices.Reverse(out)
	return string(out)
}

func number(s string) *big.Int {
	out := []byte(s)
	slices.Reverse(out)
	return new(big.Int).SetBytes(out)
}

func unhex(t *testing.T, s string) string {
	t.Helper()
	out, ok := impl.ReadHex(s)
	if !ok {
		t.Fatalf("%q is not hexadecimal", s)
	}
	return out
}

// someElements are the numbers at which a carry, a borrow or a reduction changes, and others.
func someElements() []*big.Int {
	p := realPrime()
	near := []*big.Int{big.NewInt(0), p, new(big.Int).Rsh(p, 1), new(big.Int).Rsh(p, 2), power(64), power(128), power(192), power(254)}
	source := rand.New(rand.NewSource(1))
	out := []*big.Int{}
	for _, n := range near {
		for _, k := range []int64{-39, -38, -37, -20, -19, -18, -2, -1, 0, 1, 2, 18, 19, 20, 37, 38, 39} {
			out = append(out, plus(n, k))
		}
	}
	for range 30 {
		out = append(out, new(big.Int).Rand(source, p))
	}
	return slices.DeleteFunc(out, func(n *big.Int) bool { return n.Sign() < 0 || n.Cmp(p) >= 0 })
}

// nonElements are strings that encode no field element.
func nonElements() []string {
	p := realPrime()
	out := []string{"", "\x01", strings.Repeat("\x00", 31), strings.Repeat("\x00", 33), strings.Repeat("\x00", 64)}
	for k := range int64(60) {
		out = append(out, little(plus(p, k)), little(plus(power(256), -1-k)))
	}
	for _, n := range []*big.Int{power(255), plus(power(255), 1), plus(power(255), -1), new(big.Int).Lsh(p, 1), plus(power(255), 1<<62)} {
		out = append(out, little(n))
	}
	return out
}

func TestFieldOk(t *testing.T) {
	for _, n := range someElements() {
		if !impl.FieldOk(little(n)) {
			t.Errorf("FieldOk(%v) is false", n)
		}
	}
	for _, s := range nonElements() {
		if impl.FieldOk(s) {
			t.Errorf("FieldOk(%q) is true", s)
		}
	}
}

// One byte of p at a time is increased or decreased, so that every byte decides once.
func TestFieldOkOfEveryByte(t *testing.T) {
	p := realPrime()
	for i := range uint(32) {
		for _, sign := range []int64{-1, 1} {
			step := new(big.Int).Mul(power(8*i), big.NewInt(sign))
			n := new(big.Int).Add(p, step)
			if impl.FieldOk(little(n)) != (sign < 0) {
				t.Errorf("FieldOk(p + %v) is %v", step, sign > 0)
			}
		}
	}
}

func TestFieldExamples(t *testing.T) {
	small := func(n int64) string { return little(big.NewInt(n)) }
	last := little(plus(realPrime(), -1))
	checkSame(t, "7 * 9", impl.FieldMul(small(7), small(9)), small(63))
	checkSame(t, "1 - 2", impl.FieldSub(small(1), small(2)), last)
	checkSame(t, "(p - 1) * (p - 1)", impl.FieldMul(last, last), small(1))
	checkSame(t, "the inverse of 0", impl.FieldInv(small(0)), small(0))
	checkSame(t, "the inverse of 1", impl.FieldInv(small(1)), small(1))
	checkSame(t, "the inverse of p - 1", impl.FieldInv(last), last)
	checkSame(t, "(p - 1) + 1", impl.FieldAdd(last, small(1)), small(0))
	checkSame(t, "(p - 1) + (p - 1)", impl.FieldAdd(last, last), little(plus(realPrime(), -2)))
	checkSame(t, "0 - 0", impl.FieldSub(small(0), small(0)), small(0))
	checkSame(t, "0 - (p - 1)", impl.FieldSub(small(0), last), small(1))
	if impl.FieldOk(little(realPrime())) {
		t.Error("p is a field element")
	}
}

func TestFieldOperations(t *testing.T) {
	p := realPrime()
	numbers := someElements()
	for _, a := range numbers {
		for _, b := range numbers {
			x, y := little(a), little(b)
			sum, difference, product := new(big.Int).Add(a, b), new(big.Int).Sub(a, b), new(big.Int).Mul(a, b)
			checkSame(t, "FieldAdd", impl.FieldAdd(x, y), little(sum.Mod(sum, p)))
			checkSame(t, "FieldSub", impl.FieldSub(x, y), little(difference.Mod(difference, p)))
			checkSame(t, "FieldMul", impl.FieldMul(x, y), little(product.Mod(product, p)))
		}
	}
}

func TestFieldInverse(t *testing.T) {
	p := realPrime()
	for _, a := range someElements() {
		want := new(big.Int)
		if a.Sign() != 0 {
			want.ModInverse(a, p)
		}
		checkSame(t, "FieldInv", impl.FieldInv(little(a)), little(want))
	}
}

func TestFieldLaws(t *testing.T) {
	source := rand.New(rand.NewSource(2))
	numbers := someElements()
	pick := func() string { return little(numbers[source.Intn(len(numbers))]) }
	for range 2000 {
		a, b, c := pick(), pick(), pick()
		checkSame(t, "a + b", impl.FieldAdd(a, b), impl.FieldAdd(b, a))
		checkSame(t, "a * b", impl.FieldMul(a, b), impl.FieldMul(b, a))
		checkSame(t, "a * (b + c)", impl.FieldMul(a, impl.FieldAdd(b, c)), impl.FieldAdd(impl.FieldMul(a, b), impl.FieldMul(a, c)))
		checkSame(t, "a + b - b", impl.FieldSub(impl.FieldAdd(a, b), b), a)
	}
}

func TestFieldRejects(t *testing.T) {
	good := little(big.NewInt(1))
	for _, bad := range nonElements() {
		for _, operation := range []func(string, string) string{impl.FieldAdd, impl.FieldSub, impl.FieldMul} {
			checkSame(t, "an operation with a first argument that is no element", operation(bad, good), "")
			checkSame(t, "an operation with a second argument that is no element", operation(good, bad), "")
			checkSame(t, "an operation with two arguments that are no elements", operation(bad, bad), "")
		}
		checkSame(t, "FieldInv of no element", impl.FieldInv(bad), "")
	}
}

// noKeys are strings that are not keys.
func noKeys() []string {
	return []string{"", "x", text(31, 1), text(33, 1), text(64, 1)}
}

func TestClamped(t *testing.T) {
	middle := strings.Repeat("\xff", 30)
	checkSame(t, "Clamped of ones", impl.Clamped("\xff"+middle+"\xff"), "\xf8"+middle+"\x7f")
	checkSame(t, "Clamped of zeros", impl.Clamped(strings.Repeat("\x00", 32)), strings.Repeat("\x00", 31)+"\x40")
	middle = text(30, 7)
	for b := range 256 {
		first, last := string([]byte{byte(b) / 8 * 8}), string([]byte{byte(b)%64 + 64})
		checkSame(t, "Clamped", impl.Clamped(string([]byte{byte(b)})+middle+string([]byte{byte(b)})), first+middle+last)
	}
	for _, bad := range noKeys() {
		checkSame(t, "Clamped of no key", impl.Clamped(bad), "")
	}
}

func TestDhVectors(t *testing.T) {
	for _, c := range []struct{ key, pub, want string }{
		{"a546e36bf0527c9d3b16154b82465edd62144c0ac1fc5a18506a2244ba449ac4", "e6db6867583030db3594c1a424b15f7c726624ec26b3353b10a903a6d0ab1c4c", "c3da55379de9c6908e94ea4df28d084f32eccf03491c71f754b4075577a28552"},
		{"4b66e9d4d1b4673c5ad22691957d6af5c11b6421e0ea01d42ca4169e7918ba0d", "e5210f12786811d3f4b7959d0538ae2c31dbe7106fc03c3efc4cd549c715a493", "95cbde9476e8907d7aade45cb4b873f88b595a68799fa152e6f8f7647aac7957"},
		{"77076d0a7318a57d3c16c17251b26645df4c2f87ebc0992ab177fba51db92c2a", "de9edb7d7b7dc1b4d35b61c2ece435373f8343c85b78674dadfc7e146f882b4f", "4a5d9d5ba4ce2de1728e3bf480350f25e07e21c947d19e3376f09b3c1e161742"},
		{"5dab087e624a8a4b79e17f8b83800ee66f3bb1292618b6fd1c2f8b27ff88e0eb", "8520f0098930a754748b7ddcb43ef75a0dbf3a0d26381af4eba4a98eaa9b4e6a", "4a5d9d5ba4ce2de1728e3bf480350f25e07e21c947d19e3376f09b3c1e161742"},
	} {
		checkHex(t, "Dh", impl.Dh(unhex(t, c.key), unhex(t, c.pub)), c.want)
	}
	for _, c := range []struct{ key, want string }{
		{"77076d0a7318a57d3c16c17251b26645df4c2f87ebc0992ab177fba51db92c2a", "8520f0098930a754748b7ddcb43ef75a0dbf3a0d26381af4eba4a98eaa9b4e6a"},
		{"5dab087e624a8a4b79e17f8b83800ee66f3bb1292618b6fd1c2f8b27ff88e0eb", "de9edb7d7b7dc1b4d35b61c2ece435373f8343c85b78674dadfc7e146f882b4f"},
	} {
		checkHex(t, "PublicOf", impl.PublicOf(unhex(t, c.key)), c.want)
	}
}

// The iteration of RFC 7748, section 5.2.
func TestDhRepeated(t *testing.T) {
	key := little(big.NewInt(9))
	checkHex(t, "PublicOf(9)", impl.PublicOf(key), "422c8e7a6227d7bca1350b3e2bb7279f7897b87bb6854b783c60e80311ae3079")
	pub := key
	for range 1000 {
		key, pub = impl.Dh(key, pub), key
	}
	checkHex(t, "Dh, 1000 times", key, "684cf59ba83309552800ef566f2f4d3c1c3887c49360e3875f2eb94d99532c51")
}

func realDh(t *testing.T, key string, pub string) string {
	t.Helper()
	a, err := ecdh.X25519().NewPrivateKey([]byte(key))
	if err != nil {
		t.Fatal(err)
	}
	b, err := ecdh.X25519().NewPublicKey([]byte(pub))
	if err != nil {
		t.Fatal(err)
	}
	out, err := a.ECDH(b)
	if err != nil {
		// The library refuses the result 0, which keys of small order have.
		return zeros(32)
	}
	return string(out)
}

func someKeys() []string {
	out := []string{strings.Repeat("\x00", 32), strings.Repeat("\xff", 32), strings.Repeat("\xaa", 32), little(plus(realPrime(), -1))}
	for i := range 12 {
		out = append(out, impl.KeyFrom(int64(i)))
	}
	return out
}

func TestDhAgrees(t *testing.T) {
	base := little(big.NewInt(9))
	for _, a := range someKeys() {
		checkSame(t, "PublicOf", impl.PublicOf(a), realDh(t, a, base))
		checkSame(t, "Dh of 9", impl.Dh(a, base), impl.PublicOf(a))
		for _, b := range someKeys() {
			secret := impl.Dh(a, impl.PublicOf(b))
			checkSame(t, "Dh of one side", secret, realDh(t, a, impl.PublicOf(b)))
			checkSame(t, "Dh of the other side", secret, impl.Dh(b, impl.PublicOf(a)))
			checkSame(t, "Dh with a clamped key", impl.Dh(impl.Clamped(a), impl.PublicOf(b)), secret)
		}
	}
}

// Public keys are any 32 bytes, on the curve or not, and near p in particular.
func TestDhOfAnyPublicKey(t *testing.T) {
	key := impl.KeyFrom(77)
	for _, n := range someElements() {
		pub := little(n)
		if impl.Dh(key, pub) != strings.Repeat("\x00", 32) {
			checkSame(t, "Dh", impl.Dh(key, pub), realDh(t, key, pub))
		} else if n.BitLen() > 1 && n.Cmp(plus(realPrime(), -1)) != 0 {
			t.Errorf("Dh of %v is 0", n)
		}
	}
}

func TestDhIgnoresHighestBit(t *testing.T) {
	keys := append(someKeys(), little(plus(power(255), -1)), little(realPrime()))
	for _, pub := range keys {
		low, high := []byte(pub), []byte(pub)
		low[31] &= 127
		high[31] |= 128
		checkSame(t, "Dh", impl.Dh(impl.KeyFrom(5), string(high)), impl.Dh(impl.KeyFrom(5), string(low)))
	}
}

// The integers p .. 2^255 - 1 denote 0 .. 18.
func TestDhReducesPublicKey(t *testing.T) {
	for k := range int64(19) {
		want := impl.Dh(impl.KeyFrom(6), little(big.NewInt(k)))
		for _, n := range []*big.Int{plus(realPrime(), k), new(big.Int).Add(power(255), plus(realPrime(), k))} {
			checkSame(t, "Dh", impl.Dh(impl.KeyFrom(6), little(n)), want)
		}
	}
}

// The points whose order divides 8 yield 0, which the document does not reject.
func TestDhOfSmallOrder(t *testing.T) {
	zero := strings.Repeat("\x00", 32)
	for _, pub := range []string{
		zero,
		little(big.NewInt(1)),
		little(plus(realPrime(), -1)),
		little(realPrime()),
		little(plus(realPrime(), 1)),
		unhex(t, "e0eb7a7c3b41b8ae1656e3faf19fc46ada098deb9c32b1fd866205165f49b800"),
		unhex(t, "5f9c95bca3508c24b1d0b1559c83ef5b04445cc4581c8e86d8224eddd09f1157"),
	} {
		for _, key := range someKeys() {
			checkSame(t, "Dh", impl.Dh(key, pub), zero)
		}
	}
}

func TestDhRejects(t *testing.T) {
	key := impl.KeyFrom(1)
	for _, bad := range noKeys() {
		checkSame(t, "Dh with no key", impl.Dh(bad, key), "")
		checkSame(t, "Dh with no public key", impl.Dh(key, bad), "")
		checkSame(t, "Dh with neither", impl.Dh(bad, bad), "")
		checkSame(t, "PublicOf no key", impl.PublicOf(bad), "")
	}
}

// The results of the operations are elements themselves, so they can be used in further ones.
func TestFieldResultsAreElements(t *testing.T) {
	for _, a := range someElements() {
		x := little(a)
		for _, s := range []string{impl.FieldAdd(x, x), impl.FieldSub(x, x), impl.FieldMul(x, x), impl.FieldInv(x), impl.Dh(x, x)} {
			if number(s).Cmp(realPrime()) >= 0 || !impl.FieldOk(s) {
				t.Errorf("%q is no field element", s)
			}
		}
	}
}
