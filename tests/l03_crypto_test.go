package tests

import (
	"bytes"
	"math"
	"math/big"
	"slices"
	"testing"

	"loop.example/g03008/impl"
)

// remainder is Mod(n, Modulus), told by the standard library.
func remainder(n *big.Int) *big.Int {
	return new(big.Int).Mod(n, big.NewInt(impl.Modulus))
}

// hashOf is Hash, told in numbers that have no greatest one.
func hashOf(values ...int) int {
	hash := big.NewInt(11)
	for _, v := range values {
		hash.Mul(hash, big.NewInt(1000003))
		hash.Add(hash, remainder(big.NewInt(int64(v))))
		hash.Add(hash, big.NewInt(13))
		hash = remainder(hash)
	}
	return int(hash.Int64())
}

func keyedHashOf(key int, values ...int) int {
	return hashOf(slices.Concat([]int{key}, values, []int{key})...)
}

// edgeValues are the values at which the remainder turns, and the ends of int.
var edgeValues = []int{
	0, 1, 2, 4, 5, 255, 256, -1, -2, -5, -256,
	impl.Modulus - 2, impl.Modulus - 1, impl.Modulus, impl.Modulus + 1, impl.Modulus + 5, 2*impl.Modulus - 1, 2 * impl.Modulus, 2*impl.Modulus + 1,
	-impl.Modulus - 1, -impl.Modulus, -impl.Modulus + 1, -2 * impl.Modulus, -2*impl.Modulus - 1,
	1 << 31, 1 << 32, -(1 << 31), -(1 << 32), impl.MaxValue, impl.MaxValue + 1, -impl.MaxValue,
	math.MaxInt, math.MaxInt - 1, math.MinInt, math.MinInt + 1,
}

// validKeys and badKeys are told apart by IsValidKey.
var (
	validKeys = []int{1, 2, 3, 5, 77, 78, 162, 255, 256, 1 << 20, 1 << 30, impl.Modulus / 2, impl.Modulus - 2, impl.Modulus - 1}
	badKeys   = []int{0, -1, -2, -77, impl.Modulus, impl.Modulus + 1, impl.Modulus + 77, 2 * impl.Modulus, 1 << 31, 1 << 32, 1<<32 + 1, impl.MaxValue, -impl.Modulus + 1, -impl.Modulus, -impl.Modulus - 1, math.MaxInt, math.MinInt, math.MinInt + 1}
	allKeys   = slices.Concat(validKeys, badKeys)
)

// valueLists are of no, of one and of several values.
func valueLists() [][]int {
	lists := [][]int{nil, {}, {5, 300}, {300, 5}, {1, 2, 3, 4, 5}, {0, 0}, {0, 0, 0}, {-5, 7, -9}, slices.Repeat([]int{97}, 10), slices.Repeat([]int{impl.Modulus - 1}, 200), edgeValues}
	for _, v := range edgeValues {
		lists = append(lists, []int{v}, []int{v, 3}, []int{3, v}, []int{v, v, v})
	}
	return lists
}

func TestHash(t *testing.T) {
	cases := []struct {
		values []int
		want   int
	}{
		{nil, 11},
		{[]int{}, 11},
		{[]int{5}, 11000051},
		{[]int{0}, 11000046},
		{[]int{-1}, 11000045},
		{[]int{impl.Modulus - 1}, 11000045},
		{[]int{impl.Modulus}, 11000046},
		{[]int{-impl.Modulus}, 11000046},
		{[]int{impl.Modulus + 1}, 11000047},
		{[]int{-impl.Modulus - 1}, 11000045},
		{[]int{math.MaxInt}, 11000047},
		{[]int{math.MinInt}, 11000044},
		{[]int{impl.MaxValue}, 1431104191},
		{[]int{0, 0}, 667760217},
		{[]int{5, 300}, 672760532},
		{[]int{300, 5}, 967761122},
		{[]int{-5, 7, -9}, 1499176197},
		{[]int{1, 2, 3, 4, 5}, 925415832},
		{slices.Repeat([]int{97}, 10), 654516353},
	}
	for _, c := range cases {
		if got := impl.Hash(c.values); got != c.want {
			t.Errorf("Hash(%v) is %d, not %d", c.values, got, c.want)
		}
	}
	if impl.Modulus != 2147483647 {
		t.Errorf("Modulus is %d", impl.Modulus)
	}
}

func TestHashAgreesWithGreatNumbers(t *testing.T) {
	for _, values := range valueLists() {
		got := impl.Hash(values)
		if want := hashOf(values...); got != want {
			t.Errorf("Hash(%v) is %d, not %d", values, got, want)
		}
		if got < 0 || got >= impl.Modulus {
			t.Errorf("Hash(%v) is %d, out of range", values, got)
		}
	}
	v := 1
	for range 5000 {
		v = v*6364136223846793005 + 1442695040888963407
		values := []int{v, -v, v >> 20, v % 1000}
		if got, want := impl.Hash(values), hashOf(values...); got != want {
			t.Errorf("Hash(%v) is %d, not %d", values, got, want)
		}
	}
}

func TestHashReachesItsEnds(t *testing.T) {
	// 11 * 1000003 + 13 is 11000046, so these values make the accumulator
	// Modulus - 1, Modulus and Modulus + 1 before the last remainder.
	for value, want := range map[int]int{impl.Modulus - 11000047: impl.Modulus - 1, impl.Modulus - 11000046: 0, impl.Modulus - 11000045: 1, -11000046: 0, -11000047: impl.Modulus - 1} {
		if got := impl.Hash([]int{value}); got != want {
			t.Errorf("Hash([%d]) is %d, not %d", value, got, want)
		}
		if got, want := impl.Hash([]int{value, 7}), hashOf(value, 7); got != want {
			t.Errorf("Hash([%d 7]) is %d, not %d", value, got, want)
		}
	}
}

func TestKeyedHash(t *testing.T) {
	cases := []struct{ key, ofNone, ofOne, ofTwo int }{
		{0, 667760217, 36762379, 1860217792},
		{1, 668760221, 1462866534, 762295907},
		{2, 669760225, 741487042, 1811857669},
		{3, 670760229, 20107550, 713935784},
		{77, 744760525, 325116317, 1072094880},
		{78, 745760529, 1751220472, 2121656642},
		{impl.Modulus - 1, 666760213, 758141871, 810656030},
		{-1, 666760213, 758141871, 810656030},
		{impl.Modulus, 667760217, 36762379, 1860217792},
		{-impl.Modulus, 667760217, 36762379, 1860217792},
		{impl.Modulus + 1, 668760221, 1462866534, 762295907},
		{math.MaxInt, 668760221, 1462866534, 762295907},
		{math.MinInt, 665760209, 1479521363, 1908577915},
	}
	for _, c := range cases {
		for _, none := range [][]int{nil, {}} {
			if got := impl.KeyedHash(c.key, none); got != c.ofNone {
				t.Errorf("KeyedHash(%d, %v) is %d, not %d", c.key, none, got, c.ofNone)
			}
		}
		if got := impl.KeyedHash(c.key, []int{4}); got != c.ofOne {
			t.Errorf("KeyedHash(%d, [4]) is %d, not %d", c.key, got, c.ofOne)
		}
		if got := impl.KeyedHash(c.key, []int{4, -4}); got != c.ofTwo {
			t.Errorf("KeyedHash(%d, [4 -4]) is %d, not %d", c.key, got, c.ofTwo)
		}
	}
}

func TestKeyedHashIsTheHashBetweenKeys(t *testing.T) {
	for _, key := range allKeys {
		for _, values := range valueLists() {
			got := impl.KeyedHash(key, values)
			if want := keyedHashOf(key, values...); got != want {
				t.Errorf("KeyedHash(%d, %v) is %d, not %d", key, values, got, want)
			}
			if want := impl.Hash(slices.Concat([]int{key}, values, []int{key})); got != want {
				t.Errorf("KeyedHash(%d, %v) is %d, and Hash says %d", key, values, got, want)
			}
			if got < 0 || got >= impl.Modulus {
				t.Errorf("KeyedHash(%d, %v) is %d, out of range", key, values, got)
			}
		}
	}
}

// checkDependsOn replaces each value by others: the hash is the same just if
// the values are, modulo Modulus.
func checkDependsOn(t *testing.T, key int, values []int) {
	t.Helper()
	was := impl.KeyedHash(key, values)
	for i, old := range values {
		for _, other := range edgeValues {
			changed := slices.Clone(values)
			changed[i] = other
			same := remainder(big.NewInt(int64(old))).Cmp(remainder(big.NewInt(int64(other)))) == 0
			if got := impl.KeyedHash(key, changed); (got == was) != same {
				t.Errorf("KeyedHash(%d, %v) is %d, and %d with %d at index %d", key, values, was, got, other, i)
			}
		}
	}
}

func TestKeyedHashDependsOnEachValue(t *testing.T) {
	for _, key := range allKeys {
		for _, values := range [][]int{{0}, {-1}, {math.MinInt}, {5, 300}, {0, 0, 0}, {1, 2, 3, 4, 5}, {impl.Modulus - 1, impl.Modulus, math.MaxInt, -7}, slices.Repeat([]int{9}, 30)} {
			checkDependsOn(t, key, values)
		}
	}
}

func TestKeyedHashDependsOnTheKeyAndTheOrder(t *testing.T) {
	for _, values := range [][]int{nil, {4}, {5, 300}, {-1, 0, 1}} {
		for i, key := range validKeys {
			for _, other := range validKeys[i+1:] {
				if impl.KeyedHash(key, values) == impl.KeyedHash(other, values) {
					t.Errorf("KeyedHash of %v is the same under %d and %d", values, key, other)
				}
			}
		}
	}
	for _, key := range allKeys {
		if impl.KeyedHash(key, []int{5, 300}) == impl.KeyedHash(key, []int{300, 5}) {
			t.Errorf("KeyedHash under %d does not depend on the order", key)
		}
		if impl.KeyedHash(key, nil) == impl.KeyedHash(key, []int{0}) || impl.KeyedHash(key, []int{0}) == impl.KeyedHash(key, []int{0, 0}) {
			t.Errorf("KeyedHash under %d does not depend on the number of values", key)
		}
	}
}

func TestIsValidKey(t *testing.T) {
	for _, key := range validKeys {
		if !impl.IsValidKey(key) {
			t.Errorf("%d is a key", key)
		}
	}
	for _, key := range badKeys {
		if impl.IsValidKey(key) {
			t.Errorf("%d is not a key", key)
		}
	}
}

func TestBytesToInts(t *testing.T) {
	cases := []struct {
		b    []byte
		want []int
	}{
		{nil, []int{0}},
		{[]byte{}, []int{0}},
		{[]byte{0}, []int{1, 0}},
		{[]byte{255}, []int{1, 255}},
		{[]byte{9, 8}, []int{2, 9, 8}},
		{[]byte{127, 128, 0, 255}, []int{4, 127, 128, 0, 255}},
		{[]byte("ab"), []int{2, 97, 98}},
		{[]byte("ü"), []int{2, 195, 188}},
	}
	for _, c := range cases {
		if got := impl.BytesToInts(c.b); !slices.Equal(got, c.want) {
			t.Errorf("BytesToInts(%v) is %v, not %v", c.b, got, c.want)
		}
	}
}

func TestBytesToIntsThereAndBack(t *testing.T) {
	for _, size := range []int{0, 1, 2, 127, 128, 255, 256, 300, 5000} {
		b := bytesOf(size)
		values := impl.BytesToInts(b)
		if len(values) != size+1 || values[0] != size {
			t.Fatalf("BytesToInts of %d bytes has %d values, the first is %d", size, len(values), values[0])
		}
		back := make([]byte, 0, size)
		for _, v := range values[1:] {
			if v < 0 || v > 255 {
				t.Errorf("BytesToInts of %d bytes has the value %d", size, v)
			}
			back = append(back, byte(v))
		}
		if !bytes.Equal(back, b) {
			t.Errorf("BytesToInts of %d bytes has other bytes", size)
		}
	}
}

func TestEncrypt(t *testing.T) {
	cases := []struct {
		key       int
		plain, to []byte
	}{
		{77, nil, nil},
		{77, []byte{}, nil},
		{77, []byte("h"), []byte{249}},
		{77, []byte("hello"), []byte{249, 57, 131, 198, 12}},
		{-3, []byte("hello"), []byte{84, 148, 222, 33, 103}},
		{1, make([]byte, 8), []byte{90, 157, 224, 35, 102, 169, 236, 47}},
		{1, bytes.Repeat([]byte{255}, 8), []byte{89, 156, 223, 34, 101, 168, 235, 46}},
		{impl.Modulus + 1, make([]byte, 3), []byte{90, 157, 224}},
		{math.MaxInt, make([]byte, 3), []byte{90, 157, 224}},
		{math.MinInt, make([]byte, 3), []byte{71, 138, 205}},
		{0, []byte{0, 0, 0}, []byte{255, 66, 133}},
		{impl.Modulus, []byte{0, 1, 255}, []byte{255, 67, 132}},
		{-impl.Modulus, []byte{1, 255, 0}, []byte{0, 65, 133}},
		// a shift of 0 at the first byte
		{162, []byte{0, 0, 189}, []byte{0, 67, 67}},
		{162, []byte{255, 188, 122}, []byte{255, 255, 0}},
		{impl.Modulus - 1, []byte{0, 25, 26}, []byte{163, 255, 67}},
	}
	for _, c := range cases {
		if got := impl.Encrypt(c.key, c.plain); !bytes.Equal(got, c.to) {
			t.Errorf("Encrypt(%d, %v) is %v, not %v", c.key, c.plain, got, c.to)
		}
		if got := impl.Decrypt(c.key, c.to); !bytes.Equal(got, c.plain) {
			t.Errorf("Decrypt(%d, %v) is %v, not %v", c.key, c.to, got, c.plain)
		}
	}
}

// texts are of several lengths, one of them of all the bytes twice.
func texts() [][]byte {
	all := make([]byte, 512)
	for i := range all {
		all[i] = byte(i)
	}
	return [][]byte{nil, {}, {0}, {255}, {0, 0, 0, 0}, {255, 255, 255, 255}, []byte("hello"), bytesOf(255), bytesOf(256), bytesOf(257), all, make([]byte, 1000), bytes.Repeat([]byte{255}, 1000)}
}

func TestEncryptShiftsByTheKeyedHash(t *testing.T) {
	for _, key := range allKeys {
		shifts := make([]int, 1000)
		for i := range shifts {
			shifts[i] = keyedHashOf(key, i) % 256
		}
		for _, text := range texts() {
			up, down := make([]byte, len(text)), make([]byte, len(text))
			for i, c := range text {
				up[i] = byte((int(c) + shifts[i]) % 256)
				down[i] = byte((int(c) + 256 - shifts[i]) % 256)
			}
			if got := impl.Encrypt(key, text); !bytes.Equal(got, up) {
				t.Errorf("Encrypt(%d, %v) is %v, not %v", key, text, got, up)
			}
			if got := impl.Decrypt(key, text); !bytes.Equal(got, down) {
				t.Errorf("Decrypt(%d, %v) is %v, not %v", key, text, got, down)
			}
		}
	}
}

func TestDecryptInvertsEncrypt(t *testing.T) {
	long := bytesOf(20000)
	for _, key := range allKeys {
		for _, text := range append(texts(), long) {
			if got := impl.Decrypt(key, impl.Encrypt(key, text)); !bytes.Equal(got, text) {
				t.Errorf("under the key %d, %d bytes %.20v come back as %.20v", key, len(text), text, got)
			}
			if got := impl.Encrypt(key, impl.Decrypt(key, text)); !bytes.Equal(got, text) {
				t.Errorf("under the key %d, %d bytes %.20v go back to %.20v", key, len(text), text, got)
			}
		}
	}
}

func TestAWrongKeyDoesNotDecrypt(t *testing.T) {
	text := []byte("hello")
	for _, key := range allKeys {
		c := impl.Encrypt(key, text)
		if bytes.Equal(c, text) {
			t.Errorf("Encrypt(%d, %v) is the text itself", key, text)
		}
		// The document's cipher is weak: keys far apart may share their first
		// shifts (3 and 1<<20 share 140), so the wrong keys here are neighbours.
		for _, step := range []int{-2, -1, 1, 2} {
			want := make([]byte, len(text))
			for i := range text {
				want[i] = byte(int(text[i]) + keyedHashOf(key, i) - keyedHashOf(key+step, i))
			}
			got := impl.Decrypt(key+step, c)
			if !bytes.Equal(got, want) || bytes.Equal(got, text) {
				t.Errorf("what was encrypted under %d is decrypted to %v under %d, not to %v", key, got, key+step, want)
			}
		}
	}
}

func TestKeysCountModuloModulus(t *testing.T) {
	text := []byte("hello")
	for _, pair := range [][2]int{{0, impl.Modulus}, {0, -impl.Modulus}, {1, impl.Modulus + 1}, {-1, impl.Modulus - 1}, {77, 77 - impl.Modulus}, {77, 77 + 3*impl.Modulus}, {1, math.MaxInt}, {-2, math.MinInt}} {
		a, b := pair[0], pair[1]
		if impl.KeyedHash(a, []int{4}) != impl.KeyedHash(b, []int{4}) {
			t.Errorf("KeyedHash under %d and %d is not the same", a, b)
		}
		if !bytes.Equal(impl.Encrypt(a, text), impl.Encrypt(b, text)) || !bytes.Equal(impl.Decrypt(a, text), impl.Decrypt(b, text)) {
			t.Errorf("the ciphers under %d and %d are not the same", a, b)
		}
		if impl.DeriveFromString(a, "ab") != impl.DeriveFromString(b, "ab") {
			t.Errorf("DeriveFromString of %d and %d is not the same", a, b)
		}
	}
}

func TestEncryptedNumbersThereAndBack(t *testing.T) {
	for _, key := range allKeys {
		for _, count := range []int{0, 1, 19, 100} {
			want := numbers(count)
			b := impl.Decrypt(key, impl.Encrypt(key, impl.EncodeInts(want)))
			if got, next, ok := impl.DecodeInts(b, 0, count); !slices.Equal(got, want) || next != len(b) || !ok {
				t.Errorf("under the key %d, %v comes back as %v, %d, %v", key, want, got, next, ok)
			}
		}
	}
}

func TestDeriveFromString(t *testing.T) {
	cases := []struct {
		key   int
		label string
		want  int
	}{
		{5, "", 720832201},
		{5, "a", 783230796},
		{5, "ab", 1905036959},
		{5, "depot", 300792440},
		{5, "\x00\xff", 1168887900},
		{5, "Küste", 285156768},
		{77, "", 321116305},
		{77, "ab", 1469733725},
		{0, "", 32762367},
		{0, "depot", 14300515},
		{impl.Modulus, "depot", 14300515},
		{-1, "ab", 867570405},
		{impl.Modulus - 1, "ab", 867570405},
	}
	for _, c := range cases {
		if got := impl.DeriveFromString(c.key, c.label); got != c.want {
			t.Errorf("DeriveFromString(%d, %q) is %d, not %d", c.key, c.label, got, c.want)
		}
	}
}

// labelValues is BytesToInts of a label.
func labelValues(label string) []int {
	values := []int{len(label)}
	for i := range len(label) {
		values = append(values, int(label[i]))
	}
	return values
}

var labels = []string{"", "a", "b", "ab", "ba", "abc", "depot", "\x00", "\x00\x00", "\xff", "\x00\xff", "Küste", "\xc3", "the way home, in every weather", string(bytesOf(300))}

func TestDeriveFromStringGivesAKey(t *testing.T) {
	for _, key := range allKeys {
		derived := map[int]string{}
		for _, label := range labels {
			got := impl.DeriveFromString(key, label)
			if want := keyedHashOf(key, labelValues(label)...); got != want {
				t.Errorf("DeriveFromString(%d, %q) is %d, not %d", key, label, got, want)
			}
			if !impl.IsValidKey(got) {
				t.Errorf("DeriveFromString(%d, %q) is %d, which is not a key", key, label, got)
			}
			if other, met := derived[got]; met {
				t.Errorf("DeriveFromString(%d, ..) of %q and of %q is %d", key, label, other, got)
			}
			derived[got] = label
		}
	}
}

// zeroKey solves for the key by which the keyed hash of the values becomes the
// given one: the hash grows by factor^(n+1) + 1 from one key to the next.
func zeroKey(want int, values []int) int {
	m := big.NewInt(impl.Modulus)
	slope := new(big.Int).Exp(big.NewInt(1000003), big.NewInt(int64(len(values)+1)), m)
	slope.Add(slope, big.NewInt(1))
	rise := big.NewInt(int64(want - keyedHashOf(0, values...)))
	return int(remainder(rise.Mul(rise, slope.ModInverse(slope, m))).Int64())
}

func TestDeriveFromStringIsNeverZero(t *testing.T) {
	for _, label := range labels {
		values := labelValues(label)
		for hash, want := range map[int]int{0: 1, 1: 1, 2: 2, impl.Modulus - 1: impl.Modulus - 1} {
			key := zeroKey(hash, values)
			for _, k := range []int{key, key + impl.Modulus, key - impl.Modulus} {
				if got := impl.KeyedHash(k, values); got != hash {
					t.Errorf("KeyedHash(%d, %v) is %d, not %d", k, values, got, hash)
				}
				if got := impl.DeriveFromString(k, label); got != want {
					t.Errorf("DeriveFromString(%d, %q) is %d, not %d", k, label, got, want)
				}
			}
		}
	}
	for key, label := range map[int]string{1310415589: "", 1465621127: "a", 916074962: "ab", 20991026: "depot", 528266506: "\x00\xff", 1074277745: "Küste"} {
		if got := impl.DeriveFromString(key, label); got != 1 {
			t.Errorf("DeriveFromString(%d, %q) is %d, not 1", key, label, got)
		}
	}
}

func TestEqualInts(t *testing.T) {
	checkEquality(t, "EqualInts", impl.EqualInts,
		[][]int{{0}, {1}, {-1}, {0, 0}, {1, 0}, {1, 2}, {2, 1}, {1, 2, 3}, {1, 2, 4}, {0, 2, 3}, {256}, {1 << 32}, {impl.Modulus}, {math.MaxInt}, {math.MinInt}}...)
}

func TestEqualIntsLeavesArguments(t *testing.T) {
	for _, list := range [][]int{{}, {1}, {3, 1, 2}} {
		a, b := guard(list...), guard(3, 1, 2)
		impl.EqualInts(a.list, b.list)
		a.check(t, "EqualInts, first")
		b.check(t, "EqualInts, second")
	}
}

func TestHashesLeaveArguments(t *testing.T) {
	for _, list := range [][]int{{}, {0}, {5, 300}, {-1, impl.Modulus, math.MinInt, math.MaxInt}} {
		values := guard(list...)
		impl.Hash(values.list)
		values.check(t, "Hash")
		for _, key := range []int{0, 1, 77, -1, impl.Modulus, math.MinInt} {
			impl.KeyedHash(key, values.list)
			values.check(t, "KeyedHash")
		}
	}
}

func TestHashesStopAtTheLength(t *testing.T) {
	// What the capacity holds behind the length is not part of the argument.
	whole := []int{5, 300, 7}
	for _, full := range []int{1, 2, 3} {
		if got := impl.Hash(whole[:1:full]); got != 11000051 {
			t.Errorf("with a capacity of %d, Hash is %d", full, got)
		}
		if got, want := impl.KeyedHash(3, whole[:1:full]), keyedHashOf(3, 5); got != want {
			t.Errorf("with a capacity of %d, KeyedHash is %d, not %d", full, got, want)
		}
	}
}

func TestCiphersLeaveArguments(t *testing.T) {
	for _, list := range [][]byte{{}, {0}, {255}, {1, 2, 3}, bytesOf(300)} {
		b := guard(list...)
		checkOwnMemory(t, "BytesToInts", b, func() []int { return impl.BytesToInts(b.list) })
		// The shift of 162 at the first byte is 0: the byte stays, but not in its place.
		for _, key := range []int{0, 1, 77, 162, impl.Modulus - 1, impl.Modulus, -1, math.MinInt} {
			checkOwnMemory(t, "Encrypt", b, func() []byte { return impl.Encrypt(key, b.list) })
			checkOwnMemory(t, "Decrypt", b, func() []byte { return impl.Decrypt(key, b.list) })
		}
	}
}

func TestCiphersKeepNoState(t *testing.T) {
	// A key stream begins anew with each call, in whatever order the calls come.
	first := impl.Encrypt(77, []byte("hello"))
	impl.Encrypt(78, bytesOf(30))
	impl.Decrypt(77, bytesOf(7))
	impl.DeriveFromString(77, "hello")
	if second := impl.Encrypt(77, []byte("hello")); !bytes.Equal(first, second) {
		t.Errorf("Encrypt is %v at first and %v later", first, second)
	}
}
