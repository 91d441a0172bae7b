package tests

import (
	"bytes"
	"math"
	"math/big"
	"slices"
	"strings"
	"testing"

	"loop.example/g03005/impl"
)

var modulus = big.NewInt(impl.Modulus)

// hashOf is the definition of the hash in numbers without a limit. big.Int's
// Mod is never negative.
func hashOf(values ...int) int {
	accumulator := big.NewInt(11)
	for _, v := range values {
		accumulator.Mul(accumulator, big.NewInt(1000003))
		accumulator.Add(accumulator, new(big.Int).Mod(big.NewInt(int64(v)), modulus))
		accumulator.Add(accumulator, big.NewInt(13))
		accumulator.Mod(accumulator, modulus)
	}
	return int(accumulator.Int64())
}

func keyedHashOf(key int, values ...int) int {
	return hashOf(slices.Concat([]int{key}, values, []int{key})...)
}

// edges are values at both ends of every range of the chapter, and beyond.
var edges = []int{
	math.MinInt, math.MinInt + 1, -impl.MaxValue - 1, -impl.MaxValue,
	-2*impl.Modulus - 1, -2 * impl.Modulus, -impl.Modulus - 1, -impl.Modulus, 1 - impl.Modulus,
	-256, -2, -1, 0, 1, 2, 13, 255, 256,
	impl.Modulus - 1, impl.Modulus, impl.Modulus + 1, 2*impl.Modulus - 1, 2 * impl.Modulus,
	impl.MaxValue, impl.MaxValue + 1, math.MaxInt - 1, math.MaxInt,
}

func TestHash(t *testing.T) {
	cases := []struct {
		values []int
		want   int
	}{
		{nil, 11},
		{[]int{}, 11},
		{[]int{0}, 11000046},
		{[]int{5}, 11000051},
		{[]int{5 + impl.Modulus}, 11000051},
		{[]int{5 - impl.Modulus}, 11000051},
		{[]int{-1}, 11000045},
		{[]int{impl.Modulus - 1}, 11000045},
		{[]int{impl.Modulus}, 11000046},
		{[]int{-impl.Modulus}, 11000046},
		// 11000033 + 13 and the value fill up the modulus.
		{[]int{impl.Modulus - 11000046}, 0},
		{[]int{-11000046}, 0},
		{[]int{-11000047}, impl.Modulus - 1},
		{[]int{-11000045}, 1},
		{[]int{-11000046, 0}, 13},
		{[]int{-11000046, -13}, 0},
		{[]int{-11000047, 7}, impl.Modulus - 1000003 + 20},
	}
	for _, c := range cases {
		if got := impl.Hash(c.values); got != c.want {
			t.Errorf("Hash(%v) = %d, want %d", c.values, got, c.want)
		}
	}
}

func TestHashFollowsItsDefinition(t *testing.T) {
	check := func(values ...int) {
		t.Helper()
		got := impl.Hash(values)
		if got != hashOf(values...) || got < 0 || got >= impl.Modulus {
			t.Errorf("Hash(%v) = %d, want %d", values, got, hashOf(values...))
		}
	}
	for _, a := range edges {
		check(a)
		for _, b := range edges {
			check(a, b)
			check(b, 7, a)
		}
	}
	check(edges...)
	long := []int{}
	for i := range 2000 {
		long = append(long, (i-700)*987654321987)
	}
	check(long...)
}

func TestHashDependsOnTheOrderAndTheCount(t *testing.T) {
	lists := [][]int{
		nil, {0}, {0, 0}, {0, 0, 0}, {1}, {-1}, {1, 0}, {0, 1}, {1, 2}, {2, 1}, {1, 2, 3}, {3, 2, 1}, {2, 1, 3},
	}
	seen := map[int][]int{}
	for _, values := range lists {
		hash := impl.Hash(values)
		if other, found := seen[hash]; found {
			t.Errorf("%v and %v have the hash %d", other, values, hash)
		}
		seen[hash] = values
	}
}

func TestKeyedHash(t *testing.T) {
	for _, key := range edges {
		for _, values := range [][]int{nil, {}, {0}, {4}, {-4, 4}, {1, 2, 3}, edges} {
			want := keyedHashOf(key, values...)
			got := impl.KeyedHash(key, values)
			if got != want || got < 0 || got >= impl.Modulus {
				t.Errorf("KeyedHash(%d, %v) = %d, want %d", key, values, got, want)
			}
			sequence := slices.Concat([]int{key}, values, []int{key})
			if hash := impl.Hash(sequence); got != hash {
				t.Errorf("KeyedHash(%d, %v) = %d, but Hash(%v) = %d", key, values, got, sequence, hash)
			}
		}
	}
}

// TestKeyedHashDependsOnEachValue changes one value at a time. The modulus
// is prime, so no change but one by a multiple of it can go unnoticed.
func TestKeyedHashDependsOnEachValue(t *testing.T) {
	for _, key := range []int{0, 1, 77, impl.Modulus - 1, impl.Modulus, -5, math.MinInt} {
		values := []int{0, 5, -5, impl.Modulus - 1, impl.MaxValue, 8, 8}
		before := impl.KeyedHash(key, values)
		for i := range values {
			for _, change := range []int{1, -1, 2, 256, -65536, 1000003, impl.Modulus - 1, impl.Modulus + 1} {
				other := slices.Clone(values)
				other[i] += change
				if impl.KeyedHash(key, other) == before {
					t.Errorf("KeyedHash(%d, ...) is the same of %v and %v", key, values, other)
				}
			}
			other := slices.Delete(slices.Clone(values), i, i+1)
			if impl.KeyedHash(key, other) == before {
				t.Errorf("KeyedHash(%d, ...) is the same of %v and %v", key, values, other)
			}
			other = slices.Clone(values)
			other[i] -= impl.Modulus
			if impl.KeyedHash(key, other) != before {
				t.Errorf("KeyedHash(%d, ...) is not the same of %v and %v", key, values, other)
			}
		}
	}
}

func TestKeyedHashDependsOnTheKey(t *testing.T) {
	for _, values := range [][]int{nil, {0}, {4, 5}} {
		seen := map[int]int{}
		for key := -3; key <= 1000; key++ {
			hash := impl.KeyedHash(key, values)
			if other, found := seen[hash]; found {
				t.Errorf("the keys %d and %d have the hash %d of %v", other, key, hash, values)
			}
			seen[hash] = key
			if same := impl.KeyedHash(key+impl.Modulus, values); same != hash {
				t.Errorf("KeyedHash(%d, %v) = %d, want %d as of %d", key+impl.Modulus, values, same, hash, key)
			}
		}
	}
}

func TestIsValidKey(t *testing.T) {
	for _, key := range edges {
		if got, want := impl.IsValidKey(key), key > 0 && key < impl.Modulus; got != want {
			t.Errorf("IsValidKey(%d) = %v", key, got)
		}
	}
}

func TestBytesToInts(t *testing.T) {
	cases := []struct {
		b    []byte
		want []int
	}{
		{nil, []int{0}},
		{[]byte{}, []int{0}},
		{[]byte{0}, []int{1, 0}},
		{[]byte{255}, []int{1, 255}},
		{[]byte{9, 8}, []int{2, 9, 8}},
		{[]byte{0, 127, 128, 255}, []int{4, 0, 127, 128, 255}},
		{[]byte("ä"), []int{2, 195, 164}},
	}
	for _, c := range cases {
		if got := impl.BytesToInts(c.b); !slices.Equal(got, c.want) {
			t.Errorf("BytesToInts(%v) = %v, want %v", c.b, got, c.want)
		}
	}
	got := impl.BytesToInts(bytes.Repeat([]byte{200}, 300))
	if len(got) != 301 || got[0] != 300 || slices.ContainsFunc(got[1:], func(n int) bool { return n != 200 }) {
		t.Errorf("BytesToInts of 300 bytes of 200 = %v", got)
	}
}

// texts are byte strings for a cipher.
func texts() [][]byte {
	all := make([]byte, 256)
	for i := range all {
		all[i] = byte(i)
	}
	return [][]byte{
		nil, {}, {0}, {255}, {128}, []byte("hello"), all,
		bytes.Repeat([]byte{0}, 300), bytes.Repeat([]byte{255}, 300),
	}
}

func TestEncrypt(t *testing.T) {
	for _, key := range edges {
		for _, plaintext := range texts() {
			got := impl.Encrypt(key, plaintext)
			if len(got) != len(plaintext) {
				t.Errorf("Encrypt(%d, %v) has %d bytes", key, plaintext, len(got))
				continue
			}
			for i := range got {
				if want := (int(plaintext[i]) + keyedHashOf(key, i)) % 256; int(got[i]) != want {
					t.Errorf("byte %d of Encrypt(%d, %v) is %d, want %d", i, key, plaintext, got[i], want)
				}
			}
		}
	}
}

func TestDecrypt(t *testing.T) {
	for _, key := range edges {
		for _, ciphertext := range texts() {
			got := impl.Decrypt(key, ciphertext)
			if len(got) != len(ciphertext) {
				t.Errorf("Decrypt(%d, %v) has %d bytes", key, ciphertext, len(got))
				continue
			}
			for i := range got {
				if want := (int(ciphertext[i]) + 256 - keyedHashOf(key, i)%256) % 256; int(got[i]) != want {
					t.Errorf("byte %d of Decrypt(%d, %v) is %d, want %d", i, key, ciphertext, got[i], want)
				}
			}
		}
	}
}

func TestDecryptInvertsEncrypt(t *testing.T) {
	for _, key := range edges {
		for _, b := range texts() {
			if got := impl.Decrypt(key, impl.Encrypt(key, b)); !bytes.Equal(got, b) {
				t.Errorf("with the key %d, %v is decrypted as %v", key, b, got)
			}
			if got := impl.Encrypt(key, impl.Decrypt(key, b)); !bytes.Equal(got, b) {
				t.Errorf("with the key %d, %v is encrypted as %v", key, b, got)
			}
		}
	}
}

func TestAnotherKeyDoesNotDecrypt(t *testing.T) {
	b := []byte("a text of some length")
	for _, key := range []int{0, 1, 77, impl.Modulus - 1} {
		ciphertext := impl.Encrypt(key, b)
		for _, other := range []int{2, 78, impl.Modulus - 2, -3} {
			if bytes.Equal(impl.Decrypt(other, ciphertext), b) {
				t.Errorf("the key %d decrypts what the key %d encrypted", other, key)
			}
		}
		if !bytes.Equal(impl.Decrypt(key-impl.Modulus, ciphertext), b) {
			t.Errorf("the key %d does not decrypt what the key %d encrypted", key-impl.Modulus, key)
		}
	}
}

// zeroKey gives the key with which the keyed hash of the values is 0. The
// hash grows evenly with the key, so two of its values show where it is 0.
func zeroKey(values ...int) int {
	atZero := big.NewInt(int64(keyedHashOf(0, values...)))
	growth := new(big.Int).Sub(big.NewInt(int64(keyedHashOf(1, values...))), atZero)
	growth.ModInverse(growth.Mod(growth, modulus), modulus)
	key := new(big.Int).Mul(atZero.Neg(atZero), growth)
	return int(key.Mod(key, modulus).Int64())
}

func TestDeriveFromString(t *testing.T) {
	labels := []string{"", "a", "ab", "ba", "\x00", "\x00\x00", "\xff", "ä", "label 17", strings.Repeat("x", 300)}
	for _, label := range labels {
		values := []int{len(label)}
		for i := range len(label) {
			values = append(values, int(label[i]))
		}
		for _, key := range edges {
			want := keyedHashOf(key, values...)
			if want == 0 {
				want = 1
			}
			if got := impl.DeriveFromString(key, label); got != want || !impl.IsValidKey(got) {
				t.Errorf("DeriveFromString(%d, %q) = %d, want %d", key, label, got, want)
			}
		}
		key := zeroKey(values...)
		for _, same := range []int{key, key - impl.Modulus, key + impl.Modulus} {
			if hash := impl.KeyedHash(same, values); hash != 0 {
				t.Errorf("KeyedHash(%d, %v) = %d, want 0", same, values, hash)
			}
			if got := impl.DeriveFromString(same, label); got != 1 {
				t.Errorf("DeriveFromString(%d, %q) = %d, want 1", same, label, got)
			}
		}
		if got, want := impl.DeriveFromString(key+1, label), keyedHashOf(key+1, values...); got != want {
			t.Errorf("DeriveFromString(%d, %q) = %d, want %d", key+1, label, got, want)
		}
	}
}

func TestEqualInts(t *testing.T) {
	cases := []struct {
		a, b []int
		want bool
	}{
		{nil, nil, true},
		{nil, []int{}, true},
		{nil, []int{0}, false},
		{[]int{}, []int{0}, false},
		{[]int{0}, []int{0}, true},
		{[]int{0}, []int{0, 0}, false},
		{[]int{1, 2, 3}, []int{1, 2, 3}, true},
		{[]int{1, 2, 3}, []int{1, 2, 4}, false},
		{[]int{1, 2, 3}, []int{4, 2, 3}, false},
		{[]int{1, 2, 3}, []int{1, 4, 3}, false},
		{[]int{1, 2}, []int{2, 1}, false},
		{[]int{1}, []int{-1}, false},
		{[]int{1}, []int{257}, false},
		{[]int{math.MinInt, math.MaxInt}, []int{math.MinInt, math.MaxInt}, true},
		{[]int{math.MinInt}, []int{math.MaxInt}, false},
	}
	for _, c := range cases {
		if got := impl.EqualInts(c.a, c.b); got != c.want {
			t.Errorf("EqualInts(%v, %v) = %v", c.a, c.b, got)
		}
		if got := impl.EqualInts(c.b, c.a); got != c.want {
			t.Errorf("EqualInts(%v, %v) = %v", c.b, c.a, got)
		}
	}
}

func TestEqualIntsOfLongLists(t *testing.T) {
	a := make([]int, 5000)
	for i := range a {
		a[i] = i * i
	}
	for i := range a {
		b := slices.Clone(a)
		if !impl.EqualInts(a, b) {
			t.Fatal("a list is not equal to its copy")
		}
		b[i]--
		if impl.EqualInts(a, b) || impl.EqualInts(b, a) {
			t.Fatalf("lists that differ only at %d are equal", i)
		}
		if impl.EqualInts(a[:i], a) || impl.EqualInts(a, a[:i]) {
			t.Fatalf("a list is equal to its first %d elements", i)
		}
	}
}

func TestCryptoSharesNoMemory(t *testing.T) {
	for _, b := range [][]byte{nil, {}, {0}, {255, 0, 7}} {
		checkApart(t, "BytesToInts", [][]byte{b}, 33, func(args [][]byte) []int {
			return impl.BytesToInts(args[0])
		})
		for _, key := range []int{0, 1, impl.Modulus, -1} {
			checkApart(t, "Encrypt", [][]byte{b}, 33, func(args [][]byte) []byte {
				return impl.Encrypt(key, args[0])
			})
			checkApart(t, "Decrypt", [][]byte{b}, 33, func(args [][]byte) []byte {
				return impl.Decrypt(key, args[0])
			})
		}
	}
	for _, values := range [][]int{nil, {}, {0}, {-1, 5, impl.Modulus}, edges} {
		checkApart(t, "Hash", [][]int{values}, 33, func(args [][]int) []int {
			return []int{impl.Hash(args[0])}
		})
		checkApart(t, "KeyedHash", [][]int{values}, 33, func(args [][]int) []int {
			return []int{impl.KeyedHash(5, args[0])}
		})
		checkApart(t, "EqualInts", [][]int{values, {0}}, false, func(args [][]int) []bool {
			return []bool{impl.EqualInts(args[0], args[1]), impl.EqualInts(args[1], args[0])}
		})
	}
}
