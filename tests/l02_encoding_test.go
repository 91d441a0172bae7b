package tests

import (
	"bytes"
	"math"
	"slices"
	"testing"

	"loop.example/g03005/impl"
)

// varints are numbers with their encodings, on both sides of every change of length.
var varints = []struct {
	n       int
	encoded []byte
}{
	{0, []byte{0}},
	{1, []byte{1}},
	{127, []byte{127}},
	{128, []byte{128, 1}},
	{129, []byte{129, 1}},
	{255, []byte{255, 1}},
	{256, []byte{128, 2}},
	{300, []byte{172, 2}},
	{1<<14 - 1, []byte{255, 127}},
	{1 << 14, []byte{128, 128, 1}},
	{1<<21 - 1, []byte{255, 255, 127}},
	{1 << 21, []byte{128, 128, 128, 1}},
	{1<<28 - 1, []byte{255, 255, 255, 127}},
	{1 << 28, []byte{128, 128, 128, 128, 1}},
	{1 << 32, []byte{128, 128, 128, 128, 16}},
	{1<<35 - 1, []byte{255, 255, 255, 255, 127}},
	{1 << 35, []byte{128, 128, 128, 128, 128, 1}},
	{impl.MaxValue - 1, []byte{255, 159, 148, 165, 141, 29}},
	{impl.MaxValue, []byte{128, 160, 148, 165, 141, 29}},
}

var notEncoded = []int{math.MinInt, -impl.MaxValue, -300, -1, impl.MaxValue + 1, 1 << 42, math.MaxInt}

// notVarints are inputs at whose start no varint can be read.
var notVarints = [][]byte{
	nil,
	{},
	// The input ends inside the varint.
	{128},
	{172},
	{255},
	{128, 160, 148, 165, 141},
	{128, 128, 128, 128, 128, 128},
	// The last group is zero.
	{128, 0},
	{129, 0},
	{255, 0},
	{128, 0, 1},
	{128, 128, 0},
	{172, 130, 0},
	{255, 255, 255, 0},
	{128, 128, 128, 128, 0},
	{128, 128, 128, 128, 128, 0},
	{128, 160, 148, 165, 141, 0},
	// The varint is longer than six bytes.
	{128, 128, 128, 128, 128, 128, 1},
	{129, 128, 128, 128, 128, 128, 0},
	{128, 160, 148, 165, 141, 157, 0},
	{255, 255, 255, 255, 255, 255, 255, 255, 255, 1},
	{128, 128, 128, 128, 128, 128, 128, 128, 128, 2},
	// The integer exceeds MaxValue.
	{129, 160, 148, 165, 141, 29},
	{128, 160, 148, 165, 141, 30},
	{255, 255, 255, 255, 255, 127},
}

func checkNoUvarint(t *testing.T, b []byte, offset int) {
	t.Helper()
	if n, next, ok := impl.ReadUvarint(b, offset); ok || n != 0 || next != 0 {
		t.Errorf("ReadUvarint(%v, %d) = %d, %d, %v, want 0, 0, false", b, offset, n, next, ok)
	}
}

func checkNoBytes(t *testing.T, b []byte, offset int, maxLen int) {
	t.Helper()
	data, next, ok := impl.ReadBytes(b, offset, maxLen)
	if ok || len(data) != 0 || next != 0 {
		t.Errorf("ReadBytes(%v, %d, %d) = %v, %d, %v, want none, 0, false", b, offset, maxLen, data, next, ok)
	}
}

func checkNoInts(t *testing.T, b []byte, offset int, count int) {
	t.Helper()
	values, next, ok := impl.DecodeInts(b, offset, count)
	if ok || len(values) != 0 || next != 0 {
		t.Errorf("DecodeInts(%v, %d, %d) = %v, %d, %v, want none, 0, false", b, offset, count, values, next, ok)
	}
}

func TestAppendUvarint(t *testing.T) {
	for _, v := range varints {
		for _, b := range [][]byte{nil, {}, {0}, {9, 128}} {
			want := slices.Concat(b, v.encoded)
			if got := impl.AppendUvarint(b, v.n); !bytes.Equal(got, want) {
				t.Errorf("AppendUvarint(%v, %d) = %v, want %v", b, v.n, got, want)
			}
		}
	}
}

func TestAppendUvarintOutOfRange(t *testing.T) {
	for _, n := range notEncoded {
		for _, b := range [][]byte{nil, {}, {9}, {128, 0, 255}} {
			if got := impl.AppendUvarint(b, n); !bytes.Equal(got, b) {
				t.Errorf("AppendUvarint(%v, %d) = %v", b, n, got)
			}
		}
	}
}

func TestReadUvarint(t *testing.T) {
	for _, v := range varints {
		for _, before := range [][]byte{nil, {7}, {128, 128}} {
			for _, after := range [][]byte{nil, {0}, {255, 255}} {
				b := slices.Concat(before, v.encoded, after)
				end := len(before) + len(v.encoded)
				n, next, ok := impl.ReadUvarint(b, len(before))
				if !ok || n != v.n || next != end {
					t.Errorf("ReadUvarint(%v, %d) = %d, %d, %v, want %d, %d, true",
						b, len(before), n, next, ok, v.n, end)
				}
			}
		}
	}
}

func TestReadUvarintRejects(t *testing.T) {
	for _, b := range notVarints {
		checkNoUvarint(t, b, 0)
		checkNoUvarint(t, append([]byte{5, 128}, b...), 2)
	}
	for _, v := range varints {
		for end := range v.encoded {
			checkNoUvarint(t, v.encoded[:end], 0)
		}
	}
}

func TestReadUvarintOffsetOutOfRange(t *testing.T) {
	for _, b := range [][]byte{nil, {}, {1}, {1, 2, 3}} {
		for _, offset := range []int{math.MinInt, -1, len(b), len(b) + 1, impl.MaxValue, math.MaxInt - 5, math.MaxInt} {
			checkNoUvarint(t, b, offset)
		}
	}
	// Bytes beyond the length are not part of the input.
	b := []byte{1, 172, 2, 3}
	checkNoUvarint(t, b[:2], 1)
	checkNoUvarint(t, b[:2], 2)
	checkNoUvarint(t, b[:2], 3)
}

// encodingOf is the definition of the encoding, written another way: the
// groups from the least significant one, before they are marked.
func encodingOf(n int) []byte {
	groups := []byte{byte(n % 128)}
	for rest := n / 128; rest > 0; rest /= 128 {
		groups = append(groups, byte(rest%128))
	}
	for i := range len(groups) - 1 {
		groups[i] += 128
	}
	return groups
}

func TestReadUvarintInvertsAppendUvarint(t *testing.T) {
	check := func(n int) {
		b := impl.AppendUvarint([]byte{200}, n)
		if n < 0 || n > impl.MaxValue {
			checkNoUvarint(t, b, 1)
			return
		}
		if !bytes.Equal(b[1:], encodingOf(n)) {
			t.Errorf("AppendUvarint({200}, %d) = %v, want 200 and %v", n, b, encodingOf(n))
		}
		got, next, ok := impl.ReadUvarint(b, 1)
		if !ok || got != n || next != len(b) {
			t.Errorf("ReadUvarint(%v, 1) = %d, %d, %v, want %d, %d, true", b, got, next, ok, n, len(b))
		}
	}
	for n := -100; n <= 40000; n++ {
		check(n)
	}
	for shift := range 63 {
		for n := 1<<shift - 3; n <= 1<<shift+3; n++ {
			check(n)
		}
	}
	for n := impl.MaxValue - 300; n <= impl.MaxValue+300; n++ {
		check(n)
	}
}

// TestReadUvarintOfAllShortInputs holds that an input is read exactly if it
// starts with the encoding of a number.
func TestReadUvarintOfAllShortInputs(t *testing.T) {
	encodings := map[string]int{}
	for n := range 1 << 14 {
		encodings[string(encodingOf(n))] = n
	}
	for high := range 256 {
		for low := range 256 {
			b := []byte{byte(high), byte(low)}
			want, length := 0, 0
			for end := 1; end <= 2; end++ {
				if n, found := encodings[string(b[:end])]; found {
					want, length = n, end
				}
			}
			n, next, ok := impl.ReadUvarint(b, 0)
			if n != want || next != length || ok != (length > 0) {
				t.Errorf("ReadUvarint(%v, 0) = %d, %d, %v, want %d, %d", b, n, next, ok, want, length)
			}
		}
	}
}

func TestAppendBytes(t *testing.T) {
	long := bytes.Repeat([]byte{3}, 300)
	cases := []struct{ b, data, want []byte }{
		{nil, nil, []byte{0}},
		{nil, []byte{}, []byte{0}},
		{[]byte{}, nil, []byte{0}},
		{[]byte{1}, nil, []byte{1, 0}},
		{nil, []byte{7}, []byte{1, 7}},
		{[]byte{1}, []byte{7, 8}, []byte{1, 2, 7, 8}},
		{[]byte{255, 128}, []byte{0, 0, 255}, []byte{255, 128, 3, 0, 0, 255}},
		{nil, long[:127], append([]byte{127}, long[:127]...)},
		{nil, long[:128], append([]byte{128, 1}, long[:128]...)},
		{[]byte{5}, long, append([]byte{5, 172, 2}, long...)},
	}
	for _, c := range cases {
		if got := impl.AppendBytes(c.b, c.data); !bytes.Equal(got, c.want) {
			t.Errorf("AppendBytes(%v, %v) = %v, want %v", c.b, c.data, got, c.want)
		}
	}
}

func TestReadBytes(t *testing.T) {
	cases := []struct {
		b              []byte
		offset, maxLen int
		want           []byte
		next           int
	}{
		{[]byte{1, 2, 7, 8}, 1, 2, []byte{7, 8}, 4},
		{[]byte{1, 2, 7, 8}, 1, 3, []byte{7, 8}, 4},
		{[]byte{1, 2, 7, 8}, 1, math.MaxInt, []byte{7, 8}, 4},
		{[]byte{1, 2, 7, 8}, 0, 1, []byte{2}, 2},
		{[]byte{1, 2, 7, 8, 9}, 1, 2, []byte{7, 8}, 4},
		{[]byte{0}, 0, 0, nil, 1},
		{[]byte{0}, 0, 5, nil, 1},
		{[]byte{0, 4}, 0, 0, nil, 1},
		{[]byte{9, 0}, 1, 0, nil, 2},
		{[]byte{1, 128}, 0, 1, []byte{128}, 2},
	}
	for _, c := range cases {
		got, next, ok := impl.ReadBytes(c.b, c.offset, c.maxLen)
		if !ok || next != c.next || !bytes.Equal(got, c.want) {
			t.Errorf("ReadBytes(%v, %d, %d) = %v, %d, %v, want %v, %d, true",
				c.b, c.offset, c.maxLen, got, next, ok, c.want, c.next)
		}
	}
}

func TestReadBytesRejects(t *testing.T) {
	cases := []struct {
		b              []byte
		offset, maxLen int
	}{
		// The length exceeds maxLen.
		{[]byte{1, 2, 7, 8}, 1, 1},
		{[]byte{1, 2, 7, 8}, 1, 0},
		{[]byte{1, 2, 7, 8}, 1, -1},
		{[]byte{1, 2, 7, 8}, 1, math.MinInt},
		{[]byte{0}, 0, -1},
		{[]byte{0}, 0, math.MinInt},
		// The input is too short.
		{[]byte{1}, 0, 1},
		{[]byte{2, 7}, 0, 2},
		{[]byte{3, 7, 8}, 0, 100},
		{[]byte{9, 3, 7, 8}, 1, 100},
		{[]byte{172, 2, 1}, 0, 1000},
		{[]byte{128, 160, 148, 165, 141, 29, 1}, 0, impl.MaxValue},
		{[]byte{128, 160, 148, 165, 141, 29, 1}, 0, math.MaxInt},
		// The offset is out of range.
		{nil, 0, 5},
		{[]byte{1, 2}, 2, 5},
		{[]byte{1, 2}, 3, 5},
		{[]byte{1, 2}, -1, 5},
		{[]byte{1, 2}, math.MinInt, 5},
		{[]byte{1, 2}, math.MaxInt, 5},
	}
	for _, c := range cases {
		checkNoBytes(t, c.b, c.offset, c.maxLen)
	}
	for _, b := range notVarints {
		checkNoBytes(t, b, 0, math.MaxInt)
	}
	// Bytes beyond the length are not part of the input.
	b := []byte{2, 7, 8}
	checkNoBytes(t, b[:2], 0, 5)
}

func TestReadBytesInvertsAppendBytes(t *testing.T) {
	data := make([]byte, 400)
	for i := range data {
		data[i] = byte(i*7 + 250)
	}
	for length := range data {
		b := append(impl.AppendBytes([]byte{1, 129}, data[:length]), 128)
		got, next, ok := impl.ReadBytes(b, 2, length)
		if !ok || next != len(b)-1 || !bytes.Equal(got, data[:length]) {
			t.Errorf("a byte string of length %d is read as %v, %d, %v", length, got, next, ok)
		}
		checkNoBytes(t, b, 2, length-1)
		checkNoBytes(t, b[:len(b)-2], 2, length)
	}
}

func TestEncodeInts(t *testing.T) {
	cases := []struct {
		values []int
		want   []byte
	}{
		{nil, nil},
		{[]int{}, nil},
		{[]int{0}, []byte{0}},
		{[]int{5, 300}, []byte{5, 172, 2}},
		{[]int{0, 0, 127, 128}, []byte{0, 0, 127, 128, 1}},
		{[]int{impl.MaxValue, 1}, []byte{128, 160, 148, 165, 141, 29, 1}},
		{[]int{-1}, nil},
		{[]int{-1, 5, impl.MaxValue + 1, 6, math.MinInt, math.MaxInt}, []byte{5, 6}},
		{notEncoded, nil},
	}
	for _, c := range cases {
		if got := impl.EncodeInts(c.values); !bytes.Equal(got, c.want) {
			t.Errorf("EncodeInts(%v) = %v, want %v", c.values, got, c.want)
		}
	}
}

func TestDecodeInts(t *testing.T) {
	b := []byte{5, 172, 2, 0, 128, 160, 148, 165, 141, 29}
	cases := []struct {
		b             []byte
		offset, count int
		want          []int
		next          int
	}{
		{b, 0, 2, []int{5, 300}, 3},
		{b, 0, 4, []int{5, 300, 0, impl.MaxValue}, 10},
		{b, 1, 2, []int{300, 0}, 4},
		{b, 2, 2, []int{2, 0}, 4},
		{b, 3, 1, []int{0}, 4},
		{b, 4, 1, []int{impl.MaxValue}, 10},
		{b, 0, 0, nil, 0},
		{b, 4, 0, nil, 4},
		{b, 10, 0, nil, 10},
		{nil, 0, 0, nil, 0},
		{[]byte{}, 0, 0, nil, 0},
		{[]byte{128}, 0, 0, nil, 0},
		{[]byte{128}, 1, 0, nil, 1},
		{[]byte{7, 128, 0}, 0, 1, []int{7}, 1},
	}
	for _, c := range cases {
		got, next, ok := impl.DecodeInts(c.b, c.offset, c.count)
		if !ok || next != c.next || !slices.Equal(got, c.want) {
			t.Errorf("DecodeInts(%v, %d, %d) = %v, %d, %v, want %v, %d, true",
				c.b, c.offset, c.count, got, next, ok, c.want, c.next)
		}
	}
}

func TestDecodeIntsCounts(t *testing.T) {
	b := bytes.Repeat([]byte{1}, 200)
	for count := -3; count <= 210; count++ {
		if count < 0 || count > 100 {
			checkNoInts(t, b, 0, count)
			continue
		}
		got, next, ok := impl.DecodeInts(b, 50, count)
		if !ok || next != 50+count || len(got) != count {
			t.Errorf("DecodeInts(200 ones, 50, %d) = %v, %d, %v", count, got, next, ok)
		}
	}
	for _, count := range []int{math.MinInt, -100, impl.MaxValue, math.MaxInt} {
		checkNoInts(t, b, 0, count)
	}
}

func TestDecodeIntsRejects(t *testing.T) {
	b := []byte{5, 172, 2}
	checkNoInts(t, b, 0, 3)
	checkNoInts(t, b, 3, 1)
	checkNoInts(t, b[:2], 0, 2)
	checkNoInts(t, nil, 0, 1)
	for _, count := range []int{0, 1} {
		for _, offset := range []int{math.MinInt, -1, 4, impl.MaxValue, math.MaxInt} {
			checkNoInts(t, b, offset, count)
		}
		checkNoInts(t, nil, -1, count)
		checkNoInts(t, nil, 1, count)
	}
	for _, bad := range notVarints {
		checkNoInts(t, bad, 0, 1)
		checkNoInts(t, append([]byte{1, 2}, bad...), 0, 3)
	}
	// One that cannot be decoded is not left out, nor are those before it kept.
	checkNoInts(t, []byte{1, 128, 0, 2, 3}, 0, 3)
}

func TestDecodeIntsInvertsEncodeInts(t *testing.T) {
	values := []int{}
	for _, v := range varints {
		values = append(values, v.n)
	}
	b := impl.EncodeInts(values)
	for count := range len(values) + 1 {
		got, next, ok := impl.DecodeInts(b, 0, count)
		if !ok || !slices.Equal(got, values[:count]) || next != len(impl.EncodeInts(values[:count])) {
			t.Errorf("DecodeInts(%v, 0, %d) = %v, %d, %v", b, count, got, next, ok)
		}
	}
	checkNoInts(t, b, 0, len(values)+1)
}

func TestEqualBytes(t *testing.T) {
	cases := []struct {
		a, b []byte
		want bool
	}{
		{nil, nil, true},
		{nil, []byte{}, true},
		{[]byte{}, []byte{}, true},
		{nil, []byte{0}, false},
		{[]byte{}, []byte{0}, false},
		{[]byte{0}, []byte{0}, true},
		{[]byte{0}, []byte{0, 0}, false},
		{[]byte{1, 2, 3}, []byte{1, 2, 3}, true},
		{[]byte{1, 2, 3}, []byte{1, 2, 4}, false},
		{[]byte{1, 2, 3}, []byte{4, 2, 3}, false},
		{[]byte{1, 2, 3}, []byte{1, 4, 3}, false},
		{[]byte{1, 2, 3}, []byte{1, 2}, false},
		{[]byte{1, 2}, []byte{2, 1}, false},
		{[]byte{255}, []byte{127}, false},
	}
	for _, c := range cases {
		if got := impl.EqualBytes(c.a, c.b); got != c.want {
			t.Errorf("EqualBytes(%v, %v) = %v", c.a, c.b, got)
		}
		if got := impl.EqualBytes(c.b, c.a); got != c.want {
			t.Errorf("EqualBytes(%v, %v) = %v", c.b, c.a, got)
		}
	}
}

func TestEncodingsShareNoMemory(t *testing.T) {
	for _, n := range []int{-1, 0, 300, impl.MaxValue, impl.MaxValue + 1} {
		for _, b := range [][]byte{nil, {5, 6, 7}} {
			checkApart(t, "AppendUvarint", [][]byte{b}, 33, func(args [][]byte) []byte {
				return impl.AppendUvarint(args[0], n)
			})
		}
	}
	for _, data := range [][]byte{nil, {1}, {1, 2, 3}} {
		for _, b := range [][]byte{nil, {5, 6, 7}} {
			checkApart(t, "AppendBytes", [][]byte{b, data}, 33, func(args [][]byte) []byte {
				return impl.AppendBytes(args[0], args[1])
			})
		}
	}
	for _, b := range [][]byte{{0}, {2, 7, 8}, {2, 7, 8, 9}, {3, 7, 8}, {128, 0}} {
		checkApart(t, "ReadBytes", [][]byte{b}, 33, func(args [][]byte) []byte {
			data, _, _ := impl.ReadBytes(args[0], 0, 10)
			return data
		})
		checkApart(t, "ReadUvarint", [][]byte{b}, 33, func(args [][]byte) []int {
			n, next, _ := impl.ReadUvarint(args[0], 0)
			return []int{n, next}
		})
		checkApart(t, "DecodeInts", [][]byte{b}, 33, func(args [][]byte) []int {
			values, _, _ := impl.DecodeInts(args[0], 0, 2)
			return values
		})
		checkApart(t, "EqualBytes", [][]byte{b, {2, 7, 8}}, false, func(args [][]byte) []bool {
			return []bool{impl.EqualBytes(args[0], args[1])}
		})
	}
}

func TestAppendBytesOfItsOwnMemory(t *testing.T) {
	whole := []byte{4, 5, 6, 7, 8, 9}
	if got, want := impl.AppendBytes(whole[:2], whole), []byte{4, 5, 6, 4, 5, 6, 7, 8, 9}; !bytes.Equal(got, want) {
		t.Errorf("AppendBytes of overlapping slices = %v, want %v", got, want)
	}
	if want := []byte{4, 5, 6, 7, 8, 9}; !bytes.Equal(whole, want) {
		t.Errorf("the arguments are %v, were %v", whole, want)
	}
}

func TestEncodeIntsChangesNoArgument(t *testing.T) {
	values, whole := roomy([]int{-1, 0, 300, impl.MaxValue + 1, 7}, 77)
	before := slices.Clone(whole)
	if got, want := impl.EncodeInts(values), []byte{0, 172, 2, 7}; !bytes.Equal(got, want) {
		t.Errorf("EncodeInts(%v) = %v, want %v", values, got, want)
	}
	if !slices.Equal(whole, before) {
		t.Errorf("the argument is %v, was %v", whole, before)
	}
}
