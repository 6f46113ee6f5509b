package tests

import (
	"bytes"
	"encoding/binary"
	"math"
	"slices"
	"testing"

	"loop.example/g03008/impl"
)

// maxBytes is the varint of MaxValue.
var maxBytes = []byte{128, 160, 148, 165, 141, 29}

var varints = []struct {
	n    int
	want []byte
}{
	{0, []byte{0}},
	{1, []byte{1}},
	{126, []byte{126}},
	{127, []byte{127}},
	{128, []byte{128, 1}},
	{129, []byte{129, 1}},
	{255, []byte{255, 1}},
	{256, []byte{128, 2}},
	{300, []byte{172, 2}},
	{16383, []byte{255, 127}},
	{16384, []byte{128, 128, 1}},
	{1<<21 - 1, []byte{255, 255, 127}},
	{1 << 21, []byte{128, 128, 128, 1}},
	{1<<28 - 1, []byte{255, 255, 255, 127}},
	{1 << 28, []byte{128, 128, 128, 128, 1}},
	{1<<35 - 1, []byte{255, 255, 255, 255, 127}},
	{1 << 35, []byte{128, 128, 128, 128, 128, 1}},
	{impl.MaxValue - 1, []byte{255, 159, 148, 165, 141, 29}},
	{impl.MaxValue, maxBytes},
}

// notValues are the ints that no encoding carries.
var notValues = []int{-1, -2, -127, -128, -300, -impl.MaxValue, impl.MaxValue + 1, 2 * impl.MaxValue, 1<<42 - 1, 1 << 42, math.MaxInt, math.MinInt, math.MinInt + 1}

// notUvarints are texts that begin with no varint of the document.
var notUvarints = [][]byte{
	nil,
	{},
	// the input ends inside
	{128},
	{172},
	{255},
	{128, 128},
	{255, 255, 255, 255, 255},
	maxBytes[:5],
	// the last group is zero
	{128, 0},
	{129, 0},
	{255, 0},
	{128, 128, 0},
	{172, 130, 0},
	{128, 129, 128, 0},
	{255, 255, 255, 255, 0},
	{255, 255, 255, 255, 255, 0},
	{128, 0, 1},
	// above MaxValue, in six bytes
	{129, 160, 148, 165, 141, 29},
	{128, 161, 148, 165, 141, 29},
	{128, 128, 128, 128, 128, 30},
	{128, 128, 128, 128, 128, 127},
	{255, 255, 255, 255, 255, 127},
	// longer than six bytes
	{128, 128, 128, 128, 128, 128},
	{255, 255, 255, 255, 255, 255},
	{128, 128, 128, 128, 128, 128, 0},
	{129, 128, 128, 128, 128, 128, 0},
	{128, 128, 128, 128, 128, 128, 1},
	{255, 255, 255, 255, 255, 255, 127},
	{128, 128, 128, 128, 128, 128, 128, 1},
	{128, 128, 128, 128, 128, 128, 128, 128, 128, 1},
	{128, 128, 128, 128, 128, 128, 128, 128, 128, 128, 1},
	{255, 255, 255, 255, 255, 255, 255, 255, 255, 255, 255, 255},
}

func TestAppendUvarint(t *testing.T) {
	for _, c := range varints {
		for _, front := range [][]byte{nil, {}, {0}, {9}, {128}, {1, 2, 3, 255}} {
			want := slices.Concat(front, c.want)
			if got := impl.AppendUvarint(front, c.n); !bytes.Equal(got, want) {
				t.Errorf("AppendUvarint(%v, %d) is %v, not %v", front, c.n, got, want)
			}
		}
	}
}

func TestAppendUvarintOfNoValue(t *testing.T) {
	for _, n := range notValues {
		for _, front := range [][]byte{nil, {}, {9}, {1, 2, 255}} {
			if got := impl.AppendUvarint(front, n); !bytes.Equal(got, front) {
				t.Errorf("AppendUvarint(%v, %d) is %v", front, n, got)
			}
		}
	}
}

func TestReadUvarint(t *testing.T) {
	for _, c := range varints {
		for _, front := range [][]byte{nil, {9}, {128, 255, 1}} {
			for _, back := range [][]byte{nil, {0}, {128}, {255, 255, 255, 255, 255, 255, 255}} {
				b := slices.Concat(front, c.want, back)
				end := len(front) + len(c.want)
				if n, next, ok := impl.ReadUvarint(b, len(front)); n != c.n || next != end || !ok {
					t.Errorf("ReadUvarint(%v, %d) is %d, %d, %v, not %d, %d, true", b, len(front), n, next, ok, c.n, end)
				}
			}
		}
	}
}

func checkNoUvarint(t *testing.T, b []byte, offset int) {
	t.Helper()
	if n, next, ok := impl.ReadUvarint(b, offset); n != 0 || next != 0 || ok {
		t.Errorf("ReadUvarint(%v, %d) is %d, %d, %v, not 0, 0, false", b, offset, n, next, ok)
	}
}

func TestReadUvarintRejects(t *testing.T) {
	for _, b := range notUvarints {
		checkNoUvarint(t, b, 0)
		checkNoUvarint(t, slices.Concat([]byte{7, 172, 2}, b), 3)
	}
}

func TestReadUvarintOffsets(t *testing.T) {
	b := []byte{5, 172, 2, 7}
	for offset, want := range map[int][2]int{0: {5, 1}, 1: {300, 3}, 2: {2, 3}, 3: {7, 4}} {
		if n, next, ok := impl.ReadUvarint(b, offset); n != want[0] || next != want[1] || !ok {
			t.Errorf("ReadUvarint(%v, %d) is %d, %d, %v", b, offset, n, next, ok)
		}
	}
	for _, offset := range []int{4, 5, 6, 100, -1, -2, -4, -100, impl.MaxValue, math.MaxInt, math.MaxInt - 1, math.MinInt, math.MinInt + 1} {
		checkNoUvarint(t, b, offset)
		checkNoUvarint(t, nil, offset)
	}
}

// readExactly is ReadUvarint at offset 0, told by the standard library: the
// bytes of the varint must be those by which it encodes the number.
func readExactly(b []byte) (int, int, bool) {
	n, size := binary.Uvarint(b)
	if size <= 0 || size > 6 || n > impl.MaxValue || !bytes.Equal(binary.AppendUvarint(nil, n), b[:size]) {
		return 0, 0, false
	}
	return int(n), size, true
}

func TestReadUvarintAgreesWithTheStandardLibrary(t *testing.T) {
	alphabet := []byte{0, 1, 29, 30, 127, 128, 129, 255}
	var b []byte
	var visit func()
	visit = func() {
		wantN, wantNext, wantOk := readExactly(b)
		if n, next, ok := impl.ReadUvarint(b, 0); n != wantN || next != wantNext || ok != wantOk {
			t.Errorf("ReadUvarint(%v, 0) is %d, %d, %v, not %d, %d, %v", b, n, next, ok, wantN, wantNext, wantOk)
		}
		if len(b) == 7 || wantOk {
			return
		}
		for _, c := range alphabet {
			b = append(b, c)
			visit()
			b = b[:len(b)-1]
		}
	}
	visit()
}

func checkUvarintThereAndBack(t *testing.T, n int) {
	t.Helper()
	b := impl.AppendUvarint([]byte{200, 1}, n)
	if want := binary.AppendUvarint([]byte{200, 1}, uint64(n)); !bytes.Equal(b, want) {
		t.Errorf("AppendUvarint({200, 1}, %d) is %v, not %v", n, b, want)
	}
	if got, next, ok := impl.ReadUvarint(b, 2); got != n || next != len(b) || !ok {
		t.Errorf("ReadUvarint(%v, 2) is %d, %d, %v", b, got, next, ok)
	}
}

func TestUvarintsThereAndBack(t *testing.T) {
	for n := range 40000 {
		checkUvarintThereAndBack(t, n)
	}
	for power := 1 << 14; power < impl.MaxValue; power <<= 1 {
		for _, n := range []int{power - 1, power, power + 1} {
			checkUvarintThereAndBack(t, n)
		}
	}
	for n := 17; n < impl.MaxValue; n = n*7/5 + 3 {
		checkUvarintThereAndBack(t, n)
	}
	for n := impl.MaxValue - 1000; n <= impl.MaxValue; n++ {
		checkUvarintThereAndBack(t, n)
	}
}

// bytesOf returns size bytes that differ from their neighbours.
func bytesOf(size int) []byte {
	b := make([]byte, size)
	for i := range b {
		b[i] = byte(i*37 + 11)
	}
	return b
}

func TestAppendBytes(t *testing.T) {
	cases := []struct{ b, data, want []byte }{
		{nil, nil, []byte{0}},
		{[]byte{}, []byte{}, []byte{0}},
		{nil, []byte{7}, []byte{1, 7}},
		{[]byte{1}, []byte{7, 8}, []byte{1, 2, 7, 8}},
		{[]byte{1, 255}, nil, []byte{1, 255, 0}},
		{[]byte{4}, []byte{0, 0, 128}, []byte{4, 3, 0, 0, 128}},
		{nil, bytesOf(127), slices.Concat([]byte{127}, bytesOf(127))},
		{nil, bytesOf(128), slices.Concat([]byte{128, 1}, bytesOf(128))},
		{[]byte{9}, bytesOf(300), slices.Concat([]byte{9, 172, 2}, bytesOf(300))},
		{nil, bytesOf(20000), slices.Concat([]byte{160, 156, 1}, bytesOf(20000))},
	}
	for _, c := range cases {
		if got := impl.AppendBytes(c.b, c.data); !bytes.Equal(got, c.want) {
			t.Errorf("AppendBytes(%v, %v) is %v, not %v", c.b, c.data, got, c.want)
		}
	}
}

func TestAppendBytesOfOneMemory(t *testing.T) {
	whole := []byte{1, 2, 3, 4, 5}
	if got := impl.AppendBytes(whole, whole); !bytes.Equal(got, []byte{1, 2, 3, 4, 5, 5, 1, 2, 3, 4, 5}) {
		t.Errorf("a list behind itself is %v", got)
	}
	// The data lies in the spare capacity of what it is appended to.
	if got := impl.AppendBytes(whole[:2], whole[2:]); !bytes.Equal(got, []byte{1, 2, 3, 3, 4, 5}) {
		t.Errorf("a list behind the list before it is %v", got)
	}
	if !bytes.Equal(whole, []byte{1, 2, 3, 4, 5}) {
		t.Errorf("the argument has become %v", whole)
	}
}

func checkBytesThereAndBack(t *testing.T, front []byte, data []byte, back []byte) {
	t.Helper()
	x := impl.AppendBytes(front, data)
	end := len(x)
	x = append(x, back...)
	for _, maxLen := range []int{len(data), len(data) + 1, impl.MaxValue, math.MaxInt} {
		got, next, ok := impl.ReadBytes(x, len(front), maxLen)
		if !bytes.Equal(got, data) || next != end || !ok {
			t.Errorf("ReadBytes of %d bytes at %d, at most %d, is %v, %d, %v", len(data), len(front), maxLen, got, next, ok)
		}
	}
	for _, maxLen := range []int{len(data) - 1, -1, -2, -len(data) - 1, math.MinInt} {
		checkNoBytes(t, x, len(front), maxLen)
	}
	for end > len(front) {
		end--
		checkNoBytes(t, x[:end], len(front), math.MaxInt)
	}
}

func checkNoBytes(t *testing.T, b []byte, offset int, maxLen int) {
	t.Helper()
	if data, next, ok := impl.ReadBytes(b, offset, maxLen); len(data) != 0 || next != 0 || ok {
		t.Errorf("ReadBytes(%v, %d, %d) is %v, %d, %v, not nothing, 0, false", b, offset, maxLen, data, next, ok)
	}
}

func TestBytesThereAndBack(t *testing.T) {
	for _, front := range [][]byte{nil, {1}, {128, 0, 255}} {
		for _, back := range [][]byte{nil, {0}, {128, 255}} {
			for _, size := range []int{0, 1, 2, 126, 127, 128, 129, 300} {
				checkBytesThereAndBack(t, front, bytesOf(size), back)
			}
		}
	}
	checkBytesThereAndBack(t, []byte{1}, nil, []byte{2})
}

func TestReadBytes(t *testing.T) {
	x := []byte{1, 2, 7, 8, 0, 9}
	cases := []struct {
		offset, maxLen int
		want           []byte
		next           int
	}{
		{0, 1, []byte{2}, 2},
		{1, 2, []byte{7, 8}, 4},
		{1, 3, []byte{7, 8}, 4},
		{1, math.MaxInt, []byte{7, 8}, 4},
		{4, 0, nil, 5},
		{4, 100, nil, 5},
	}
	for _, c := range cases {
		got, next, ok := impl.ReadBytes(x, c.offset, c.maxLen)
		if !bytes.Equal(got, c.want) || next != c.next || !ok {
			t.Errorf("ReadBytes(%v, %d, %d) is %v, %d, %v, not %v, %d, true", x, c.offset, c.maxLen, got, next, ok, c.want, c.next)
		}
	}
}

func TestReadBytesOutOfRange(t *testing.T) {
	x := []byte{1, 2, 7, 8, 0, 9}
	for _, offset := range []int{2, 3, 5} {
		// 7, 8 and 9 bytes, of which there are not so many
		checkNoBytes(t, x, offset, math.MaxInt)
	}
	for _, offset := range []int{6, 7, 100, -1, -6, impl.MaxValue, math.MaxInt, math.MinInt} {
		checkNoBytes(t, x, offset, math.MaxInt)
		checkNoBytes(t, nil, offset, math.MaxInt)
		checkNoBytes(t, []byte{}, offset, 0)
	}
	for _, maxLen := range []int{1, 0, -1, -2, math.MinInt} {
		checkNoBytes(t, x, 1, maxLen)
	}
	for _, maxLen := range []int{-1, math.MinInt} {
		checkNoBytes(t, x, 4, maxLen)
	}
}

func TestReadBytesWithoutLength(t *testing.T) {
	for _, prefix := range notUvarints {
		b := slices.Concat([]byte{3}, prefix)
		checkNoBytes(t, b, 1, 0)
		checkNoBytes(t, b, 1, math.MaxInt)
	}
	// A length of 2 that would be enough, if it were minimal.
	checkNoBytes(t, []byte{130, 0, 5, 6, 7}, 0, 10)
	checkNoBytes(t, []byte{128, 0, 5}, 0, 10)
}

func TestReadBytesOfAGreatLength(t *testing.T) {
	for _, n := range []int{4, 128, 1 << 31, 1 << 32, 1<<32 + 3, impl.MaxValue - 1, impl.MaxValue} {
		b := append(impl.AppendUvarint(nil, n), 1, 2, 3)
		checkNoBytes(t, b, 0, n)
		checkNoBytes(t, b, 0, math.MaxInt)
	}
}

// numbers returns count values of one to six groups.
func numbers(count int) []int {
	list := make([]int, count)
	for i := range list {
		list[i] = varints[i*5%len(varints)].n
	}
	return list
}

func TestEncodeInts(t *testing.T) {
	cases := []struct {
		values []int
		want   []byte
	}{
		{nil, nil},
		{[]int{}, nil},
		{[]int{0}, []byte{0}},
		{[]int{5, 300}, []byte{5, 172, 2}},
		{[]int{300, 5, 300}, []byte{172, 2, 5, 172, 2}},
		{[]int{0, 127, 128, 0}, []byte{0, 127, 128, 1, 0}},
		{[]int{impl.MaxValue, 1}, slices.Concat(maxBytes, []byte{1})},
		{[]int{-1}, nil},
		{[]int{3, -1, 4}, []byte{3, 4}},
		{[]int{impl.MaxValue + 1, 5, math.MinInt, 300, math.MaxInt}, []byte{5, 172, 2}},
		{notValues, nil},
	}
	for _, c := range cases {
		if got := impl.EncodeInts(c.values); !bytes.Equal(got, c.want) {
			t.Errorf("EncodeInts(%v) is %v, not %v", c.values, got, c.want)
		}
	}
}

func TestIntsThereAndBack(t *testing.T) {
	for _, front := range [][]byte{nil, {9}, {128, 255}} {
		for _, back := range [][]byte{nil, {0}, {255}} {
			for _, count := range []int{0, 1, 2, 19, 99, 100} {
				want := numbers(count)
				b := slices.Concat(front, impl.EncodeInts(want), back)
				end := len(b) - len(back)
				got, next, ok := impl.DecodeInts(b, len(front), count)
				if !slices.Equal(got, want) || next != end || !ok {
					t.Errorf("DecodeInts of %d numbers at %d is %v, %d, %v", count, len(front), got, next, ok)
				}
			}
		}
	}
}

func checkNoInts(t *testing.T, b []byte, offset int, count int) {
	t.Helper()
	if list, next, ok := impl.DecodeInts(b, offset, count); len(list) != 0 || next != 0 || ok {
		t.Errorf("DecodeInts(%v, %d, %d) is %v, %d, %v, not nothing, 0, false", b, offset, count, list, next, ok)
	}
}

func TestDecodeIntsOfManyNumbers(t *testing.T) {
	list := numbers(150)
	b := impl.EncodeInts(list)
	first, next, ok := impl.DecodeInts(b, 0, 100)
	if !slices.Equal(first, list[:100]) || !ok {
		t.Errorf("the first 100 numbers are %v, %v", first, ok)
	}
	second, end, ok := impl.DecodeInts(b, next, 50)
	if !slices.Equal(second, list[100:]) || end != len(b) || !ok {
		t.Errorf("the other 50 numbers are %v, %d, %v", second, end, ok)
	}
	for _, count := range []int{101, 102, 150, 1000, impl.MaxValue, math.MaxInt, -1, -100, math.MinInt} {
		checkNoInts(t, b, 0, count)
		checkNoInts(t, make([]byte, 1000), 3, count)
	}
}

func TestDecodeIntsOffsets(t *testing.T) {
	b := []byte{5, 172, 2}
	cases := []struct {
		offset, count int
		want          []int
		next          int
	}{
		{0, 2, []int{5, 300}, 3},
		{0, 1, []int{5}, 1},
		{1, 1, []int{300}, 3},
		{2, 1, []int{2}, 3},
		{0, 0, nil, 0},
		{1, 0, nil, 1},
		{2, 0, nil, 2},
		{3, 0, nil, 3},
	}
	for _, c := range cases {
		got, next, ok := impl.DecodeInts(b, c.offset, c.count)
		if !slices.Equal(got, c.want) || next != c.next || !ok {
			t.Errorf("DecodeInts(%v, %d, %d) is %v, %d, %v, not %v, %d, true", b, c.offset, c.count, got, next, ok, c.want, c.next)
		}
	}
	for _, offset := range []int{4, 5, 100, -1, -3, impl.MaxValue, math.MaxInt, math.MinInt} {
		for _, count := range []int{0, 1, 2, 100} {
			checkNoInts(t, b, offset, count)
			checkNoInts(t, nil, offset, count)
		}
	}
}

func TestDecodeIntsOfNothing(t *testing.T) {
	for _, b := range [][]byte{nil, {}} {
		if list, next, ok := impl.DecodeInts(b, 0, 0); len(list) != 0 || next != 0 || !ok {
			t.Errorf("DecodeInts(%v, 0, 0) is %v, %d, %v", b, list, next, ok)
		}
		checkNoInts(t, b, 0, 1)
		checkNoInts(t, b, 0, 100)
	}
}

func TestDecodeIntsRejects(t *testing.T) {
	b := []byte{5, 172, 2}
	for _, count := range []int{3, 4, 100} {
		checkNoInts(t, b, 0, count)
	}
	checkNoInts(t, b, 1, 2)
	checkNoInts(t, b, 3, 1)
	for _, bad := range notUvarints {
		checkNoInts(t, bad, 0, 1)
		checkNoInts(t, slices.Concat(b, bad), 0, 3)
	}
	// One of the last or of the middle is bad.
	zeros := make([]byte, 97)
	for _, bad := range [][]byte{{128, 0}, {129, 160, 148, 165, 141, 29}, {128, 128, 128, 128, 128, 128, 1}} {
		checkNoInts(t, slices.Concat(b, zeros, bad), 0, 100)
		checkNoInts(t, slices.Concat(b, bad, zeros), 0, 100)
	}
}

func TestEqualBytes(t *testing.T) {
	checkEquality(t, "EqualBytes", impl.EqualBytes,
		[][]byte{{0}, {1}, {0, 0}, {1, 0}, {1, 2}, {2, 1}, {1, 2, 3}, {1, 2, 4}, {0, 2, 3}, {255}, {127}, bytesOf(300), bytesOf(299)}...)
	x := bytesOf(9)
	if !impl.EqualBytes(x, x) || impl.EqualBytes(x[:4], x[:5]) || impl.EqualBytes(x[:4], x[1:5]) {
		t.Error("byte strings of one memory")
	}
}

func TestEncodingLeavesArguments(t *testing.T) {
	for _, list := range [][]byte{{}, {9}, {1, 2, 3}} {
		for _, n := range []int{0, 300, impl.MaxValue, -1, impl.MaxValue + 1} {
			b := guard(list...)
			checkOwnMemory(t, "AppendUvarint", b, func() []byte { return impl.AppendUvarint(b.list, n) })
		}
		for _, other := range [][]byte{{}, {7}, bytesOf(140)} {
			b, data := guard(list...), guard(other...)
			call := func() []byte { return impl.AppendBytes(b.list, data.list) }
			checkOwnMemory(t, "AppendBytes, to", b, call)
			checkOwnMemory(t, "AppendBytes, data", data, call)
		}
	}
	for _, list := range [][]int{{}, {0}, {5, 300, impl.MaxValue}, {-1}, {math.MinInt, 3, math.MaxInt}} {
		values := guard(list...)
		checkOwnMemory(t, "EncodeInts", values, func() []byte { return impl.EncodeInts(values.list) })
	}
}

func TestDecodingLeavesArguments(t *testing.T) {
	for _, list := range [][]byte{{}, {0}, {2, 7, 8}, {2, 7, 8, 9}, {2, 7}, {128, 0}, maxBytes, maxBytes[:5]} {
		b := guard(list...)
		impl.ReadUvarint(b.list, 0)
		b.check(t, "ReadUvarint")
		for _, maxLen := range []int{0, 2, math.MaxInt, -1} {
			checkOwnMemory(t, "ReadBytes", b, func() []byte {
				data, _, _ := impl.ReadBytes(b.list, 0, maxLen)
				return data
			})
		}
		for _, count := range []int{0, 1, 3, 101} {
			checkOwnMemory(t, "DecodeInts", b, func() []int {
				values, _, _ := impl.DecodeInts(b.list, 0, count)
				return values
			})
		}
		other := guard(list...)
		impl.EqualBytes(b.list, other.list)
		b.check(t, "EqualBytes, first")
		other.check(t, "EqualBytes, second")
	}
}

func TestReadingStopsAtTheLength(t *testing.T) {
	// What the capacity holds behind the length is not part of the argument.
	whole := []byte{172, 2, 1, 2}
	checkNoUvarint(t, whole[:1], 0)
	checkNoBytes(t, whole[:3], 1, 5)
	checkNoInts(t, whole[:3], 0, 3)
	for _, offset := range []int{3, 4} {
		checkNoUvarint(t, whole[:2], offset)
		checkNoBytes(t, whole[:2], offset, 5)
		checkNoInts(t, whole[:2], offset, 0)
	}
	for _, full := range []int{2, 3, 4} {
		if n, next, ok := impl.ReadUvarint(whole[:2:full], 0); n != 300 || next != 2 || !ok {
			t.Errorf("with a capacity of %d, ReadUvarint is %d, %d, %v", full, n, next, ok)
		}
	}
}
