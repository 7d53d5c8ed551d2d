package tests

import (
	"bytes"
	"fmt"
	"math"
	"testing"

	"loop.example/g00341/impl"
)

// numForms: numbers and their bytes as the chapter says them, worked out by hand.
var numForms = []struct {
	n    int
	form []byte
}{
	{0, []byte{0}},
	{1, []byte{1}},
	{127, []byte{127}},
	{128, []byte{128, 1}},
	{129, []byte{129, 1}},
	{255, []byte{255, 1}},
	{256, []byte{128, 2}},
	{300, []byte{172, 2}},
	{16383, []byte{255, 127}},
	{16384, []byte{128, 128, 1}},
	{2097151, []byte{255, 255, 127}},
	{2097152, []byte{128, 128, 128, 1}},
	{268435455, []byte{255, 255, 255, 127}},
	{268435456, []byte{128, 128, 128, 128, 1}},
	{impl.MaxNum - 1, []byte{254, 255, 255, 255, 7}},
	{impl.MaxNum, []byte{255, 255, 255, 255, 7}},
}

// surroundings: bytes that stand ahead of what is put, or behind it.
var surroundings = [][]byte{nil, {}, {0}, {128}, {255}, {9, 128, 1}, bytes.Repeat([]byte{200}, 70)}

var placesOutside = []int{-1, -2, -128, math.MinInt, math.MinInt + 1, math.MaxInt, math.MaxInt - 1, math.MaxInt - 5}

func textOf(count int) []byte {
	t := make([]byte, count)
	for i := range t {
		t[i] = byte(i*7 + 130)
	}
	return t
}

func wantNum(t *testing.T, b []byte, at, n, next int) {
	t.Helper()
	if gotN, gotNext := impl.GetNum(b, at); gotN != n || gotNext != next {
		t.Errorf("GetNum(%v, %d) = %d, %d; want %d, %d", b, at, gotN, gotNext, n, next)
	}
}

func wantNoNum(t *testing.T, b []byte, at int) {
	t.Helper()
	wantNum(t, b, at, 0, -1)
}

func wantText(t *testing.T, b []byte, at int, text []byte, next int) {
	t.Helper()
	if got, gotNext := impl.GetText(b, at); !bytes.Equal(got, text) || gotNext != next {
		t.Errorf("GetText(%v, %d) = %v, %d; want %v, %d", b, at, got, gotNext, text, next)
	}
}

func wantNoText(t *testing.T, b []byte, at int) {
	t.Helper()
	wantText(t, b, at, nil, -1)
}

func TestLimitsOfBytes(t *testing.T) {
	if impl.MaxNum != 2147483647 || impl.MaxText != 40 {
		t.Fatal(impl.MaxNum, impl.MaxText)
	}
}

func TestPutNumForms(t *testing.T) {
	for _, f := range numForms {
		for _, ahead := range surroundings {
			want := append(bytes.Clone(ahead), f.form...)
			if got := impl.PutNum(ahead, f.n); !bytes.Equal(got, want) {
				t.Errorf("PutNum(%v, %d) = %v; want %v", ahead, f.n, got, want)
			}
		}
	}
}

func TestPutNumOutOfRange(t *testing.T) {
	for _, n := range []int{-1, -2, -128, impl.MaxNum + 1, impl.MaxNum + 2, 1 << 32, 1 << 35, math.MaxInt, math.MinInt} {
		for _, ahead := range surroundings {
			if got := impl.PutNum(ahead, n); !bytes.Equal(got, ahead) {
				t.Errorf("PutNum(%v, %d) = %v; want its first argument alone", ahead, n, got)
			}
		}
	}
}

func TestGetNumForms(t *testing.T) {
	for _, f := range numForms {
		for _, ahead := range surroundings {
			for _, behind := range surroundings {
				b := append(append(bytes.Clone(ahead), f.form...), behind...)
				wantNum(t, b, len(ahead), f.n, len(ahead)+len(f.form))
			}
		}
	}
}

func TestNumbersComeBack(t *testing.T) {
	check := func(n int) {
		b := append(impl.PutNum([]byte{9, 128}, n), 128, 0)
		wantNum(t, b, 2, n, len(b)-2)
	}
	for n := range 40000 {
		check(n)
	}
	for n := 1; n <= impl.MaxNum; n *= 2 {
		check(n - 1)
		check(n)
		check(min(n+1, impl.MaxNum))
	}
	for n := 0; n <= impl.MaxNum; n += 49999 {
		check(n)
	}
}

func TestNumbersInARow(t *testing.T) {
	var b []byte
	for _, f := range numForms {
		b = impl.PutNum(b, f.n)
	}
	at := 0
	for _, f := range numForms {
		wantNum(t, b, at, f.n, at+len(f.form))
		at += len(f.form)
	}
	if at != len(b) {
		t.Fatal(at, len(b))
	}
	wantNoNum(t, b, at)
}

func TestGetNumPlaces(t *testing.T) {
	for _, b := range [][]byte{nil, {}, {0}, {5}, {128, 1}, {1, 2, 3, 4, 5, 6, 7}} {
		for _, at := range placesOutside {
			wantNoNum(t, b, at)
		}
		wantNoNum(t, b, len(b))
		wantNoNum(t, b, len(b)+1)
	}
	wantNum(t, []byte{5, 6}, 1, 6, 2)
	wantNum(t, []byte{128, 1}, 1, 1, 2)
}

func TestGetNumNotAllThere(t *testing.T) {
	for _, f := range numForms {
		for kept := range len(f.form) {
			wantNoNum(t, f.form[:kept:kept], 0)
			// The missing bytes lie behind the length, where nobody may read.
			wantNoNum(t, f.form[:kept], 0)
			wantNoNum(t, append([]byte{3}, f.form[:kept]...), 1)
		}
	}
	for count := range 12 {
		wantNoNum(t, bytes.Repeat([]byte{128}, count), 0)
		wantNoNum(t, bytes.Repeat([]byte{255}, count), 0)
	}
}

func TestGetNumMoreThanFive(t *testing.T) {
	for count := 5; count < 14; count++ {
		for _, digit := range []byte{128, 129, 255} {
			for _, last := range []byte{0, 1, 7, 127} {
				wantNoNum(t, append(bytes.Repeat([]byte{digit}, count), last), 0)
			}
		}
	}
}

func TestGetNumLastIsZero(t *testing.T) {
	for count := 1; count < 7; count++ {
		for _, digit := range []byte{128, 129, 255} {
			b := append(bytes.Repeat([]byte{digit}, count), 0)
			wantNoNum(t, b, 0)
			wantNoNum(t, append(b, 1), 0)
		}
	}
	wantNum(t, []byte{128, 0}, 1, 0, 2)
}

func TestGetNumAboveMaxNum(t *testing.T) {
	for last := 8; last < 128; last++ {
		wantNoNum(t, []byte{128, 128, 128, 128, byte(last)}, 0)
		wantNoNum(t, []byte{255, 255, 255, 255, byte(last)}, 0)
	}
	for last := 1; last < 8; last++ {
		wantNum(t, []byte{128, 128, 128, 128, byte(last)}, 0, last<<28, 5)
	}
}

// eachBytes hands on every list of at most most bytes of a few kinds: those at which a rule of the chapter turns.
func eachBytes(most int, hear func(b []byte)) {
	kinds := []byte{0, 1, 2, 7, 8, 127, 128, 129, 255}
	var grow func(b []byte)
	grow = func(b []byte) {
		hear(b)
		if len(b) == most {
			return
		}
		for _, k := range kinds {
			grow(append(b[:len(b):len(b)], k))
		}
	}
	grow(nil)
}

func TestWhatIsReadAsANumberIsJustItsBytes(t *testing.T) {
	read := 0
	eachBytes(6, func(b []byte) {
		n, next := impl.GetNum(b, 0)
		if next == -1 {
			if n != 0 {
				t.Fatalf("GetNum(%v, 0) = %d beside -1", b, n)
			}
			return
		}
		read++
		if n < 0 || n > impl.MaxNum || next < 1 || next > len(b) {
			t.Fatalf("GetNum(%v, 0) = %d, %d", b, n, next)
		}
		if form := impl.PutNum(nil, n); !bytes.Equal(form, b[:next]) {
			t.Fatalf("%v is read as %d, whose bytes are %v", b[:next], n, form)
		}
	})
	if read == 0 {
		t.Fatal("nothing was read")
	}
}

func TestTextsComeBack(t *testing.T) {
	for count := range impl.MaxText + 1 {
		text := textOf(count)
		for _, ahead := range surroundings {
			want := append(append(bytes.Clone(ahead), byte(count)), text...)
			b := impl.PutText(ahead, text)
			if !bytes.Equal(b, want) {
				t.Fatalf("PutText(%v, %v) = %v; want %v", ahead, text, b, want)
			}
			for _, behind := range surroundings {
				wantText(t, append(bytes.Clone(b), behind...), len(ahead), text, len(b))
			}
		}
	}
}

func TestTextsInARow(t *testing.T) {
	texts := [][]byte{[]byte("ab"), nil, textOf(impl.MaxText), {0}, {128, 0}, []byte("z")}
	var b []byte
	for i, text := range texts {
		b = impl.PutText(impl.PutNum(b, i*1000), text)
	}
	at := 0
	for i, text := range texts {
		n, next := impl.GetNum(b, at)
		if n != i*1000 {
			t.Fatal(i, n, next)
		}
		wantText(t, b, next, text, next+1+len(text))
		at = next + 1 + len(text)
	}
	if at != len(b) {
		t.Fatal(at, len(b))
	}
	wantNoText(t, b, at)
}

func TestPutTextTooLong(t *testing.T) {
	for _, count := range []int{impl.MaxText + 1, impl.MaxText + 2, 127, 128, 300, 70000} {
		for _, ahead := range surroundings {
			if got := impl.PutText(ahead, textOf(count)); !bytes.Equal(got, ahead) {
				t.Errorf("PutText(%v, %d bytes) = %v; want its first argument alone", ahead, count, got)
			}
		}
	}
}

func TestGetTextPlaces(t *testing.T) {
	for _, b := range [][]byte{nil, {}, {0}, {1, 5}, {2, 97, 98}} {
		for _, at := range placesOutside {
			wantNoText(t, b, at)
		}
		wantNoText(t, b, len(b))
		wantNoText(t, b, len(b)+1)
	}
	wantText(t, []byte{2, 97, 0}, 2, nil, 3)
	wantText(t, []byte{0}, 0, nil, 1)
}

func TestGetTextNotAllThere(t *testing.T) {
	for count := range impl.MaxText + 1 {
		b := append([]byte{byte(count)}, textOf(count)...)
		for kept := range len(b) {
			wantNoText(t, b[:kept:kept], 0)
			// The missing bytes lie behind the length, where nobody may read.
			wantNoText(t, b[:kept], 0)
		}
	}
	wantNoText(t, []byte{1, 1}, 1)
}

func TestGetTextCountIsNone(t *testing.T) {
	for _, count := range [][]byte{{128, 0}, {130, 0}, {128, 128, 0}, {130, 128, 128, 128, 128, 0}, {130, 128, 128, 128, 8}, {255, 255, 255, 255, 127}} {
		wantNoText(t, append(bytes.Clone(count), textOf(100)...), 0)
	}
}

func TestGetTextCountAboveMaxText(t *testing.T) {
	for _, count := range []int{impl.MaxText + 1, impl.MaxText + 2, 127, 128, 168, 16384, impl.MaxNum} {
		b := append(impl.PutNum(nil, count), textOf(20000)...)
		wantNoText(t, b, 0)
	}
	for count := impl.MaxText + 1; count < 400; count++ {
		wantNoText(t, append(impl.PutNum(nil, count), textOf(count)...), 0)
	}
}

func TestWhatIsReadAsATextIsJustItsBytes(t *testing.T) {
	read := 0
	eachBytes(6, func(b []byte) {
		text, next := impl.GetText(b, 0)
		if next == -1 {
			if len(text) != 0 {
				t.Fatalf("GetText(%v, 0) = %v beside -1", b, text)
			}
			return
		}
		read++
		if len(text) > impl.MaxText || next < 1 || next > len(b) {
			t.Fatalf("GetText(%v, 0) = %v, %d", b, text, next)
		}
		if form := impl.PutText(nil, text); !bytes.Equal(form, b[:next]) {
			t.Fatalf("%v is read as %v, whose bytes are %v", b[:next], text, form)
		}
	})
	if read == 0 {
		t.Fatal("nothing was read")
	}
}

// roomy: b with spare room behind it, and all of its memory.
func roomy(b []byte) (list, all []byte) {
	all = bytes.Repeat([]byte{77}, len(b)+64)
	copy(all, b)
	return all[:len(b)], all
}

func TestNothingIsGotFromTheSpareRoom(t *testing.T) {
	for _, form := range [][]byte{nil, {5}, {172, 2}, {1, 9}} {
		b, all := roomy(form)
		for at := len(b); at <= len(all)+1; at++ {
			wantNoNum(t, b, at)
			wantNoText(t, b, at)
		}
	}
}

// spoil writes into all that an answer hands out, its spare room too.
func spoil(answer []byte) {
	answer = answer[:cap(answer)]
	for i := range answer {
		answer[i] ^= 255
	}
}

// wantApart: asking changes no memory of an argument, and neither does writing into the answer; writing into the arguments changes no answer.
func wantApart(t *testing.T, what string, ask func() []byte, memories ...[]byte) {
	t.Helper()
	var ahead [][]byte
	for _, m := range memories {
		ahead = append(ahead, bytes.Clone(m))
	}
	same := func(when string) {
		t.Helper()
		for i, m := range memories {
			if !bytes.Equal(m, ahead[i]) {
				t.Fatalf("%s: argument %d is changed %s", what, i, when)
			}
		}
	}
	first := ask()
	same("by the call")
	want := bytes.Clone(first)
	second := ask()
	spoil(first)
	same("through the answer")
	if !bytes.Equal(second, want) {
		t.Fatalf("%s: two answers share memory", what)
	}
	for _, m := range memories {
		spoil(m)
	}
	if !bytes.Equal(second, want) {
		t.Fatalf("%s: the answer shares memory with an argument", what)
	}
}

func TestPutNumTakesNewMemory(t *testing.T) {
	for _, ahead := range surroundings {
		for _, n := range []int{0, 127, 128, 300, impl.MaxNum, impl.MaxNum + 1, -1} {
			b, all := roomy(ahead)
			wantApart(t, fmt.Sprintf("PutNum(%v, %d)", ahead, n), func() []byte { return impl.PutNum(b, n) }, all)
		}
	}
}

func TestPutTextTakesNewMemory(t *testing.T) {
	for _, ahead := range surroundings {
		for _, count := range []int{0, 1, impl.MaxText, impl.MaxText + 1} {
			b, all := roomy(ahead)
			text, textAll := roomy(textOf(count))
			wantApart(t, fmt.Sprintf("PutText(%v, %d bytes)", ahead, count), func() []byte { return impl.PutText(b, text) }, all, textAll)
		}
	}
}

func TestPutTextOfItsOwnSpareRoom(t *testing.T) {
	all := []byte("abcdefgh")
	if got := impl.PutText(all[:3], all[3:6]); string(got) != "abc\x03def" {
		t.Error(got)
	}
	if got := impl.PutText(all[:3], all[:3]); string(got) != "abc\x03abc" {
		t.Error(got)
	}
	if string(all) != "abcdefgh" {
		t.Error(all)
	}
}

func TestGetTextTakesNewMemory(t *testing.T) {
	for _, count := range []int{0, 1, 5, impl.MaxText} {
		form := append([]byte{byte(count)}, textOf(count)...)
		b, all := roomy(form)
		wantApart(t, fmt.Sprintf("GetText of %d bytes", count), func() []byte {
			text, next := impl.GetText(b, 0)
			if next != len(form) {
				t.Fatal(next)
			}
			return text
		}, all)
	}
}

func TestGettingChangesNothing(t *testing.T) {
	for _, form := range [][]byte{{0}, {172, 2}, {128, 0}, {255, 255, 255, 255, 8}, {128}, {3, 1, 2}, {41}} {
		b, all := roomy(form)
		want := bytes.Clone(all)
		impl.GetNum(b, 0)
		impl.GetText(b, 0)
		if !bytes.Equal(all, want) {
			t.Errorf("reading %v changes it", form)
		}
	}
}

func TestPutsFromOneBeginningStayApart(t *testing.T) {
	start := impl.PutNum(nil, 300)
	one := impl.PutNum(start, 1)
	two := impl.PutText(start, []byte("xy"))
	if !bytes.Equal(one, []byte{172, 2, 1}) || !bytes.Equal(two, []byte{172, 2, 2, 'x', 'y'}) {
		t.Error(one, two)
	}
}
