package tests

import (
	"math"
	"strings"
	"testing"

	"loop.example/g00175/impl"
)

// width is one way to put a number: how many bytes it takes, and what fits.
type width struct {
	name  string
	size  int64
	least int64
	most  int64
	put   func(int64) string
	get   func(string, int64) impl.NumOut
}

func widths() []width {
	return []width{
		{"1", 1, 0, math.MaxUint8, impl.Put1, impl.Get1},
		{"2", 2, 0, math.MaxUint16, impl.Put2, impl.Get2},
		{"4", 4, math.MinInt32, math.MaxInt32, impl.Put4, impl.Get4},
	}
}

// numbersWithin: the ends, what stands near them and near each power of two, of both signs.
func numbersWithin(least, most int64) []int64 {
	near := []int64{least, least + 1, most - 1, most}
	for bit := range 32 {
		for _, by := range []int64{-1, 0, 1} {
			near = append(near, 1<<bit+by, -(1<<bit)+by)
		}
	}
	var within []int64
	for _, n := range near {
		if n >= least && n <= most {
			within = append(within, n)
		}
	}
	return within
}

func checkBack(t *testing.T, w width, n int64) {
	t.Helper()
	put := w.put(n)
	if int64(len(put)) != w.size {
		t.Fatalf("Put%s(%d) has %d bytes", w.name, n, len(put))
	}
	for _, ahead := range []string{"", "x", "\xff\x00\x80"} {
		for _, behind := range []string{"", "y", "\x00\xff"} {
			at := int64(len(ahead))
			got := w.get(ahead+put+behind, at)
			if want := (impl.NumOut{N: n, At: at + w.size}); got != want {
				t.Fatalf("Get%s of %d behind %q: got %+v, want %+v", w.name, n, ahead, got, want)
			}
		}
	}
}

func TestNumbersComeBack(t *testing.T) {
	for _, w := range widths() {
		for _, n := range numbersWithin(w.least, w.most) {
			checkBack(t, w, n)
		}
	}
	for n := range int64(math.MaxUint8 + 1) {
		checkBack(t, widths()[0], n)
	}
	for n := range int64(math.MaxUint16 + 1) {
		checkBack(t, widths()[1], n)
	}
}

func TestNumbersStandHighestByteFirst(t *testing.T) {
	for _, c := range []struct{ got, want string }{
		{impl.Put1(0), "\x00"},
		{impl.Put1(127), "\x7f"},
		{impl.Put1(128), "\x80"},
		{impl.Put1(255), "\xff"},
		{impl.Put2(0), "\x00\x00"},
		{impl.Put2(255), "\x00\xff"},
		{impl.Put2(256), "\x01\x00"},
		{impl.Put2(0x1234), "\x12\x34"},
		{impl.Put2(65535), "\xff\xff"},
		{impl.Put4(0), "\x00\x00\x00\x00"},
		{impl.Put4(0x12345678), "\x12\x34\x56\x78"},
		{impl.Put4(-1), "\xff\xff\xff\xff"},
		{impl.Put4(-0x12345678), "\xed\xcb\xa9\x88"},
		{impl.Put4(math.MaxInt32), "\x7f\xff\xff\xff"},
		{impl.Put4(math.MinInt32), "\x80\x00\x00\x00"},
	} {
		if c.got != c.want {
			t.Errorf("got %q, want %q", c.got, c.want)
		}
	}
}

func TestNumbersThatDoNotFitArePutAsNothing(t *testing.T) {
	for _, w := range widths() {
		wrong := []int64{
			w.least - 1, w.most + 1, math.MinInt64, math.MaxInt64,
			1 << 32, 1<<32 + 1, -1 << 32, 1<<33 - 1, 1 << 62,
		}
		for _, n := range wrong {
			if got := w.put(n); got != "" {
				t.Errorf("Put%s(%d): got %q", w.name, n, got)
			}
		}
	}
}

func TestNumbersAreGotFromAnyBytes(t *testing.T) {
	text := "\x00\x7f\x80\xff\xc3\xa9"
	for _, c := range []struct {
		name      string
		got, want impl.NumOut
	}{
		{"1 of 80", impl.Get1(text, 2), impl.NumOut{N: 0x80, At: 3}},
		{"1 at the last", impl.Get1(text, 5), impl.NumOut{N: 0xa9, At: 6}},
		{"2 of 7f80", impl.Get2(text, 1), impl.NumOut{N: 0x7f80, At: 3}},
		{"2 at the last", impl.Get2(text, 4), impl.NumOut{N: 0xc3a9, At: 6}},
		{"4 of 007f80ff", impl.Get4(text, 0), impl.NumOut{N: 0x007f80ff, At: 4}},
		{"4 at the last", impl.Get4(text, 2), impl.NumOut{N: 0x80ffc3a9 - 1<<32, At: 6}},
	} {
		if c.got != c.want {
			t.Errorf("%s: got %+v, want %+v", c.name, c.got, c.want)
		}
	}
}

// placeFaults: where count bytes of a text that is not too long cannot be read.
func placeFaults(text string, count int64) map[int64]int64 {
	size := int64(len(text))
	faults := map[int64]int64{
		-1:                impl.ErrForm,
		math.MinInt64:     impl.ErrForm,
		size:              impl.ErrShort,
		size + 1:          impl.ErrShort,
		math.MaxInt64:     impl.ErrShort,
		math.MaxInt64 - 1: impl.ErrShort,
	}
	for at := max(0, size-count+1); at < size; at++ {
		faults[at] = impl.ErrShort
	}
	return faults
}

func TestNumbersAreRefusedByPlace(t *testing.T) {
	for _, w := range widths() {
		for _, text := range []string{"", "a", "ab", "abc", "abcdef", strings.Repeat("a", impl.MaxBytes)} {
			for at, code := range placeFaults(text, w.size) {
				if got := w.get(text, at); got != (impl.NumOut{Code: code}) {
					t.Errorf("Get%s of %d bytes at %d: got %+v, want code %d", w.name, len(text), at, got, code)
				}
			}
		}
	}
}

func TestLongTextsAreRefusedAheadOfAllElse(t *testing.T) {
	long := strings.Repeat("\x01", impl.MaxBytes+1)
	for _, at := range []int64{0, 7, -1, math.MinInt64, impl.MaxBytes, impl.MaxBytes + 1, impl.MaxBytes + 2, math.MaxInt64} {
		for _, w := range widths() {
			if got := w.get(long, at); got != (impl.NumOut{Code: impl.ErrSize}) {
				t.Errorf("Get%s at %d: got %+v", w.name, at, got)
			}
		}
		if got := impl.GetText(long, at); got != (impl.TextOut{Code: impl.ErrSize}) {
			t.Errorf("GetText at %d: got %#v", at, got)
		}
	}
	if got := impl.PutText(strings.Repeat("a", impl.MaxBytes+1)); got != "" {
		t.Errorf("PutText: got %q", got)
	}
	if impl.NameRight(strings.Repeat("a", impl.MaxBytes+1)) {
		t.Error("NameRight takes it")
	}
}

func TestTextsOfMaxBytesAreRead(t *testing.T) {
	most := strings.Repeat("\x01", impl.MaxBytes-2) + "\x01a"
	for _, w := range widths() {
		at := impl.MaxBytes - w.size
		if got := w.get(most, at); got.Code != impl.OK || got.At != impl.MaxBytes {
			t.Errorf("Get%s: got %+v", w.name, got)
		}
	}
	want := impl.TextOut{Text: "a", At: impl.MaxBytes}
	if got := impl.GetText(most, impl.MaxBytes-2); got != want {
		t.Errorf("GetText: got %#v, want %#v", got, want)
	}
}

func allShownBytes() string {
	var b strings.Builder
	for c := byte(32); c <= 126; c++ {
		b.WriteByte(c)
	}
	return b.String()
}

func TestTextsComeBack(t *testing.T) {
	texts := []string{"", " ", "~", "hi", "()V", "<init>", allShownBytes()}
	for size := range 256 {
		texts = append(texts, strings.Repeat("ab~ ", 64)[:size])
	}
	for _, text := range texts {
		put := impl.PutText(text)
		if want := string([]byte{byte(len(text))}) + text; put != want {
			t.Fatalf("PutText(%q): got %q", text, put)
		}
		for _, ahead := range []string{"", "\x00", "\xff\x01z"} {
			for _, behind := range []string{"", "y", "\n\xff"} {
				at := int64(len(ahead))
				want := impl.TextOut{Text: text, At: at + int64(len(put))}
				if got := impl.GetText(ahead+put+behind, at); got != want {
					t.Fatalf("GetText of %q behind %q: got %#v, want %#v", text, ahead, got, want)
				}
			}
		}
	}
}

func TestTextsTakeBytes32To126Alone(t *testing.T) {
	for b := range 256 {
		for _, text := range []string{
			string([]byte{byte(b)}),
			string([]byte{byte(b), 'a', 'b'}),
			string([]byte{'a', byte(b), 'b'}),
			string([]byte{'a', 'b', byte(b)}),
		} {
			may := b >= 32 && b <= 126
			told := string([]byte{byte(len(text))}) + text
			wantPut, wantGot := "", impl.TextOut{Code: impl.ErrSyntax}
			if may {
				wantPut, wantGot = told, impl.TextOut{Text: text, At: int64(len(told))}
			}
			if got := impl.PutText(text); got != wantPut {
				t.Errorf("PutText(%q): got %q", text, got)
			}
			if got := impl.GetText(told, 0); got != wantGot {
				t.Errorf("GetText(%q): got %#v", told, got)
			}
		}
	}
}

func TestTextsThatCannotBePut(t *testing.T) {
	for _, text := range []string{
		strings.Repeat("a", 256),
		strings.Repeat("a", 257),
		strings.Repeat("a", 512),
		strings.Repeat("a", impl.MaxBytes),
		strings.Repeat("a", 254) + "\n",
		"é", "aé", "日", "\xc3", "a\xa9", "\ufffd",
	} {
		if got := impl.PutText(text); got != "" {
			t.Errorf("PutText of %d bytes: got %q", len(text), got)
		}
	}
}

func TestTextsAreRefusedInOrder(t *testing.T) {
	for _, c := range []struct {
		name string
		text string
		at   int64
		code int64
	}{
		{"below 0", "\x01a", -1, impl.ErrForm},
		{"far below 0", "\x01a", math.MinInt64, impl.ErrForm},
		{"below 0 of nothing", "", -1, impl.ErrForm},
		{"nothing", "", 0, impl.ErrShort},
		{"at the end", "\x01a", 2, impl.ErrShort},
		{"behind the end", "\x01a", 3, impl.ErrShort},
		{"far behind the end", "\x01a", math.MaxInt64, impl.ErrShort},
		{"a length alone", "\x01", 0, impl.ErrShort},
		{"one byte short", "\x03ab", 0, impl.ErrShort},
		{"254 of 255", "\xff" + strings.Repeat("a", 254), 0, impl.ErrShort},
		{"short and a wrong byte", "\x03a\n", 0, impl.ErrShort},
		{"a wrong byte", "\x03a\nb", 0, impl.ErrSyntax},
		{"runes", "\x02é", 0, impl.ErrSyntax},
		{"a wrong last byte of 255", "\xff" + strings.Repeat("a", 254) + "\x7f", 0, impl.ErrSyntax},
	} {
		if got := impl.GetText(c.text, c.at); got != (impl.TextOut{Code: c.code}) {
			t.Errorf("%s: got %#v, want code %d", c.name, got, c.code)
		}
	}
}

func TestWrongBytesBehindATextDoNotMatter(t *testing.T) {
	want := impl.TextOut{Text: "ab", At: 4}
	if got := impl.GetText("\n\x02ab\n\xff", 1); got != want {
		t.Errorf("got %#v, want %#v", got, want)
	}
}

func mayStandInName(b byte, first bool) bool {
	if strings.IndexByte("0123456789", b) >= 0 {
		return !first
	}
	return strings.IndexByte("abcdefghijklmnopqrstuvwxyzABCDEFGHIJKLMNOPQRSTUVWXYZ$", b) >= 0
}

func TestNamesByByte(t *testing.T) {
	for b := range 256 {
		c := byte(b)
		for text, want := range map[string]bool{
			string([]byte{c}):           mayStandInName(c, true),
			string([]byte{c, 'a'}):      mayStandInName(c, true),
			string([]byte{'a', c}):      mayStandInName(c, false),
			string([]byte{'$', c, 'a'}): mayStandInName(c, false),
		} {
			if got := impl.NameRight(text); got != want {
				t.Errorf("%q: got %v", text, got)
			}
		}
	}
}

func TestNames(t *testing.T) {
	for text, want := range map[string]bool{
		"Object":                      true,
		"$":                           true,
		"$1":                          true,
		"init":                        true,
		"a23456789012345678$0":        true,
		strings.Repeat("Z", 20):       true,
		"":                            false,
		strings.Repeat("Z", 21):       false,
		strings.Repeat("a", 256):      false,
		strings.Repeat("a", 19) + "_": false,
		"<init>":                      false,
		"a b":                         false,
		"a/b":                         false,
		"é":                           false,
		"aé":                          false,
		"0":                           false,
		"9a":                          false,
	} {
		if got := impl.NameRight(text); got != want {
			t.Errorf("%q: got %v", text, got)
		}
	}
}
