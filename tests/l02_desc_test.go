package tests

import (
	"reflect"
	"regexp"
	"slices"
	"strings"
	"testing"

	"loop.example/g00175/impl"
)

// The rule of types and of descs' texts, said a second time and in another way.
const typeRule = `\[?(?:I|L[a-zA-Z$][a-zA-Z0-9$]{0,19};)`

var (
	typePattern = regexp.MustCompile(`\A` + typeRule + `\z`)
	descPattern = regexp.MustCompile(`\A\((?:` + typeRule + `){0,8}\)(?:V|` + typeRule + `)\z`)
)

// canBegin asks whether a right desc's text begins so: one of these ends makes it whole.
func canBegin(text string) bool {
	ends := []string{"()V", ")V", "I)V", "a;)V", ";)V", "V", "I", "a;", ";", ""}
	return slices.ContainsFunc(ends, func(end string) bool { return descPattern.MatchString(text + end) })
}

// classTypes: types that name a class, beside that name.
func classTypes() map[string]string {
	types := map[string]string{}
	for _, name := range []string{"A", "z", "$", "I", "L", "V", "LI", "a0", "$9Z", "Object", strings.Repeat("N", 20)} {
		types["L"+name+";"] = name
		types["[L"+name+";"] = name
	}
	return types
}

func rightTypes() []string {
	types := []string{"I", "[I"}
	for text := range classTypes() {
		types = append(types, text)
	}
	slices.Sort(types)
	return types
}

// wrongTypes: also what is right elsewhere, but no type.
func wrongTypes() []string {
	return []string{
		"", "V", "[V", "[", "[[I", "[[LA;", "i", "J", "II", "I;", " I", "I ", "[I;", "(I)", "()V",
		"L", "L;", "[L", "[L;", "LA", "[LA", "A", "A;", "LA;;", "LA;I", "LA;LA;", "lA;", "LA[;",
		"L0;", "L9a;", "[L1A;", "L<init>;", "La_b;", "La b;", "La/b;", "LA\x00;", "I\x00", "\x00",
		"Lé;", "LA\xff;", "\xffI", "L" + strings.Repeat("N", 21) + ";", "[L" + strings.Repeat("N", 21) + ";",
		"L" + strings.Repeat("N", 20), "L" + strings.Repeat("N", impl.MaxBytes-2) + ";",
		"L" + strings.Repeat("N", impl.MaxBytes) + ";", strings.Repeat("I", impl.MaxBytes+1),
	}
}

func rightDescs() []impl.Desc {
	types := rightTypes()
	var descs []impl.Desc
	for count := range impl.MaxParams + 1 {
		for shift, result := range append([]string{"V"}, types...) {
			var params []string
			for i := range count {
				params = append(params, types[(i*7+shift)%len(types)])
			}
			descs = append(descs, impl.Desc{Params: params, Result: result})
		}
	}
	return descs
}

func TestTypes(t *testing.T) {
	for _, text := range rightTypes() {
		if !impl.TypeRight(text) {
			t.Errorf("%q is no type", text)
		}
		if got, want := impl.TypeClass(text), classTypes()[text]; got != want {
			t.Errorf("%q: class %q, want %q", text, got, want)
		}
	}
	for _, text := range wrongTypes() {
		if impl.TypeRight(text) {
			t.Errorf("%.40q is a type", text)
		}
		if got := impl.TypeClass(text); got != "" {
			t.Errorf("%.40q: class %q", text, got)
		}
	}
}

func TestTypesByByte(t *testing.T) {
	for b := range 256 {
		c := string([]byte{byte(b)})
		for _, text := range []string{c, "[" + c, c + "I", "L" + c + ";", "[L" + c + ";", "La" + c + ";", c + "a;", "La" + c} {
			if got, want := impl.TypeRight(text), typePattern.MatchString(text); got != want {
				t.Errorf("%q: got %v", text, got)
			}
		}
	}
}

func TestRightDescsComeBack(t *testing.T) {
	for _, d := range rightDescs() {
		want := "(" + strings.Join(d.Params, "") + ")" + d.Result
		if !impl.DescRight(d) {
			t.Fatalf("%+v is not right", d)
		}
		text := impl.DescText(d)
		if text != want {
			t.Fatalf("%+v: text %q", d, text)
		}
		if got := impl.DescRead(text); !reflect.DeepEqual(got, impl.DescOut{Desc: d}) {
			t.Fatalf("%q: got %+v, want %+v", text, got, d)
		}
		if got := impl.DescSlots(text); got != int64(len(d.Params)) {
			t.Fatalf("%q: %d slots", text, got)
		}
	}
}

func TestWrongDescsHaveNoText(t *testing.T) {
	nine := slices.Repeat([]string{"I"}, impl.MaxParams+1)
	wrong := []impl.Desc{
		{},
		{Params: []string{"I"}},
		{Params: nine, Result: "V"},
		{Params: slices.Repeat(nine, 100), Result: "I"},
		{Params: []string{"V"}, Result: "V"},
		{Params: []string{"I", "V", "I"}, Result: "I"},
	}
	for _, text := range wrongTypes() {
		wrong = append(wrong,
			impl.Desc{Params: []string{text}, Result: "V"},
			impl.Desc{Params: []string{"I", text, "LA;"}, Result: "I"},
			impl.Desc{Params: []string{"[I", "[LA;", text}, Result: "I"})
		if text != "V" {
			wrong = append(wrong, impl.Desc{Result: text}, impl.Desc{Params: []string{"I"}, Result: text})
		}
	}
	for _, d := range wrong {
		if impl.DescRight(d) {
			t.Errorf("%.80q is right", d)
		}
		if got := impl.DescText(d); got != "" {
			t.Errorf("%.80q: text %q", d, got)
		}
	}
}

func TestNoParamsAndAnEmptyListAreTheSame(t *testing.T) {
	for _, d := range []impl.Desc{{Result: "V"}, {Params: []string{}, Result: "V"}} {
		if got := impl.DescText(d); got != "()V" {
			t.Errorf("got %q", got)
		}
	}
	if got := impl.DescRead("()V"); len(got.Desc.Params) != 0 || got.Desc.Result != "V" || got.Code != impl.OK || got.At != 0 {
		t.Errorf("got %+v", got)
	}
}

func checkRefused(t *testing.T, text string, at int) {
	t.Helper()
	want := impl.DescOut{At: int64(at), Code: impl.ErrSyntax}
	if got := impl.DescRead(text); !reflect.DeepEqual(got, want) {
		t.Errorf("%.60q: got %+v, want %+v", text, got, want)
	}
	if got := impl.DescSlots(text); got != -1 {
		t.Errorf("%.60q: %d slots", text, got)
	}
}

func TestPlacesOfFaults(t *testing.T) {
	name := strings.Repeat("N", 20)
	eight := "(" + strings.Repeat("I", 8)
	for _, c := range []struct {
		text string
		at   int
	}{
		{"", 0}, {"V", 0}, {"I", 0}, {"[I", 0}, {")V", 0}, {" ()V", 0}, {"\x00", 0}, {"\xff()V", 0},
		{"((", 1}, {"(V)V", 1}, {"(IV)V", 2}, {"(A;)V", 1}, {"( )V", 1}, {"(;)V", 1}, {"(I;)V", 2}, {"(I,I)V", 2},
		{"([V)V", 2}, {"([[I)V", 2}, {"([)V", 2}, {"(I[)V", 3}, {"([I[[I)V", 4},
		{"(L;)V", 2}, {"([L;)V", 3}, {"(L)V", 2}, {"(L0;)V", 2}, {"([L9a;)V", 3}, {"(LA)V", 3}, {"(La.b;)V", 3},
		{"(L<init>;)V", 2}, {"(Lé;)V", 2}, {"(LA\x00;)V", 3}, {"(LA;;)V", 4},
		{"()", 2}, {"())V", 2}, {"()(", 2}, {"()[", 3}, {"()[V", 3}, {"()[[I", 3}, {"()L", 3}, {"()L;", 3}, {"()L5;", 3},
		{"()LA", 4}, {"()LA)", 4}, {"()A", 2}, {"() V", 2},
		{"()VV", 3}, {"()V ", 3}, {"()V\x00", 3}, {"()V\n", 3}, {"()II", 3}, {"()IV", 3}, {"()[II", 4}, {"()LA;I", 5}, {"()V()V", 3},
		{"(L" + name + "N;)V", 22}, {"([L" + name + "N;)V", 23}, {"()L" + name + "N;", 23}, {"()[L" + name + "N;", 24},
		{"(L" + name + "0;)V", 22}, {"(L" + name + name, 22}, {"(L" + name, 22}, {"(L" + name + ")", 22},
		{eight + "I)V", 9}, {eight + "LA;)V", 9}, {eight + "[I)V", 9}, {eight + "[LA;)V", 9}, {eight + "V", 9}, {eight + "L", 9},
		{eight + "[", 9}, {eight, 9}, {eight + "III)V", 9}, {"(" + strings.Repeat("[LA;", 9) + ")V", 33},
		{"(L" + strings.Repeat("N", impl.MaxBytes-2), 22}, {"()V" + strings.Repeat("V", impl.MaxBytes-3), 3},
	} {
		checkRefused(t, c.text, c.at)
	}
}

func TestTextsThatEndTooEarlyAreWrongAtTheirLength(t *testing.T) {
	for _, text := range []string{
		"(ILA;[I[LBc0;)V", "(L" + strings.Repeat("N", 20) + ";)[LObject;", "(IIIIIIII)LA;", "()[I",
	} {
		for size := range len(text) {
			checkRefused(t, text[:size], size)
		}
	}
}

// checkPlace holds what is answered against the rule: the text is read just if
// the rule takes it, and else the place ends the longest beginning that can be one.
func checkPlace(t *testing.T, text string) {
	t.Helper()
	got := impl.DescRead(text)
	if descPattern.MatchString(text) {
		if got.Code != impl.OK || impl.DescText(got.Desc) != text {
			t.Fatalf("%q: got %+v", text, got)
		}
		return
	}
	at := got.At
	if got.Code != impl.ErrSyntax || at < 0 || at > int64(len(text)) || len(got.Desc.Params) > 0 || got.Desc.Result != "" {
		t.Fatalf("%q: got %+v", text, got)
	}
	if !canBegin(text[:at]) {
		t.Fatalf("%q: refused at %d, but nothing right begins with %q", text, at, text[:at])
	}
	if at < int64(len(text)) && canBegin(text[:at+1]) {
		t.Fatalf("%q: refused at %d, but something right begins with %q", text, at, text[:at+1])
	}
}

func TestWhatStandsAheadOfThePlaceCanStillBeOne(t *testing.T) {
	texts := []string{""}
	for len(texts[0]) < 6 {
		var longer []string
		for _, text := range texts {
			checkPlace(t, text)
			for _, more := range []string{"(", ")", "[", "I", "L", "V", ";", "a", "1"} {
				longer = append(longer, text+more)
			}
		}
		texts = longer
	}
}

func TestRightDescsWithAFault(t *testing.T) {
	bytes := []string{"", "(", ")", "[", "I", "L", "V", ";", "a", "Z", "$", "0", " ", "\x00", "\n", "\x7f", "\x80", "\xff"}
	for _, text := range []string{
		"()V", "(I)I", "(ILA;[I)V", "([LB;L$9;)[LObject;", "(IIIIIIII)V", "(IIIIIII)LA;",
		"(L" + strings.Repeat("N", 20) + ";)V", "(L" + strings.Repeat("N", 19) + ";)[I",
	} {
		for at := range len(text) + 1 {
			for _, piece := range bytes {
				checkPlace(t, text[:at]+piece+text[at:])
				checkPlace(t, text[:at]+piece+text[min(at+1, len(text)):])
			}
		}
	}
}

func TestLongTextsOfDescs(t *testing.T) {
	for _, text := range []string{
		strings.Repeat("(", impl.MaxBytes+1),
		"()V" + strings.Repeat(" ", impl.MaxBytes-2),
		"(" + strings.Repeat("I", impl.MaxBytes-2) + ")V",
	} {
		if got := impl.DescRead(text); !reflect.DeepEqual(got, impl.DescOut{Code: impl.ErrSize}) {
			t.Errorf("DescRead of %d bytes: got %+v", len(text), got)
		}
		if got := impl.DescSlots(text); got != 0 {
			t.Errorf("DescSlots of %d bytes: got %d, not the zero answer", len(text), got)
		}
	}
	checkRefused(t, "(L"+strings.Repeat("a", impl.MaxBytes-2), 22)
}

func TestDescsAreNotChangedAndNotKept(t *testing.T) {
	d := impl.Desc{Params: []string{"I", "LA;"}, Result: "V"}
	impl.DescRight(d)
	impl.DescText(d)
	if !slices.Equal(d.Params, []string{"I", "LA;"}) || d.Result != "V" {
		t.Errorf("changed: %+v", d)
	}
	first := impl.DescRead("(ILA;)V")
	first.Desc.Params[0] = "[I"
	if got := impl.DescRead("(ILA;)V"); !reflect.DeepEqual(got, impl.DescOut{Desc: d}) {
		t.Errorf("kept: %+v", got)
	}
}
