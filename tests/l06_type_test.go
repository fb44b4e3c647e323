package tests

import (
	"math"
	"slices"
	"strconv"
	"strings"
	"testing"
	"unsafe"

	"loop.example/g00175/impl"
)

// kindsTold: the kinds, each at its place, as told in these tests.
func kindsTold() []string {
	return strings.Fields("top int null ref ints refs new this")
}

// typeOf: a type told by its kind and, if it has them, its Class and At.
func typeOf(told string) impl.Type {
	words := append(strings.Fields(told), "", "")
	at, _ := strconv.ParseInt(words[2], 10, 64)
	return impl.Type{Kind: int64(slices.Index(kindsTold(), words[0])), Class: words[1], At: at}
}

// typesOf: types told with a comma and a blank between.
func typesOf(told string) []impl.Type {
	var types []impl.Type
	for _, one := range strings.Split(told, ", ") {
		types = append(types, typeOf(one))
	}
	return types
}

// plainKinds: the types that have neither Class nor At.
func plainKinds() []impl.Type {
	return typesOf("top, int, null, ints, this")
}

// typeKnown, below: what chapter 7 says by its words.
func (m model) typeKnown(t impl.Type) bool {
	switch t.Kind {
	case impl.KindRef, impl.KindRefs:
		return m.known(t.Class) && t.At == 0
	case impl.KindNew:
		return m.known(t.Class) && t.At >= 0 && t.At < impl.MaxCode
	}
	return slices.Contains(plainKinds(), t)
}

func (m model) below(a, b impl.Type) bool {
	stands := func() bool { return isOneOf(m.up(a.Class), b.Class) }
	toObject := b.Kind == impl.KindRef && b.Class == "Object"
	switch {
	case a == b, b.Kind == impl.KindTop:
		return true
	case a.Kind == impl.KindNull:
		return slices.Contains([]int64{impl.KindNull, impl.KindRef, impl.KindInts, impl.KindRefs}, b.Kind)
	case a.Kind == impl.KindRef:
		return b.Kind == impl.KindRef && stands()
	case a.Kind == impl.KindInts:
		return toObject
	case a.Kind == impl.KindRefs:
		return toObject || b.Kind == impl.KindRefs && stands()
	}
	return false
}

// least: of some types the one above both that is below each other one above both.
func (m model) least(types []impl.Type, a, b impl.Type) (impl.Type, bool) {
	var above []impl.Type
	for _, c := range types {
		if m.below(a, c) && m.below(b, c) {
			above = append(above, c)
		}
	}
	for _, c := range above {
		if !slices.ContainsFunc(above, func(d impl.Type) bool { return !m.below(c, d) }) {
			return c, true
		}
	}
	return impl.Type{}, false
}

// knownTypes: all types that are known in a right world, but of new just those of some classes and places.
func knownTypes(list []impl.Class) []impl.Type {
	types := plainKinds()
	for _, name := range knownOf(list) {
		types = append(types, impl.Type{Kind: impl.KindRef, Class: name}, impl.Type{Kind: impl.KindRefs, Class: name})
	}
	last := knownOf(list)[len(knownOf(list))-1]
	for _, name := range []string{"Object", last} {
		for _, at := range []int64{0, 1, impl.MaxCode - 1} {
			types = append(types, impl.Type{Kind: impl.KindNew, Class: name, At: at})
		}
	}
	return types
}

// strangeTypes: types that are known in no right world without a class Zed.
func strangeTypes() []impl.Type {
	types := typesOf("ref Object 1, ref Error -1, refs Object 1, refs Object 59, new Object -1, new Object 60, new Error 61")
	for _, at := range []int64{math.MinInt64, math.MaxInt64, 1 << 32} {
		types = append(types, impl.Type{Kind: impl.KindNew, Class: "Object", At: at}, impl.Type{Kind: impl.KindRef, Class: "Object", At: at})
	}
	for _, plain := range plainKinds() {
		types = append(types,
			impl.Type{Kind: plain.Kind, Class: "Object"}, impl.Type{Kind: plain.Kind, Class: "Zed"},
			impl.Type{Kind: plain.Kind, At: 1}, impl.Type{Kind: plain.Kind, At: -1},
			impl.Type{Kind: plain.Kind, Class: "Object", At: 3})
	}
	for _, kind := range []int64{-1, impl.KindThis + 1, math.MinInt64, math.MaxInt64, 1<<32 + impl.KindInt} {
		types = append(types, impl.Type{Kind: kind}, impl.Type{Kind: kind, Class: "Object"})
	}
	for _, name := range append(strangers(), strings.Repeat("N", impl.MaxBytes+1)) {
		for _, kind := range []int64{impl.KindRef, impl.KindRefs, impl.KindNew} {
			types = append(types, impl.Type{Kind: kind, Class: name})
		}
	}
	return types
}

// typeNamed: a type for a message, short even where its Class is long.
func typeNamed(types ...impl.Type) string {
	var told string
	for _, t := range types {
		told += " {" + strconv.FormatInt(t.Kind, 10) + " " + strconv.Quote(t.Class[:min(len(t.Class), 30)]) + " " + strconv.FormatInt(t.At, 10) + "}"
	}
	return told
}

// checkNoType: a type that is not known stands to no other one, either way round.
func checkNoType(t *testing.T, list []impl.Class, wrong impl.Type, others []impl.Type) {
	t.Helper()
	same(t, list, "known"+typeNamed(wrong), impl.TypeKnown(list, wrong), false)
	for _, other := range append(others, wrong) {
		same(t, list, "below"+typeNamed(wrong, other), impl.TypeLe(list, wrong, other), false)
		same(t, list, "below"+typeNamed(other, wrong), impl.TypeLe(list, other, wrong), false)
		same(t, list, "above"+typeNamed(wrong, other), impl.TypeLub(list, wrong, other), impl.Type{})
		same(t, list, "above"+typeNamed(other, wrong), impl.TypeLub(list, other, wrong), impl.Type{})
	}
}

func TestTypesKnown(t *testing.T) {
	list := worldOf("class A Object, class B A, class Zed2 Error abstract, class F Object final")
	for told, want := range map[string]bool{
		"top": true, "int": true, "null": true, "ints": true, "this": true,
		"ref A": true, "ref B": true, "ref Object": true, "ref NullError": true, "ref Zed2": true, "ref F": true,
		"refs A": true, "refs B": true, "refs Object": true, "refs DeepError": true, "refs Zed2": true, "refs F": true,
		"new A": true, "new A 59": true, "new Object": true, "new Error 30": true, "new Zed2 7": true,
		"new A -1": false, "new A 60": false, "new A 400": false,
		"ref": false, "refs": false, "new": false,
		"ref Zed": false, "refs Zed": false, "new Zed": false, "new Zed 3": false, "ref a": false, "refs [A": false,
		"ref A 1": false, "ref A -1": false, "refs A 1": false,
		"top A": false, "int A": false, "null A": false, "ints A": false, "this A": false, "int Zed": false,
		"other": false, "other A": false,
	} {
		same(t, list, told, impl.TypeKnown(list, typeOf(told)), want)
	}
	for kind := range int64(impl.KindThis + 1) {
		hasClass := kind == impl.KindRef || kind == impl.KindRefs || kind == impl.KindNew
		same(t, list, "a kind alone", impl.TypeKnown(list, impl.Type{Kind: kind}), !hasClass)
		same(t, list, "a kind with a class", impl.TypeKnown(list, impl.Type{Kind: kind, Class: "B"}), hasClass)
		same(t, list, "a kind with both", impl.TypeKnown(list, impl.Type{Kind: kind, Class: "B", At: 2}), kind == impl.KindNew)
		same(t, list, "a kind with a place", impl.TypeKnown(list, impl.Type{Kind: kind, At: 2}), false)
	}
}

func TestStrangeTypes(t *testing.T) {
	list := worldOf("class A Object, class B A")
	others := typesOf("top, int, null, ints, this, ref A, ref Object, refs B, new A 3")
	for _, wrong := range strangeTypes() {
		checkNoType(t, list, wrong, others)
		checkNoType(t, nil, wrong, typesOf("top, ref Object, null"))
	}
	// What is known in one world is not known in another one.
	for _, told := range []string{"ref A", "refs A", "new A", "ref B", "refs B", "new B 59"} {
		same(t, list, told, impl.TypeKnown(list, typeOf(told)), true)
		checkNoType(t, nil, typeOf(told), typesOf("top, null, ref Object"))
		checkNoType(t, worldOf("class C Object"), typeOf(told), typesOf("top, null, ref C"))
	}
}

// aboveTold: types of a world, beside all that are above each, but itself and top.
func aboveTold() ([]impl.Class, map[string]string) {
	list := worldOf("class A Object, class B A, class C A, class E Error")
	return list, map[string]string{
		"top":            "",
		"int":            "",
		"this":           "",
		"new A 0":        "",
		"new A 1":        "",
		"new B 0":        "",
		"new Object 0":   "",
		"null":           "ref Object, ref A, ref B, ref C, ref Error, ref E, ref NullError, ints, refs Object, refs A, refs B, refs C, refs Error, refs E, refs NullError",
		"ref Object":     "",
		"ref A":          "ref Object",
		"ref B":          "ref Object, ref A",
		"ref C":          "ref Object, ref A",
		"ref Error":      "ref Object",
		"ref E":          "ref Object, ref Error",
		"ref NullError":  "ref Object, ref Error",
		"ints":           "ref Object",
		"refs Object":    "ref Object",
		"refs A":         "ref Object, refs Object",
		"refs B":         "ref Object, refs Object, refs A",
		"refs C":         "ref Object, refs Object, refs A",
		"refs Error":     "ref Object, refs Object",
		"refs E":         "ref Object, refs Object, refs Error",
		"refs NullError": "ref Object, refs Object, refs Error",
	}
}

func TestTypesBelowEachOther(t *testing.T) {
	list, above := aboveTold()
	for a, told := range above {
		for b := range above {
			want := a == b || b == "top" || slices.Contains(strings.Split(told, ", "), b)
			same(t, list, a+" below "+b, impl.TypeLe(list, typeOf(a), typeOf(b)), want)
		}
	}
}

func TestLeastTypesAboveTwo(t *testing.T) {
	list, above := aboveTold()
	for _, c := range []struct{ a, b, want string }{
		{"null", "ref B", "ref B"}, {"null", "ints", "ints"}, {"null", "refs A", "refs A"},
		{"null", "int", "top"}, {"null", "new A 0", "top"}, {"null", "this", "top"}, {"null", "top", "top"},
		{"int", "ref A", "top"}, {"int", "ints", "top"}, {"int", "refs A", "top"}, {"int", "new A 0", "top"}, {"int", "this", "top"}, {"int", "top", "top"},
		{"ref B", "ref C", "ref A"}, {"ref B", "ref A", "ref A"}, {"ref B", "ref Object", "ref Object"},
		{"ref B", "ref E", "ref Object"}, {"ref B", "ref Error", "ref Object"}, {"ref E", "ref NullError", "ref Error"},
		{"ref B", "ints", "ref Object"}, {"ref Object", "ints", "ref Object"}, {"ref B", "refs B", "ref Object"}, {"ref Object", "refs Object", "ref Object"}, {"ref E", "refs A", "ref Object"},
		{"ref A", "new A 0", "top"}, {"ref Object", "new Object 0", "top"}, {"ref A", "this", "top"}, {"ref Object", "this", "top"}, {"ref Object", "top", "top"},
		{"ints", "refs A", "ref Object"}, {"ints", "refs Object", "ref Object"}, {"ints", "new A 0", "top"}, {"ints", "this", "top"}, {"ints", "top", "top"},
		{"refs B", "refs C", "refs A"}, {"refs B", "refs A", "refs A"}, {"refs B", "refs Object", "refs Object"},
		{"refs B", "refs E", "refs Object"}, {"refs A", "refs Error", "refs Object"}, {"refs E", "refs NullError", "refs Error"},
		{"refs A", "new A 0", "top"}, {"refs A", "this", "top"}, {"refs Object", "top", "top"},
		{"new A 0", "new A 1", "top"}, {"new A 0", "new B 0", "top"}, {"new A 0", "this", "top"}, {"new A 0", "top", "top"}, {"this", "top", "top"},
	} {
		same(t, list, c.a+" and "+c.b, impl.TypeLub(list, typeOf(c.a), typeOf(c.b)), typeOf(c.want))
		same(t, list, c.b+" and "+c.a, impl.TypeLub(list, typeOf(c.b), typeOf(c.a)), typeOf(c.want))
	}
	for a := range above {
		same(t, list, a+" twice", impl.TypeLub(list, typeOf(a), typeOf(a)), typeOf(a))
	}
}

// typeWorlds: right worlds of which all types are held against each other.
func typeWorlds() [][]impl.Class {
	dealt, _ := dealtWorlds(12)
	return append(allRightWorlds(), dealt...)
}

func TestTypesAsTheModelSays(t *testing.T) {
	for _, list := range typeWorlds() {
		m, types := model(list), knownTypes(list)
		for _, a := range types {
			same(t, list, "known"+typeNamed(a), impl.TypeKnown(list, a), m.typeKnown(a))
			for _, b := range types {
				least, there := m.least(types, a, b)
				if !there {
					t.Fatalf("no least one above%s in %s", typeNamed(a, b), shown(list))
				}
				same(t, list, "below"+typeNamed(a, b), impl.TypeLe(list, a, b), m.below(a, b))
				same(t, list, "above"+typeNamed(a, b), impl.TypeLub(list, a, b), least)
			}
		}
		for _, wrong := range strangeTypes() {
			same(t, list, "known"+typeNamed(wrong), impl.TypeKnown(list, wrong), m.typeKnown(wrong))
		}
	}
}

// belowTold: what is told of each two types, by their places.
func belowTold(list []impl.Class, types []impl.Type) [][]bool {
	var told [][]bool
	for _, a := range types {
		var row []bool
		for _, b := range types {
			row = append(row, impl.TypeLe(list, a, b))
		}
		told = append(told, row)
	}
	return told
}

// Promise 7: below is an order, with top above all.
func TestBelowIsAnOrder(t *testing.T) {
	for _, list := range typeWorlds() {
		types := knownTypes(list)
		below := belowTold(list, types)
		for a := range types {
			if !below[a][a] || !below[a][0] || types[0].Kind != impl.KindTop {
				t.Fatalf("%s is not below itself and top in %s", typeNamed(types[a]), shown(list))
			}
			for b := range types {
				if a != b && below[a][b] && below[b][a] {
					t.Fatalf("%s are below each other in %s", typeNamed(types[a], types[b]), shown(list))
				}
				for c := range types {
					if below[a][b] && below[b][c] && !below[a][c] {
						t.Fatalf("%s don't go on in %s", typeNamed(types[a], types[b], types[c]), shown(list))
					}
				}
			}
		}
	}
}

// Promise 7: two types that are known have a least one above both.
func TestTwoTypesHaveALeastOneAboveBoth(t *testing.T) {
	for _, list := range typeWorlds() {
		types := knownTypes(list)
		below := belowTold(list, types)
		for a := range types {
			for b := range types {
				lub := impl.TypeLub(list, types[a], types[b])
				same(t, list, "the other way round of"+typeNamed(types[a], types[b]), impl.TypeLub(list, types[b], types[a]), lub)
				at := slices.Index(types, lub)
				if at < 0 || !below[a][at] || !below[b][at] {
					t.Fatalf("%s is not above%s in %s", typeNamed(lub), typeNamed(types[a], types[b]), shown(list))
				}
				for c := range types {
					if below[a][c] && below[b][c] && !below[at][c] {
						t.Fatalf("%s is above%s, and not above%s, in %s", typeNamed(types[c]), typeNamed(types[a], types[b]), typeNamed(lub), shown(list))
					}
				}
				same(t, list, "below"+typeNamed(types[a], types[b]), below[a][b], at == b)
			}
		}
	}
}

// Of each class and each place that new can have, just the same one is below.
func TestNewTypesStandApart(t *testing.T) {
	list := worldOf("class A Object, class B A")
	for at := range int64(impl.MaxCode) {
		a := impl.Type{Kind: impl.KindNew, Class: "A", At: at}
		same(t, list, "known", impl.TypeKnown(list, a), true)
		for _, other := range []int64{0, at, impl.MaxCode - 1 - at} {
			for _, class := range []string{"A", "B", "Object"} {
				b := impl.Type{Kind: impl.KindNew, Class: class, At: other}
				lub := impl.Type{}
				if a == b {
					lub = a
				}
				same(t, list, "below"+typeNamed(a, b), impl.TypeLe(list, a, b), a == b)
				same(t, list, "above"+typeNamed(a, b), impl.TypeLub(list, a, b), lub)
			}
		}
	}
}

func TestTypesInWorldsThatAreNotRight(t *testing.T) {
	lists := [][]impl.Class{plainWorld(impl.MaxClasses + 1), plainWorld(impl.MaxList), plainWorld(impl.MaxList + 1), make([]impl.Class, impl.MaxList+1), {{}}}
	for _, pass := range wrongWorlds() {
		for _, w := range pass {
			lists = append(lists, worldOf(w.told))
		}
	}
	types := append(knownTypes(worldOf("class A Object")), typesOf("ref Zed, other, new A 60, int A, ref C0")...)
	for _, list := range lists {
		few := list[:min(len(list), 3)]
		for _, a := range types {
			same(t, few, "known"+typeNamed(a), impl.TypeKnown(list, a), false)
			for _, b := range append(typesOf("top, null, ref A, ref Object"), a) {
				same(t, few, "below"+typeNamed(a, b), impl.TypeLe(list, a, b), false)
				same(t, few, "above"+typeNamed(a, b), impl.TypeLub(list, a, b), impl.Type{})
			}
		}
	}
}

func TestTypesShown(t *testing.T) {
	for told, want := range map[string]string{
		"top": "top", "int": "int", "null": "null", "ints": "int[]", "this": "this",
		"ref A": "A", "ref Object": "Object", "ref a$9": "a$9", "ref": "", "ref int": "int",
		"refs A": "A[]", "refs Object": "Object[]", "refs": "[]", "refs int": "int[]", "refs A[]": "A[][]",
		"new A": "newA@0", "new A 3": "newA@3", "new Object 59": "newObject@59", "new A 60": "newA@60", "new A 12345": "newA@12345",
		"new": "new@0", "new A -1": "newA@-1", "new A -60": "newA@-60",
		"new A -9223372036854775808": "newA@-9223372036854775808", "new A 9223372036854775807": "newA@9223372036854775807",
		// What a kind does not have is not shown.
		"top A 1": "top", "int A 1": "int", "null A 1": "null", "ints A 1": "int[]", "this A 1": "this", "ref A 1": "A", "refs A 1": "A[]",
		"other": "", "other A 1": "",
	} {
		same(t, nil, told, impl.TypeShown(typeOf(told)), want)
	}
	for _, kind := range []int64{-1, impl.KindThis + 1, 100, math.MinInt64, math.MaxInt64, 1 << 32, 1<<32 + impl.KindInt} {
		same(t, nil, "other kinds", impl.TypeShown(impl.Type{Kind: kind, Class: "A", At: 1}), "")
	}
	// A Class is no text that is handed in as such: it has no limit here.
	long := strings.Repeat("N", impl.MaxBytes+1)
	same(t, nil, "long", impl.TypeShown(impl.Type{Kind: impl.KindRef, Class: long}), long)
	same(t, nil, "long", impl.TypeShown(impl.Type{Kind: impl.KindRefs, Class: long}), long+"[]")
	same(t, nil, "long", impl.TypeShown(impl.Type{Kind: impl.KindNew, Class: long, At: 1}), "new"+long+"@1")
	same(t, nil, "bytes", impl.TypeShown(impl.Type{Kind: impl.KindRefs, Class: "\x00\xff é"}), "\x00\xff é[]")
}

func TestTypesFromText(t *testing.T) {
	same(t, nil, "I", impl.TypeFrom("I"), typeOf("int"))
	same(t, nil, "[I", impl.TypeFrom("[I"), typeOf("ints"))
	for text, name := range classTypes() {
		kind := int64(impl.KindRef)
		if text[0] == '[' {
			kind = impl.KindRefs
		}
		same(t, nil, text, impl.TypeFrom(text), impl.Type{Kind: kind, Class: name})
	}
	for _, text := range append(wrongTypes(), rightNames()...) {
		if text != "I" {
			same(t, nil, text[:min(len(text), 40)], impl.TypeFrom(text), impl.Type{})
		}
	}
	for _, long := range []int{impl.MaxBytes, impl.MaxBytes + 1, 3 * impl.MaxBytes} {
		for _, text := range []string{strings.Repeat("I", long), strings.Repeat("[", long-1) + "I", "L" + strings.Repeat("A", long-2) + ";", "LA;" + strings.Repeat(" ", long-3)} {
			same(t, nil, "long", impl.TypeFrom(text), impl.Type{})
		}
	}
}

// What a type as text names is known just where its class is.
func TestTypesFromTextInAWorld(t *testing.T) {
	list := worldOf("class A Object, class V A, class I A")
	for text, known := range map[string]bool{
		"I": true, "[I": true, "LA;": true, "[LA;": true, "LI;": true, "[LI;": true, "[LV;": true, "LObject;": true, "[LDeepError;": true,
		"LZed;": false, "[LZed;": false, "La;": false,
	} {
		same(t, list, text, impl.TypeKnown(list, impl.TypeFrom(text)), known)
	}
}

func TestTypesLeaveTheListAsItIs(t *testing.T) {
	told := rightWorlds()[9]
	list := worldOf(told)
	for _, a := range knownTypes(list) {
		impl.TypeKnown(list, a)
		impl.TypeLe(list, a, typeOf("ref B"))
		impl.TypeLub(list, a, typeOf("ref B"))
	}
	same(t, nil, "the list", list, worldOf(told))
	// What was told of one list is not kept for another one.
	same(t, list, "above", impl.TypeLub(list, typeOf("ref A"), typeOf("ref B")), typeOf("ref A"))
	list[1].Super = "Object"
	same(t, list, "above", impl.TypeLub(list, typeOf("ref A"), typeOf("ref B")), typeOf("ref Object"))
	same(t, list, "below", impl.TypeLe(list, typeOf("ref B"), typeOf("ref A")), false)
	list[1].Super = "Zed"
	same(t, list, "above", impl.TypeLub(list, typeOf("ref A"), typeOf("ref A")), typeOf("top"))
}

// shares asks whether a text lies within the memory of another one.
func shares(text, other string) bool {
	at, from := uintptr(unsafe.Pointer(unsafe.StringData(text))), uintptr(unsafe.Pointer(unsafe.StringData(other)))
	return len(text) > 0 && at >= from && at < from+uintptr(len(other))
}

func TestTypesShareNoMemory(t *testing.T) {
	name := strings.Clone("Aa")
	text := strings.Clone("[LAa;")
	list := []impl.Class{{Name: strings.Clone(name), Super: "Object"}, {Name: "B", Super: strings.Clone(name)}, {Name: "C", Super: strings.Clone(name)}}
	for what, told := range map[string]string{
		"the same":     impl.TypeLub(list, impl.Type{Kind: impl.KindRef, Class: name}, impl.Type{Kind: impl.KindRef, Class: name}).Class,
		"beside null":  impl.TypeLub(list, typeOf("null"), impl.Type{Kind: impl.KindRefs, Class: name}).Class,
		"found above":  impl.TypeLub(list, typeOf("ref B"), typeOf("ref C")).Class,
		"shown":        impl.TypeShown(impl.Type{Kind: impl.KindRef, Class: name}),
		"from a text":  impl.TypeFrom(text).Class,
		"from one ref": impl.TypeFrom(text[1:]).Class,
	} {
		if told != name || shares(told, name) || shares(told, text) || shares(told, list[0].Name) || shares(told, list[1].Super) || shares(told, list[2].Super) {
			t.Errorf("%s: %q is no new memory", what, told)
		}
	}
}
