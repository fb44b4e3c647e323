package tests

import (
	"math"
	"math/rand/v2"
	"slices"
	"strings"
	"testing"

	"loop.example/g00175/impl"
)

// frameOf: a frame told by its stack's types, a bar, and its locals' types.
func frameOf(told string) impl.Frame {
	stack, locals, _ := strings.Cut(told, "|")
	var f impl.Frame
	if stack = strings.TrimSpace(stack); stack != "" {
		f.Stack = typesOf(stack)
	}
	if locals = strings.TrimSpace(locals); locals != "" {
		f.Locals = typesOf(locals)
	}
	return f
}

// frameOut: what FrameLub and FrameStart tell that are not refused.
func frameOut(told string) impl.FrameOut {
	return impl.FrameOut{Frame: frameOf(told)}
}

// refusedFrame: what they tell with another code.
func refusedFrame(code int64) impl.FrameOut {
	return impl.FrameOut{Code: code}
}

func cloneFrame(f impl.Frame) impl.Frame {
	return impl.Frame{Stack: slices.Clone(f.Stack), Locals: slices.Clone(f.Locals)}
}

// frameNamed: a frame for a message, short even where a Class is long.
func frameNamed(frames ...impl.Frame) string {
	var told string
	for _, f := range frames {
		told += " <" + typeNamed(f.Stack[:min(len(f.Stack), 20)]...) + " |" + typeNamed(f.Locals[:min(len(f.Locals), 20)]...) + " >"
	}
	return told
}

// times: so many of one type.
func times(count int, told string) []impl.Type {
	return slices.Repeat(typesOf(told), count)
}

// frameRight, frameBelow, frameLub, frameStart: what chapter 8 says by its words.
func (m model) frameRight(f impl.Frame) bool {
	for _, t := range slices.Concat(f.Stack, f.Locals) {
		if !m.typeKnown(t) {
			return false
		}
	}
	return m.check().Code == impl.OK && len(f.Stack) <= 16 && len(f.Locals) <= 16
}

func (m model) frameBelow(a, b impl.Frame) bool {
	if !m.frameRight(a) || !m.frameRight(b) || len(a.Stack) != len(b.Stack) || len(a.Locals) != len(b.Locals) {
		return false
	}
	others := slices.Concat(b.Stack, b.Locals)
	for at, t := range slices.Concat(a.Stack, a.Locals) {
		if !m.below(t, others[at]) {
			return false
		}
	}
	return true
}

func (m model) leasts(a, b []impl.Type) []impl.Type {
	var all []impl.Type
	for at := range a {
		least, _ := m.least(append(knownTypes(m), a[at], b[at]), a[at], b[at])
		all = append(all, least)
	}
	return all
}

func (m model) frameLub(a, b impl.Frame) impl.FrameOut {
	switch {
	case !m.frameRight(a), !m.frameRight(b), len(a.Locals) != len(b.Locals):
		return refusedFrame(1)
	case len(a.Stack) != len(b.Stack):
		return refusedFrame(11)
	}
	return impl.FrameOut{Frame: impl.Frame{Stack: m.leasts(a.Stack, b.Stack), Locals: m.leasts(a.Locals, b.Locals)}}
}

func (m model) frameStart(class, method int) impl.FrameOut {
	c := m[class]
	one := c.Methods[method]
	if one.Abstract {
		return refusedFrame(1)
	}
	var locals []impl.Type
	switch {
	case one.Static:
	case one.Name == "<init>":
		locals = typesOf("this")
	default:
		locals = typesOf("ref " + c.Name)
	}
	for _, param := range impl.DescRead(one.Desc).Desc.Params {
		locals = append(locals, impl.TypeFrom(param))
	}
	for range one.Locals - int64(len(locals)) {
		locals = append(locals, typeOf("top"))
	}
	return impl.FrameOut{Frame: impl.Frame{Locals: locals}}
}

func frameWorld() []impl.Class {
	return worldOf("class A Object, class B A, class C A, class E Error")
}

// checkFrame: a frame that is right, or not, and what hangs on that alone.
func checkFrame(t *testing.T, list []impl.Class, f impl.Frame, want bool) {
	t.Helper()
	same(t, list, "right"+frameNamed(f), impl.FrameRight(list, f), want)
	same(t, list, "below itself"+frameNamed(f), impl.FrameLe(list, f, f), want)
	out := impl.FrameOut{Frame: f}
	if !want {
		out = refusedFrame(impl.ErrForm)
	}
	same(t, list, "above itself"+frameNamed(f), impl.FrameLub(list, f, f), out)
}

func TestFramesRight(t *testing.T) {
	list := frameWorld()
	for told, want := range map[string]bool{
		"|": true, "int |": true, "| int": true, "top, int, null, ints, this |": true, "| top, int, null, ints, this": true,
		"ref A, refs B, new C 59 | ref Object, refs NullError, new E": true,
		"ref Zed |": false, "| ref Zed": false, "refs Zed |": false, "| refs Zed": false, "new A 60 |": false, "| new A 60": false,
		"new A -1 |": false, "| new A -1": false, "other |": false, "| other": false, "int A |": false, "| int A": false, "ref A 1 | int": false, "int | ref A 1": false,
		"ref |": false, "| ref": false, "new Zed 1 | ref Zed": false,
	} {
		checkFrame(t, list, frameOf(told), want)
	}
	checkFrame(t, list, impl.Frame{Stack: []impl.Type{}, Locals: []impl.Type{}}, true)
	checkFrame(t, nil, impl.Frame{}, true)
	checkFrame(t, nil, frameOf("ref A |"), false)
	checkFrame(t, nil, frameOf("| ref Object"), true)
}

func TestFramesLimits(t *testing.T) {
	list := frameWorld()
	for _, told := range []string{"top", "int", "null", "ref B", "ints", "refs A", "new A 3", "this"} {
		for stack := range impl.MaxStack + 2 {
			for _, locals := range []int{0, 1, impl.MaxLocals - 1, impl.MaxLocals, impl.MaxLocals + 1} {
				f := impl.Frame{Stack: times(stack, told), Locals: times(locals, told)}
				same(t, list, "right"+frameNamed(f), impl.FrameRight(list, f), stack <= 16 && locals <= 16)
			}
		}
		for _, many := range []int{16, 17, 18, impl.MaxList, impl.MaxList + 1, 100000} {
			checkFrame(t, list, impl.Frame{Stack: times(many, told)}, many == 16)
			checkFrame(t, list, impl.Frame{Locals: times(many, told)}, many == 16)
			checkFrame(t, list, impl.Frame{Stack: times(many, told), Locals: times(16, "int")}, many == 16)
			checkFrame(t, list, impl.Frame{Stack: times(16, "int"), Locals: times(many, told)}, many == 16)
		}
	}
}

// One type that is not known, at each place, is one too many.
func TestFramesWithATypeThatIsNotKnown(t *testing.T) {
	list := frameWorld()
	for at, wrong := range strangeTypes() {
		count := []int{1, 3, 16}[at%3]
		for place := range count {
			right := impl.Frame{Stack: times(count, "int"), Locals: times(count, "ref A")}
			onStack, inLocals := cloneFrame(right), cloneFrame(right)
			onStack.Stack[place], inLocals.Locals[place] = wrong, wrong
			for _, f := range []impl.Frame{onStack, inLocals} {
				checkFrame(t, list, f, false)
				checkNoFrame(t, list, f, right)
			}
		}
		checkFrame(t, nil, impl.Frame{Stack: []impl.Type{wrong}}, false)
		checkFrame(t, nil, impl.Frame{Locals: []impl.Type{wrong}}, false)
	}
}

// checkNoFrame: a frame that is not right stands to no other one, either way round.
func checkNoFrame(t *testing.T, list []impl.Class, wrong impl.Frame, others ...impl.Frame) {
	t.Helper()
	for _, other := range others {
		same(t, list, "below"+frameNamed(wrong, other), impl.FrameLe(list, wrong, other), false)
		same(t, list, "below"+frameNamed(other, wrong), impl.FrameLe(list, other, wrong), false)
		same(t, list, "above"+frameNamed(wrong, other), impl.FrameLub(list, wrong, other), refusedFrame(impl.ErrForm))
		same(t, list, "above"+frameNamed(other, wrong), impl.FrameLub(list, other, wrong), refusedFrame(impl.ErrForm))
	}
}

// What stands above all in a frame that is right is not below, or above, one that has a type that is not known there.
func TestFramesOfTopAndStrangeTypes(t *testing.T) {
	list := frameWorld()
	for _, wrong := range strangeTypes() {
		checkNoFrame(t, list, impl.Frame{Stack: []impl.Type{wrong}}, frameOf("top |"), frameOf("null |"), frameOf("|"), frameOf("| top"))
		checkNoFrame(t, list, impl.Frame{Locals: []impl.Type{wrong}}, frameOf("| top"), frameOf("| null"), frameOf("|"), frameOf("top |"))
	}
}

func TestFramesBelowEachOther(t *testing.T) {
	list := frameWorld()
	for _, c := range []struct {
		a, b        string
		there, back bool
	}{
		{"|", "|", true, true},
		{"int |", "int |", true, true},
		{"int |", "top |", true, false},
		{"| int", "| top", true, false},
		{"int |", "| int", false, false},
		{"int | ref B", "int | ref A", true, false},
		{"ref B | int", "ref A | int", true, false},
		{"ref B | ref A", "ref A | ref B", false, false},
		{"ref B, ref A |", "ref A, ref B |", false, false},
		{"null, refs B | new A 1, this", "ints, refs A | top, top", true, false},
		{"null, refs B | new A 1, this", "ints, refs A | new A 1, this", true, false},
		{"null, refs B | new A 1, this", "ints, refs A | new A 2, this", false, false},
		{"ints | refs E", "ref Object | ref Object", true, false},
		{"ref B | ref C", "ref C | ref B", false, false},
		// Not as many on the Stack, among the Locals, in both; as many in all.
		{"|", "int |", false, false}, {"|", "top |", false, false}, {"int |", "int, int |", false, false}, {"int |", "int, top |", false, false},
		{"|", "| int", false, false}, {"|", "| top", false, false}, {"| int", "| int, int", false, false}, {"| int", "| int, top", false, false},
		{"int | int", "int, int | int, int", false, false}, {"int, int | int", "int | int, int", false, false}, {"top, top | top", "top | top, top", false, false},
	} {
		a, b := frameOf(c.a), frameOf(c.b)
		same(t, list, c.a+" below "+c.b, impl.FrameLe(list, a, b), c.there)
		same(t, list, c.b+" below "+c.a, impl.FrameLe(list, b, a), c.back)
	}
}

// One type at one place alone keeps a frame from being below another one.
func TestFramesThatPartAtOnePlace(t *testing.T) {
	list := frameWorld()
	for _, count := range []int{1, 2, 7, 16} {
		a := impl.Frame{Stack: times(count, "ref B"), Locals: times(count, "refs C")}
		b := impl.Frame{Stack: times(count, "ref A"), Locals: times(count, "refs A")}
		same(t, list, "below", impl.FrameLe(list, a, b), true)
		for place := range count {
			onStack, inLocals := cloneFrame(b), cloneFrame(b)
			onStack.Stack[place], inLocals.Locals[place] = typeOf("ref C"), typeOf("refs B")
			same(t, list, "below"+frameNamed(a, onStack), impl.FrameLe(list, a, onStack), false)
			same(t, list, "below"+frameNamed(a, inLocals), impl.FrameLe(list, a, inLocals), false)
			for _, f := range []impl.Frame{onStack, inLocals} {
				same(t, list, "above"+frameNamed(a, f), impl.FrameLub(list, a, f), impl.FrameOut{Frame: b})
				same(t, list, "above"+frameNamed(f, a), impl.FrameLub(list, f, a), impl.FrameOut{Frame: b})
			}
		}
	}
}

func TestLeastFramesAboveTwo(t *testing.T) {
	list := frameWorld()
	for _, c := range []struct{ a, b, want string }{
		{"|", "|", "|"},
		{"int |", "int |", "int |"},
		{"| int", "| int", "| int"},
		{"int |", "null |", "top |"},
		{"| int", "| null", "| top"},
		{"int, ref B | ref C, null", "int, ref C | ref B, ints", "int, ref A | ref A, ints"},
		{"ref B, null | this, new A 3", "refs B, refs E | this, new A 3", "ref Object, refs E | this, new A 3"},
		{"null, refs B | this, new A 3", "int, refs C | ref A, new A 4", "top, refs A | top, top"},
		{"ref E, ints | top", "ref NullError, refs A | int", "ref Error, ref Object | top"},
		{"refs E | refs E", "refs B | refs NullError", "refs Object | refs Error"},
	} {
		a, b := frameOf(c.a), frameOf(c.b)
		same(t, list, c.a+" and "+c.b, impl.FrameLub(list, a, b), frameOut(c.want))
		same(t, list, c.b+" and "+c.a, impl.FrameLub(list, b, a), frameOut(c.want))
		same(t, list, c.a+" twice", impl.FrameLub(list, a, a), frameOut(c.a))
		same(t, list, c.b+" twice", impl.FrameLub(list, b, b), frameOut(c.b))
	}
}

// What is refused, by the first of its faults, and with nothing beside the code.
func TestFramesOfWhichNoneIsAbove(t *testing.T) {
	list := frameWorld()
	long, high := impl.Frame{Locals: times(17, "int")}, impl.Frame{Stack: times(17, "int")}
	for _, c := range []struct {
		a, b impl.Frame
		code int64
	}{
		{frameOf("|"), frameOf("| int"), impl.ErrForm},
		{frameOf("int | int"), frameOf("int | int, int"), impl.ErrForm},
		{frameOf("|"), frameOf("int |"), impl.ErrStack},
		{frameOf("int | int, null"), frameOf("int, int | int, null"), impl.ErrStack},
		{frameOf("ref A | int"), frameOf("| null"), impl.ErrStack},
		// Neither as many Locals nor as many on the Stack.
		{frameOf("|"), frameOf("int | int"), impl.ErrForm},
		{frameOf("int |"), frameOf("| int"), impl.ErrForm},
		{frameOf("int, int | int"), frameOf("int | int, int"), impl.ErrForm},
		// One is not right, and not as many on the Stack.
		{frameOf("ref Zed |"), frameOf("|"), impl.ErrForm},
		{frameOf("int | ref Zed"), frameOf("| int"), impl.ErrForm},
		{frameOf("int, int | int"), frameOf("ref Zed | int"), impl.ErrForm},
		{high, frameOf("|"), impl.ErrForm},
		{high, impl.Frame{Stack: times(16, "int")}, impl.ErrForm},
		{long, impl.Frame{Locals: times(16, "int")}, impl.ErrForm},
		{high, long, impl.ErrForm},
		{impl.Frame{Stack: times(16, "int"), Locals: times(16, "int")}, impl.Frame{Stack: times(15, "int"), Locals: times(16, "int")}, impl.ErrStack},
		{impl.Frame{Stack: times(16, "int"), Locals: times(16, "int")}, impl.Frame{Stack: times(16, "int"), Locals: times(15, "int")}, impl.ErrForm},
		{impl.Frame{Stack: times(16, "int"), Locals: times(16, "int")}, impl.Frame{}, impl.ErrForm},
	} {
		same(t, list, "above"+frameNamed(c.a, c.b), impl.FrameLub(list, c.a, c.b), refusedFrame(c.code))
		same(t, list, "above"+frameNamed(c.b, c.a), impl.FrameLub(list, c.b, c.a), refusedFrame(c.code))
		same(t, list, "below"+frameNamed(c.a, c.b), impl.FrameLe(list, c.a, c.b), false)
		same(t, list, "below"+frameNamed(c.b, c.a), impl.FrameLe(list, c.b, c.a), false)
	}
}

// fewTypes: some types of a world that are closed: the least one above two of them is one of them.
func fewTypes(list []impl.Class, r *rand.Rand) []impl.Type {
	m, types := model(list), knownTypes(list)
	few := typesOf("top, ref Object")
	for range 2 {
		few = append(few, types[r.IntN(len(types))])
	}
	for at := 0; at < len(few); at++ {
		for _, other := range few[:at] {
			if least, _ := m.least(types, few[at], other); !slices.Contains(few, least) {
				few = append(few, least)
			}
		}
	}
	slices.SortFunc(few, func(a, b impl.Type) int { return strings.Compare(shown(a), shown(b)) })
	return slices.Compact(few)
}

// framesOver: all frames of some types in that shape: so many on the stack, so many locals.
func framesOver(types []impl.Type, stack, locals int) []impl.Frame {
	rows := [][]impl.Type{nil}
	for range stack + locals {
		var longer [][]impl.Type
		for _, row := range rows {
			for _, t := range types {
				longer = append(longer, append(slices.Clone(row), t))
			}
		}
		rows = longer
	}
	var frames []impl.Frame
	for _, row := range rows {
		frames = append(frames, impl.Frame{Stack: slices.Clone(row[:stack]), Locals: slices.Clone(row[stack:])})
	}
	return frames
}

// Promise 8: two frames of which FrameLub is not refused have a least one above both.
func TestTwoFramesHaveALeastOneAboveBoth(t *testing.T) {
	dealt, _ := dealtWorlds(6)
	r := rand.New(rand.NewPCG(7, 8))
	for _, list := range append(allRightWorlds(), dealt...) {
		few := fewTypes(list, r)
		for _, shape := range [][2]int{{0, 0}, {1, 0}, {0, 1}, {1, 1}} {
			checkLeastFrames(t, list, framesOver(few, shape[0], shape[1]))
		}
	}
	list := worldOf("class A Object")
	checkLeastFrames(t, list, framesOver(typesOf("top, null, ref A"), 1, 2))
	checkLeastFrames(t, list, framesOver(typesOf("top, int, new A 1"), 2, 1))
}

func checkLeastFrames(t *testing.T, list []impl.Class, frames []impl.Frame) {
	t.Helper()
	below := make([][]bool, len(frames))
	places := map[string]int{}
	for a := range frames {
		places[shown(frames[a])] = a
		for b := range frames {
			below[a] = append(below[a], impl.FrameLe(list, frames[a], frames[b]))
		}
	}
	for a := range frames {
		for b := range frames {
			out := impl.FrameLub(list, frames[a], frames[b])
			at, there := places[shown(out.Frame)]
			if out.Code != impl.OK || !there || !impl.FrameRight(list, out.Frame) || !below[a][at] || !below[b][at] {
				t.Fatalf("%s, code %d, is not above%s in %s", frameNamed(out.Frame), out.Code, frameNamed(frames[a], frames[b]), shown(list))
			}
			for c := range frames {
				if below[a][c] && below[b][c] && !below[at][c] {
					t.Fatalf("%s is above%s, and not above%s, in %s", frameNamed(frames[c]), frameNamed(frames[a], frames[b]), frameNamed(out.Frame), shown(list))
				}
			}
			same(t, list, "below"+frameNamed(frames[a], frames[b]), below[a][b], at == b)
			if a != b && below[a][b] && below[b][a] {
				t.Fatalf("%s are below each other in %s", frameNamed(frames[a], frames[b]), shown(list))
			}
		}
	}
}

// dealtRow: so many types dealt from some.
func dealtRow(r *rand.Rand, types []impl.Type, count int) []impl.Type {
	var row []impl.Type
	for range count {
		row = append(row, types[r.IntN(len(types))])
	}
	return row
}

// raised: a row with some of its types put higher.
func raised(r *rand.Rand, m model, types, row []impl.Type) []impl.Type {
	var higher []impl.Type
	for _, low := range row {
		above := slices.DeleteFunc(slices.Clone(types), func(t impl.Type) bool { return !m.below(low, t) })
		higher = append(higher, append(dealtRow(r, above, 1), low)[r.IntN(2)])
	}
	return higher
}

func TestDealtFramesAsTheModelSays(t *testing.T) {
	dealt, _ := dealtWorlds(15)
	r := rand.New(rand.NewPCG(3, 4))
	codes := map[int64]int{}
	for _, list := range append(allRightWorlds(), dealt...) {
		m, types := model(list), knownTypes(list)
		some := append(slices.Clone(types), types...)
		for range 12 {
			stack, locals := r.IntN(impl.MaxStack+2), r.IntN(impl.MaxLocals+2)
			if r.IntN(20) == 0 {
				some = append(some, strangeTypes()[r.IntN(len(strangeTypes()))])
			}
			a := impl.Frame{Stack: dealtRow(r, some, stack), Locals: dealtRow(r, some, locals)}
			others := []impl.Frame{
				a,
				{Stack: dealtRow(r, some, stack), Locals: dealtRow(r, some, locals)},
				{Stack: dealtRow(r, some, r.IntN(impl.MaxStack+1)), Locals: dealtRow(r, some, locals)},
				{Stack: dealtRow(r, some, stack), Locals: dealtRow(r, some, r.IntN(impl.MaxLocals+1))},
			}
			if m.frameRight(a) {
				others = append(others, impl.Frame{Stack: raised(r, m, types, a.Stack), Locals: raised(r, m, types, a.Locals)})
			}
			for _, b := range others {
				checkAsModel(t, list, a, b)
				codes[impl.FrameLub(list, a, b).Code]++
			}
		}
	}
	if codes[impl.OK] < 100 || codes[impl.ErrForm] < 100 || codes[impl.ErrStack] < 100 {
		t.Errorf("too few of a kind: %v", codes)
	}
}

func checkAsModel(t *testing.T, list []impl.Class, a, b impl.Frame) {
	t.Helper()
	m := model(list)
	same(t, list, "right"+frameNamed(a), impl.FrameRight(list, a), m.frameRight(a))
	same(t, list, "right"+frameNamed(b), impl.FrameRight(list, b), m.frameRight(b))
	same(t, list, "below"+frameNamed(a, b), impl.FrameLe(list, a, b), m.frameBelow(a, b))
	same(t, list, "below"+frameNamed(b, a), impl.FrameLe(list, b, a), m.frameBelow(b, a))
	out := impl.FrameLub(list, a, b)
	same(t, list, "above"+frameNamed(a, b), out, m.frameLub(a, b))
	same(t, list, "above"+frameNamed(b, a), impl.FrameLub(list, b, a), out)
	if out.Code == impl.OK && (!impl.FrameLe(list, a, out.Frame) || !impl.FrameLe(list, b, out.Frame)) {
		t.Fatalf("%s is not above%s in %s", frameNamed(out.Frame), frameNamed(a, b), shown(list))
	}
}

func TestFramesShown(t *testing.T) {
	for told, want := range map[string]string{
		"|":           "|",
		"int |":       "int |",
		"| int":       "| int",
		"int | int":   "int | int",
		"int, null |": "int null |",
		"| int, null": "| int null",
		"top, int, null, ref A, ints, refs A, new A 3, this | this, new B 59, refs B, ints, ref Object, null, int, top": "top int null A int[] A[] newA@3 this | this newB@59 B[] int[] Object null int top",
		// Whether types are known is not asked for.
		"ref Zed | new Zed 60, int A": "Zed | newZed@60 int",
		// A type that shows nothing stands between its blanks all the same.
		"other, int | int, other, int": " int | int  int",
	} {
		same(t, nil, told, impl.FrameShown(frameOf(told)), want)
	}
	same(t, nil, "empty lists", impl.FrameShown(impl.Frame{Stack: []impl.Type{}, Locals: []impl.Type{}}), "|")
	bars := impl.Frame{Stack: []impl.Type{{Kind: impl.KindRef, Class: "| a"}}, Locals: []impl.Type{{Kind: impl.KindRefs, Class: "\x00\xff |"}}}
	same(t, nil, "bytes", impl.FrameShown(bars), "| a | \x00\xff |[]")
}

func TestFramesShownLimits(t *testing.T) {
	words := func(count int) string { return strings.Repeat("int ", count) }
	for _, stack := range []int{0, 1, 16, 17, impl.MaxList - 1, impl.MaxList, impl.MaxList + 1, 3 * impl.MaxList} {
		for _, locals := range []int{0, 1, 16, 17, impl.MaxList - 1, impl.MaxList, impl.MaxList + 1, 3 * impl.MaxList} {
			want := strings.TrimSpace(words(stack) + "| " + words(locals))
			if stack > 400 || locals > 400 {
				want = ""
			}
			f := impl.Frame{Stack: times(stack, "int"), Locals: times(locals, "int")}
			same(t, nil, "shown", impl.FrameShown(f), want)
		}
	}
	// A Class is no text that is handed in as such: it has no limit here.
	long := strings.Repeat("N", impl.MaxBytes+1)
	same(t, nil, "long", impl.FrameShown(impl.Frame{Stack: []impl.Type{{Kind: impl.KindRef, Class: long}}}), long+" |")
}

// startWorld: a world of one class with that method, and of others that it names.
func startWorld(m impl.Method) []impl.Class {
	list := worldOf("class A Object, class B A, class Method Object abstract")
	list[2].Methods = []impl.Method{m}
	return list
}

func TestFramesThatMethodsBeginWith(t *testing.T) {
	code := []impl.Ins{{Op: 26}}
	for _, c := range []struct {
		m    impl.Method
		want string
	}{
		{impl.Method{Name: "f", Desc: "()V", Static: true, Code: code}, "|"},
		{impl.Method{Name: "f", Desc: "()V", Static: true, Locals: 1, Code: code}, "| top"},
		{impl.Method{Name: "f", Desc: "()V", Static: true, Locals: 3, Stack: 16, Code: code}, "| top, top, top"},
		{impl.Method{Name: "f", Desc: "()V", Locals: 1, Code: code}, "| ref Method"},
		{impl.Method{Name: "f", Desc: "()V", Locals: 2, Final: true, Code: code}, "| ref Method, top"},
		{impl.Method{Name: "<init>", Desc: "()V", Locals: 1, Code: code}, "| this"},
		{impl.Method{Name: "<init>", Desc: "()V", Locals: 3, Code: code}, "| this, top, top"},
		{impl.Method{Name: "<init>", Desc: "(LMethod;I)V", Locals: 3, Code: code}, "| this, ref Method, int"},
		{impl.Method{Name: "init", Desc: "()V", Locals: 1, Code: code}, "| ref Method"},
		{impl.Method{Name: "f", Desc: "(I)V", Static: true, Locals: 1, Code: code}, "| int"},
		{impl.Method{Name: "f", Desc: "([I)I", Static: true, Locals: 1, Code: code}, "| ints"},
		{impl.Method{Name: "f", Desc: "(LB;)LB;", Static: true, Locals: 1, Code: code}, "| ref B"},
		{impl.Method{Name: "f", Desc: "([LB;)[LA;", Static: true, Locals: 2, Code: code}, "| refs B, top"},
		{impl.Method{Name: "f", Desc: "(LNullError;[LObject;)V", Locals: 3, Code: code}, "| ref Method, ref NullError, refs Object"},
		{impl.Method{Name: "f", Desc: "(I[ILA;[LB;LMethod;[LMethod;I[I)V", Locals: 9, Code: code}, "| ref Method, int, ints, ref A, refs B, ref Method, refs Method, int, ints"},
		{impl.Method{Name: "f", Desc: "(IIIIIIII)V", Static: true, Locals: 16, Code: code}, "| int, int, int, int, int, int, int, int, top, top, top, top, top, top, top, top"},
		{impl.Method{Name: "<init>", Desc: "([I[I[I[I[I[I[I[I)V", Locals: 16, Code: code}, "| this, ints, ints, ints, ints, ints, ints, ints, ints, top, top, top, top, top, top, top"},
		{impl.Method{Name: "f", Desc: "()V", Locals: 16, Code: code}, "| ref Method" + strings.Repeat(", top", 15)},
		// What its instructions and handlers name is not asked for.
		{impl.Method{Name: "f", Desc: "()V", Static: true, Code: []impl.Ins{{Op: 31, Class: "Zed"}}, Handlers: []impl.Handler{{To: 1, Class: "Zed"}}}, "|"},
	} {
		list := startWorld(c.m)
		out := impl.FrameStart(list, 2, 0)
		same(t, list, c.want, out, frameOut(c.want))
		same(t, list, "right", impl.FrameRight(list, out.Frame), true)
	}
	list := startWorld(impl.Method{Name: "f", Desc: "()V", Abstract: true})
	same(t, list, "abstract", impl.FrameStart(list, 2, 0), refusedFrame(impl.ErrForm))
}

// strangePlaces: places that are none among so many.
func strangePlaces(count int) []int64 {
	last := int64(count)
	return []int64{-1, -last, -last - 1, last, last + 1, impl.MaxList, 1 << 32, -1 << 32, math.MinInt64, math.MaxInt64}
}

func TestFramesOfAllMethods(t *testing.T) {
	dealt, _ := dealtWorlds(30)
	for _, list := range append(allRightWorlds(), dealt...) {
		for class, c := range list {
			for method := range c.Methods {
				out := impl.FrameStart(list, int64(class), int64(method))
				same(t, list, "start", out, model(list).frameStart(class, method))
				same(t, list, "as many locals", len(out.Frame.Locals), int(c.Methods[method].Locals))
			}
			for _, method := range strangePlaces(len(c.Methods)) {
				same(t, list, "no method", impl.FrameStart(list, int64(class), method), refusedFrame(impl.ErrForm))
			}
		}
		for _, class := range strangePlaces(len(list)) {
			same(t, list, "no class", impl.FrameStart(list, class, 0), refusedFrame(impl.ErrForm))
		}
	}
}

// Each method is told by its own place, not by that of another one, nor by a class's built-in place.
func TestFramesByPlace(t *testing.T) {
	list := worldOf("class A Object abstract, method f ()V, method g (I)V static, method h (I)V abstract, class B A, method h (I)V, method <init> ()V")
	for class := range list {
		for method := range list[class].Methods {
			list[class].Methods[method].Locals = min(list[class].Methods[method].Locals, 2)
		}
	}
	for place, want := range map[[2]int64]impl.FrameOut{
		{0, 0}: frameOut("| ref A, top"), {0, 1}: frameOut("| int, top"), {0, 2}: refusedFrame(impl.ErrForm), {0, 3}: refusedFrame(impl.ErrForm),
		{1, 0}: frameOut("| ref B, int"), {1, 1}: frameOut("| this, top"), {1, 2}: refusedFrame(impl.ErrForm), {1, -1}: refusedFrame(impl.ErrForm),
		{2, 0}: refusedFrame(impl.ErrForm), {-1, 0}: refusedFrame(impl.ErrForm),
	} {
		same(t, list, shown(place), impl.FrameStart(list, place[0], place[1]), want)
	}
}

func TestFramesInWorldsThatAreNotRight(t *testing.T) {
	lists := [][]impl.Class{plainWorld(impl.MaxClasses + 1), plainWorld(impl.MaxList), {{}}}
	for _, pass := range wrongWorlds() {
		for _, w := range pass {
			lists = append(lists, worldOf(w.told))
		}
	}
	for _, list := range lists {
		for _, told := range []string{"|", "int |", "| int", "top | top", "ref Object | ref A", "ref Zed |", "other | other"} {
			checkFrame(t, list, frameOf(told), false)
			checkNoFrame(t, list, frameOf(told), frameOf("|"), frameOf("| int, int"), frameOf("int, int |"), frameOf("top | top"))
		}
		for class := range min(len(list), 4) {
			for method := range len(list[class].Methods) + 1 {
				same(t, list, "start", impl.FrameStart(list, int64(class), int64(method)), refusedFrame(impl.ErrForm))
			}
		}
		same(t, nil, "start", impl.FrameStart(list, -1, 0), refusedFrame(impl.ErrForm))
	}
}

// A list that is too long is refused ahead of all else.
func TestFramesInListsThatAreTooLong(t *testing.T) {
	high := impl.Frame{Stack: times(impl.MaxList+1, "int"), Locals: times(impl.MaxList+1, "ref Zed")}
	wrong := worldOf("class A A, method f ()V")
	for _, list := range [][]impl.Class{plainWorld(impl.MaxList + 1), make([]impl.Class, impl.MaxList+1), slices.Repeat(wrong, impl.MaxList+1), plainWorld(3 * impl.MaxList)} {
		for _, a := range []impl.Frame{frameOf("|"), frameOf("int | int"), frameOf("| other"), high} {
			for _, b := range []impl.Frame{a, frameOf("|"), frameOf("int |"), frameOf("| int")} {
				same(t, nil, "above", impl.FrameLub(list, a, b), refusedFrame(impl.ErrSize))
				same(t, nil, "below", impl.FrameLe(list, a, b), false)
			}
			same(t, nil, "right", impl.FrameRight(list, a), false)
		}
		for _, place := range []int64{-1, 0, 1, impl.MaxList, impl.MaxList + 1, math.MinInt64} {
			same(t, nil, "start", impl.FrameStart(list, place, 0), refusedFrame(impl.ErrSize))
			same(t, nil, "start", impl.FrameStart(list, 0, place), refusedFrame(impl.ErrSize))
		}
	}
}

// withRest: a row in a longer list, whose rest is not its own.
func withRest(row []impl.Type) (short, whole []impl.Type) {
	whole = append(slices.Clone(row), times(20, "new Error 7")...)
	return whole[:len(row)], whole
}

func TestFramesLeaveWhatIsHandedInAsItIs(t *testing.T) {
	told := rightWorlds()[9]
	list := worldOf(told)
	a, b := frameOf("ref A, null | ref B, int, top"), frameOf("ref B, ints | ref B, null, this")
	var wholeA, wholeB, wholeLocals []impl.Type
	a.Stack, wholeA = withRest(a.Stack)
	b.Stack, wholeB = withRest(b.Stack)
	a.Locals, wholeLocals = withRest(a.Locals)
	before := shown([][]impl.Type{wholeA, wholeB, wholeLocals, b.Locals})
	for range 2 {
		impl.FrameRight(list, a)
		impl.FrameLe(list, a, b)
		same(t, list, "above", impl.FrameLub(list, a, b), frameOut("ref A, ints | ref B, top, top"))
		same(t, list, "shown", impl.FrameShown(a), "A null | B int top")
		impl.FrameStart(list, 0, 0)
		impl.FrameStart(list, 1, 0)
	}
	same(t, list, "the frames", shown([][]impl.Type{wholeA, wholeB, wholeLocals, b.Locals}), before)
	same(t, nil, "the list", list, worldOf(told))
	// What was told of one list is not kept for another one.
	list[1].Super = "Object"
	same(t, list, "above", impl.FrameLub(list, a, b), frameOut("ref Object, ints | ref B, top, top"))
	list[1].Super = "Zed"
	same(t, list, "above", impl.FrameLub(list, a, b), refusedFrame(impl.ErrForm))
	same(t, list, "start", impl.FrameStart(list, 0, 0), refusedFrame(impl.ErrForm))
}

// scribble writes over all that a row has, also behind its end.
func scribble(rows ...[]impl.Type) {
	for _, row := range rows {
		all := row[:cap(row)]
		for at := range all {
			all[at] = impl.Type{Kind: 99, Class: "scribbled", At: 99}
		}
	}
}

func TestFramesShareNoLists(t *testing.T) {
	list := startWorld(impl.Method{Name: "f", Desc: "(I[LB;)V", Locals: 5, Code: []impl.Ins{{Op: 26}}})
	a, b := frameOf("ref A, null | ref B, int, top"), frameOf("ref B, ints | ref B, null, this")
	want := "ref A, ints | ref B, top, top"
	// What is told is not changed with what was handed in, nor the other way round.
	out, twice := impl.FrameLub(list, a, b), impl.FrameLub(list, a, a)
	beforeA, beforeB := cloneFrame(a), cloneFrame(b)
	scribble(twice.Frame.Stack, twice.Frame.Locals)
	same(t, list, "a", a, beforeA)
	scribble(a.Stack, a.Locals, b.Stack, b.Locals)
	same(t, list, "above", out, frameOut(want))
	// Nor one list of an answer with the other one, nor with the answer of another call.
	other := impl.FrameLub(list, beforeA, beforeB)
	scribble(out.Frame.Stack)
	same(t, list, "locals", out.Frame.Locals, frameOf(want).Locals)
	scribble(out.Frame.Locals)
	same(t, list, "another call", other, frameOut(want))
	scribble(other.Frame.Locals)
	same(t, list, "stack", other.Frame.Stack, frameOf(want).Stack)
	start, again := impl.FrameStart(list, 2, 0), impl.FrameStart(list, 2, 0)
	scribble(start.Frame.Locals, start.Frame.Stack)
	same(t, list, "start", again, frameOut("| ref Method, int, refs B, top, top"))
	same(t, list, "start again", impl.FrameStart(list, 2, 0), again)
}

func TestFramesShareNoTexts(t *testing.T) {
	name, desc := strings.Clone("Aa"), strings.Clone("(LAa;[LAa;)V")
	list := []impl.Class{{Name: strings.Clone(name), Super: "Object"}, {Name: "B", Super: strings.Clone(name)}, {Name: "C", Super: strings.Clone(name)}}
	list[0].Methods = []impl.Method{{Name: "f", Desc: desc, Locals: 3, Code: []impl.Ins{{Op: 26}}}}
	ref, refs := impl.Type{Kind: impl.KindRef, Class: name}, impl.Type{Kind: impl.KindRefs, Class: name}
	a := impl.Frame{Stack: []impl.Type{ref, typeOf("ref B"), typeOf("null")}, Locals: []impl.Type{ref, refs}}
	b := impl.Frame{Stack: []impl.Type{ref, typeOf("ref C"), refs}, Locals: []impl.Type{ref, typeOf("null")}}
	lub, start := impl.FrameLub(list, a, b).Frame, impl.FrameStart(list, 0, 0).Frame
	told := []string{impl.FrameShown(impl.Frame{Stack: []impl.Type{ref}})[:2], impl.FrameShown(impl.Frame{Locals: []impl.Type{ref}})[2:]}
	for _, one := range slices.Concat(lub.Stack, lub.Locals, start.Locals) {
		told = append(told, one.Class)
	}
	if len(told) != 10 {
		t.Fatalf("told: %q", told)
	}
	for at, text := range told {
		if text != name || shares(text, name) || shares(text, desc) || shares(text, list[0].Name) || shares(text, list[1].Super) || shares(text, list[2].Super) {
			t.Errorf("%d: %q is no new memory", at, text)
		}
		for _, other := range told[:at] {
			if shares(text, other) {
				t.Errorf("%d: %q stands twice in one memory", at, text)
			}
		}
	}
}
