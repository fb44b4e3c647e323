package tests

import (
	"math"
	"math/rand/v2"
	"reflect"
	"slices"
	"strconv"
	"strings"
	"testing"

	"loop.example/g00175/impl"
)

// valOf: a value told as a number, as null, or as an address with @ ahead; `Kind:N` tells any other Val.
func valOf(told string) impl.Val {
	number := func(text string) int64 {
		n, err := strconv.ParseInt(text, 10, 64)
		if err != nil {
			panic("no number: " + told)
		}
		return n
	}
	if told == "null" {
		return impl.Val{Kind: 2}
	}
	if address, isRef := strings.CutPrefix(told, "@"); isRef {
		return impl.Val{Kind: 3, N: number(address)}
	}
	if kind, n, other := strings.Cut(told, ":"); other {
		return impl.Val{Kind: number(kind), N: number(n)}
	}
	return impl.Val{Kind: 1, N: number(told)}
}

func valsOf(told string) []impl.Val {
	var vals []impl.Val
	for _, word := range strings.Fields(told) {
		vals = append(vals, valOf(word))
	}
	return vals
}

// objOf: an object told by its kind (plain; new, a plain one that is not ready; ints; refs), its class, but
// of ints, and its Vals.
func objOf(told string) impl.Obj {
	kind, rest, _ := strings.Cut(told, " ")
	if kind == "ints" {
		return impl.Obj{Kind: 2, Ready: true, Vals: valsOf(rest)}
	}
	class, vals, _ := strings.Cut(rest, " ")
	switch kind {
	case "plain":
		return impl.Obj{Kind: 1, Class: class, Ready: true, Vals: valsOf(vals)}
	case "new":
		return impl.Obj{Kind: 1, Class: class, Vals: valsOf(vals)}
	case "refs":
		return impl.Obj{Kind: 3, Class: class, Ready: true, Vals: valsOf(vals)}
	}
	panic("no object: " + told)
}

// heapOf: the heap of the six, of those that are told behind them with a comma and a blank between, and
// with room for so many more.
func heapOf(room int64, told string) impl.Heap {
	h := impl.Heap{Room: room}
	for _, name := range strings.Fields("NullError RangeError CastError MathError FullError DeepError") {
		h.Objs = append(h.Objs, impl.Obj{Kind: 1, Class: name, Ready: true})
	}
	if told != "" {
		for _, piece := range strings.Split(told, ", ") {
			h.Objs = append(h.Objs, objOf(piece))
		}
	}
	return h
}

func cloneHeap(h impl.Heap) impl.Heap {
	h.Objs = slices.Clone(h.Objs)
	for at, o := range h.Objs {
		h.Objs[at].Vals = slices.Clone(o.Vals)
	}
	return h
}

// heapTold: classes with fields of each type, of their own and of those above, static and not.
const heapTold = "class C B, field d I, field e LC;, class A Object, field a I, field s I static, field b LA;, " +
	"class B A, field c [I, field t LB; static, field b [LB;, class N Object abstract, field q I static, " +
	"class M N, class E Error, field code I, class F E"

func heapWorld() []impl.Class {
	return worldOf(heapTold)
}

// heapTypes: of what type each class's Vals are, I for an int, L for all others.
func heapTypes() map[string]string {
	return map[string]string{"A": "IL", "B": "ILLL", "C": "ILLLIL", "N": "", "M": "", "E": "I", "F": "I", "Object": "", "Error": "", "DeepError": ""}
}

// all kinds of objects: 7 an A, 8 a B, 9 a C that is not ready, 10 ints, 11 refs of A, 12 refs of
// Object, 13 a plain Object, 14 an E, 15 empty ints, 16 refs of B.
const heapObjs = "plain A 5 @8, plain B -7 null @10 null, new C 0 null null null 0 @9, ints 1 -2147483648 2147483647, " +
	"refs A null @7 @8, refs Object null @11 @1, plain Object, plain E 3, ints, refs B null"

func refusedHeap(code int64) impl.HeapOut {
	return impl.HeapOut{Code: code}
}

// madeHeap: what HeapMake and HeapList tell: that one behind all others.
func madeHeap(h impl.Heap, told string) impl.HeapOut {
	h = cloneHeap(h)
	h.Objs = append(h.Objs, objOf(told))
	h.Room--
	return impl.HeapOut{Heap: h, Val: impl.Val{Kind: 3, N: int64(len(h.Objs))}}
}

// putHeap: what HeapPut tells: that value at that place.
func putHeap(h impl.Heap, ref int64, place int64, v impl.Val) impl.HeapOut {
	h = cloneHeap(h)
	h.Objs[ref-1].Vals[place] = v
	return impl.HeapOut{Heap: h}
}

func TestHeapsThatAreNew(t *testing.T) {
	lists := append(allRightWorlds(), heapWorld())
	for _, room := range []int64{0, 1, 2, 50, 93, 94} {
		h := impl.HeapNew(room)
		same(t, nil, "new", h, heapOf(room, ""))
		for _, list := range lists {
			same(t, list, "right", impl.HeapRight(list, h), true)
		}
	}
	for _, room := range []int64{-1, -94, 95, 96, 100, 101, math.MinInt64, math.MaxInt64, 1 << 32, -1 << 32, 1<<32 + 5} {
		same(t, nil, "new", impl.HeapNew(room), impl.Heap{})
	}
	// What one call tells is not changed with what another one told.
	first, second := impl.HeapNew(3), impl.HeapNew(3)
	for at := range first.Objs {
		first.Objs[at] = impl.Obj{Kind: 9, Class: "scribbled"}
	}
	same(t, nil, "new", second, heapOf(3, ""))
	same(t, nil, "new again", impl.HeapNew(3), heapOf(3, ""))
}

func checkHeap(t *testing.T, list []impl.Class, what string, h impl.Heap, want bool) {
	t.Helper()
	same(t, list, "right: "+what, impl.HeapRight(list, h), want)
	if !want {
		checkNoHeap(t, list, h, impl.ErrForm)
	}
}

// checkNoHeap: where a heap is not right, or its world, all calls tell just that, whatever else they are given.
func checkNoHeap(t *testing.T, list []impl.Class, h impl.Heap, code int64) {
	t.Helper()
	none := refusedHeap(code)
	same(t, list, "right", impl.HeapRight(list, h), false)
	for _, class := range []string{"A", "Object", "Zed", ""} {
		same(t, list, "make "+class, impl.HeapMake(list, h, class), none)
		same(t, list, "list", impl.HeapList(list, h, "L"+class+";", 1), none)
		for _, ref := range []int64{0, 1, 7} {
			same(t, list, "is "+class, impl.HeapIs(list, h, ref, class), false)
		}
	}
	for _, size := range []int64{-1, 0, 51} {
		same(t, list, "list", impl.HeapList(list, h, "I", size), none)
		same(t, list, "list", impl.HeapList(list, h, "V", size), none)
	}
	for _, ref := range []int64{-1, 0, 1, 7, 8, 200} {
		for _, place := range []int64{-1, 0, 1, 100} {
			same(t, list, "get", impl.HeapGet(list, h, ref, place), none)
			for _, v := range valsOf("0 null @1 @0 0:0 1:9999999999") {
				same(t, list, "put", impl.HeapPut(list, h, ref, place, v), none)
			}
		}
	}
}

func TestHeapsOfAllKindsOfObjects(t *testing.T) {
	list := heapWorld()
	all := heapOf(5, heapObjs)
	checkHeap(t, list, "all", all, true)
	checkHeap(t, list, "the zero heap", impl.Heap{}, false)
	checkHeap(t, list, "one told of another world", heapOf(0, "plain Zed"), false)
	checkHeap(t, nil, "in the world of no classes", all, false)
	checkHeap(t, nil, "built-in classes alone", heapOf(3, "plain Object, plain DeepError, new Error, refs Object @6, refs Error null"), true)
	empty := heapOf(0, "ints, refs A, plain N")
	for at := range empty.Objs {
		empty.Objs[at].Vals = []impl.Val{}
	}
	checkHeap(t, list, "empty lists for none", empty, true)
	for class, types := range heapTypes() {
		for _, kind := range []string{"plain ", "new "} {
			word := map[rune]string{'I': " 1", 'L': " null"}
			told := kind + class
			for _, field := range types {
				told += word[field]
			}
			checkHeap(t, list, told, heapOf(0, told), true)
			checkHeap(t, list, told+", one too many", heapOf(0, told+" null"), false)
			checkHeap(t, list, told+", one too many", heapOf(0, told+" 0"), false)
			if types != "" {
				checkHeap(t, list, told+", one too few", heapOf(0, told[:strings.LastIndex(told, " ")]), false)
				checkHeap(t, list, told+", none", heapOf(0, kind+class), false)
			}
		}
	}
	// Of what type a field is nothing is asked.
	checkHeap(t, list, "fields of other types", heapOf(0, "plain A null 5, plain B @1 @7 0 @8, plain E @9"), true)
}

func TestHeapsObjectsOneByOne(t *testing.T) {
	list := heapWorld()
	ints := func(count int) string { return "ints" + strings.Repeat(" 7", count) }
	refs := func(count int) string { return "refs A" + strings.Repeat(" null", count) }
	for told, want := range map[string]bool{
		"plain Zed": false, "new Zed": false, "plain object": false, "plain ": false, "plain A": false, "plain A 1": false, "plain A 1 null": true, "new A 1 null": true,
		"plain Object": true, "new Object": true, "plain NullError": true, "new NullError": true, "plain Object 0": false, "plain NullError null": false,
		ints(0): true, ints(1): true, ints(49): true, ints(50): true, ints(51): false, ints(100): false,
		refs(0): true, refs(1): true, refs(49): true, refs(50): true, refs(51): false, refs(100): false,
		"ints 1 null 2": false, "ints null": false, "ints @1": false, "ints 1 @last": false, "ints 1 2:0": false,
		"refs A 0": false, "refs A null 5": false, "refs A 7 @last": false, "refs A null @1": true, "refs A @6": true, "refs E @2 @6": true, "refs B @1 @last null": true,
		"refs ": false, "refs Zed": false, "refs Zed null": false, "refs  null": false, "refs Object": true, "refs DeepError": true, "refs N": true,
		// Vals that are values, and others, of each kind of object.
		"plain A 2147483647 @1": true, "plain A 2147483648 @1": false, "plain A -2147483648 null": true, "plain A -2147483649 null": false,
		"ints 2147483647": true, "ints 2147483648": false, "ints -2147483648": true, "ints -2147483649": false, "ints 9223372036854775807": false, "ints 4294967296": false,
		"plain A 0:0 null": false, "plain A 0 0:0": false, "plain A 0:5 null": false, "plain A 4:0 null": false, "plain A -1:0 null": false, "plain A 1 2:1": false, "plain A 1 2:-1": false,
		"ints 0:0": false, "ints 4:0": false, "ints 1 2 0:0": false, "refs A 0:0": false, "refs A 4:1": false, "refs A 2:1": false, "refs A null 2:9": false, "refs A -1:0": false,
		"refs A 4294967297:0": false, "plain A 4294967297:0 null": false,
		"plain A 1 @0": false, "plain A 1 @-1": false, "plain A 1 @last": true, "plain A 1 @next": false, "plain A @0 null": false, "plain A @next null": false, "plain A 1 @4294967303": false,
		"refs A @0": false, "refs A @-7": false, "refs A @last": true, "refs A @next": false, "refs A @9223372036854775807": false, "refs A @-9223372036854775808": false,
	} {
		// Wherever it stands.
		for _, others := range [][2]string{{"", ""}, {"", ", ints 1, plain M"}, {"plain A 4 null, ", ""}, {"refs A null @6, ", ", new Object"}} {
			h := heapOf(2, others[0]+"ints"+others[1])
			count := len(h.Objs)
			whole := strings.NewReplacer("@last", "@"+strconv.Itoa(count), "@next", "@"+strconv.Itoa(count+1)).Replace(others[0] + told + others[1])
			checkHeap(t, list, whole, heapOf(2, whole), want)
		}
	}
	// References to what stands further on.
	checkHeap(t, list, "to the last one", heapOf(0, "plain A 1 @9, refs A @9, ints"), true)
	checkHeap(t, list, "to the one behind it", heapOf(0, "plain A 1 @10, refs A @9, ints"), false)
	checkHeap(t, list, "to the one behind it", heapOf(0, "plain A 1 @9, refs A @10, ints"), false)
}

func TestHeapsObjectsHeads(t *testing.T) {
	list := heapWorld()
	changed := func(told string, change func(*impl.Obj)) impl.Heap {
		h := heapOf(1, "ints 1, "+told+", plain M")
		change(&h.Objs[7])
		return h
	}
	for _, told := range []string{"ints 1", "ints", "refs A null", "refs Object"} {
		checkHeap(t, list, told+" not ready", changed(told, func(o *impl.Obj) { o.Ready = false }), false)
	}
	for _, class := range []string{"A", "Object", "Zed", "I", " "} {
		checkHeap(t, list, "ints of "+class, changed("ints 1", func(o *impl.Obj) { o.Class = class }), false)
	}
	for _, told := range []string{"plain A 1 null", "new M", "plain Object", "ints 1", "ints", "refs A null", "refs Object"} {
		for _, kind := range []int64{0, 4, -1, 1 << 32, 1<<32 + 1, 1<<32 + 2, 1<<32 + 3, math.MinInt64, math.MaxInt64} {
			checkHeap(t, list, told+" of Kind "+strconv.FormatInt(kind, 10), changed(told, func(o *impl.Obj) { o.Kind = kind }), false)
		}
	}
	for _, class := range append(strangers(), "Zed", strings.Repeat("A", impl.MaxBytes+1)) {
		checkHeap(t, list, "plain", changed("plain M", func(o *impl.Obj) { o.Class = class }), false)
		checkHeap(t, list, "refs", changed("refs A", func(o *impl.Obj) { o.Class = class }), false)
	}
	// Each Kind with what another one has.
	checkHeap(t, list, "plain for ints", changed("ints 1", func(o *impl.Obj) { o.Kind = 1 }), false)
	checkHeap(t, list, "refs for ints", changed("ints", func(o *impl.Obj) { o.Kind = 3 }), false)
	checkHeap(t, list, "ints for refs", changed("refs A", func(o *impl.Obj) { o.Kind = 2 }), false)
	checkHeap(t, list, "plain for refs", changed("refs M", func(o *impl.Obj) { o.Kind = 1 }), true)
	checkHeap(t, list, "refs for plain", changed("plain A 1 null", func(o *impl.Obj) { o.Kind = 3 }), false)
	checkHeap(t, list, "refs for plain", changed("plain M", func(o *impl.Obj) { o.Kind = 3 }), true)
	checkHeap(t, list, "ints for plain", changed("plain E 1", func(o *impl.Obj) { o.Kind = 2 }), false)
	checkHeap(t, list, "nothing", changed("plain M", func(o *impl.Obj) { *o = impl.Obj{} }), false)
}

func TestHeapsFirstSix(t *testing.T) {
	list := heapWorld()
	for count := range 6 {
		h := heapOf(3, "")
		h.Objs = h.Objs[:count]
		checkHeap(t, list, "too few", h, false)
		h.Objs = append(slices.Clone(h.Objs), objOf("plain M"))
		checkHeap(t, list, "another one behind too few", h, false)
	}
	for at := range 6 {
		for _, behind := range []string{"", "plain A 5 null, ints"} {
			changed := func(what string, change func(*impl.Obj)) {
				h := heapOf(3, behind)
				change(&h.Objs[at])
				checkHeap(t, list, what, h, false)
			}
			for _, class := range []string{"Error", "Object", "", "Zed", "M", "F", "nullError", "NullErrors"} {
				changed("of "+class, func(o *impl.Obj) { o.Class = class })
			}
			changed("not ready", func(o *impl.Obj) { o.Ready = false })
			changed("with a Val", func(o *impl.Obj) { o.Vals = valsOf("0") })
			changed("with null", func(o *impl.Obj) { o.Vals = valsOf("null") })
			changed("ints of a class", func(o *impl.Obj) { o.Kind = 2 })
			changed("ints", func(o *impl.Obj) { *o = objOf("ints") })
			changed("refs", func(o *impl.Obj) { o.Kind = 3 })
			changed("no kind", func(o *impl.Obj) { o.Kind = 0 })
			changed("another kind", func(o *impl.Obj) { o.Kind = 4 })
		}
		for other := range at {
			h := heapOf(3, "plain DeepError")
			h.Objs[at], h.Objs[other] = h.Objs[other], h.Objs[at]
			checkHeap(t, list, "another order", h, false)
		}
		h := heapOf(3, "")
		h.Objs = slices.Delete(h.Objs, at, at+1)
		checkHeap(t, list, "one left out", h, false)
		checkHeap(t, list, "another one ahead", impl.Heap{Objs: slices.Insert(heapOf(3, "").Objs, at, objOf("plain M")), Room: 3}, false)
	}
}

func TestHeapsLimits(t *testing.T) {
	list := heapWorld()
	for _, count := range []int{6, 7, 8, 50, 98, 99, 100, 101, 102, 399, 400, 401, 1000} {
		h := heapOf(0, "")
		for len(h.Objs) < count {
			h.Objs = append(h.Objs, objOf([]string{"plain M", "ints 1", "refs A @6"}[len(h.Objs)%3]))
		}
		for _, room := range []int64{0, 1, 99 - int64(count), 100 - int64(count), 101 - int64(count), 94, 95, 100, -1, math.MinInt64, math.MaxInt64, 1 << 32, math.MaxInt64 - 99} {
			h.Room = room
			same(t, list, "right: "+strconv.Itoa(count)+" room "+strconv.FormatInt(room, 10), impl.HeapRight(list, h), room >= 0 && room <= int64(100-count))
		}
		for _, room := range []int64{-1, 101 - int64(count)} {
			h.Room = room
			checkNoHeap(t, list, h, impl.ErrForm)
		}
	}
}

func TestHeapsObjectsThatAreMade(t *testing.T) {
	list := heapWorld()
	for _, h := range []impl.Heap{impl.HeapNew(3), impl.HeapNew(94), impl.HeapNew(1), heapOf(2, heapObjs), heapOf(84, heapObjs)} {
		for class, types := range heapTypes() {
			told := "new " + class
			for _, field := range types {
				told += map[rune]string{'I': " 0", 'L': " null"}[field]
			}
			out := impl.HeapMake(list, h, class)
			same(t, list, "make "+class, out, madeHeap(h, told))
			checkHeap(t, list, "made "+class, out.Heap, true)
		}
		for _, class := range strangers() {
			same(t, list, "make "+class, impl.HeapMake(list, h, class), refusedHeap(impl.ErrNone))
		}
	}
	for _, h := range []impl.Heap{impl.HeapNew(0), heapOf(0, heapObjs)} {
		for class := range heapTypes() {
			same(t, list, "full "+class, impl.HeapMake(list, h, class), refusedHeap(impl.ErrFull))
		}
		for _, class := range strangers() {
			same(t, list, "full, and none "+class, impl.HeapMake(list, h, class), refusedHeap(impl.ErrNone))
		}
	}
	// Of each type a field.
	types := worldOf("class A Object, field a I, field b [I, field c LA;, field d [LA;, field e LObject;, field f [LObject;, field i I, field j LError;")
	same(t, types, "types", impl.HeapMake(types, impl.HeapNew(1), "A"), madeHeap(impl.HeapNew(1), "new A 0 null null null null null 0 null"))
	same(t, nil, "built in", impl.HeapMake(nil, impl.HeapNew(1), "Object"), madeHeap(impl.HeapNew(1), "new Object"))
	same(t, nil, "none", impl.HeapMake(nil, impl.HeapNew(1), "A"), refusedHeap(impl.ErrNone))
}

// Until nothing more can be made: each one stands behind all others, and these are as they were.
func TestHeapsThatBecomeFull(t *testing.T) {
	list := heapWorld()
	h := impl.HeapNew(94)
	for count := int64(6); count < 100; count++ {
		out, told := impl.HeapMake(list, h, "A"), "new A 0 null"
		switch count % 3 {
		case 1:
			out, told = impl.HeapList(list, h, "I", count%5), strings.TrimSpace("ints "+strings.Repeat("0 ", int(count%5)))
		case 2:
			out, told = impl.HeapList(list, h, "LB;", 2), "refs B null null"
		}
		same(t, list, "made", out, madeHeap(h, told))
		h = out.Heap
		h.Objs[count].Ready = true
	}
	same(t, list, "full", []int64{int64(len(h.Objs)), h.Room}, []int64{100, 0})
	checkHeap(t, list, "full", h, true)
	same(t, list, "full", impl.HeapMake(list, h, "A"), refusedHeap(impl.ErrFull))
	same(t, list, "full", impl.HeapList(list, h, "I", 0), refusedHeap(impl.ErrFull))
	same(t, list, "get of a full one", impl.HeapGet(list, h, 100, 0), impl.HeapOut{Heap: h, Val: valOf("0")})
	same(t, list, "put into a full one", impl.HeapPut(list, h, 100, 1, valOf("@100")), putHeap(h, 100, 1, valOf("@100")))
}

func TestHeapsListsThatAreMade(t *testing.T) {
	list := heapWorld()
	kinds := map[string][2]string{"I": {"ints", " 0"}}
	for class := range heapTypes() {
		kinds["L"+class+";"] = [2]string{"refs " + class, " null"}
	}
	none := []string{"", "V", "i", "II", "[I", "[LA;", "[[I", "[", "L", "L;", "LA", "A", "A;", "LZed;", "LZed", "[LZed;", "LObject", "lA;", "LA;;", "LA;I", "ILA;", " I", "I ", "LA; ", "()V", "L1;", "L<init>;", "L" + strings.Repeat("N", 21) + ";", "LA;\n", "L A;", "I;", strings.Repeat("N", impl.MaxBytes)}
	for _, room := range []int64{0, 1, 2, 84} {
		for _, h := range []impl.Heap{impl.HeapNew(room), heapOf(room, heapObjs)} {
			for _, size := range []int64{0, 1, 2, 49, 50, -1, 51, 52, -50, math.MinInt64, math.MaxInt64, 1 << 32, 1<<32 + 1} {
				right := size >= 0 && size <= 50
				for desc, told := range kinds {
					want := refusedHeap(impl.ErrType)
					switch {
					case right && room == 0:
						want = refusedHeap(impl.ErrFull)
					case right:
						want = madeHeap(h, told[0]+strings.Repeat(told[1], int(size)))
					}
					out := impl.HeapList(list, h, desc, size)
					same(t, list, "list of "+desc, out, want)
					if right && room > 0 {
						checkHeap(t, list, "list of "+desc, out.Heap, true)
					}
				}
				for _, desc := range none {
					same(t, list, "list of "+desc, impl.HeapList(list, h, desc, size), refusedHeap(impl.ErrForm))
				}
			}
		}
	}
	same(t, nil, "of a built-in class", impl.HeapList(nil, impl.HeapNew(2), "LError;", 2), madeHeap(impl.HeapNew(2), "refs Error null null"))
	same(t, nil, "of none", impl.HeapList(nil, impl.HeapNew(2), "LA;", 2), refusedHeap(impl.ErrForm))
}

// noRefs: what is the address of none in a heap of so many objects.
func noRefs(count int) []int64 {
	last := int64(count)
	return []int64{0, -1, -last, -last - 1, last + 1, last + 2, 101, 1 << 32, 1<<32 + 1, -1<<32 + 7, math.MinInt64, math.MinInt64 + 1, math.MaxInt64}
}

func TestHeapsValsThatAreGot(t *testing.T) {
	list := heapWorld()
	for _, h := range []impl.Heap{impl.HeapNew(5), impl.HeapNew(0), heapOf(5, heapObjs), heapOf(0, heapObjs), heapOf(84, heapObjs)} {
		for at, o := range h.Objs {
			ref := int64(at + 1)
			for place, v := range o.Vals {
				same(t, list, "get", impl.HeapGet(list, h, ref, int64(place)), impl.HeapOut{Heap: h, Val: v})
			}
			for _, place := range strangePlaces(len(o.Vals)) {
				if place != 0 || len(o.Vals) == 0 {
					same(t, list, "get of no place", impl.HeapGet(list, h, ref, place), refusedHeap(impl.ErrNone))
				}
				for _, v := range valsOf("0 null @1 @0 0:0") {
					if place != 0 || len(o.Vals) == 0 {
						same(t, list, "put at no place", impl.HeapPut(list, h, ref, place, v), refusedHeap(impl.ErrNone))
					}
				}
			}
		}
		for _, ref := range noRefs(len(h.Objs)) {
			for _, place := range []int64{0, 1, -1, 400, math.MinInt64} {
				same(t, list, "get of none", impl.HeapGet(list, h, ref, place), refusedHeap(impl.ErrNone))
				for _, v := range valsOf("0 null @1 @0 0:0") {
					same(t, list, "put into none", impl.HeapPut(list, h, ref, place, v), refusedHeap(impl.ErrNone))
				}
			}
		}
	}
}

// noVals: what is no value in a heap of so many objects.
func noVals(count int) []impl.Val {
	vals := valsOf("0:0 0:1 4:0 4:1 -1:0 2:1 2:-1 2147483648 -2147483649 9223372036854775807 -9223372036854775808 4294967296 4294967297:1 4294967298:0 4294967299:1")
	for _, ref := range noRefs(count) {
		vals = append(vals, impl.Val{Kind: 3, N: ref})
	}
	return vals
}

func TestHeapsValsThatArePut(t *testing.T) {
	list := heapWorld()
	// What may be put into a list of references, of those that heapObjs tells.
	may := map[int64]string{11: "null @7 @8 @9", 12: "null @1 @2 @3 @4 @5 @6 @7 @8 @9 @10 @11 @12 @13 @14 @15 @16", 16: "null @8 @9"}
	for _, h := range []impl.Heap{heapOf(5, heapObjs), heapOf(0, heapObjs)} {
		all := valsOf("0 1 -1 2147483647 -2147483648 null")
		for at := range h.Objs {
			all = append(all, impl.Val{Kind: 3, N: int64(at + 1)})
		}
		for at, o := range h.Objs {
			ref := int64(at + 1)
			for place := range o.Vals {
				for _, v := range all {
					right := true
					switch o.Kind {
					case impl.ObjInts:
						right = v.Kind == impl.ValInt
					case impl.ObjRefs:
						right = slices.Contains(valsOf(may[ref]), v)
					}
					checkPut(t, list, h, ref, int64(place), v, right)
				}
				for _, v := range noVals(len(h.Objs)) {
					checkPut(t, list, h, ref, int64(place), v, false)
				}
			}
		}
	}
}

// checkPut: what is put and not refused is got from there, and nothing else is changed.
func checkPut(t *testing.T, list []impl.Class, h impl.Heap, ref, place int64, v impl.Val, right bool) {
	t.Helper()
	out := impl.HeapPut(list, h, ref, place, v)
	if !right {
		same(t, list, "put "+shown(v), out, refusedHeap(impl.ErrType))
		return
	}
	same(t, list, "put "+shown(v), out, putHeap(h, ref, place, v))
	same(t, list, "right", impl.HeapRight(list, out.Heap), true)
	same(t, list, "got", impl.HeapGet(list, out.Heap, ref, place).Val, v)
}

func TestHeapsClassesOfObjects(t *testing.T) {
	list := heapWorld()
	h := heapOf(5, heapObjs)
	are := map[int64]string{
		1: "NullError Error Object", 2: "RangeError Error Object", 3: "CastError Error Object", 4: "MathError Error Object", 5: "FullError Error Object", 6: "DeepError Error Object",
		7: "A Object", 8: "B A Object", 9: "C B A Object", 10: "Object", 11: "Object", 12: "Object", 13: "Object", 14: "E Error Object", 15: "Object", 16: "Object",
	}
	for ref := range int64(len(h.Objs)) + 1 {
		for _, name := range namesOf(list) {
			same(t, list, strconv.FormatInt(ref, 10)+" is "+name, impl.HeapIs(list, h, ref, name), slices.Contains(strings.Fields(are[ref]), name))
		}
	}
	for _, ref := range noRefs(len(h.Objs)) {
		for _, name := range namesOf(list) {
			same(t, list, strconv.FormatInt(ref, 10)+" is "+name, impl.HeapIs(list, h, ref, name), false)
		}
	}
}

func TestHeapsInWorldsThatAreNotRight(t *testing.T) {
	lists := [][]impl.Class{plainWorld(impl.MaxClasses + 1), plainWorld(impl.MaxList), {{}}}
	for _, pass := range wrongWorlds() {
		for _, w := range pass {
			lists = append(lists, worldOf(w.told))
		}
	}
	for _, list := range lists {
		checkNoHeap(t, list, impl.HeapNew(3), impl.ErrForm)
		checkNoHeap(t, list, impl.HeapNew(0), impl.ErrForm)
		checkNoHeap(t, list, heapOf(2, "plain Object, ints 5, refs Object null"), impl.ErrForm)
		checkNoHeap(t, list, impl.Heap{}, impl.ErrForm)
	}
}

// A list or a text that is too long is refused ahead of all else.
func TestHeapsWithTooMuch(t *testing.T) {
	right, full, wrong := heapOf(2, heapObjs), heapOf(0, heapObjs), heapOf(-1, "")
	most, more := strings.Repeat("N", impl.MaxBytes), strings.Repeat("N", impl.MaxBytes+1)
	for _, h := range []impl.Heap{right, full, wrong, {}} {
		for _, list := range [][]impl.Class{plainWorld(impl.MaxList + 1), make([]impl.Class, impl.MaxList+1), slices.Repeat(heapWorld(), 60)} {
			same(t, nil, "right", impl.HeapRight(list, h), false)
			same(t, nil, "is", impl.HeapIs(list, h, 1, "Object"), false)
			for _, text := range []string{"A", "I", "Object", "Zed", "", most, more} {
				same(t, nil, "make", impl.HeapMake(list, h, text), refusedHeap(impl.ErrSize))
				same(t, nil, "list", impl.HeapList(list, h, text, 1), refusedHeap(impl.ErrSize))
				same(t, nil, "list", impl.HeapList(list, h, text, -1), refusedHeap(impl.ErrSize))
			}
			for _, ref := range []int64{-1, 0, 7, 99} {
				same(t, nil, "get", impl.HeapGet(list, h, ref, 0), refusedHeap(impl.ErrSize))
				same(t, nil, "put", impl.HeapPut(list, h, ref, 0, valOf("0")), refusedHeap(impl.ErrSize))
				same(t, nil, "put", impl.HeapPut(list, h, ref, -1, valOf("0:0")), refusedHeap(impl.ErrSize))
			}
		}
		for _, list := range [][]impl.Class{nil, heapWorld(), worldOf("class A A"), plainWorld(impl.MaxClasses + 1)} {
			same(t, nil, "make", impl.HeapMake(list, h, more), refusedHeap(impl.ErrSize))
			same(t, nil, "list", impl.HeapList(list, h, more, 1), refusedHeap(impl.ErrSize))
			same(t, nil, "list", impl.HeapList(list, h, more, 51), refusedHeap(impl.ErrSize))
			same(t, nil, "is", impl.HeapIs(list, h, 7, more), false)
		}
	}
	same(t, nil, "make", impl.HeapMake(heapWorld(), right, most), refusedHeap(impl.ErrNone))
	same(t, nil, "make", impl.HeapMake(heapWorld(), full, most), refusedHeap(impl.ErrNone))
	same(t, nil, "list", impl.HeapList(heapWorld(), right, most, 51), refusedHeap(impl.ErrForm))
	// Lists within a heap are none that is handed in as such.
	long := heapOf(0, "ints"+strings.Repeat(" 1", impl.MaxList+1))
	checkHeap(t, heapWorld(), "a long list", long, false)
	checkHeap(t, heapWorld(), "many objects", impl.Heap{Objs: slices.Repeat(long.Objs[:6], 70)}, false)
}

// modelHeap answers what chapter 11 asks for by its words.
type modelHeap struct {
	model
	impl.Heap
}

func (m modelHeap) isValue(v impl.Val) bool {
	switch v.Kind {
	case 1:
		return v.N >= -1<<31 && v.N < 1<<31
	case 2:
		return v.N == 0
	}
	return v.Kind == 3 && v.N >= 1 && v.N <= int64(len(m.Objs))
}

func (m modelHeap) objRight(o impl.Obj) bool {
	for _, v := range o.Vals {
		if !m.isValue(v) || o.Kind == 2 && v.Kind != 1 || o.Kind == 3 && v.Kind == 1 {
			return false
		}
	}
	switch o.Kind {
	case 1:
		return m.known(o.Class) && len(o.Vals) == len(m.fields(o.Class))
	case 2:
		return o.Class == "" && o.Ready && len(o.Vals) <= 50
	}
	return o.Kind == 3 && m.known(o.Class) && o.Ready && len(o.Vals) <= 50
}

func (m modelHeap) right() bool {
	count := int64(len(m.Objs))
	if m.check().Code != impl.OK || count < 6 || count > 100 || m.Room < 0 || m.Room > 100-count {
		return false
	}
	for at, o := range m.Objs {
		if !m.objRight(o) || at < 6 && (o.Kind != 1 || !o.Ready || len(o.Vals) > 0 || o.Class != builtInTold()[at+2]) {
			return false
		}
	}
	return true
}

func (m modelHeap) made(o impl.Obj) impl.HeapOut {
	if m.Room == 0 {
		return refusedHeap(impl.ErrFull)
	}
	h := cloneHeap(m.Heap)
	h.Objs = append(h.Objs, o)
	h.Room--
	return impl.HeapOut{Heap: h, Val: impl.Val{Kind: 3, N: int64(len(h.Objs))}}
}

func (m modelHeap) makePlain(class string) impl.HeapOut {
	if !m.right() {
		return refusedHeap(impl.ErrForm)
	}
	if !m.known(class) {
		return refusedHeap(impl.ErrNone)
	}
	o := impl.Obj{Kind: 1, Class: class}
	for _, f := range m.fields(class) {
		v := impl.Val{Kind: 2}
		if f.Type == "I" {
			v.Kind = 1
		}
		o.Vals = append(o.Vals, v)
	}
	return m.made(o)
}

func (m modelHeap) makeList(desc string, size int64) impl.HeapOut {
	class, isRef := strings.CutPrefix(strings.TrimSuffix(desc, ";"), "L")
	o, v := impl.Obj{Kind: 3, Class: class, Ready: true}, impl.Val{Kind: 2}
	if desc == "I" {
		o, v = impl.Obj{Kind: 2, Ready: true}, impl.Val{Kind: 1}
	}
	switch {
	case !m.right(), desc != "I" && (!isRef || !strings.HasSuffix(desc, ";") || !m.known(class)):
		return refusedHeap(impl.ErrForm)
	case size < 0 || size > 50:
		return refusedHeap(impl.ErrType)
	}
	o.Vals = slices.Repeat([]impl.Val{v}, int(size))
	return m.made(o)
}

func (m modelHeap) there(ref, place int64) bool {
	return ref >= 1 && ref <= int64(len(m.Objs)) && place >= 0 && place < int64(len(m.Objs[ref-1].Vals))
}

func (m modelHeap) get(ref, place int64) impl.HeapOut {
	switch {
	case !m.right():
		return refusedHeap(impl.ErrForm)
	case !m.there(ref, place):
		return refusedHeap(impl.ErrNone)
	}
	return impl.HeapOut{Heap: m.Heap, Val: m.Objs[ref-1].Vals[place]}
}

func (m modelHeap) put(ref, place int64, v impl.Val) impl.HeapOut {
	switch {
	case !m.right():
		return refusedHeap(impl.ErrForm)
	case !m.there(ref, place):
		return refusedHeap(impl.ErrNone)
	}
	o := m.Objs[ref-1]
	wrong := o.Kind == 2 && v.Kind != 1 || o.Kind == 3 && v.Kind == 1 || o.Kind == 3 && v.Kind == 3 && !m.is(v.N, o.Class)
	if wrong || !m.isValue(v) {
		return refusedHeap(impl.ErrType)
	}
	return putHeap(m.Heap, ref, place, v)
}

func (m modelHeap) is(ref int64, class string) bool {
	if !m.right() || ref < 1 || ref > int64(len(m.Objs)) {
		return false
	}
	o := m.Objs[ref-1]
	return o.Kind != 1 && class == "Object" || o.Kind == 1 && isOneOf(m.up(o.Class), class)
}

// heapDealer deals what is asked of a heap, mostly what may be asked.
type heapDealer struct {
	*rand.Rand
}

func (d heapDealer) val(count int) impl.Val {
	if d.IntN(12) == 0 {
		strange := noVals(count)
		return strange[d.IntN(len(strange))]
	}
	switch d.IntN(4) {
	case 0:
		return impl.Val{Kind: 1, N: int64(int32(d.Uint32()))}
	case 1:
		return impl.Val{Kind: 2}
	}
	return impl.Val{Kind: 3, N: 1 + d.Int64N(int64(count))}
}

// place: of an object of a heap, and of one of its Vals, if it has any.
func (d heapDealer) place(h impl.Heap) (ref, place int64) {
	if d.IntN(12) == 0 {
		return d.Int64N(int64(len(h.Objs)+6)) - 2, d.Int64N(8) - 2
	}
	for range 20 {
		ref = 1 + d.Int64N(int64(len(h.Objs)))
		if count := len(h.Objs[ref-1].Vals); count > 0 {
			return ref, d.Int64N(int64(count))
		}
	}
	return ref, 0
}

// step: one thing that is asked of a heap, and what the model says of it.
func (d heapDealer) step(list []impl.Class, h impl.Heap) (what string, got, want impl.HeapOut) {
	names, m := knownOf(list), modelHeap{list, h}
	name := names[d.IntN(len(names))]
	if d.IntN(12) == 0 {
		name = "Zed"
	}
	ref, place := d.place(h)
	switch d.IntN(6) {
	case 0:
		return "make " + name, impl.HeapMake(list, h, name), m.makePlain(name)
	case 1:
		desc, size := []string{"I", "L" + name + ";", "L" + name + ";", "[I"}[d.IntN(4)], d.Int64N(54)-2
		return "list " + desc, impl.HeapList(list, h, desc, size), m.makeList(desc, size)
	case 2:
		return "get", impl.HeapGet(list, h, ref, place), m.get(ref, place)
	}
	v := d.val(len(h.Objs))
	return "put " + shown(v), impl.HeapPut(list, h, ref, place, v), m.put(ref, place, v)
}

// Promise 11: what is put and not refused is got from there, what is made stands behind all else; and a
// heap that is right stays so.
func TestDealtHeapsAsTheModelSays(t *testing.T) {
	d := heapDealer{rand.New(rand.NewPCG(11, 12))}
	dealt, _ := dealtWorlds(20)
	codes := map[int64]int{}
	for _, list := range append(append(allRightWorlds(), heapWorld()), dealt...) {
		h := impl.HeapNew(d.Int64N(40))
		for range 120 {
			before := cloneHeap(h)
			what, got, want := d.step(list, h)
			same(t, list, what, got, want)
			same(t, list, what+" leaves the heap", h, before)
			codes[got.Code]++
			if got.Code != impl.OK {
				continue
			}
			h = got.Heap
			same(t, list, "right behind "+what, impl.HeapRight(list, h), true)
		}
		for ref := range int64(len(h.Objs)) + 2 {
			for _, name := range append(knownOf(list), "Zed") {
				same(t, list, "is", impl.HeapIs(list, h, ref, name), modelHeap{list, h}.is(ref, name))
			}
		}
	}
	for _, code := range []int64{impl.OK, impl.ErrForm, impl.ErrNone, impl.ErrType, impl.ErrFull} {
		if codes[code] < 40 {
			t.Errorf("too few of a kind: %v", codes)
		}
	}
}

// spoilt: a heap with one thing changed somewhere, so that it may not be right any more.
func (d heapDealer) spoilt(list []impl.Class, h impl.Heap) impl.Heap {
	h = cloneHeap(h)
	at := d.IntN(len(h.Objs))
	o := &h.Objs[at]
	names := append(knownOf(list), "Zed", "")
	switch d.IntN(8) {
	case 0:
		o.Kind = d.Int64N(6) - 1
	case 1:
		o.Class = names[d.IntN(len(names))]
	case 2:
		o.Ready = !o.Ready
	case 3:
		o.Vals = append(o.Vals, d.val(len(h.Objs)))
	case 4:
		o.Vals = o.Vals[:len(o.Vals)/2]
	case 5:
		h.Room = d.Int64N(104) - 2
	case 6:
		h.Objs = slices.Delete(h.Objs, at, at+1)
	}
	if ref, place := d.place(h); (modelHeap{list, h}).there(ref, place) {
		h.Objs[ref-1].Vals[place] = d.val(len(h.Objs))
	}
	return h
}

func TestDealtHeapsThatAreRightOrNot(t *testing.T) {
	d := heapDealer{rand.New(rand.NewPCG(13, 14))}
	dealt, _ := dealtWorlds(20)
	seen := map[bool]int{}
	for _, list := range append(append(allRightWorlds(), heapWorld()), dealt...) {
		h := impl.HeapNew(20)
		for range 60 {
			if _, got, _ := d.step(list, h); got.Code == impl.OK {
				h = got.Heap
			}
		}
		for range 80 {
			spoilt := d.spoilt(list, h)
			want := modelHeap{list, spoilt}.right()
			seen[want]++
			same(t, list, "right", impl.HeapRight(list, spoilt), want)
			if !want && len(spoilt.Objs) > 0 {
				what, got, model := d.step(list, spoilt)
				same(t, list, what, []any{got, model}, []any{refusedHeap(impl.ErrForm), refusedHeap(impl.ErrForm)})
			}
		}
	}
	if seen[true] < 500 || seen[false] < 500 {
		t.Errorf("too few of a kind: %v", seen)
	}
}

// heapAsks: all that can be asked of heapObjs and is not refused.
func heapAsks() map[string]func(list []impl.Class, h impl.Heap) impl.Heap {
	return map[string]func(list []impl.Class, h impl.Heap) impl.Heap{
		"make":      func(list []impl.Class, h impl.Heap) impl.Heap { return impl.HeapMake(list, h, "B").Heap },
		"ints":      func(list []impl.Class, h impl.Heap) impl.Heap { return impl.HeapList(list, h, "I", 3).Heap },
		"refs":      func(list []impl.Class, h impl.Heap) impl.Heap { return impl.HeapList(list, h, "LA;", 3).Heap },
		"get":       func(list []impl.Class, h impl.Heap) impl.Heap { return impl.HeapGet(list, h, 8, 2).Heap },
		"put plain": func(list []impl.Class, h impl.Heap) impl.Heap { return impl.HeapPut(list, h, 7, 1, valOf("@9")).Heap },
		"put int":   func(list []impl.Class, h impl.Heap) impl.Heap { return impl.HeapPut(list, h, 10, 1, valOf("9")).Heap },
		"put ref":   func(list []impl.Class, h impl.Heap) impl.Heap { return impl.HeapPut(list, h, 11, 0, valOf("@9")).Heap },
	}
}

// roomyHeap: heapObjs with lists that have other things behind their ends.
func roomyHeap() (h impl.Heap, whole []impl.Obj, rests [][]impl.Val) {
	h = heapOf(3, heapObjs)
	for at, o := range h.Objs {
		rest := append(slices.Clone(o.Vals), valsOf("7 7 7 7 7")...)
		rests = append(rests, rest)
		h.Objs[at].Vals = rest[:len(o.Vals)]
	}
	whole = append(slices.Clone(h.Objs), slices.Repeat([]impl.Obj{objOf("plain Zed 1")}, 20)...)
	h.Objs = whole[:len(h.Objs)]
	return h, whole, rests
}

func TestHeapsLeaveWhatIsHandedInAsItIs(t *testing.T) {
	list := heapWorld()
	for what, ask := range heapAsks() {
		h, whole, rests := roomyHeap()
		before := shown([]any{h, whole, rests})
		first := shown(ask(list, h))
		same(t, list, what+" again", shown(ask(list, h)), first)
		impl.HeapRight(list, h)
		impl.HeapIs(list, h, 8, "A")
		same(t, nil, what+" leaves the heap", shown([]any{h, whole, rests}), before)
		if !reflect.DeepEqual(list, heapWorld()) {
			t.Errorf("%s: changed: %s", what, shown(list))
		}
	}
	// What was told of one list is not kept for another one.
	h := heapOf(3, heapObjs)
	list[2].Super = "Object"
	checkHeap(t, list, "fields that are gone", h, false)
	same(t, list, "is", impl.HeapIs(list, heapOf(0, "plain B null null"), 7, "A"), false)
	list[2].Super = "Zed"
	checkHeap(t, list, "no world", h, false)
}

func scribbleHeap(h impl.Heap) {
	for at := range h.Objs {
		vals := h.Objs[at].Vals[:cap(h.Objs[at].Vals)]
		for place := range vals {
			vals[place] = impl.Val{Kind: 99, N: 99}
		}
	}
	objs := h.Objs[:cap(h.Objs)]
	for at := range objs {
		objs[at] = impl.Obj{Kind: 99, Class: "scribbled"}
	}
}

func TestHeapsShareNoLists(t *testing.T) {
	list := heapWorld()
	for what, ask := range heapAsks() {
		h := heapOf(3, heapObjs)
		told := ask(list, h)
		before := shown(told)
		other := ask(list, h)
		scribbleHeap(other)
		same(t, nil, what+": what is handed in", h, heapOf(3, heapObjs))
		same(t, nil, what+": another answer", shown(told), before)
		scribbleHeap(h)
		same(t, nil, what+": what was told", shown(told), before)
		// Nor one list of an answer with another one.
		for at := range told.Objs {
			others := cloneHeap(told)
			vals := told.Objs[at].Vals[:cap(told.Objs[at].Vals)]
			for place := range vals {
				vals[place] = impl.Val{Kind: 99, N: 99}
			}
			told.Objs[at].Vals, others.Objs[at].Vals = nil, nil
			same(t, nil, what+": one list's neighbours", told, others)
		}
	}
}

func classesOfObjs(objs []impl.Obj) []string {
	var classes []string
	for _, o := range objs {
		classes = append(classes, o.Class)
	}
	return classes
}

func TestHeapsShareNoTexts(t *testing.T) {
	class, desc := strings.Clone("Aa"), strings.Clone("LAa;")
	list := []impl.Class{{Name: strings.Clone(class), Super: "Object", Fields: []impl.Field{{Name: "x", Type: "I"}}}}
	h := impl.HeapNew(5)
	for _, told := range []string{"plain Aa 5", "refs Aa @7", "plain Object", "new DeepError", "ints 1"} {
		h.Objs = append(h.Objs, objOf(told))
	}
	for at, o := range h.Objs {
		h.Objs[at].Class = strings.Clone(o.Class)
	}
	handedIn := append(classesOfObjs(h.Objs), class, desc, list[0].Name, list[0].Super)
	for what, out := range map[string]impl.HeapOut{
		"make":     impl.HeapMake(list, h, class),
		"list":     impl.HeapList(list, h, desc, 2),
		"built in": impl.HeapMake(list, h, list[0].Super),
		"get":      impl.HeapGet(list, h, 7, 0),
		"put":      impl.HeapPut(list, h, 7, 0, valOf("6")),
	} {
		if out.Code != impl.OK {
			t.Fatalf("%s: code %d", what, out.Code)
		}
		ownMemory(t, what, classesOfObjs(out.Heap.Objs), handedIn)
	}
}
