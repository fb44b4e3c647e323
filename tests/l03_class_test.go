package tests

import (
	"math"
	"reflect"
	"slices"
	"strconv"
	"strings"
	"testing"

	"loop.example/g00175/impl"
)

// opsTold: the ops as the document tells them.
const opsTold = `1 const n, 2 null, 3 load i, 4 store i, 5 pop, 6 dup, 7 swap, 8 add, 9 sub, 10 mul, 11 div,
12 rem, 13 and, 14 or, 15 xor, 16 shl, 17 shr, 18 ushr, 19 goto t, 20 ifeq t, 21 iflt t, 22 ifsame t,
23 ifless t, 24 ifnull t, 25 ifis t, 26 return, 27 ireturn, 28 areturn, 29 throw, 30 dup2, 31 new c,
32 getfield f, 33 putfield f, 34 getstatic f, 35 putstatic f, 36 call m, 37 callstatic m, 38 callspecial m,
39 cast c, 40 isof c, 41 newlist y, 42 get, 43 put, 44 size`

type toldOp struct {
	op   int64
	name string
	form string
}

func toldOps(t *testing.T) []toldOp {
	t.Helper()
	var ops []toldOp
	for _, told := range strings.Split(opsTold, ",") {
		words := append(strings.Fields(told), "")
		op, err := strconv.ParseInt(words[0], 10, 64)
		if err != nil {
			t.Fatal(err)
		}
		ops = append(ops, toldOp{op, words[1], words[2]})
	}
	return ops
}

// noOps: numbers that are no op.
func noOps() []int64 {
	return []int64{
		0, 45, 46, -1, -2, -44, 100, 255, 256, 257, 1 << 16, 1<<32 + 1, 1 << 62,
		math.MinInt64, math.MinInt64 + 1, math.MaxInt64, -1 << 32, 1<<8 + 38,
	}
}

func TestOpsHaveNamesAndForms(t *testing.T) {
	seen := map[string]int64{}
	for i, told := range toldOps(t) {
		if told.op != int64(i+1) {
			t.Fatalf("the %d. op told is %d", i+1, told.op)
		}
		if got := impl.OpName(told.op); got != told.name {
			t.Errorf("op %d: name %q, want %q", told.op, got, told.name)
		}
		if got := impl.OpForm(told.op); got != told.form {
			t.Errorf("op %d: form %q, want %q", told.op, got, told.form)
		}
		name := impl.OpName(told.op)
		if other, twice := seen[name]; twice {
			t.Errorf("ops %d and %d have one name", other, told.op)
		}
		seen[name] = told.op
	}
	if len(seen) != 44 {
		t.Errorf("%d names", len(seen))
	}
}

func TestNoOpsHaveNoNameAndNoForm(t *testing.T) {
	for _, op := range noOps() {
		if name, form := impl.OpName(op), impl.OpForm(op); name != "" || form != "!" {
			t.Errorf("op %d: name %q, form %q", op, name, form)
		}
	}
}

// The texts that may and may not stand where a form asks for one.
func rightNames() []string {
	return []string{"A", "z", "$", "a0", "I", "V", "Object", strings.Repeat("N", 20)}
}

func wrongNames() []string {
	return []string{"", "0", "9a", "a b", "a_b", "<init", "init>", "<clinit>", "A;", "é", "\x00", "A\xff",
		strings.Repeat("N", 21), strings.Repeat("N", impl.MaxBytes+1)}
}

func wrongDescTexts() []string {
	return []string{"", "V", "I", "()", "(V)V", "()VV", "(I", "(IIIIIIIII)V", "()[[I", "(L;)V", " ()V",
		strings.Repeat("(", impl.MaxBytes+1)}
}

// formCase: an instruction's parts (but its op) that a form takes, and ones that it does not.
type formCase struct {
	right []impl.Ins
	wrong []impl.Ins
}

func placesBelow(count int64) formCase {
	var c formCase
	for a := range count {
		c.right = append(c.right, impl.Ins{A: a})
	}
	for _, a := range []int64{count, count + 1, -1, math.MinInt64, math.MaxInt64, 256, 1 << 32} {
		c.wrong = append(c.wrong, impl.Ins{A: a})
	}
	return c
}

func intCase() formCase {
	var c formCase
	for _, a := range numbersWithin(math.MinInt32, math.MaxInt32) {
		c.right = append(c.right, impl.Ins{A: a})
	}
	for _, a := range []int64{math.MaxInt32 + 1, math.MinInt32 - 1, 1 << 32, -1 << 32, math.MinInt64, math.MaxInt64} {
		c.wrong = append(c.wrong, impl.Ins{A: a})
	}
	return c
}

func classCase() formCase {
	var c formCase
	for _, name := range rightNames() {
		c.right = append(c.right, impl.Ins{Class: name})
	}
	for _, name := range append(wrongNames(), "<init>", "LA;") {
		c.wrong = append(c.wrong, impl.Ins{Class: name})
	}
	return c
}

func itemCase() formCase {
	var c formCase
	for _, text := range rightTypes() {
		if strings.HasPrefix(text, "[") {
			c.wrong = append(c.wrong, impl.Ins{Desc: text})
		} else {
			c.right = append(c.right, impl.Ins{Desc: text})
		}
	}
	for _, text := range wrongTypes() {
		c.wrong = append(c.wrong, impl.Ins{Desc: text})
	}
	return c
}

// memberCase: what a field's and a method's form have alike, told by what may stand as the Desc.
func memberCase(desc string, rightDescs, wrongDescs []string) formCase {
	var c formCase
	for _, name := range rightNames() {
		c.right = append(c.right, impl.Ins{Class: name, Name: "a", Desc: desc}, impl.Ins{Class: "A", Name: name, Desc: desc})
	}
	for _, name := range wrongNames() {
		c.wrong = append(c.wrong, impl.Ins{Class: name, Name: "a", Desc: desc}, impl.Ins{Class: "A", Name: name, Desc: desc})
	}
	c.wrong = append(c.wrong, impl.Ins{Class: "<init>", Name: "a", Desc: desc})
	for _, text := range rightDescs {
		c.right = append(c.right, impl.Ins{Class: "A", Name: "a", Desc: text})
	}
	for _, text := range wrongDescs {
		c.wrong = append(c.wrong, impl.Ins{Class: "A", Name: "a", Desc: text})
	}
	return c
}

func formCases() map[string]formCase {
	field := memberCase("I", rightTypes(), wrongTypes())
	field.wrong = append(field.wrong, impl.Ins{Class: "A", Name: "<init>", Desc: "I"})
	var descs []string
	for _, d := range rightDescs() {
		descs = append(descs, impl.DescText(d))
	}
	method := memberCase("()V", descs, wrongDescTexts())
	for _, desc := range []string{"()V", "()I", "(I)LA;"} {
		method.right = append(method.right, impl.Ins{Class: "A", Name: "<init>", Desc: desc})
	}
	return map[string]formCase{
		"": {right: []impl.Ins{{}}}, "n": intCase(), "i": placesBelow(impl.MaxLocals), "t": placesBelow(impl.MaxCode),
		"c": classCase(), "y": itemCase(), "f": field, "m": method,
	}
}

func checkIns(t *testing.T, i impl.Ins, want bool) {
	t.Helper()
	if got := impl.InsRight(i); got != want {
		t.Errorf("%.80q (op %d, A %d): right %v", []string{i.Class, i.Name, i.Desc}, i.Op, i.A, got)
	}
}

func TestInstructionsHaveWhatTheirFormAsksFor(t *testing.T) {
	cases := formCases()
	for _, told := range toldOps(t) {
		c := cases[told.form]
		if len(c.right) == 0 {
			t.Fatalf("no case of form %q", told.form)
		}
		for _, i := range c.right {
			i.Op = told.op
			checkIns(t, i, true)
		}
		for _, i := range c.wrong {
			i.Op = told.op
			checkIns(t, i, false)
		}
	}
}

// besides: an instruction with one thing more than its form asks for, for each such thing.
func besides(i impl.Ins, form string) []impl.Ins {
	var more []impl.Ins
	for part, of := range map[string]string{"A": "nit", "Class": "cfm", "Name": "fm", "Desc": "yfm"} {
		if form != "" && strings.Contains(of, form) {
			continue
		}
		for _, text := range []string{"A", "I", "()V", " ", "\x00"} {
			j := i
			switch part {
			case "A":
				j.A = int64(len(text))
			case "Class":
				j.Class = text
			case "Name":
				j.Name = text
			case "Desc":
				j.Desc = text
			}
			more = append(more, j)
		}
	}
	if !strings.ContainsAny(form, "nit") || form == "" {
		for _, a := range []int64{-1, math.MinInt64, math.MaxInt64, 1 << 32} {
			j := i
			j.A = a
			more = append(more, j)
		}
	}
	return more
}

func TestInstructionsHaveNothingElse(t *testing.T) {
	cases := formCases()
	for _, told := range toldOps(t) {
		i := cases[told.form].right[0]
		i.Op = told.op
		more := besides(i, told.form)
		if told.form == "" && len(more) < 20 {
			t.Fatalf("%d cases", len(more))
		}
		for _, j := range more {
			checkIns(t, j, false)
		}
	}
}

func TestNoOpIsNoInstruction(t *testing.T) {
	for _, op := range noOps() {
		for _, c := range formCases() {
			i := c.right[0]
			i.Op = op
			checkIns(t, i, false)
		}
	}
	checkIns(t, impl.Ins{}, false)
}

// A method of one instruction, and one that is abstract: right ones, to be changed in one place.
func plainMethod() impl.Method {
	return impl.Method{Name: "f", Desc: "()V", Static: true, Code: []impl.Ins{{Op: 26}}}
}

func abstractMethod() impl.Method {
	return impl.Method{Name: "f", Desc: "(I)I", Abstract: true}
}

func initMethod() impl.Method {
	return impl.Method{Name: "<init>", Desc: "(I)V", Stack: 1, Locals: 2, Code: []impl.Ins{{Op: 26}}}
}

// change is one thing done to something right, and whether it is right then.
type change[T any] struct {
	what  string
	do    func(*T)
	right bool
}

func checkChanges[T any](t *testing.T, fresh func() T, isRight func(T) bool, changes []change[T]) {
	t.Helper()
	if !isRight(fresh()) {
		t.Fatalf("not right without any change: %+v", fresh())
	}
	for _, c := range changes {
		thing := fresh()
		c.do(&thing)
		if got := isRight(thing); got != c.right {
			t.Errorf("%s: right %v", c.what, got)
		}
	}
}

func nops(count int) []impl.Ins {
	return slices.Repeat([]impl.Ins{{Op: 2}}, count)
}

func TestMethodsNamesAndDescs(t *testing.T) {
	var changes []change[impl.Method]
	for _, name := range rightNames() {
		changes = append(changes, change[impl.Method]{"name " + name, func(m *impl.Method) { m.Name = name }, true})
	}
	for _, name := range wrongNames() {
		changes = append(changes, change[impl.Method]{"a wrong name", func(m *impl.Method) { m.Name = name }, false})
	}
	for _, text := range wrongDescTexts() {
		changes = append(changes, change[impl.Method]{"a wrong desc", func(m *impl.Method) { m.Desc = text }, false})
	}
	checkChanges(t, plainMethod, impl.MethodRight, changes)
	checkChanges(t, abstractMethod, impl.MethodRight, changes)
}

func TestMethodsStackAndLocals(t *testing.T) {
	checkChanges(t, plainMethod, impl.MethodRight, []change[impl.Method]{
		{"stack 16", func(m *impl.Method) { m.Stack = impl.MaxStack }, true},
		{"stack 17", func(m *impl.Method) { m.Stack = impl.MaxStack + 1 }, false},
		{"stack -1", func(m *impl.Method) { m.Stack = -1 }, false},
		{"stack of 2^32", func(m *impl.Method) { m.Stack = 1 << 32 }, false},
		{"least stack", func(m *impl.Method) { m.Stack = math.MinInt64 }, false},
		{"most stack", func(m *impl.Method) { m.Stack = math.MaxInt64 }, false},
		{"locals 16", func(m *impl.Method) { m.Locals = impl.MaxLocals }, true},
		{"locals 17", func(m *impl.Method) { m.Locals = impl.MaxLocals + 1 }, false},
		{"locals -1", func(m *impl.Method) { m.Locals = -1 }, false},
		{"least locals", func(m *impl.Method) { m.Locals = math.MinInt64 }, false},
		{"most locals", func(m *impl.Method) { m.Locals = math.MaxInt64 }, false},
		{"final", func(m *impl.Method) { m.Final = true }, true},
	})
}

func TestMethodsLocalsTakeTheirParams(t *testing.T) {
	for params := range int64(impl.MaxParams + 1) {
		for locals := range int64(impl.MaxLocals + 1) {
			for _, static := range []bool{false, true} {
				m := plainMethod()
				m.Desc = "(" + strings.Repeat("[LA;", int(params)) + ")I"
				m.Static = static
				m.Locals = locals
				needed := params
				if !static {
					needed++
				}
				if got := impl.MethodRight(m); got != (locals >= needed) {
					t.Errorf("%d params, %d locals, static %v: right %v", params, locals, static, got)
				}
			}
		}
	}
}

func TestMethodsCode(t *testing.T) {
	changes := []change[impl.Method]{
		{"no code", func(m *impl.Method) { m.Code = nil }, false},
		{"an empty code", func(m *impl.Method) { m.Code = []impl.Ins{} }, false},
		{"60 instructions", func(m *impl.Method) { m.Code = nops(impl.MaxCode) }, true},
		{"61 instructions", func(m *impl.Method) { m.Code = nops(impl.MaxCode + 1) }, false},
		{"very many", func(m *impl.Method) { m.Code = nops(impl.MaxCode * 100) }, false},
		{"a wrong one", func(m *impl.Method) { m.Code = append(m.Code, impl.Ins{}) }, false},
		{"a wrong one first", func(m *impl.Method) { m.Code = append([]impl.Ins{{Op: 45}}, m.Code...) }, false},
		{"a local that the method has not", func(m *impl.Method) { m.Code = []impl.Ins{{Op: 3, A: 15}} }, true},
		{"a number as great as they come", func(m *impl.Method) { m.Code = []impl.Ins{{Op: 1, A: math.MaxInt32}} }, true},
	}
	for op := int64(19); op <= 25; op++ {
		for a := int64(-1); a < 5; a++ {
			changes = append(changes, change[impl.Method]{"to " + strconv.FormatInt(a, 10), func(m *impl.Method) {
				m.Code = []impl.Ins{{Op: 2}, {Op: op, A: a}, {Op: 26}}
			}, a >= 0 && a < 3})
		}
		changes = append(changes,
			change[impl.Method]{"to the 60th", func(m *impl.Method) { m.Code = append(nops(59), impl.Ins{Op: op, A: 59}) }, true},
			change[impl.Method]{"behind the 60th", func(m *impl.Method) { m.Code = append(nops(59), impl.Ins{Op: op, A: 60}) }, false})
	}
	checkChanges(t, plainMethod, impl.MethodRight, changes)
}

func TestMethodsHandlers(t *testing.T) {
	fresh := func() impl.Method {
		m := plainMethod()
		m.Code = nops(3)
		m.Handlers = []impl.Handler{{From: 0, To: 1, At: 0, Class: "A"}, {From: 1, To: 2, At: 2, Class: "B"}}
		return m
	}
	changes := []change[impl.Method]{
		{"six", func(m *impl.Method) { m.Handlers = slices.Repeat(m.Handlers, 3) }, true},
		{"seven", func(m *impl.Method) { m.Handlers = append(slices.Repeat(m.Handlers, 3), m.Handlers[0]) }, false},
		{"very many", func(m *impl.Method) { m.Handlers = slices.Repeat(m.Handlers, 500) }, false},
		{"none", func(m *impl.Method) { m.Handlers = nil }, true},
		{"an empty list", func(m *impl.Method) { m.Handlers = []impl.Handler{} }, true},
		{"no class", func(m *impl.Method) { m.Handlers[1].Class = "" }, false},
		{"a constructor's name", func(m *impl.Method) { m.Handlers[0].Class = "<init>" }, false},
		{"a type", func(m *impl.Method) { m.Handlers[0].Class = "LA;" }, false},
	}
	ends := []int64{math.MinInt64, -1, 0, 1, 2, 3, 4, math.MaxInt64}
	for _, from := range ends {
		for _, to := range ends {
			for _, at := range ends {
				right := from >= 0 && from < to && to <= 3 && at >= 0 && at < 3
				changes = append(changes, change[impl.Method]{"places", func(m *impl.Method) {
					m.Handlers[1] = impl.Handler{From: from, To: to, At: at, Class: "B"}
				}, right})
			}
		}
	}
	checkChanges(t, fresh, impl.MethodRight, changes)
}

func TestAbstractMethods(t *testing.T) {
	checkChanges(t, abstractMethod, impl.MethodRight, []change[impl.Method]{
		{"eight params", func(m *impl.Method) { m.Desc = "(IIIIIIII)V" }, true},
		{"empty lists", func(m *impl.Method) { m.Code, m.Handlers = []impl.Ins{}, []impl.Handler{} }, true},
		{"a stack", func(m *impl.Method) { m.Stack = 1 }, false},
		{"a stack below nought", func(m *impl.Method) { m.Stack = -1 }, false},
		{"a local", func(m *impl.Method) { m.Locals = 1 }, false},
		{"locals for its params", func(m *impl.Method) { m.Locals = 2 }, false},
		{"code", func(m *impl.Method) { m.Code = []impl.Ins{{Op: 26}} }, false},
		{"a handler", func(m *impl.Method) { m.Handlers = []impl.Handler{{From: 0, To: 1, At: 0, Class: "A"}} }, false},
		{"static", func(m *impl.Method) { m.Static = true }, false},
		{"final", func(m *impl.Method) { m.Final = true }, false},
		{"a constructor", func(m *impl.Method) { m.Name, m.Desc = "<init>", "()V" }, false},
		{"not abstract", func(m *impl.Method) { m.Abstract = false }, false},
	})
}

func TestConstructors(t *testing.T) {
	changes := []change[impl.Method]{
		{"static", func(m *impl.Method) { m.Static = true }, false},
		{"final", func(m *impl.Method) { m.Final = true }, false},
		{"abstract", func(m *impl.Method) { m.Abstract = true }, false},
		{"a local too few", func(m *impl.Method) { m.Locals = 1 }, false},
		{"no code", func(m *impl.Method) { m.Code = nil }, false},
	}
	for _, result := range rightTypes() {
		changes = append(changes, change[impl.Method]{"result " + result, func(m *impl.Method) { m.Desc = "(I)" + result }, false})
	}
	checkChanges(t, initMethod, impl.MethodRight, changes)
}

// fullClass: a right class that has of everything something.
func fullClass() impl.Class {
	return impl.Class{
		Name: "A", Super: "Object", Abstract: true,
		Fields: []impl.Field{{Name: "a", Type: "I"}, {Name: "b", Type: "[LA;", Static: true}},
		Methods: []impl.Method{
			initMethod(),
			{Name: "f", Desc: "()V", Abstract: true},
			{Name: "f", Desc: "(I)I", Static: true, Final: true, Stack: 2, Locals: 3,
				Code: []impl.Ins{
					{Op: 1, A: -7}, {Op: 19, A: 2}, {Op: 31, Class: "B"}, {Op: 32, Class: "B", Name: "c", Desc: "I"},
					{Op: 36, Class: "B", Name: "g", Desc: "()V"}, {Op: 41, Desc: "LA;"}, {Op: 26},
				},
				Handlers: []impl.Handler{{From: 0, To: 3, At: 5, Class: "E"}, {From: 1, To: 7, At: 6, Class: "F"}}},
		},
	}
}

func fieldsOf(count int) []impl.Field {
	var fields []impl.Field
	for i := range count {
		fields = append(fields, impl.Field{Name: "f" + strconv.Itoa(i), Type: "I"})
	}
	return fields
}

func methodsOf(count int) []impl.Method {
	var methods []impl.Method
	for i := range count {
		m := plainMethod()
		m.Name = "m" + strconv.Itoa(i)
		methods = append(methods, m)
	}
	return methods
}

func TestClassesHeads(t *testing.T) {
	changes := []change[impl.Class]{
		{"not abstract, with an abstract method", func(c *impl.Class) { c.Abstract = false }, false},
		{"final too", func(c *impl.Class) { c.Final = true }, false},
		{"its own super", func(c *impl.Class) { c.Super = "A" }, false},
		{"super", func(c *impl.Class) { c.Super = "a" }, true},
		{"an Object", func(c *impl.Class) { c.Name, c.Super = "Object", "A" }, true},
		{"neither fields nor methods", func(c *impl.Class) { c.Fields, c.Methods = nil, nil }, true},
		{"empty lists", func(c *impl.Class) { c.Fields, c.Methods = []impl.Field{}, []impl.Method{} }, true},
		{"final, nothing in it", func(c *impl.Class) { *c = impl.Class{Name: "A", Super: "B", Final: true} }, true},
		{"final, abstract, nothing in it", func(c *impl.Class) { *c = impl.Class{Name: "A", Super: "B", Final: true, Abstract: true} }, false},
		{"nothing", func(c *impl.Class) { *c = impl.Class{} }, false},
	}
	for _, name := range append(wrongNames(), "<init>") {
		changes = append(changes,
			change[impl.Class]{"a wrong name", func(c *impl.Class) { c.Name = name }, false},
			change[impl.Class]{"a wrong super", func(c *impl.Class) { c.Super = name }, false})
	}
	checkChanges(t, fullClass, impl.ClassRight, changes)
}

func TestClassesFields(t *testing.T) {
	changes := []change[impl.Class]{
		{"eight", func(c *impl.Class) { c.Fields = fieldsOf(impl.MaxFields) }, true},
		{"nine", func(c *impl.Class) { c.Fields = fieldsOf(impl.MaxFields + 1) }, false},
		{"very many", func(c *impl.Class) { c.Fields = fieldsOf(1000) }, false},
		{"two of one name", func(c *impl.Class) { c.Fields[1].Name = "a" }, false},
		{"the first and the last of one name", func(c *impl.Class) { c.Fields = fieldsOf(8); c.Fields[7].Name = "f0" }, false},
		{"a name as the class", func(c *impl.Class) { c.Fields[1].Name = "A" }, true},
		{"two of one type", func(c *impl.Class) { c.Fields[1].Type = "I" }, true},
		{"a constructor's name", func(c *impl.Class) { c.Fields[0].Name = "<init>" }, false},
		{"a field of nothing", func(c *impl.Class) { c.Fields[0].Type = "V" }, false},
	}
	for _, name := range wrongNames() {
		changes = append(changes, change[impl.Class]{"a wrong name", func(c *impl.Class) { c.Fields[1].Name = name }, false})
	}
	for _, text := range wrongTypes() {
		changes = append(changes, change[impl.Class]{"a wrong type", func(c *impl.Class) { c.Fields[1].Type = text }, false})
	}
	for _, text := range rightTypes() {
		changes = append(changes, change[impl.Class]{"type " + text, func(c *impl.Class) { c.Fields[0].Type = text }, true})
	}
	checkChanges(t, fullClass, impl.ClassRight, changes)
}

func TestClassesMethods(t *testing.T) {
	checkChanges(t, fullClass, impl.ClassRight, []change[impl.Class]{
		{"ten", func(c *impl.Class) { c.Methods = methodsOf(impl.MaxMethods) }, true},
		{"eleven", func(c *impl.Class) { c.Methods = methodsOf(impl.MaxMethods + 1) }, false},
		{"very many", func(c *impl.Class) { c.Methods = methodsOf(1000) }, false},
		{"two of one name and desc", func(c *impl.Class) { c.Methods[1].Desc = "(I)I" }, false},
		{"two constructors", func(c *impl.Class) { c.Methods[1] = initMethod(); c.Methods[1].Desc = "()V" }, true},
		{"one constructor twice", func(c *impl.Class) { c.Methods[1] = initMethod() }, false},
		{"the first and the last alike", func(c *impl.Class) { c.Methods = methodsOf(10); c.Methods[9].Name = "m0" }, false},
		{"alike but for their flags", func(c *impl.Class) {
			c.Methods = append(methodsOf(1), methodsOf(1)...)
			c.Methods[1].Final = true
		}, false},
		{"names and descs that read alike side by side", func(c *impl.Class) {
			c.Methods = methodsOf(2)
			c.Methods[0].Name, c.Methods[1].Name = "f", "fI"
		}, true},
		{"a wrong one", func(c *impl.Class) { c.Methods[2].Stack = -1 }, false},
		{"a wrong one first", func(c *impl.Class) { c.Methods[0].Locals = 0 }, false},
		{"a wrong instruction", func(c *impl.Class) { c.Methods[2].Code[6].Op = 45 }, false},
		{"one of a field's name", func(c *impl.Class) { c.Methods[1].Name = "a" }, true},
	})
}

// partings: each makes of the full class another right one that parts from it in one place.
func partings() []change[impl.Class] {
	return []change[impl.Class]{
		{"name", func(c *impl.Class) { c.Name = "B" }, true},
		{"super", func(c *impl.Class) { c.Super = "B" }, true},
		{"one field less", func(c *impl.Class) { c.Fields = c.Fields[:1] }, true},
		{"one field more", func(c *impl.Class) { c.Fields = append(c.Fields, impl.Field{Name: "c", Type: "I"}) }, true},
		{"no fields", func(c *impl.Class) { c.Fields = nil }, true},
		{"the fields' order", func(c *impl.Class) { slices.Reverse(c.Fields) }, true},
		{"a field's name", func(c *impl.Class) { c.Fields[1].Name = "B" }, true},
		{"a field's type", func(c *impl.Class) { c.Fields[1].Type = "LA;" }, true},
		{"a field's static", func(c *impl.Class) { c.Fields[1].Static = false }, true},
		{"one method less", func(c *impl.Class) { c.Methods = c.Methods[:2] }, true},
		{"one method more", func(c *impl.Class) { c.Methods = append(c.Methods, plainMethod()); c.Methods[3].Name = "z" }, true},
		{"no methods", func(c *impl.Class) { c.Methods = nil }, true},
		{"the methods' order", func(c *impl.Class) { slices.Reverse(c.Methods) }, true},
		{"a method's name", func(c *impl.Class) { c.Methods[2].Name = "g" }, true},
		{"a method's desc", func(c *impl.Class) { c.Methods[2].Desc = "(I)V" }, true},
		{"a method's static", func(c *impl.Class) { c.Methods[2].Static = false }, true},
		{"a method's final", func(c *impl.Class) { c.Methods[2].Final = false }, true},
		{"a method's stack", func(c *impl.Class) { c.Methods[2].Stack = 3 }, true},
		{"a method's locals", func(c *impl.Class) { c.Methods[2].Locals = 2 }, true},
		{"an instruction less", func(c *impl.Class) { c.Methods[0].Code = nops(2) }, true},
		{"an instruction more", func(c *impl.Class) { c.Methods[2].Code = append(c.Methods[2].Code, impl.Ins{Op: 26}) }, true},
		{"an op", func(c *impl.Class) { c.Methods[2].Code[6].Op = 29 }, true},
		{"a number", func(c *impl.Class) { c.Methods[2].Code[0].A = -6 }, true},
		{"a target", func(c *impl.Class) { c.Methods[2].Code[1].A = 3 }, true},
		{"an instruction's class", func(c *impl.Class) { c.Methods[2].Code[2].Class = "C" }, true},
		{"an instruction's name", func(c *impl.Class) { c.Methods[2].Code[3].Name = "d" }, true},
		{"an instruction's desc", func(c *impl.Class) { c.Methods[2].Code[4].Desc = "()I" }, true},
		{"an item's type", func(c *impl.Class) { c.Methods[2].Code[5].Desc = "LB;" }, true},
		{"a handler less", func(c *impl.Class) { c.Methods[2].Handlers = c.Methods[2].Handlers[:1] }, true},
		{"a handler's from", func(c *impl.Class) { c.Methods[2].Handlers[1].From = 0 }, true},
		{"a handler's to", func(c *impl.Class) { c.Methods[2].Handlers[1].To = 6 }, true},
		{"a handler's at", func(c *impl.Class) { c.Methods[2].Handlers[1].At = 5 }, true},
		{"a handler's class", func(c *impl.Class) { c.Methods[2].Handlers[1].Class = "E" }, true},
		{"the handlers' order", func(c *impl.Class) { slices.Reverse(c.Methods[2].Handlers) }, true},
	}
}

func TestClassesThatPartInOnePlace(t *testing.T) {
	all := []impl.Class{fullClass()}
	what := []string{"no change"}
	for _, parting := range partings() {
		c := fullClass()
		parting.do(&c)
		if !impl.ClassRight(c) {
			t.Fatalf("%s: not right", parting.what)
		}
		all = append(all, c)
		what = append(what, parting.what)
	}
	for i, a := range all {
		for j, b := range all {
			if got := impl.ClassSame(a, b); got != reflect.DeepEqual(a, b) {
				t.Errorf("%s, %s: same %v", what[i], what[j], got)
			}
			if reflect.DeepEqual(a, b) != (i == j) {
				t.Errorf("%s, %s: the test's classes are one", what[i], what[j])
			}
		}
	}
}

// Flags that a full class cannot have are looked at in ones that have little in them.
func TestClassesThatPartInAFlag(t *testing.T) {
	plain := impl.Class{Name: "A", Super: "B"}
	final := impl.Class{Name: "A", Super: "B", Final: true}
	abstract := impl.Class{Name: "A", Super: "B", Abstract: true}
	for i, a := range []impl.Class{plain, final, abstract} {
		for j, b := range []impl.Class{plain, final, abstract} {
			if got := impl.ClassSame(a, b); got != (i == j) {
				t.Errorf("%+v, %+v: same %v", a, b, got)
			}
		}
	}
	with, without := abstract, abstract
	with.Methods = []impl.Method{{Name: "f", Desc: "()V", Abstract: true}}
	without.Methods = []impl.Method{{Name: "f", Desc: "()V", Locals: 1, Code: []impl.Ins{{Op: 26}}}}
	if impl.ClassSame(with, without) || impl.ClassSame(without, with) {
		t.Errorf("an abstract method is the same as one that is not")
	}
}

func TestAnEmptyListAndNoneAreTheSameInClasses(t *testing.T) {
	none, empty := fullClass(), fullClass()
	none.Fields, empty.Fields = nil, []impl.Field{}
	none.Methods[0].Handlers, empty.Methods[0].Handlers = nil, []impl.Handler{}
	none.Methods[1].Code, empty.Methods[1].Code = nil, []impl.Ins{}
	if !impl.ClassSame(none, empty) || !impl.ClassSame(empty, none) {
		t.Errorf("not the same")
	}
	bare := impl.Class{Name: "A", Super: "B"}
	listed := impl.Class{Name: "A", Super: "B", Fields: []impl.Field{}, Methods: []impl.Method{}}
	if !impl.ClassSame(bare, listed) || !impl.ClassSame(listed, bare) {
		t.Errorf("bare ones are not the same")
	}
}

func TestWrongClassesAreTheSameAsNone(t *testing.T) {
	wrong := fullClass()
	wrong.Methods[2].Stack = -1
	for _, c := range []impl.Class{{}, {Name: "A"}, {Name: "A", Super: "A"}, wrong} {
		if impl.ClassSame(c, c) || impl.ClassSame(c, fullClass()) || impl.ClassSame(fullClass(), c) {
			t.Errorf("%+v is the same as something", c)
		}
	}
}

func TestClassesAreNotChanged(t *testing.T) {
	c, d := fullClass(), fullClass()
	impl.ClassRight(c)
	impl.ClassSame(c, d)
	for _, m := range c.Methods {
		impl.MethodRight(m)
	}
	if !reflect.DeepEqual(c, fullClass()) || !reflect.DeepEqual(d, fullClass()) {
		t.Errorf("changed: %+v, %+v", c, d)
	}
}
