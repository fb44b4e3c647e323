package tests

import (
	"math"
	"math/rand/v2"
	"slices"
	"strconv"
	"strings"
	"testing"

	"loop.example/g00175/impl"
)

// flowTold: a world in which instructions find all that they can name. The methods looked at stand in M, behind its own.
const flowTold = "class S Object abstract, field a I, field n LM;, field q [LS;, field c I static, field d LM; static, " +
	"method up (I)I, method open ()V abstract, method still (I)I static, method go ()V, method <init> ()V, method <init> (I[I)V, " +
	"class M S, field a [I, field e LS; static, method open ()V, method mine ()LM;, method <init> (LM;)V, " +
	"class N M, class O Object, field o I, method up (I)I, method still (I)I static, method <init> ()V, class E Error, method <init> ()V"

// The places of M, and of the method behind its own.
const (
	inM    = 1
	behind = 3
)

// insOf: an instruction told by its text.
func insOf(t *testing.T, told string) impl.Ins {
	t.Helper()
	words := strings.Fields(told)
	ops := toldOps(t)
	at := slices.IndexFunc(ops, func(o toldOp) bool { return o.name == words[0] })
	i := impl.Ins{Op: ops[at].op}
	switch ops[at].form {
	case "n", "i", "t":
		i.A, _ = strconv.ParseInt(words[1], 10, 64)
	case "c":
		i.Class = words[1]
	case "y":
		i.Desc = words[1]
	case "f", "m":
		i.Class, i.Name, i.Desc = words[1], words[2], words[3]
	}
	if !impl.InsRight(i) {
		t.Fatalf("%s is no instruction", told)
	}
	return i
}

// methodOf: a method told by what it is (static, plain, init) and its Desc, with that code.
func methodOf(told string, stack, locals int64, code ...impl.Ins) impl.Method {
	words := strings.Fields(told)
	m := impl.Method{Name: "t", Desc: words[1], Static: words[0] == "static", Stack: stack, Locals: locals, Code: code}
	if words[0] == "init" {
		m.Name = "<init>"
	}
	return m
}

// flowWorld: the world, with that method.
func flowWorld(m impl.Method) []impl.Class {
	list := worldOf(flowTold)
	list[inM].Methods = append(list[inM].Methods, m)
	return list
}

func codeNamed(told string) (int64, bool) {
	codes := map[string]int64{
		"ErrForm": impl.ErrForm, "ErrName": impl.ErrName, "ErrNone": impl.ErrNone, "ErrType": impl.ErrType,
		"ErrStack": impl.ErrStack, "ErrFlow": impl.ErrFlow, "ErrAccess": impl.ErrAccess,
	}
	code, there := codes[told]
	return code, there
}

// wideFrame: a frame told, with top behind its locals up to so many.
func wideFrame(told string, locals int) impl.Frame {
	f := frameOf(told)
	for len(f.Locals) < locals {
		f.Locals = append(f.Locals, typeOf("top"))
	}
	return f
}

// insCase: an instruction on a frame, and the frame behind it, or the code that refuses it.
type insCase struct {
	ins    string
	before string
	after  string
}

// The instructions looked at stand in a method with a Stack of 4 and 3 Locals, two of its own code ahead and one behind.
const (
	caseStack  = 4
	caseLocals = 3
	caseAt     = 2
)

func checkCases(t *testing.T, method string, cases []insCase) {
	t.Helper()
	for _, c := range cases {
		end := insOf(t, "return")
		i := insOf(t, c.ins)
		list := flowWorld(methodOf(method, caseStack, caseLocals, end, end, i, end))
		if out := impl.WorldCheck(list); out.Code != impl.OK {
			t.Fatalf("the world is not right: %+v", out)
		}
		want := impl.FrameOut{}
		if code, refused := codeNamed(c.after); refused {
			want.Code = code
		} else {
			want.Frame = wideFrame(c.after, caseLocals)
		}
		checkStep(t, method+": "+c.ins+" on "+c.before, list, i, wideFrame(c.before, caseLocals), want)
	}
}

// checkStep: one instruction at its place, in this world and in ones that are not right, and that all is left as it was.
func checkStep(t *testing.T, what string, list []impl.Class, i impl.Ins, f impl.Frame, want impl.FrameOut) {
	t.Helper()
	var wholeStack, wholeLocals []impl.Type
	f.Stack, wholeStack = withRest(f.Stack)
	f.Locals, wholeLocals = withRest(f.Locals)
	before := shown([]any{list, wholeStack, wholeLocals})
	same(t, nil, what, impl.FlowEffect(list, inM, behind, caseAt, f), want)
	flow := impl.FlowOut{Code: want.Code}
	if want.Code == impl.OK && !strings.Contains(" goto return ireturn areturn throw ", " "+impl.OpName(i.Op)+" ") {
		flow.Next, flow.Frames = append(flow.Next, caseAt+1), append(flow.Frames, want.Frame)
	}
	if want.Code == impl.OK && impl.OpForm(i.Op) == "t" {
		flow.Next, flow.Frames = append(flow.Next, i.A), append(flow.Frames, want.Frame)
	}
	same(t, nil, what+", the ways on", impl.Flow(list, inM, behind, caseAt, f), flow)
	same(t, nil, what+", what is handed in", shown([]any{list, wholeStack, wholeLocals}), before)
	wrong := append(slices.Clone(list), impl.Class{Name: "W", Super: "Zed"})
	checkNoStep(t, what+", in a wrong world", wrong, inM, behind, caseAt, f, impl.ErrForm)
	checkNoStep(t, what+", in a long list", slices.Repeat(list, impl.MaxList), inM, behind, caseAt, f, impl.ErrSize)
}

func checkNoStep(t *testing.T, what string, list []impl.Class, class, method, at int64, f impl.Frame, code int64) {
	t.Helper()
	same(t, nil, what, impl.FlowEffect(list, class, method, at, f), impl.FrameOut{Code: code})
	same(t, nil, what+", the ways on", impl.Flow(list, class, method, at, f), impl.FlowOut{Code: code})
}

func TestStepsOfConstAndNull(t *testing.T) {
	checkCases(t, "static ()V", []insCase{
		{"const 7", "|", "int |"},
		{"const -2147483648", "top, this | int, null", "top, this, int | int, null"},
		{"const 0", "int, int, int |", "int, int, int, int |"},
		{"const 0", "int, int, int, int |", "ErrStack"},
		{"null", "|", "null |"},
		{"null", "new O 2, int, top | ints", "new O 2, int, top, null | ints"},
		{"null", "null, null, null, null |", "ErrStack"},
	})
}

func TestStepsOfLocals(t *testing.T) {
	for _, told := range []string{"int", "null", "ref O", "ints", "refs O", "new O 2", "this"} {
		checkCases(t, "static ()V", []insCase{
			{"load 0", "top | " + told, "top, " + told + " | " + told},
			{"load 2", "| int, top, " + told, told + " | int, top, " + told},
			{"store 0", told + " | int", "| " + told},
			{"store 2", "int, " + told + " | int, " + told + ", null", "int | int, " + told + ", " + told},
		})
	}
	checkCases(t, "static ()V", []insCase{
		{"load 0", "|", "ErrType"},
		{"load 1", "int | int, top, int", "ErrType"},
		{"load 3", "| int, int, int", "ErrType"},
		{"load 15", "int, int, int | int, int, int", "ErrType"},
		{"load 2", "int, int, int, int | int, int, int", "ErrStack"},
		// A local that can't be loaded is named ahead of the Stack that is full.
		{"load 3", "int, int, int, int | int, int, int", "ErrType"},
		{"load 1", "int, int, int, int | int, top, int", "ErrType"},
		{"store 1", "top | int, int, int", "| int, top, int"},
		{"store 3", "int | int, int, int", "ErrType"},
		{"store 15", "int, int | int", "ErrType"},
		{"store 0", "|", "ErrStack"},
		{"store 3", "|", "ErrStack"},
	})
}

// Local 0 may be written over everywhere but in a constructor.
func TestStepsThatStoreToTheFirstLocal(t *testing.T) {
	checkCases(t, "plain ()V", []insCase{{"store 0", "int | ref M", "| int"}, {"store 0", "ref N | ref M, int", "| ref N, int"}})
	checkCases(t, "static (LM;)V", []insCase{{"store 0", "null | ref M", "| null"}})
	checkCases(t, "init ()V", []insCase{
		{"store 0", "int | this", "ErrAccess"},
		{"store 0", "ref M | ref M", "ErrAccess"},
		{"store 0", "this | this", "ErrAccess"},
		{"store 0", "top |", "ErrAccess"},
		{"store 0", "| this", "ErrStack"},
		{"store 1", "int | this", "| this, int"},
		{"store 2", "this | this", "| this, top, this"},
		{"store 3", "int | this", "ErrType"},
		{"store 3", "| this", "ErrStack"},
		{"load 0", "| this", "this | this"},
	})
}

func TestStepsThatMoveTypes(t *testing.T) {
	for _, told := range []string{"top", "int", "null", "ref O", "ints", "refs O", "new O 2", "this"} {
		checkCases(t, "static ()V", []insCase{
			{"pop", told + " |", "|"},
			{"pop", "int, null, top, " + told + " |", "int, null, top |"},
			{"dup", told + " |", told + ", " + told + " |"},
			{"dup", "int, null, " + told + " | this", "int, null, " + told + ", " + told + " | this"},
			{"swap", told + ", int |", "int, " + told + " |"},
			{"swap", "null, top, int, " + told + " |", "null, top, " + told + ", int |"},
			{"dup2", told + ", int |", told + ", int, " + told + ", int |"},
			{"dup2", "null, " + told + " | int", "null, " + told + ", null, " + told + " | int"},
		})
	}
	checkCases(t, "static ()V", []insCase{
		{"pop", "|", "ErrStack"},
		{"dup", "| int", "ErrStack"},
		{"dup", "int, int, int, int |", "ErrStack"},
		{"swap", "|", "ErrStack"},
		{"swap", "int |", "ErrStack"},
		{"dup2", "|", "ErrStack"},
		{"dup2", "int |", "ErrStack"},
		{"dup2", "int, null, int |", "ErrStack"},
		{"dup2", "int, null, int, null |", "ErrStack"},
	})
}

// noInts, noObjects: types that stand for all that are none.
func noInts() []string {
	return []string{"top", "null", "ref M", "ints", "refs M", "new M 2", "this"}
}

func noObjects() []string {
	return []string{"top", "int", "new M 2", "this"}
}

func objects() []string {
	return []string{"null", "ref M", "ref Object", "ref E", "ints", "refs M", "refs Object"}
}

func TestStepsThatReckon(t *testing.T) {
	for _, name := range strings.Fields("add sub mul div rem and or xor shl shr ushr") {
		checkCases(t, "static ()V", []insCase{
			{name, "int, int |", "int |"},
			{name, "null, this, int, int | int, top, int", "null, this, int | int, top, int"},
			{name, "|", "ErrStack"},
			{name, "int |", "ErrStack"},
			{name, "null |", "ErrStack"},
		})
		for _, other := range noInts() {
			checkCases(t, "static ()V", []insCase{{name, "int, " + other + " |", "ErrType"}, {name, "int, " + other + ", int |", "ErrType"}})
		}
	}
}

func TestStepsThatJump(t *testing.T) {
	for _, to := range []string{" 0", " 2", " 3"} {
		checkCases(t, "static ()V", []insCase{
			{"goto" + to, "|", "|"},
			{"goto" + to, "int, top, this, new O 2 | null, int", "int, top, this, new O 2 | null, int"},
			{"ifeq" + to, "int | int", "| int"},
			{"iflt" + to, "top, int |", "top |"},
			{"ifsame" + to, "int, int |", "|"},
			{"ifless" + to, "null, int, int, int |", "null, int |"},
			{"ifnull" + to, "int, null | this", "int | this"},
			{"ifis" + to, "null, null |", "|"},
			{"ifeq" + to, "|", "ErrStack"}, {"iflt" + to, "|", "ErrStack"}, {"ifnull" + to, "|", "ErrStack"},
			{"ifsame" + to, "int |", "ErrStack"}, {"ifless" + to, "null |", "ErrStack"}, {"ifis" + to, "int |", "ErrStack"},
			{"ifsame" + to, "|", "ErrStack"}, {"ifless" + to, "|", "ErrStack"}, {"ifis" + to, "|", "ErrStack"},
		})
	}
	for _, other := range noInts() {
		checkCases(t, "static ()V", []insCase{
			{"ifeq 1", other + " |", "ErrType"}, {"iflt 1", "int, " + other + " |", "ErrType"},
			{"ifsame 1", "int, " + other + " |", "ErrType"}, {"ifsame 1", other + ", int |", "ErrType"},
			{"ifless 1", "int, " + other + " |", "ErrType"}, {"ifless 1", other + ", int |", "ErrType"},
		})
	}
	for _, object := range objects() {
		checkCases(t, "static ()V", []insCase{
			{"ifnull 1", object + " |", "|"}, {"ifis 1", "null, " + object + " |", "|"}, {"ifis 1", object + ", ints |", "|"},
		})
	}
	for _, other := range noObjects() {
		checkCases(t, "static ()V", []insCase{
			{"ifnull 1", other + " |", "ErrType"}, {"ifis 1", "null, " + other + " |", "ErrType"}, {"ifis 1", other + ", null |", "ErrType"},
		})
	}
}

func TestStepsThatReturn(t *testing.T) {
	for _, kind := range []string{"static ", "plain "} {
		checkCases(t, kind+"()V", []insCase{
			{"return", "|", "|"}, {"return", "int, this | this, int", "int, this | this, int"},
			{"ireturn", "int |", "ErrFlow"}, {"ireturn", "null |", "ErrFlow"}, {"ireturn", "|", "ErrStack"},
			{"areturn", "null |", "ErrFlow"}, {"areturn", "int |", "ErrFlow"}, {"areturn", "|", "ErrStack"},
		})
		checkCases(t, kind+"()I", []insCase{
			{"return", "|", "ErrFlow"}, {"ireturn", "int |", "|"}, {"ireturn", "null, int | null", "null | null"}, {"ireturn", "|", "ErrStack"},
			{"areturn", "null |", "ErrFlow"}, {"areturn", "int |", "ErrFlow"}, {"areturn", "|", "ErrStack"},
		})
		for _, other := range noInts() {
			checkCases(t, kind+"()I", []insCase{{"ireturn", "int, " + other + " |", "ErrType"}})
		}
		for _, result := range []string{"LM;", "LObject;", "[I", "[LM;"} {
			checkCases(t, kind+"()"+result, []insCase{
				{"return", "|", "ErrFlow"}, {"ireturn", "int |", "ErrFlow"}, {"ireturn", "|", "ErrStack"},
				{"areturn", "null |", "|"}, {"areturn", "int, null | int", "int | int"}, {"areturn", "|", "ErrStack"},
			})
			for _, other := range noObjects() {
				checkCases(t, kind+"()"+result, []insCase{{"areturn", other + " |", "ErrType"}})
			}
		}
	}
	for result, told := range map[string]string{"LM;": "ref M, ref N", "LS;": "ref S, ref M, ref N", "LObject;": "ref O, ints, refs M, ref Object", "[I": "ints", "[LM;": "refs M, refs N", "[LObject;": "refs M, refs N, refs Object"} {
		for _, one := range []string{"ref M", "ref N", "ref S", "ref O", "ref Object", "ints", "refs M", "refs N", "refs Object"} {
			after := "ErrType"
			if slices.Contains(strings.Split(told, ", "), one) || result == "LObject;" {
				after = "int |"
			}
			checkCases(t, "static ()"+result, []insCase{{"areturn", "int, " + one + " |", after}})
		}
	}
}

// A constructor returns only when the object that it was called on is one of its class.
func TestStepsThatReturnFromAConstructor(t *testing.T) {
	checkCases(t, "init ()V", []insCase{
		{"return", "| ref M", "| ref M"},
		{"return", "int, this | ref M, this", "int, this | ref M, this"},
		{"return", "| this", "ErrType"},
		{"return", "|", "ErrType"},
		{"return", "| int", "ErrType"},
		{"return", "| null", "ErrType"},
		{"return", "| ref S", "ErrType"},
		{"return", "| ref Object", "ErrType"},
		{"return", "| refs M", "ErrType"},
		{"return", "| new M 2, ref M", "ErrType"},
		// Of its class is not one that stands on it.
		{"return", "| ref N", "ErrType"},
		{"ireturn", "int | ref M", "ErrFlow"},
		{"areturn", "null | ref M", "ErrFlow"},
	})
}

func TestStepsThatThrow(t *testing.T) {
	checkCases(t, "static ()V", []insCase{
		{"throw", "ref Error |", "|"}, {"throw", "ref E |", "|"}, {"throw", "ref DeepError |", "|"}, {"throw", "null |", "|"},
		{"throw", "int, top, ref NullError | int", "int, top | int"},
		{"throw", "ref Object |", "ErrType"}, {"throw", "ref M |", "ErrType"}, {"throw", "ints |", "ErrType"}, {"throw", "refs Error |", "ErrType"},
		{"throw", "int |", "ErrType"}, {"throw", "top |", "ErrType"}, {"throw", "new Error 2 |", "ErrType"}, {"throw", "this |", "ErrType"},
		{"throw", "|", "ErrStack"},
	})
	checkCases(t, "init ()V", []insCase{{"throw", "null | this", "| this"}, {"throw", "ref Error | this", "| this"}})
}

func TestStepsOfNew(t *testing.T) {
	checkCases(t, "static ()V", []insCase{
		{"new O", "|", "new O 2 |"},
		{"new Object", "|", "new Object 2 |"},
		{"new DeepError", "int |", "int, new DeepError 2 |"},
		{"new M", "this, new O 1, top | ref M, int, this", "this, new O 1, top, new M 2 | ref M, int, this"},
		{"new Zed", "|", "ErrName"},
		{"new S", "|", "ErrAccess"},
		{"new O", "new O 2 |", "ErrType"},
		{"new O", "new O 2, int, int |", "ErrType"},
		{"new O", "int, int, int, int |", "ErrStack"},
		// The order: the Class, whether it is Abstract, the Stack as it is, and its height.
		{"new Zed", "int, int, int, int |", "ErrName"},
		{"new S", "int, int, int, int |", "ErrAccess"},
		{"new S", "new S 2 |", "ErrAccess"},
		{"new O", "int, new O 2, int, int |", "ErrType"},
		// Just this new type: not one of another place, and not of another class.
		{"new O", "new O 1, new O 3, new M 2 |", "new O 1, new O 3, new M 2, new O 2 |"},
		{"new O", "| new O 2", "new O 2 | top"},
		{"new O", "| new O 2, int, new O 2", "new O 2 | top, int, top"},
		{"new O", "| new O 1, new M 2, new O 3", "new O 2 | new O 1, new M 2, new O 3"},
		{"new O", "| ref O, this, refs O", "new O 2 | ref O, this, refs O"},
		{"new O", "new O 2 | new O 2", "ErrType"},
	})
}

func TestStepsOfFields(t *testing.T) {
	checkCases(t, "static ()V", []insCase{
		{"getfield S a I", "ref S |", "int |"},
		{"getfield M a I", "int, ref M |", "int, int |"},
		{"getfield M a [I", "null, int, top, ref N | this", "null, int, top, ints | this"},
		{"getfield N n LM;", "null |", "ref M |"},
		{"getfield M q [LS;", "ref M |", "refs S |"},
		{"getfield S a I", "ref N |", "int |"},
		{"putfield S a I", "ref M, int |", "|"},
		{"putfield M n LM;", "top, ref N, ref N | int", "top | int"},
		{"putfield M n LM;", "null, null |", "|"},
		{"putfield N q [LS;", "ref N, refs M |", "|"},
		{"putfield M a [I", "ref M, ints |", "|"},
	})
	for _, op := range []string{"getfield", "putfield"} {
		two := map[string]string{"getfield": "", "putfield": ", int"}[op]
		checkCases(t, "static ()V", []insCase{
			{op + " Zed a I", "ref S" + two + " |", "ErrName"},
			{op + " S b I", "ref S" + two + " |", "ErrNone"},
			{op + " S a [I", "ref S" + two + " |", "ErrNone"},
			{op + " S n LS;", "ref S" + two + " |", "ErrNone"},
			{op + " S n LZed;", "ref S" + two + " |", "ErrNone"},
			{op + " O a I", "ref O" + two + " |", "ErrNone"},
			{op + " Object a I", "ref O" + two + " |", "ErrNone"},
			{op + " S c I", "ref S" + two + " |", "ErrAccess"},
			{op + " M c I", "ref S" + two + " |", "ErrAccess"},
			{op + " M e LS;", "null" + two + " |", "ErrAccess"},
			{op + " M a I", "ref S" + two + " |", "ErrType"},
			{op + " M a I", "ref O" + two + " |", "ErrType"},
			{op + " M a I", "refs M" + two + " |", "ErrType"},
			{op + " S a I", "ref Object" + two + " |", "ErrType"},
			{op + " S a I", "new M 2" + two + " |", "ErrType"},
			{op + " M a I", "this" + two + " |", "ErrType"},
			{op + " M a I", "int" + two + " |", "ErrType"},
			{op + " M a I", "top" + two + " |", "ErrType"},
			{op + " S a I", "|", "ErrStack"},
			{op + " Zed a I", "|", "ErrStack"},
			// The order, where several are wrong.
			{op + " Zed a I", "int" + two + " |", "ErrName"},
			{op + " S b I", "int" + two + " |", "ErrNone"},
			{op + " S c I", "int" + two + " |", "ErrAccess"},
		})
	}
	checkCases(t, "static ()V", []insCase{
		{"putfield S a I", "int |", "ErrStack"},
		{"putfield S a I", "ref S |", "ErrStack"},
		{"putfield S a I", "ref S, null |", "ErrType"},
		{"putfield M n LM;", "ref M, ref S |", "ErrType"},
		{"putfield M n LM;", "ref M, this |", "ErrType"},
		{"putfield M n LM;", "ref M, new M 2 |", "ErrType"},
		{"putfield M n LM;", "ref M, top |", "ErrType"},
		{"putfield M q [LS;", "ref M, refs Object |", "ErrType"},
		{"putfield M a [I", "ref M, refs M |", "ErrType"},
		{"putfield M n LM;", "ref S, ref M |", "ErrType"},
		{"putfield M c I", "ref M, null |", "ErrAccess"},
	})
}

func TestStepsOfStaticFields(t *testing.T) {
	checkCases(t, "static ()V", []insCase{
		{"getstatic S c I", "|", "int |"},
		{"getstatic N c I", "this | int", "this, int | int"},
		{"getstatic S d LM;", "|", "ref M |"},
		{"getstatic M e LS;", "int, int, int |", "int, int, int, ref S |"},
		{"getstatic S c I", "int, int, int, int |", "ErrStack"},
		{"getstatic Zed c I", "int, int, int, int |", "ErrName"},
		{"getstatic S z I", "int, int, int, int |", "ErrNone"},
		{"getstatic S a I", "int, int, int, int |", "ErrAccess"},
		{"putstatic S c I", "int |", "|"},
		{"putstatic N c I", "int, int | int", "int | int"},
		{"putstatic M d LM;", "ref N |", "|"},
		{"putstatic M e LS;", "null |", "|"},
		{"putstatic S c I", "|", "ErrStack"},
		{"putstatic Zed c I", "|", "ErrStack"},
		{"putstatic S c I", "null |", "ErrType"},
		{"putstatic S d LM;", "ref S |", "ErrType"},
		{"putstatic S d LM;", "this |", "ErrType"},
		{"putstatic S d LM;", "new M 2 |", "ErrType"},
		{"putstatic S d LM;", "top |", "ErrType"},
	})
	for _, op := range []string{"getstatic", "putstatic"} {
		for _, one := range []string{"int |", "null |"} {
			checkCases(t, "static ()V", []insCase{
				{op + " Zed c I", one, "ErrName"},
				{op + " S z I", one, "ErrNone"},
				{op + " S c [I", one, "ErrNone"},
				{op + " O c I", one, "ErrNone"},
				{op + " S e LS;", one, "ErrNone"},
				{op + " S a I", one, "ErrAccess"},
				{op + " N a [I", one, "ErrAccess"},
			})
		}
	}
}

func TestStepsOfCalls(t *testing.T) {
	checkCases(t, "static ()V", []insCase{
		{"call S up (I)I", "ref S, int |", "int |"},
		{"call N up (I)I", "top, null, int | this", "top, int | this"},
		{"call S up (I)I", "int, ref N, int |", "int, int |"},
		{"call S open ()V", "ref M |", "|"},
		{"call M open ()V", "ref M |", "|"},
		{"call M mine ()LM;", "int, int, int, ref N |", "int, int, int, ref M |"},
		{"call S go ()V", "int, ref S | int", "int | int"},
		{"call S <init> ()V", "ref S |", "ErrAccess"},
		{"call S <init> ()V", "new S 2 |", "ErrAccess"},
		{"call Zed <init> ()V", "ref S |", "ErrAccess"},
		{"call Zed up (I)I", "ref S, int |", "ErrName"},
		{"call Zed up (I)I", "int, int |", "ErrName"},
		{"call S up ()I", "ref S |", "ErrNone"},
		{"call S none (I)I", "int, int |", "ErrNone"},
		{"call S mine ()LM;", "ref S |", "ErrNone"},
		{"call Object up (I)I", "ref S, int |", "ErrNone"},
		{"call S still (I)I", "ref S, int |", "ErrAccess"},
		{"call M still (I)I", "int, null |", "ErrAccess"},
		{"call M up (I)I", "ref S, int |", "ErrType"},
		{"call M up (I)I", "this, int |", "ErrType"},
		{"call M up (I)I", "new M 2, int |", "ErrType"},
		{"call M up (I)I", "top, int |", "ErrType"},
		{"call M up (I)I", "refs M, int |", "ErrType"},
		{"call M up (I)I", "ref M, null |", "ErrType"},
		{"call M up (I)I", "ref M, top |", "ErrType"},
		{"call M up (I)I", "int |", "ErrStack"},
		{"call M up (I)I", "|", "ErrStack"},
		{"call M mine ()LM;", "|", "ErrStack"},
		{"call S <init> ()V", "|", "ErrStack"},
		{"call Zed up (I)I", "int |", "ErrStack"},
		{"callstatic S still (I)I", "int |", "int |"},
		{"callstatic N still (I)I", "null, int | this", "null, int | this"},
		{"callstatic O still (I)I", "int, int |", "int, int |"},
		{"callstatic S <init> ()V", "|", "ErrAccess"},
		{"callstatic Zed <init> ()V", "|", "ErrAccess"},
		{"callstatic Zed still (I)I", "null |", "ErrName"},
		{"callstatic S still ()I", "|", "ErrNone"},
		{"callstatic E still (I)I", "null |", "ErrNone"},
		{"callstatic S up (I)I", "null |", "ErrAccess"},
		{"callstatic S open ()V", "|", "ErrAccess"},
		{"callstatic M mine ()LM;", "int, int, int, int |", "ErrAccess"},
		{"callstatic S still (I)I", "null |", "ErrType"},
		{"callstatic S still (I)I", "int, top |", "ErrType"},
		{"callstatic S still (I)I", "|", "ErrStack"},
		{"callstatic Zed still (I)I", "|", "ErrStack"},
	})
}

// callWorld: the tested method, and others of many Params and of each result.
func callWorld(m impl.Method) []impl.Class {
	list := flowWorld(m)
	for _, desc := range []string{"(I[ILM;[LM;LS;I[LS;LObject;)V", "()I", "()[I", "()LS;", "()[LS;", "()V"} {
		list[inM-1].Methods = append(list[inM-1].Methods[:2:2], append([]impl.Method{{Name: "k", Desc: desc, Static: true, Locals: 8, Code: m.Code[:1]}}, list[inM-1].Methods[2:]...)...)
	}
	list[inM-1].Methods = slices.DeleteFunc(list[inM-1].Methods, func(m impl.Method) bool { return m.Name == "go" || m.Name == "<init>" })
	return list
}

// Each Param is asked for at its own place, and a Result is one more on the Stack.
func TestStepsOfCallsByParamsAndResults(t *testing.T) {
	end := insOf(t, "return")
	code := []impl.Ins{end, end, insOf(t, "callstatic S k (I[ILM;[LM;LS;I[LS;LObject;)V"), end}
	list := callWorld(methodOf("static ()V", 9, 0, code...))
	right := typesOf("int, ints, ref N, refs N, ref M, int, refs M, refs M")
	want := impl.FrameOut{Frame: impl.Frame{Stack: typesOf("null")}}
	checkStep(t, "all", list, code[2], impl.Frame{Stack: append(typesOf("null"), right...)}, want)
	checkStep(t, "too few", list, code[2], impl.Frame{Stack: right[1:]}, refusedFrame(impl.ErrStack))
	for place := range right {
		wrong := append(typesOf("null"), right...)
		wrong[place+1] = typeOf("top")
		checkStep(t, "one", list, code[2], impl.Frame{Stack: wrong}, refusedFrame(impl.ErrType))
	}
	for result, told := range map[string]string{"I": "int", "[I": "ints", "LS;": "ref S", "[LS;": "refs S", "V": ""} {
		code[2] = insOf(t, "callstatic N k ()"+result)
		list := callWorld(methodOf("static ()V", 2, 0, code...))
		if told == "" {
			checkStep(t, result, list, code[2], frameOf("int, null |"), frameOut("int, null |"))
			continue
		}
		checkStep(t, result, list, code[2], frameOf("|"), frameOut(told+" |"))
		checkStep(t, result, list, code[2], frameOf("this |"), frameOut("this, "+told+" |"))
		checkStep(t, result, list, code[2], frameOf("int, int |"), refusedFrame(impl.ErrStack))
	}
}

func TestStepsOfConstructorsCalled(t *testing.T) {
	for _, method := range []string{"static ()V", "plain ()V", "init ()V"} {
		checkCases(t, method, []insCase{
			{"callspecial O <init> ()V", "new O 2 |", "|"},
			{"callspecial O <init> ()V", "new O 0, new O 1, new O 1 | new O 1, new O 0, new M 1", "new O 0, ref O | ref O, new O 0, new M 1"},
			{"callspecial O <init> ()V", "new O 2, this, new O 2 | new O 2, top, new O 2", "ref O, this | ref O, top, ref O"},
			{"callspecial S <init> (I[I)V", "new S 3, int, ints |", "|"},
			{"callspecial S <init> (I[I)V", "new S 3, new S 3, int, null | new S 3", "ref S | ref S"},
			{"callspecial DeepError <init> ()V", "new DeepError 59 |", "|"},
			{"callspecial Object <init> ()V", "new Object 2 |", "|"},
			// this is one of the Method's Class, whether its own constructor is called or its Super's.
			{"callspecial S <init> ()V", "this |", "|"},
			{"callspecial S <init> ()V", "this, this | this, new S 2, this", "ref M | ref M, new S 2, ref M"},
			{"callspecial M <init> (LM;)V", "this, ref N | this", "| ref M"},
			{"callspecial M <init> (LM;)V", "int, this, null | this, int, this", "int | ref M, int, ref M"},
			{"callspecial Zed <init> ()V", "new O 2 |", "ErrName"},
			{"callspecial N <init> ()V", "new N 2 |", "ErrNone"},
			{"callspecial O <init> (I)V", "new O 2, int |", "ErrNone"},
			{"callspecial M <init> ()I", "new M 2 |", "ErrNone"},
			{"callspecial DeepError <init> (I)V", "null, int |", "ErrNone"},
			{"callspecial O <init> ()V", "new M 2 |", "ErrType"},
			{"callspecial S <init> ()V", "new M 2 |", "ErrType"},
			{"callspecial O <init> ()V", "ref O |", "ErrType"},
			{"callspecial O <init> ()V", "null |", "ErrType"},
			{"callspecial O <init> ()V", "top |", "ErrType"},
			{"callspecial O <init> ()V", "int |", "ErrType"},
			{"callspecial O <init> ()V", "this | this", "ErrType"},
			{"callspecial E <init> ()V", "this |", "ErrType"},
			{"callspecial Object <init> ()V", "this |", "ErrType"},
			{"callspecial M <init> (LM;)V", "ref M, null |", "ErrType"},
			{"callspecial M <init> (LM;)V", "this, this |", "ErrType"},
			{"callspecial M <init> (LM;)V", "new M 2, new M 2 |", "ErrType"},
			{"callspecial M <init> (LM;)V", "this, ref S |", "ErrType"},
			{"callspecial S <init> (I[I)V", "new S 2, ints, int |", "ErrType"},
			{"callspecial O <init> ()V", "| this", "ErrStack"},
			{"callspecial M <init> (LM;)V", "this |", "ErrStack"},
			{"callspecial Zed <init> ()V", "|", "ErrStack"},
			// The order, where several are wrong.
			{"callspecial Zed <init> (I)V", "null, null |", "ErrName"},
			{"callspecial O <init> (I)V", "null, null |", "ErrNone"},
		})
	}
}

// A class that stands on Object, and one that calls its own constructor alone.
func TestStepsOfConstructorsOfTheSuper(t *testing.T) {
	end := insOf(t, "return")
	for ins, after := range map[string]string{"callspecial Object <init> ()V": "| ref O", "callspecial O <init> ()V": "| ref O", "callspecial DeepError <init> ()V": "ErrType", "callspecial S <init> ()V": "ErrType"} {
		list := worldOf(flowTold)
		list[3].Methods = append(list[3].Methods, methodOf("init (I)V", 1, 2, insOf(t, ins), end))
		got := impl.FlowEffect(list, 3, 3, 0, frameOf("this | this, int"))
		want := wideFrame(after, 0)
		if code, refused := codeNamed(after); refused {
			same(t, list, ins, got, refusedFrame(code))
			continue
		}
		want.Locals = append(want.Locals, typeOf("int"))
		same(t, list, ins, got, impl.FrameOut{Frame: want})
	}
}

func TestStepsOfMethodsCalledFromTheSuper(t *testing.T) {
	checkCases(t, "plain ()V", []insCase{
		{"callspecial S up (I)I", "ref M, int |", "int |"},
		{"callspecial S up (I)I", "top, ref N, int | ref M", "top, int | ref M"},
		{"callspecial S up (I)I", "null, int |", "int |"},
		{"callspecial S go ()V", "int, ref M |", "int |"},
		{"callspecial M up (I)I", "ref M, int |", "ErrAccess"},
		{"callspecial M mine ()LM;", "ref M |", "ErrAccess"},
		{"callspecial O up (I)I", "ref M, int |", "ErrAccess"},
		{"callspecial N up (I)I", "ref M, int |", "ErrAccess"},
		{"callspecial Object up (I)I", "ref M, int |", "ErrAccess"},
		{"callspecial Zed up (I)I", "ref M, int |", "ErrAccess"},
		{"callspecial Zed none ()V", "int |", "ErrAccess"},
		{"callspecial S none ()V", "int |", "ErrNone"},
		{"callspecial S up ()I", "ref M |", "ErrNone"},
		{"callspecial S mine ()LM;", "ref M |", "ErrNone"},
		{"callspecial S still (I)I", "ref M, int |", "ErrAccess"},
		{"callspecial S open ()V", "ref M |", "ErrAccess"},
		{"callspecial S open ()V", "int |", "ErrAccess"},
		// The object is one of the Method's Class: one of its Super is not enough.
		{"callspecial S up (I)I", "ref S, int |", "ErrType"},
		{"callspecial S up (I)I", "ref O, int |", "ErrType"},
		{"callspecial S up (I)I", "this, int |", "ErrType"},
		{"callspecial S up (I)I", "new M 2, int |", "ErrType"},
		{"callspecial S up (I)I", "new S 2, int |", "ErrType"},
		{"callspecial S up (I)I", "refs M, int |", "ErrType"},
		{"callspecial S up (I)I", "ref M, ints |", "ErrType"},
		{"callspecial S up (I)I", "int |", "ErrStack"},
		{"callspecial O up (I)I", "int |", "ErrStack"},
	})
	checkCases(t, "init ()V", []insCase{
		{"callspecial S up (I)I", "ref M, int | ref M", "int | ref M"},
		{"callspecial S up (I)I", "this, int | this", "ErrType"},
	})
	checkCases(t, "static ()V", []insCase{
		{"callspecial S up (I)I", "ref M, int |", "ErrAccess"},
		{"callspecial S up (I)I", "int, null |", "ErrAccess"},
		{"callspecial S none (I)I", "ref M, int |", "ErrNone"},
		{"callspecial S still (I)I", "ref M, int |", "ErrAccess"},
		{"callspecial O up (I)I", "ref M, int |", "ErrAccess"},
		{"callspecial S up (I)I", "int |", "ErrStack"},
	})
}

func TestStepsOfClassesAsked(t *testing.T) {
	for _, object := range objects() {
		checkCases(t, "static ()V", []insCase{
			{"cast M", object + " |", "ref M |"}, {"cast Object", "int, " + object + " | int", "int, ref Object | int"}, {"cast DeepError", object + " |", "ref DeepError |"}, {"cast S", object + " |", "ref S |"},
			{"isof M", object + " |", "int |"}, {"isof S", "top, int, this, " + object + " |", "top, int, this, int |"}, {"isof Error", object + " |", "int |"},
			{"cast Zed", object + " |", "ErrName"}, {"isof Zed", object + " |", "ErrName"},
		})
	}
	for _, other := range noObjects() {
		checkCases(t, "static ()V", []insCase{
			{"cast M", other + " |", "ErrType"}, {"isof M", other + " |", "ErrType"}, {"cast Zed", other + " |", "ErrName"}, {"isof Zed", other + " |", "ErrName"},
		})
	}
	checkCases(t, "static ()V", []insCase{{"cast M", "|", "ErrStack"}, {"isof M", "|", "ErrStack"}, {"cast Zed", "|", "ErrStack"}, {"isof Zed", "|", "ErrStack"}})
}

func TestStepsOfLists(t *testing.T) {
	checkCases(t, "static ()V", []insCase{
		{"newlist I", "int |", "ints |"}, {"newlist LM;", "int |", "refs M |"}, {"newlist LObject;", "null, int | int", "null, refs Object | int"}, {"newlist LDeepError;", "int |", "refs DeepError |"}, {"newlist LS;", "top, this, null, int |", "top, this, null, refs S |"},
		{"newlist LZed;", "int |", "ErrName"}, {"newlist LZed;", "null |", "ErrName"},
		{"newlist I", "|", "ErrStack"}, {"newlist LM;", "|", "ErrStack"}, {"newlist LZed;", "|", "ErrStack"},
		{"get", "ints, int |", "int |"}, {"get", "refs M, int |", "ref M |"}, {"get", "null, top, refs Object, int | this", "null, top, ref Object | this"},
		{"get", "ints |", "ErrStack"}, {"get", "|", "ErrStack"},
		{"put", "ints, int, int |", "|"}, {"put", "refs M, int, ref M |", "|"}, {"put", "int, ints, int, int | this", "int | this"},
		{"put", "ints, int |", "ErrStack"}, {"put", "|", "ErrStack"}, {"put", "int |", "ErrStack"},
		{"size", "ints |", "int |"}, {"size", "refs M |", "int |"}, {"size", "top, refs Object | null", "top, int | null"}, {"size", "|", "ErrStack"},
	})
	for _, other := range noInts() {
		checkCases(t, "static ()V", []insCase{
			{"newlist I", other + " |", "ErrType"}, {"newlist LM;", "int, " + other + " |", "ErrType"},
			{"get", "ints, " + other + " |", "ErrType"}, {"get", "refs M, " + other + " |", "ErrType"},
			{"put", "ints, " + other + ", int |", "ErrType"}, {"put", "refs M, " + other + ", null |", "ErrType"}, {"put", "ints, int, " + other + " |", "ErrType"},
		})
	}
	for _, other := range []string{"top", "int", "null", "ref M", "ref Object", "new M 2", "this"} {
		checkCases(t, "static ()V", []insCase{
			{"get", other + ", int |", "ErrType"}, {"put", other + ", int, int |", "ErrType"}, {"put", other + ", int, null |", "ErrType"}, {"size", other + " |", "ErrType"}, {"size", "ints, " + other + " |", "ErrType"},
		})
	}
	// Any object may be put to a list of references, as far as the check goes.
	for _, object := range objects() {
		checkCases(t, "static ()V", []insCase{{"put", "refs M, int, " + object + " |", "|"}, {"put", "refs DeepError, int, " + object + " |", "|"}})
	}
	for _, other := range noObjects() {
		checkCases(t, "static ()V", []insCase{{"put", "refs M, int, " + other + " |", "ErrType"}})
	}
}

func TestOpsThatEndAndJump(t *testing.T) {
	for _, told := range toldOps(t) {
		ends := slices.Contains(strings.Fields("goto return ireturn areturn throw"), told.name)
		if impl.FlowEnds(told.op) != ends || impl.FlowJumps(told.op) != (told.form == "t") {
			t.Errorf("%s: ends %v, jumps %v", told.name, impl.FlowEnds(told.op), impl.FlowJumps(told.op))
		}
	}
	for _, op := range noOps() {
		if impl.FlowEnds(op) || impl.FlowJumps(op) {
			t.Errorf("%d: ends %v, jumps %v", op, impl.FlowEnds(op), impl.FlowJumps(op))
		}
	}
}

// plainCode: so many instructions, each told by its text.
func plainCode(t *testing.T, told ...string) []impl.Ins {
	t.Helper()
	var code []impl.Ins
	for _, one := range told {
		code = append(code, insOf(t, one))
	}
	return code
}

// flowOut: the ways on, each told by its place and its frame, with a slash between.
func flowOut(t *testing.T, told ...string) impl.FlowOut {
	t.Helper()
	var out impl.FlowOut
	for _, one := range told {
		place, frame, _ := strings.Cut(one, "/")
		next, err := strconv.ParseInt(strings.TrimSpace(place), 10, 64)
		if err != nil {
			t.Fatal(err)
		}
		out.Next, out.Frames = append(out.Next, next), append(out.Frames, frameOf(frame))
	}
	return out
}

// Behind the last instruction none comes: it may not be reached.
func TestFlowAtTheLastInstruction(t *testing.T) {
	for _, c := range []struct {
		desc, ins, before string
		ends              bool
	}{
		{"()V", "return", "|", true}, {"()I", "ireturn", "int |", true}, {"()LM;", "areturn", "null |", true}, {"()V", "throw", "null |", true}, {"()V", "goto 0", "|", true}, {"()V", "goto 1", "|", true},
		{"()V", "const 1", "|", false}, {"()V", "pop", "int |", false}, {"()V", "dup", "int |", false}, {"()V", "ifeq 0", "int |", false}, {"()V", "ifnull 1", "null |", false}, {"()V", "ifis 0", "null, null |", false},
		{"()V", "callstatic S still (I)I", "int |", false}, {"()V", "new O", "|", false}, {"()V", "size", "ints |", false}, {"()V", "putstatic S c I", "int |", false},
	} {
		list := flowWorld(methodOf("static "+c.desc, 2, 0, plainCode(t, "return", c.ins)...))
		want := impl.FlowOut{Code: impl.ErrFlow}
		if c.ends {
			want = impl.FlowOut{}
		}
		if strings.HasPrefix(c.ins, "goto") {
			want = flowOut(t, strings.TrimPrefix(c.ins, "goto")+"/|")
		}
		same(t, list, c.ins+" at last", impl.Flow(list, inM, behind, 1, frameOf(c.before)), want)
		same(t, list, c.ins+" at last", impl.FlowEffect(list, inM, behind, 1, frameOf(c.before)).Code, int64(impl.OK))
		// The effect is looked at first.
		if c.ins != "return" && c.before != "|" {
			same(t, list, c.ins+" of nothing", impl.Flow(list, inM, behind, 1, frameOf("|")), impl.FlowOut{Code: impl.ErrStack})
		}
		// As the only instruction, too.
		if !strings.HasSuffix(c.ins, " 1") && !c.ends {
			list := flowWorld(methodOf("static "+c.desc, 2, 0, plainCode(t, c.ins)...))
			same(t, list, c.ins+" alone", impl.Flow(list, inM, behind, 0, frameOf(c.before)), impl.FlowOut{Code: impl.ErrFlow})
		}
	}
}

// The next instruction comes first, the one jumped to behind it, even if both are one.
func TestFlowOfJumps(t *testing.T) {
	code := plainCode(t, "ifeq 3", "ifeq 2", "ifeq 2", "goto 0", "goto 3", "ifless 6", "return")
	list := flowWorld(methodOf("static ()V", 3, 1, code...))
	for _, c := range []struct {
		at     int64
		before string
		want   []string
	}{
		{0, "int | int", []string{"1 / | int", "3 / | int"}},
		{1, "null, int | this", []string{"2 / null | this", "2 / null | this"}},
		{2, "int | top", []string{"3 / | top", "2 / | top"}},
		{3, "int, top | top", []string{"0 / int, top | top"}},
		{4, "this | top", []string{"3 / this | top"}},
		{5, "ref M, int, int | top", []string{"6 / ref M | top", "6 / ref M | top"}},
		{6, "ref M | top", nil},
	} {
		same(t, list, strconv.FormatInt(c.at, 10), impl.Flow(list, inM, behind, c.at, frameOf(c.before)), flowOut(t, c.want...))
	}
}

// handlersOf: handlers told by From, To, At and Class, with a comma between.
func handlersOf(t *testing.T, told string) []impl.Handler {
	t.Helper()
	var handlers []impl.Handler
	for _, one := range strings.Split(told, ", ") {
		words := strings.Fields(one)
		h := impl.Handler{Class: words[3]}
		for at, n := range []*int64{&h.From, &h.To, &h.At} {
			*n, _ = strconv.ParseInt(words[at], 10, 64)
		}
		handlers = append(handlers, h)
	}
	return handlers
}

func TestFlowOfHandlers(t *testing.T) {
	code := plainCode(t, "const 1", "pop", "store 0", "ifeq 0", "return", "return")
	for told, want := range map[string][]string{
		// The instruction looked at stands at 2.
		"0 6 5 Error":                         {"3 / ref M | int, this", "5 / ref Error | null, this"},
		"2 3 2 E":                             {"3 / ref M | int, this", "2 / ref E | null, this"},
		"2 6 0 DeepError":                     {"3 / ref M | int, this", "0 / ref DeepError | null, this"},
		"0 3 0 E":                             {"3 / ref M | int, this", "0 / ref E | null, this"},
		"0 2 0 E":                             {"3 / ref M | int, this"},
		"3 6 0 E":                             {"3 / ref M | int, this"},
		"0 1 0 E":                             {"3 / ref M | int, this"},
		"5 6 0 E":                             {"3 / ref M | int, this"},
		"0 6 3 E, 1 4 3 Error":                {"3 / ref M | int, this", "3 / ref E | null, this", "3 / ref Error | null, this"},
		"0 6 5 E, 0 6 5 E":                    {"3 / ref M | int, this", "5 / ref E | null, this", "5 / ref E | null, this"},
		"0 2 1 E, 2 3 4 Error, 3 6 1 E":       {"3 / ref M | int, this", "4 / ref Error | null, this"},
		"0 2 1 Zed, 2 3 4 E, 3 6 1 M":         {"3 / ref M | int, this", "4 / ref E | null, this"},
		"1 3 5 MathError, 0 6 0 E, 2 4 1 E":   {"3 / ref M | int, this", "5 / ref MathError | null, this", "0 / ref E | null, this", "1 / ref E | null, this"},
		"3 4 0 Zed, 0 2 0 Object, 0 1 1 Zed2": {"3 / ref M | int, this"},
	} {
		m := methodOf("static ()V", 3, 2, code...)
		m.Handlers = handlersOf(t, told)
		list := flowWorld(m)
		same(t, list, told, impl.Flow(list, inM, behind, 2, frameOf("ref M, int | null, this")), flowOut(t, want...))
		same(t, list, told, impl.FlowEffect(list, inM, behind, 2, frameOf("ref M, int | null, this")), frameOut("ref M | int, this"))
	}
	// Over what ends, and over what jumps.
	m := methodOf("static ()V", 1, 1, code...)
	m.Handlers = handlersOf(t, "0 6 5 Error, 4 6 1 E")
	list := flowWorld(m)
	same(t, list, "return", impl.Flow(list, inM, behind, 4, frameOf("null | int")), flowOut(t, "5 / ref Error | int", "1 / ref E | int"))
	same(t, list, "return at last", impl.Flow(list, inM, behind, 5, frameOf("| int")), flowOut(t, "5 / ref Error | int", "1 / ref E | int"))
	same(t, list, "ifeq", impl.Flow(list, inM, behind, 3, frameOf("int | int")), flowOut(t, "4 / | int", "0 / | int", "5 / ref Error | int"))
	same(t, list, "few", impl.Flow(list, inM, behind, 3, frameOf("| int")), impl.FlowOut{Code: impl.ErrStack})
}

// A handler has the locals as they were, also where the effect turns them.
func TestFlowOfHandlersOverWhatChangesLocals(t *testing.T) {
	m := methodOf("init ()V", 3, 2, plainCode(t, "store 1", "callspecial S <init> ()V", "new O", "return")...)
	m.Handlers = handlersOf(t, "0 4 3 E")
	list := flowWorld(m)
	for at, c := range []struct {
		before string
		want   []string
	}{
		{"null | this, int", []string{"1 / | this, null", "3 / ref E | this, int"}},
		{"this, this | this, this", []string{"2 / ref M | ref M, ref M", "3 / ref E | this, this"}},
		{"int | this, new O 2", []string{"3 / int, new O 2 | this, top", "3 / ref E | this, new O 2"}},
		{"int | ref M, int", []string{"3 / ref E | ref M, int"}},
	} {
		same(t, list, c.before, impl.Flow(list, inM, behind, int64(at), frameOf(c.before)), flowOut(t, c.want...))
	}
}

// What is refused at a handler: handler by handler, and behind all other faults.
func TestFlowOfHandlersThatAreRefused(t *testing.T) {
	for _, c := range []struct {
		told  string
		stack int64
		code  int64
	}{
		{"0 1 0 Zed", 1, impl.ErrName},
		{"0 1 0 Object", 1, impl.ErrType},
		{"0 1 0 M", 1, impl.ErrType},
		{"0 1 0 S", 1, impl.ErrType},
		{"0 1 0 Error", 0, impl.ErrStack},
		{"0 1 0 E", 0, impl.ErrStack},
		{"0 1 0 Zed", 0, impl.ErrName},
		{"0 1 0 M", 0, impl.ErrType},
		{"0 1 0 Zed, 0 1 0 M", 1, impl.ErrName},
		{"0 1 0 M, 0 1 0 Zed", 1, impl.ErrType},
		{"0 1 0 E, 0 1 0 Zed", 1, impl.ErrName},
		{"0 1 0 E, 0 1 0 Zed", 0, impl.ErrStack},
		{"0 1 0 E, 0 1 0 M", 0, impl.ErrStack},
		{"1 2 0 Zed, 0 1 0 M", 1, impl.ErrType},
		{"1 2 0 Zed, 1 2 0 M", 0, impl.OK},
		{"0 1 0 E, 0 1 0 E, 0 1 0 E, 0 1 0 E, 0 1 0 E, 0 2 1 O", 1, impl.ErrType},
	} {
		m := methodOf("static ()V", c.stack, 0, plainCode(t, "goto 1", "return")...)
		m.Handlers = handlersOf(t, c.told)
		list := flowWorld(m)
		want := impl.FlowOut{Code: c.code}
		if c.code == impl.OK {
			want = flowOut(t, "1 / |")
		}
		same(t, list, c.told, impl.Flow(list, inM, behind, 0, frameOf("|")), want)
		same(t, list, c.told, impl.FlowEffect(list, inM, behind, 0, frameOf("|")), impl.FrameOut{})
	}
	for _, class := range []string{"Zed", "M", "E"} {
		m := methodOf("static ()V", 0, 0, plainCode(t, "goto 1", "ifeq 0")...)
		m.Handlers = handlersOf(t, "0 2 0 "+class)
		list := flowWorld(m)
		same(t, list, "the effect first", impl.Flow(list, inM, behind, 1, frameOf("|")), impl.FlowOut{Code: impl.ErrStack})
		m.Code, m.Stack = plainCode(t, "goto 1", "pop"), 1
		list = flowWorld(m)
		same(t, list, "the next one first", impl.Flow(list, inM, behind, 1, frameOf("int |")), impl.FlowOut{Code: impl.ErrFlow})
		same(t, list, "the effect first", impl.Flow(list, inM, behind, 1, frameOf("|")), impl.FlowOut{Code: impl.ErrStack})
	}
}

// A frame that can't stand ahead of an instruction is refused ahead of what the instruction says.
func TestFlowOfFramesThatDoNotFit(t *testing.T) {
	list := flowWorld(methodOf("static ()V", 2, 2, plainCode(t, "return", "ifeq 0", "return")...))
	many := impl.Frame{Stack: times(impl.MaxStack+1, "int"), Locals: times(2, "int")}
	long := impl.Frame{Locals: times(impl.MaxLocals+1, "int")}
	huge := impl.Frame{Stack: times(impl.MaxList+1, "int"), Locals: times(impl.MaxList+1, "int")}
	wrong := []impl.Frame{
		frameOf("|"), frameOf("| int"), frameOf("| int, int, int"), frameOf("int |"), frameOf("int | int"),
		frameOf("int, int, int | int, int"), frameOf("top, top, top | top, top"),
		frameOf("ref Zed | int, int"), frameOf("int | ref Zed, int"), frameOf("int | int, other"), frameOf("int A | int, int"), frameOf("int, new A 60 | top, top"),
		many, long, huge,
	}
	for _, strange := range strangeTypes() {
		wrong = append(wrong, impl.Frame{Stack: []impl.Type{strange}, Locals: times(2, "top")}, impl.Frame{Locals: []impl.Type{typeOf("top"), strange}})
	}
	for at := range int64(3) {
		for _, f := range wrong {
			checkNoStep(t, "on"+frameNamed(f), list, inM, behind, at, f, impl.ErrForm)
		}
	}
	same(t, list, "one that fits", impl.Flow(list, inM, behind, 1, frameOf("int, int | int, top")), flowOut(t, "2 / int | int, top", "0 / int | int, top"))
	// Neither Stack nor Locals at all.
	list = flowWorld(methodOf("static ()V", 0, 0, plainCode(t, "return")...))
	same(t, list, "nothing", impl.Flow(list, inM, behind, 0, impl.Frame{Stack: []impl.Type{}, Locals: []impl.Type{}}), impl.FlowOut{})
	checkNoStep(t, "on one", list, inM, behind, 0, frameOf("int |"), impl.ErrForm)
	checkNoStep(t, "on one local", list, inM, behind, 0, frameOf("| int"), impl.ErrForm)
	// As much of both as there can be.
	list = flowWorld(methodOf("static ()V", impl.MaxStack, impl.MaxLocals, plainCode(t, "goto 1", "const 1", "return")...))
	full := impl.Frame{Stack: times(impl.MaxStack, "this"), Locals: times(impl.MaxLocals, "new M 59")}
	same(t, list, "full", impl.Flow(list, inM, behind, 0, full), impl.FlowOut{Next: []int64{1}, Frames: []impl.Frame{full}})
	same(t, list, "too full", impl.Flow(list, inM, behind, 1, full), impl.FlowOut{Code: impl.ErrStack})
	almost := impl.Frame{Stack: full.Stack[1:], Locals: full.Locals}
	same(t, list, "almost full", impl.Flow(list, inM, behind, 1, almost), impl.FlowOut{Next: []int64{2}, Frames: []impl.Frame{{Stack: append(slices.Clone(almost.Stack), typeOf("int")), Locals: full.Locals}}})
}

func TestFlowByPlace(t *testing.T) {
	m := methodOf("static ()V", 1, 0, plainCode(t, "const 1", "pop", "return")...)
	list := flowWorld(m)
	same(t, list, "there", impl.Flow(list, inM, behind, 1, frameOf("int |")), flowOut(t, "2 / |"))
	for _, at := range strangePlaces(len(m.Code)) {
		checkNoStep(t, "no instruction", list, inM, behind, at, frameOf("int |"), impl.ErrForm)
	}
	for _, method := range strangePlaces(len(list[inM].Methods)) {
		checkNoStep(t, "no method", list, inM, method, 1, frameOf("int |"), impl.ErrForm)
	}
	for _, class := range strangePlaces(len(list)) {
		checkNoStep(t, "no class", list, class, behind, 1, frameOf("int |"), impl.ErrForm)
	}
	checkNoStep(t, "no places at all", list, -1, math.MaxInt64, math.MinInt64, frameOf("other | other"), impl.ErrForm)
	checkNoStep(t, "no classes at all", nil, 0, 0, 0, frameOf("|"), impl.ErrForm)
	// An Abstract method has no instructions; a class without methods, none either.
	list = worldOf("class A Object abstract, method f ()V abstract, class B Object")
	checkNoStep(t, "abstract", list, 0, 0, 0, frameOf("|"), impl.ErrForm)
	checkNoStep(t, "no methods", list, 1, 0, 0, frameOf("|"), impl.ErrForm)
}

func TestFlowInWorldsThatAreNotRight(t *testing.T) {
	lists := [][]impl.Class{plainWorld(impl.MaxClasses + 1), plainWorld(impl.MaxList), {{}}}
	for _, pass := range wrongWorlds() {
		for _, w := range pass {
			lists = append(lists, worldOf(w.told))
		}
	}
	for _, list := range lists {
		for class := range min(len(list), 4) {
			for method := range len(list[class].Methods) + 1 {
				checkNoStep(t, "in a wrong world", list, int64(class), int64(method), 0, frameOf("|"), impl.ErrForm)
				checkNoStep(t, "in a wrong world", list, int64(class), int64(method), 0, impl.Frame{Locals: times(impl.MaxLocals, "int")}, impl.ErrForm)
			}
		}
		checkNoStep(t, "in a wrong world", list, -1, 0, 99, frameOf("other |"), impl.ErrForm)
	}
	for _, list := range [][]impl.Class{plainWorld(impl.MaxList + 1), make([]impl.Class, impl.MaxList+1)} {
		for _, place := range []int64{-1, 0, impl.MaxList, math.MinInt64} {
			checkNoStep(t, "in a long list", list, place, place, place, frameOf("other |"), impl.ErrSize)
		}
	}
}

// rowsTold: what the ops take and put, as the document's table tells them. (callspecial is told apart.)
const rowsTold = `const: > int; null: > null; load: > local; store: a >; pop: a >; dup: a > a a; swap: a b > b a; dup2: a b > a b a b;
goto: >; ifeq: int >; iflt: int >; ifsame: int int >; ifless: int int >; ifnull: object >; ifis: object object >;
return: >; ireturn: int >; areturn: result >; throw: error >; new: > new; getfield: ref > desc; putfield: ref desc >;
getstatic: > desc; putstatic: desc >; call: ref params > answer; callstatic: params > answer; cast: object > ref; isof: object > int;
newlist: int > list; get: somelist int > item; put: somelist int value >; size: somelist > int`

// modelStep: an instruction in a method of a class, for which the document's words are gone through one by one.
type modelStep struct {
	model
	class  impl.Class
	method impl.Method
	at     int64
	ins    impl.Ins
	name   string
}

func ref(class string) impl.Type {
	return impl.Type{Kind: impl.KindRef, Class: class}
}

// row: the words for what is taken and put, those for Params and Result made out.
func (s modelStep) row() (takes, puts []string) {
	row := "int int > int"
	for _, told := range strings.Split(strings.ReplaceAll(rowsTold, "\n", " "), "; ") {
		if name, rest, _ := strings.Cut(told, ":"); strings.TrimSpace(name) == s.name {
			row = rest
		}
	}
	if s.name == "callspecial" {
		row = map[bool]string{true: "raw params >", false: "own params > answer"}[s.ins.Name == "<init>"]
	}
	before, after, _ := strings.Cut(row, ">")
	d := impl.DescRead(s.ins.Desc).Desc
	for _, word := range strings.Fields(before) {
		if word == "params" {
			takes = append(takes, d.Params...)
		} else {
			takes = append(takes, word)
		}
	}
	for _, word := range strings.Fields(after) {
		if word != "answer" {
			puts = append(puts, word)
		} else if d.Result != "V" {
			puts = append(puts, d.Result)
		}
	}
	return takes, puts
}

// fits: may a type stand where the row has that word?
func (s modelStep) fits(word string, a impl.Type, taken []impl.Type) bool {
	is := func(kinds ...int64) bool { return slices.Contains(kinds, a.Kind) }
	object := is(impl.KindNull, impl.KindRef, impl.KindInts, impl.KindRefs)
	switch word {
	case "a", "b":
		return true
	case "int":
		return is(impl.KindInt)
	case "object":
		return object
	case "somelist":
		return is(impl.KindInts, impl.KindRefs)
	case "value":
		return taken[0].Kind == impl.KindInts && is(impl.KindInt) || taken[0].Kind == impl.KindRefs && object
	case "ref":
		return s.below(a, ref(s.ins.Class))
	case "own":
		return s.below(a, ref(s.class.Name))
	case "error":
		return s.below(a, ref("Error"))
	case "desc":
		return s.below(a, impl.TypeFrom(s.ins.Desc))
	case "result":
		return s.below(a, impl.TypeFrom(impl.DescRead(s.method.Desc).Desc.Result))
	case "raw":
		return is(impl.KindNew) && a.Class == s.ins.Class || is(impl.KindThis) && (s.ins.Class == s.class.Name || s.ins.Class == s.class.Super)
	}
	return s.below(a, impl.TypeFrom(word))
}

// made: the type that the row puts where it has that word.
func (s modelStep) made(word string, taken, locals []impl.Type) impl.Type {
	switch word {
	case "a":
		return taken[0]
	case "b":
		return taken[1]
	case "int", "null":
		return typeOf(word)
	case "local":
		return locals[s.ins.A]
	case "new":
		return impl.Type{Kind: impl.KindNew, Class: s.ins.Class, At: s.at}
	case "ref":
		return ref(s.ins.Class)
	case "list":
		return impl.TypeFrom("[" + s.ins.Desc)
	case "desc":
		return impl.TypeFrom(s.ins.Desc)
	case "item":
		if taken[0].Kind == impl.KindInts {
			return typeOf("int")
		}
		return ref(taken[0].Class)
	}
	return impl.TypeFrom(word)
}

// guard: what the row asks of all but the types that are taken.
func (s modelStep) guard(f impl.Frame) int64 {
	result := impl.DescRead(s.method.Desc).Desc.Result
	inConstructor := s.method.Name == "<init>"
	has := s.ins.A < int64(len(f.Locals))
	fresh := impl.Type{Kind: impl.KindNew, Class: s.ins.Class, At: s.at}
	c, known := s.model.class(s.ins.Class)
	switch {
	case s.name == "load" && (!has || f.Locals[s.ins.A] == typeOf("top")), s.name == "store" && !has:
		return impl.ErrType
	case s.name == "store" && s.ins.A == 0 && inConstructor:
		return impl.ErrAccess
	case s.name == "return" && result != "V", s.name == "ireturn" && result != "I", s.name == "areturn" && (result == "I" || result == "V"):
		return impl.ErrFlow
	case s.name == "return" && inConstructor && f.Locals[0] != ref(s.class.Name):
		return impl.ErrType
	case slices.Contains(strings.Fields("new cast isof"), s.name) && !known, s.name == "newlist" && s.ins.Desc != "I" && !s.known(impl.TypeClass(s.ins.Desc)):
		return impl.ErrName
	case s.name == "new" && c.Abstract:
		return impl.ErrAccess
	case s.name == "new" && slices.Contains(f.Stack, fresh):
		return impl.ErrType
	}
	switch impl.OpForm(s.ins.Op) {
	case "f":
		return s.fieldGuard()
	case "m":
		return s.methodGuard()
	}
	return impl.OK
}

func (s modelStep) fieldGuard() int64 {
	if !s.known(s.ins.Class) {
		return impl.ErrName
	}
	found := s.findField(s.ins.Class, s.ins.Name, s.ins.Desc)
	if found.Code != impl.OK {
		return found.Code
	}
	c, _ := s.model.class(found.Class)
	for _, f := range c.Fields {
		if f.Name == s.ins.Name && f.Static != strings.HasSuffix(s.name, "static") {
			return impl.ErrAccess
		}
	}
	return impl.OK
}

func (s modelStep) methodGuard() int64 {
	constructs := s.ins.Name == "<init>"
	special := s.name == "callspecial"
	if constructs && !special || special && !constructs && s.ins.Class != s.class.Super {
		return impl.ErrAccess
	}
	if !s.known(s.ins.Class) {
		return impl.ErrName
	}
	found := s.findMethod(s.ins.Class, s.ins.Name, s.ins.Desc)
	if found.Code != impl.OK || constructs {
		return found.Code
	}
	c, _ := s.model.class(found.Class)
	m := c.Methods[found.Place]
	if m.Static != (s.name == "callstatic") || special && (m.Abstract || s.method.Static) {
		return impl.ErrAccess
	}
	return impl.OK
}

// effect: the document's table, from the left to the right.
func (s modelStep) effect(f impl.Frame) impl.FrameOut {
	if !s.frameRight(f) || len(f.Stack) > int(s.method.Stack) || len(f.Locals) != int(s.method.Locals) {
		return refusedFrame(impl.ErrForm)
	}
	takes, puts := s.row()
	left := len(f.Stack) - len(takes)
	if left < 0 {
		return refusedFrame(impl.ErrStack)
	}
	if code := s.guard(f); code != impl.OK {
		return refusedFrame(code)
	}
	taken := f.Stack[left:]
	for place, word := range takes {
		if !s.fits(word, taken[place], taken) {
			return refusedFrame(impl.ErrType)
		}
	}
	out := impl.Frame{Stack: slices.Clone(f.Stack[:left]), Locals: slices.Clone(f.Locals)}
	for _, word := range puts {
		out.Stack = append(out.Stack, s.made(word, taken, f.Locals))
	}
	if len(out.Stack) > int(s.method.Stack) {
		return refusedFrame(impl.ErrStack)
	}
	s.turn(out, taken)
	return impl.FrameOut{Frame: out}
}

// turn: what an instruction does to types beside those that it takes and puts.
func (s modelStep) turn(f impl.Frame, taken []impl.Type) {
	for _, row := range [][]impl.Type{f.Stack, f.Locals} {
		for place, one := range row {
			switch {
			case s.name != "callspecial" || s.ins.Name != "<init>" || one != taken[0]:
			case one.Kind == impl.KindThis:
				row[place] = ref(s.class.Name)
			default:
				row[place] = ref(one.Class)
			}
		}
	}
	for place, one := range f.Locals {
		if s.name == "new" && one == (impl.Type{Kind: impl.KindNew, Class: s.ins.Class, At: s.at}) {
			f.Locals[place] = typeOf("top")
		}
	}
	if s.name == "store" {
		f.Locals[s.ins.A] = taken[0]
	}
}

func (s modelStep) flow(f impl.Frame) impl.FlowOut {
	effect := s.effect(f)
	if effect.Code != impl.OK {
		return impl.FlowOut{Code: effect.Code}
	}
	var out impl.FlowOut
	on := func(next int64, f impl.Frame) {
		out.Next, out.Frames = append(out.Next, next), append(out.Frames, f)
	}
	if !slices.Contains(strings.Fields("goto return ireturn areturn throw"), s.name) {
		on(s.at+1, effect.Frame)
	}
	if slices.Contains(out.Next, int64(len(s.method.Code))) {
		return impl.FlowOut{Code: impl.ErrFlow}
	}
	if impl.OpForm(s.ins.Op) == "t" {
		on(s.ins.A, effect.Frame)
	}
	for _, h := range s.method.Handlers {
		switch {
		case h.From > s.at || h.To <= s.at:
		case !s.known(h.Class):
			return impl.FlowOut{Code: impl.ErrName}
		case !isOneOf(s.up(h.Class), "Error"):
			return impl.FlowOut{Code: impl.ErrType}
		case s.method.Stack == 0:
			return impl.FlowOut{Code: impl.ErrStack}
		default:
			on(h.At, impl.Frame{Stack: []impl.Type{ref(h.Class)}, Locals: f.Locals})
		}
	}
	return out
}

// stepDealer deals steps: a world, a method put behind those of one of its classes, an instruction in it, and a frame.
type stepDealer struct {
	*rand.Rand
	worlds [][]impl.Class
}

func newStepDealer() stepDealer {
	dealt, _ := dealtWorlds(12)
	worlds := append(dealt, worldOf(flowTold), worldOf(flowTold), worldOf(flowTold), worldOf(flowTold))
	return stepDealer{rand.New(rand.NewPCG(8, 9)), worlds}
}

func pick[T any](d stepDealer, list []T) T {
	return list[d.IntN(len(list))]
}

func (d stepDealer) rarely() bool {
	return d.IntN(8) == 0
}

// className: mostly one that is known.
func (d stepDealer) className(list []impl.Class) string {
	if d.rarely() {
		return "Zed"
	}
	return pick(d, knownOf(list))
}

// member: a class's name, and a name and a text, mostly those of one of its fields or methods, or of a class's above.
func (d stepDealer) member(list []impl.Class, members []member) (class, name, text string) {
	all := model(list)
	m := pick(d, members)
	class = m.class
	for range 3 {
		if other := d.className(list); d.IntN(3) == 0 && isOneOf(all.up(other), class) {
			class = other
		}
	}
	switch d.IntN(16) {
	case 0:
		class = pick(d, []string{"Zed", d.className(list)})
	case 1:
		m.name += "x"
	case 2:
		m.text = pick(d, members).text
	}
	return class, m.name, m.text
}

// member: the class, the name and the text of a field, or of a method.
type member struct {
	class, name, text string
}

// fieldsIn, methodsIn: those of a world's classes, in which there is mostly one that an instruction of that name asks for.
func fieldsIn(list []impl.Class, op string) []member {
	members := []member{{"Object", "x", "I"}}
	for _, c := range list {
		for _, f := range c.Fields {
			count := 1
			if f.Static == strings.HasSuffix(op, "static") {
				count = 4
			}
			members = append(members, slices.Repeat([]member{{c.Name, f.Name, f.Type}}, count)...)
		}
	}
	return members
}

func methodsIn(list []impl.Class, op string) []member {
	members := []member{{"Object", "<init>", "()V"}}
	for _, c := range list {
		for _, m := range c.Methods {
			count := 1
			if m.Static == (op == "callstatic") && (m.Name != "<init>" || op == "callspecial") {
				count = 4
			}
			members = append(members, slices.Repeat([]member{{c.Name, m.Name, m.Desc}}, count)...)
		}
	}
	return members
}

// instruction: one that is right, in a method of so many.
func (d stepDealer) instruction(list []impl.Class, told toldOp, super string, count int) impl.Ins {
	i := impl.Ins{Op: told.op}
	switch told.form {
	case "n":
		i.A = d.Int64N(100) - 50
	case "i":
		i.A = d.Int64N(4)
	case "t":
		i.A = d.Int64N(int64(count))
	case "c":
		i.Class = d.className(list)
	case "y":
		i.Desc = pick(d, []string{"I", "L" + d.className(list) + ";", "L" + d.className(list) + ";"})
	case "f":
		i.Class, i.Name, i.Desc = d.member(list, fieldsIn(list, told.name))
	case "m":
		i.Class, i.Name, i.Desc = d.member(list, methodsIn(list, told.name))
		above := methodsIn(model(list).up(super), "call")
		if told.name == "callspecial" && d.IntN(2) == 0 {
			_, i.Name, i.Desc = d.member(list, above)
			i.Class = pick(d, []string{super, super, super, i.Class})
		}
	}
	return i
}

// next: a step of that op, its world right, and at which class and method it stands.
func (d stepDealer) next(told toldOp) (s modelStep, class int) {
	for {
		list := slices.Clone(pick(d, d.worlds))
		class := d.IntN(len(list))
		for told.name == "callspecial" && slices.Contains(builtInTold(), list[class].Super) && !d.rarely() {
			class = d.IntN(len(list))
		}
		c := &list[class]
		m := impl.Method{Name: pick(d, []string{"t", "t", "<init>"}), Stack: d.Int64N(7), Locals: 1 + d.Int64N(3)}
		result := pick(d, []string{"V", "I", "L" + d.className(list) + ";", "[I", "[L" + d.className(list) + ";"})
		m.Desc = pick(d, []string{"()", "([I)"}) + result
		m.Static = m.Name == "t" && d.IntN(2) == 0
		count := 1 + d.IntN(4)
		for range count {
			m.Code = append(m.Code, impl.Ins{Op: 26})
		}
		at := d.IntN(count)
		m.Code[at] = d.instruction(list, told, c.Super, count)
		for d.IntN(3) == 0 && len(m.Handlers) < 4 {
			from := d.Int64N(int64(count))
			h := impl.Handler{From: from, To: from + 1 + d.Int64N(int64(count)-from), At: d.Int64N(int64(count)), Class: pick(d, []string{"Error", "MathError", "FullError", d.className(list)})}
			m.Handlers = append(m.Handlers, h)
		}
		c.Methods = append(slices.Clone(c.Methods), m)
		if model(list).check().Code == impl.OK {
			return modelStep{model(list), *c, m, int64(at), m.Code[at], told.name}, class
		}
	}
}

// someType: one that may come up at the step, or any one at all.
func (d stepDealer) someType(s modelStep) impl.Type {
	near := append(typesOf("int, null, ints, this, top"), ref(s.class.Name), ref("Error"))
	if s.known(s.ins.Class) {
		near = append(near, ref(s.ins.Class), impl.Type{Kind: impl.KindRefs, Class: s.ins.Class}, impl.Type{Kind: impl.KindNew, Class: s.ins.Class, At: s.at}, impl.Type{Kind: impl.KindNew, Class: s.ins.Class, At: s.at + 1})
	}
	if d.IntN(3) == 0 {
		near = knownTypes(s.model)
	}
	return pick(d, near)
}

// frame: one whose last types mostly fit what the step takes.
func (d stepDealer) frame(s modelStep) impl.Frame {
	var f impl.Frame
	takes, _ := s.row()
	for range int(s.method.Stack) - len(takes) - d.IntN(3) {
		f.Stack = append(f.Stack, d.someType(s))
	}
	var taken []impl.Type
	for _, word := range takes {
		t := d.someType(s)
		for range 20 {
			if s.fits(word, t, append(taken, t)) {
				break
			}
			t = d.someType(s)
		}
		if d.IntN(12) == 0 {
			t = d.someType(s)
		}
		taken = append(taken, t)
	}
	f.Stack = append(f.Stack, taken...)
	if d.rarely() && len(f.Stack) > 0 {
		f.Stack = f.Stack[1:]
	}
	for range s.method.Locals {
		f.Locals = append(f.Locals, d.someType(s))
	}
	if s.method.Name == "<init>" && d.IntN(2) == 0 {
		f.Locals[0] = ref(s.class.Name)
	}
	return f
}

// codesTold: the codes by which each op's row is refused, all but ErrForm and those of handlers.
func codesTold(name string) []int64 {
	switch name {
	case "const", "null", "pop", "dup", "swap", "dup2":
		return []int64{impl.ErrStack}
	case "store":
		return []int64{impl.ErrStack, impl.ErrType, impl.ErrAccess}
	case "goto":
		return nil
	case "return":
		return []int64{impl.ErrFlow, impl.ErrType}
	case "ireturn", "areturn":
		return []int64{impl.ErrStack, impl.ErrFlow, impl.ErrType}
	case "new":
		return []int64{impl.ErrStack, impl.ErrName, impl.ErrAccess, impl.ErrType}
	case "getstatic":
		return []int64{impl.ErrStack, impl.ErrName, impl.ErrNone, impl.ErrAccess}
	case "getfield", "putfield", "putstatic", "call", "callstatic", "callspecial":
		return []int64{impl.ErrStack, impl.ErrName, impl.ErrNone, impl.ErrAccess, impl.ErrType}
	case "cast", "isof", "newlist":
		return []int64{impl.ErrStack, impl.ErrName, impl.ErrType}
	}
	return []int64{impl.ErrStack, impl.ErrType}
}

func TestDealtStepsAsTheModelSays(t *testing.T) {
	d := newStepDealer()
	constructed := 0
	for _, told := range toldOps(t) {
		effects, flows := map[int64]int{}, map[int64]int{}
		for range 300 {
			s, class := d.next(told)
			list, method := []impl.Class(s.model), int64(len(s.class.Methods)-1)
			f := d.frame(s)
			what := told.name + shown(s.ins) + " on" + frameNamed(f)
			effect, flow := impl.FlowEffect(list, int64(class), method, s.at, f), impl.Flow(list, int64(class), method, s.at, f)
			same(t, list, what, effect, s.effect(f))
			same(t, list, what+", the ways on", flow, s.flow(f))
			checkWaysOn(t, what, s, flow)
			effects[effect.Code]++
			flows[flow.Code]++
			if s.ins.Name == "<init>" && effect.Code == impl.OK {
				constructed++
			}
		}
		if told.name == "callspecial" && (constructed < 20 || effects[impl.OK]-constructed < 8) {
			t.Errorf("%d constructors called of %d", constructed, effects[impl.OK])
		}
		for _, code := range codesTold(told.name) {
			if effects[code] == 0 {
				t.Errorf("%s: no code %d: %v", told.name, code, effects)
			}
		}
		if flows[impl.OK] < 20 {
			t.Errorf("%s: too few that are not refused: %v", told.name, flows)
		}
	}
}

// Promise 23: a step that is not refused tells a frame for each way on, and each way on is an instruction of the method.
func checkWaysOn(t *testing.T, what string, s modelStep, out impl.FlowOut) {
	t.Helper()
	if len(out.Next) != len(out.Frames) || out.Code != impl.OK && len(out.Next) > 0 {
		t.Fatalf("%s: %d ways on, %d frames, code %d", what, len(out.Next), len(out.Frames), out.Code)
	}
	for at, next := range out.Next {
		f := out.Frames[at]
		if next < 0 || next >= int64(len(s.method.Code)) {
			t.Fatalf("%s: %d is no instruction", what, next)
		}
		if !impl.FrameRight(s.model, f) || len(f.Stack) > int(s.method.Stack) || len(f.Locals) != int(s.method.Locals) {
			t.Fatalf("%s: no frame of the method:%s", what, frameNamed(f))
		}
	}
}

func TestFlowLeavesWhatIsHandedInAsItIs(t *testing.T) {
	list := flowWorld(methodOf("static ()V", 4, 3, plainCode(t, "dup", "new O", "ifeq 0", "return")...))
	before := shown(list)
	f := frameOf("int, int | ref M, new O 1, this")
	for range 2 {
		same(t, list, "dup", impl.Flow(list, inM, behind, 0, f), flowOut(t, "1 / int, int, int | ref M, new O 1, this"))
		same(t, list, "new", impl.Flow(list, inM, behind, 1, f), flowOut(t, "2 / int, int, new O 1 | ref M, top, this"))
		same(t, list, "ifeq", impl.Flow(list, inM, behind, 2, f), flowOut(t, "3 / int | ref M, new O 1, this", "0 / int | ref M, new O 1, this"))
	}
	same(t, nil, "the list", shown(list), before)
	// What was told of one list is not kept for another one.
	list[3].Abstract = true
	same(t, list, "new", impl.Flow(list, inM, behind, 1, f), impl.FlowOut{Code: impl.ErrAccess})
	list[3].Name, list[3].Abstract = "P", false
	same(t, list, "new", impl.Flow(list, inM, behind, 1, f), impl.FlowOut{Code: impl.ErrForm})
	list[3].Name = "O"
	same(t, list, "new", impl.Flow(list, inM, behind, 1, f), flowOut(t, "2 / int, int, new O 1 | ref M, top, this"))
}

// No two lists of an answer are one, and none is one that was handed in: not where nothing changes, either.
func TestFlowSharesNoLists(t *testing.T) {
	m := methodOf("static ()V", 4, 2, plainCode(t, "ifeq 0", "goto 0", "return")...)
	m.Handlers = handlersOf(t, "0 3 2 E, 0 3 1 Error")
	list := flowWorld(m)
	f := frameOf("ref M, null, int | ref N, this")
	for at, want := range []impl.FlowOut{
		flowOut(t, "1 / ref M, null | ref N, this", "0 / ref M, null | ref N, this", "2 / ref E | ref N, this", "1 / ref Error | ref N, this"),
		flowOut(t, "0 / ref M, null, int | ref N, this", "2 / ref E | ref N, this", "1 / ref Error | ref N, this"),
		flowOut(t, "2 / ref E | ref N, this", "1 / ref Error | ref N, this"),
	} {
		for way := range want.Frames {
			out, other := impl.Flow(list, inM, behind, int64(at), f), impl.Flow(list, inM, behind, int64(at), f)
			scribble(out.Frames[way].Stack)
			same(t, list, "the locals", out.Frames[way].Locals, want.Frames[way].Locals)
			scribble(out.Frames[way].Locals)
			for place := range want.Frames {
				if place != way {
					same(t, list, "another frame", out.Frames[place], want.Frames[place])
				}
			}
			same(t, list, "another call", other, want)
			same(t, list, "the frame", f, frameOf("ref M, null, int | ref N, this"))
		}
		// Nor is what is told changed with what was handed in.
		g := cloneFrame(f)
		out, effect := impl.Flow(list, inM, behind, int64(at), g), impl.FlowEffect(list, inM, behind, int64(at), g)
		before := shown(effect)
		scribble(g.Stack, g.Locals)
		same(t, list, "what is told", out, want)
		same(t, list, "the effect", shown(effect), before)
		scribble(effect.Frame.Stack)
		same(t, list, "the effect's locals", effect.Frame.Locals, f.Locals)
		again := impl.FlowEffect(list, inM, behind, int64(at), f)
		scribble(again.Frame.Stack, again.Frame.Locals)
		same(t, list, "the frame", f, frameOf("ref M, null, int | ref N, this"))
	}
}

// ownMemory: texts that are no memory of each other, nor of those that were handed in.
func ownMemory(t *testing.T, what string, told, handedIn []string) {
	t.Helper()
	for at, text := range told {
		for _, other := range slices.Concat(told[:at], handedIn) {
			if shares(text, other) {
				t.Errorf("%s: %q is no new memory", what, text)
			}
		}
	}
}

func classesIn(frames ...impl.Frame) []string {
	var classes []string
	for _, f := range frames {
		for _, one := range slices.Concat(f.Stack, f.Locals) {
			classes = append(classes, one.Class)
		}
	}
	return classes
}

func TestFlowSharesNoTexts(t *testing.T) {
	for ins, stack := range map[string]string{
		"new O": "", "cast M": "null", "newlist LM;": "int", "getfield M n LM;": "null", "getstatic S d LM;": "", "get": "refs M, int", "ifeq 0": "refs O, int", "dup": "ref O",
		"call M mine ()LM;": "null", "callspecial O <init> ()V": "new O 2, new O 2", "load 0": "", "store 1": "ref O", "pop": "ref O", "swap": "ref M, ref O", "areturn": "ref N, ref M",
	} {
		m := methodOf("plain ()LM;", 4, 3, insOf(t, ins), insOf(t, "goto 0"))
		m.Handlers = handlersOf(t, "0 1 1 E, 0 2 0 E")
		list := flowWorld(m)
		f := frameOf("| ref M, new O 2, refs N")
		if stack != "" {
			f.Stack = typesOf(stack)
		}
		for _, row := range [][]impl.Type{f.Stack, f.Locals} {
			for place := range row {
				row[place].Class = strings.Clone(row[place].Class)
			}
		}
		i := list[inM].Methods[behind].Code[0]
		handedIn := append(classesIn(f), i.Class, i.Name, i.Desc, m.Handlers[0].Class, m.Handlers[1].Class, flowTold)
		out, effect := impl.Flow(list, inM, behind, 0, f), impl.FlowEffect(list, inM, behind, 0, f)
		if out.Code != impl.OK || effect.Code != impl.OK {
			t.Fatalf("%s: codes %d, %d", ins, out.Code, effect.Code)
		}
		ownMemory(t, ins, append(classesIn(out.Frames...), classesIn(effect.Frame)...), handedIn)
	}
}
