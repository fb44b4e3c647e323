package tests

import (
	"fmt"
	"math"
	"reflect"
	"slices"
	"strconv"
	"strings"
	"testing"

	"loop.example/g00175/impl"
)

// What a byte of a class's bytes is.
const (
	headByte = iota
	poolByte
	textByte
	placeByte
	flagsByte
	opByte
	freeByte
)

// toldByte is a byte of a class's bytes, with the place at which a fault in it is seen.
type toldByte struct {
	value byte
	what  int
	seen  int64
	most  int
}

// teller tells a class in bytes, be it right or not, as the document says.
type teller struct {
	pool []string
	out  []toldByte
}

func (f *teller) put(what int, most int, values ...int64) {
	for _, v := range values {
		f.out = append(f.out, toldByte{byte(v), what, int64(len(f.out)), most})
	}
}

func (f *teller) texts(texts ...string) {
	for _, text := range texts {
		if !slices.Contains(f.pool, text) {
			f.pool = append(f.pool, text)
		}
		f.put(placeByte, 0, int64(slices.Index(f.pool, text)))
	}
}

func (f *teller) flags(flags ...bool) {
	bits := int64(0)
	for i, flag := range flags {
		if flag {
			bits += []int64{1, 2, 4}[i]
		}
	}
	f.put(flagsByte, []int{0, 1, 3, 7}[len(flags)], bits)
}

func (f *teller) numbers(numbers ...int64) {
	f.put(freeByte, 0, numbers...)
}

func (f *teller) class(c impl.Class) {
	f.texts(c.Name, c.Super)
	f.flags(c.Final, c.Abstract)
	f.numbers(int64(len(c.Fields)))
	for _, field := range c.Fields {
		f.texts(field.Name, field.Type)
		f.flags(field.Static)
	}
	f.numbers(int64(len(c.Methods)))
	for _, m := range c.Methods {
		f.method(m)
	}
}

func (f *teller) method(m impl.Method) {
	f.texts(m.Name, m.Desc)
	f.flags(m.Static, m.Abstract, m.Final)
	f.numbers(m.Stack, m.Locals, int64(len(m.Code)))
	for _, i := range m.Code {
		f.put(opByte, 0, i.Op)
		switch {
		case i.Op == 1:
			f.numbers(i.A>>24, i.A>>16, i.A>>8, i.A)
		case i.Op == 3, i.Op == 4, i.Op >= 19 && i.Op <= 25:
			f.numbers(i.A)
		case i.Op == 31, i.Op == 39, i.Op == 40:
			f.texts(i.Class)
		case i.Op == 41:
			f.texts(i.Desc)
		case i.Op >= 32 && i.Op <= 38:
			f.texts(i.Class, i.Name, i.Desc)
		}
	}
	f.numbers(int64(len(m.Handlers)))
	for _, h := range m.Handlers {
		f.numbers(h.From, h.To, h.At)
		f.texts(h.Class)
	}
}

// poolTold: the pool that a class has.
func poolTold(c impl.Class) []string {
	var f teller
	f.class(c)
	return f.pool
}

// fileWith: a class's bytes with a pool that need not be its own, but has all of its texts.
func fileWith(c impl.Class, pool []string) []toldByte {
	f := teller{pool: slices.Clone(pool)}
	f.put(headByte, 0, 'C', 'F', 1)
	f.put(poolByte, 0, int64(len(pool)))
	for _, text := range pool {
		size := int64(len(f.out))
		f.numbers(int64(len(text)))
		for i := range len(text) {
			f.out = append(f.out, toldByte{text[i], textByte, size, 0})
		}
	}
	f.class(c)
	return f.out
}

func textOf(file []toldByte) string {
	text := make([]byte, 0, len(file))
	for _, b := range file {
		text = append(text, b.value)
	}
	return string(text)
}

func fileOf(c impl.Class) []toldByte {
	return fileWith(c, poolTold(c))
}

func fileText(c impl.Class) string {
	return textOf(fileOf(c))
}

// faultOf: the fault that another value of one byte is, whatever stands behind it.
func faultOf(b toldByte, value byte, pool int) int64 {
	switch {
	case b.what == headByte && value != b.value:
		return impl.ErrSyntax
	case b.what == poolByte && value > impl.MaxPool:
		return impl.ErrPool
	case b.what == textByte && (value < 32 || value > 126):
		return impl.ErrSyntax
	case b.what == placeByte && int(value) >= pool:
		return impl.ErrPool
	case b.what == flagsByte && int(value) > b.most:
		return impl.ErrSyntax
	case b.what == opByte && (value < 1 || value > 44):
		return impl.ErrSyntax
	}
	return impl.OK
}

// A method with an instruction of each op for each case that its form takes, at most MaxCode.
func methodsOfAllForms(t *testing.T) []impl.Method {
	var all []impl.Ins
	cases := formCases()
	for _, told := range toldOps(t) {
		for _, i := range cases[told.form].right {
			i.Op = told.op
			all = append(all, i)
		}
	}
	var methods []impl.Method
	for code := range slices.Chunk(all, impl.MaxCode) {
		m := plainMethod()
		// Up to MaxCode, so that each target is there.
		m.Code = append(slices.Clone(code), nops(impl.MaxCode-len(code))...)
		methods = append(methods, m)
	}
	return methods
}

// classOf: a class of one method.
func classOf(m impl.Method) impl.Class {
	return impl.Class{Name: "A", Super: "Object", Abstract: m.Abstract, Methods: []impl.Method{m}}
}

func classesByFlags() []impl.Class {
	var list []impl.Class
	for _, final := range []bool{false, true} {
		for _, other := range []bool{false, true} {
			c := impl.Class{Name: "A", Super: "Object", Final: final, Abstract: other && !final}
			c.Fields = []impl.Field{{Name: "a", Type: "I", Static: final}, {Name: "b", Type: "I", Static: other}}
			list = append(list, c)
			m := plainMethod()
			m.Static, m.Final, m.Locals = other, final, 1
			list = append(list, classOf(m))
		}
	}
	return append(list, classOf(abstractMethod()), classOf(initMethod()))
}

func classesByNumbers() []impl.Class {
	var list []impl.Class
	for _, a := range numbersWithin(math.MinInt32, math.MaxInt32) {
		m := plainMethod()
		m.Code = []impl.Ins{{Op: 1, A: a}}
		list = append(list, classOf(m))
	}
	full := plainMethod()
	full.Stack, full.Locals, full.Code = impl.MaxStack, impl.MaxLocals, nops(impl.MaxCode)
	full.Handlers = slices.Repeat([]impl.Handler{{From: 0, To: 60, At: 59, Class: "A"}, {From: 58, To: 59, At: 0, Class: "B"}}, 3)
	list = append(list, classOf(full))
	for _, d := range rightDescs() {
		m := plainMethod()
		m.Desc, m.Locals = impl.DescText(d), impl.MaxLocals
		list = append(list, classOf(m))
	}
	for _, name := range rightNames() {
		m := plainMethod()
		m.Name = name
		c := classOf(m)
		c.Name, c.Super = name, "Super"
		list = append(list, c)
	}
	return list
}

// fileClasses: right classes of all kinds.
func fileClasses(t *testing.T) []impl.Class {
	t.Helper()
	list := []impl.Class{
		{Name: "A", Super: "Object"}, {Name: "Object", Super: "A", Final: true}, {Name: "a", Super: "b", Abstract: true},
		{Name: "A", Super: "B", Fields: fieldsOf(impl.MaxFields)}, {Name: "A", Super: "B", Methods: methodsOf(impl.MaxMethods)},
		fullClass(), pooledClass(impl.MaxPool), sizedClass(impl.MaxBytes),
	}
	for _, m := range methodsOfAllForms(t) {
		list = append(list, classOf(m))
	}
	for _, parting := range partings() {
		c := fullClass()
		parting.do(&c)
		list = append(list, c)
	}
	list = append(list, classesByFlags()...)
	list = append(list, classesByNumbers()...)
	for _, c := range list {
		if !impl.ClassRight(c) {
			t.Fatalf("not right: %+v", c)
		}
	}
	return list
}

// addIns puts an instruction into the first method that has room for it.
func addIns(c *impl.Class, i impl.Ins) {
	for at := range c.Methods {
		if len(c.Methods[at].Code) < impl.MaxCode {
			c.Methods[at].Code = append(c.Methods[at].Code, i)
			return
		}
	}
	panic("no room")
}

// pooledClass: a right class whose pool has so many texts.
func pooledClass(count int) impl.Class {
	c := impl.Class{Name: "A", Super: "Object", Methods: methodsOf(impl.MaxMethods)}
	for i := 0; len(poolTold(c)) < count; i++ {
		addIns(&c, impl.Ins{Op: 31, Class: "C" + strconv.Itoa(i)})
	}
	return c
}

// sizedClass: a right class of so many bytes, by long texts first and single bytes then.
func sizedClass(size int) impl.Class {
	c := impl.Class{Name: "A", Super: "Object", Methods: methodsOf(impl.MaxMethods)}
	long := strings.Repeat("L"+strings.Repeat("N", 20)+";", impl.MaxParams)
	for i := 0; len(fileOf(c))+400 < size; i++ {
		addIns(&c, impl.Ins{Op: 36, Class: "A", Name: "f", Desc: "(" + long + ")LR" + strconv.Itoa(i) + ";"})
	}
	for range size - len(fileOf(c)) {
		addIns(&c, impl.Ins{Op: 2})
	}
	return c
}

func shown(thing any) string {
	return fmt.Sprintf("%+v", thing)
}

func checkRead(t *testing.T, what string, text string, want impl.ClassOut) {
	t.Helper()
	if got := impl.ClassRead(text); shown(got) != shown(want) {
		t.Errorf("%s: %.120q\n got %.300s\nwant %.300s", what, text, shown(got), shown(want))
	}
}

func TestRightClassesComeBackFromTheirBytes(t *testing.T) {
	for _, c := range fileClasses(t) {
		text := fileText(c)
		if got := impl.ClassBytes(c); got != text {
			t.Errorf("%.80s: got %.120q, want %.120q", shown(c), got, text)
		}
		if got := impl.ClassSize(c); got != int64(len(text)) {
			t.Errorf("%.80s: size %d of %d", shown(c), got, len(text))
		}
		checkRead(t, "back", text, impl.ClassOut{Class: c})
	}
}

func TestABeginningAloneIsTooShort(t *testing.T) {
	for _, c := range fileClasses(t) {
		text := impl.ClassBytes(c)
		// Each beginning is read from its first byte on: of a long one some stand for all.
		step := 1 + len(text)/2000
		for size := 0; size < len(text); size += step {
			checkRead(t, "short", text[:size], impl.ClassOut{At: int64(size), Code: impl.ErrShort})
		}
		last := len(text) - 1
		checkRead(t, "short by one", text[:last], impl.ClassOut{At: int64(last), Code: impl.ErrShort})
	}
}

func TestBytesBehindTheEnd(t *testing.T) {
	for _, c := range fileClasses(t) {
		text := impl.ClassBytes(c)
		for _, more := range []string{"x", "\x00", "\xff\x00", text} {
			want := impl.ClassOut{At: int64(len(text)), Code: impl.ErrSyntax}
			if len(text)+len(more) > impl.MaxBytes {
				want = impl.ClassOut{Code: impl.ErrSize}
			}
			checkRead(t, "more", text+more, want)
		}
	}
}

// What is read is told by just its bytes: whatever one byte is changed to, it is refused there, or
// behind it, or is another class's.
func TestOneByteChanged(t *testing.T) {
	for _, c := range []impl.Class{fullClass(), {Name: "A", Super: "Object"}, classOf(initMethod())} {
		file := fileOf(c)
		pool := len(poolTold(c))
		for at, b := range file {
			for value := range 256 {
				text := []byte(textOf(file))
				text[at] = byte(value)
				checkOneByte(t, b, string(text), faultOf(b, byte(value), pool))
			}
		}
	}
}

func checkOneByte(t *testing.T, b toldByte, text string, fault int64) {
	t.Helper()
	if fault != impl.OK {
		checkRead(t, "one byte", text, impl.ClassOut{At: b.seen, Code: fault})
		return
	}
	got := impl.ClassRead(text)
	if got.Code == impl.OK {
		if got.At != 0 || !impl.ClassRight(got.Class) || fileText(got.Class) != text || impl.ClassBytes(got.Class) != text {
			t.Errorf("%q is read as %+v", text, got)
		}
		return
	}
	if got.At < b.seen || got.At > int64(len(text)) || !reflect.DeepEqual(got.Class, impl.Class{}) {
		t.Errorf("%q: changed at %d, got %+v", text, b.seen, got)
	}
}

func TestHeads(t *testing.T) {
	for text, want := range map[string]impl.ClassOut{
		"":             {At: 0, Code: impl.ErrShort},
		"C":            {At: 1, Code: impl.ErrShort},
		"CF":           {At: 2, Code: impl.ErrShort},
		"CF\x01":       {At: 3, Code: impl.ErrShort},
		"c":            {At: 0, Code: impl.ErrSyntax},
		"F":            {At: 0, Code: impl.ErrSyntax},
		"\x00F\x01":    {At: 0, Code: impl.ErrSyntax},
		"CG":           {At: 1, Code: impl.ErrSyntax},
		"Cf\x01\x00":   {At: 1, Code: impl.ErrSyntax},
		"CF\x00":       {At: 2, Code: impl.ErrSyntax},
		"CF\x02\x00":   {At: 2, Code: impl.ErrSyntax},
		"CF1\xff":      {At: 2, Code: impl.ErrSyntax},
		"CC\x02":       {At: 1, Code: impl.ErrSyntax},
		"CF\x01\xc9":   {At: 3, Code: impl.ErrPool},
		"CF\x01\xff":   {At: 3, Code: impl.ErrPool},
		"CF\x01\xc8":   {At: 4, Code: impl.ErrShort},
		"CF\x01\x00":   {At: 4, Code: impl.ErrShort},
		"CF\x01\x01":   {At: 4, Code: impl.ErrShort},
		"\xef\xbb\xbf": {At: 0, Code: impl.ErrSyntax},
	} {
		checkRead(t, "head", text, want)
	}
}

func TestPlacesInThePool(t *testing.T) {
	for text, want := range map[string]impl.ClassOut{
		"CF\x01\x00\x00":                                               {At: 4, Code: impl.ErrPool},
		"CF\x01\x00\x00\x00\x00\x00\x00":                               {At: 4, Code: impl.ErrPool},
		"CF\x01\x02\x01A\x01B\x00\x01\x00\x00\x00":                     {Class: impl.Class{Name: "A", Super: "B"}},
		"CF\x01\x02\x01A\x01B\x00\x02\x00\x00\x00":                     {At: 9, Code: impl.ErrPool},
		"CF\x01\x02\x01A\x01B\x02\x01\x00\x00\x00":                     {At: 8, Code: impl.ErrPool},
		"CF\x01\x02\x01A\x01B\x00\xff\x00\x00\x00":                     {At: 9, Code: impl.ErrPool},
		"CF\x01\x03\x01A\x01B\x01I\x00\x01\x00\x01\x00\x02\x00\x00":    {Class: impl.Class{Name: "A", Super: "B", Fields: []impl.Field{{Name: "A", Type: "I"}}}},
		"CF\x01\x03\x01A\x01B\x01I\x00\x01\x00\x01\x00\x03\x00\x00":    {At: 15, Code: impl.ErrPool},
		"CF\x01\x03\x01A\x01B\x01I\x00\x01\x00\x01\x03\x02\x00\x00":    {At: 14, Code: impl.ErrPool},
		"CF\x01\x01\x01A\x00\x00\x00\x00\x00":                          {At: 11, Code: impl.ErrForm},
		"CF\x01\x02\x01A\x00\x00\x01\x00\x00\x00":                      {At: 12, Code: impl.ErrForm},
		"CF\x01\x02\x01A\x01\x7f\x00\x01\x00\x00\x00":                  {At: 6, Code: impl.ErrSyntax},
		"CF\x01\x02\x01A\x01B\x00\x01\x00\x00\x01\x00":                 {At: 14, Code: impl.ErrShort},
		"CF\x01\x02\x01A\x01B\x00\x01\x00\x00\x01\x00\x02":             {At: 14, Code: impl.ErrPool},
		"CF\x01\x02\x01A\x01B\x00\x01\x00\x00\x01\x00\x01\x08":         {At: 15, Code: impl.ErrSyntax},
		"CF\x01\x02\x01A\x01B\x00\x01\x00\x00\x01\x00\x01\x07\xff\xff": {At: 18, Code: impl.ErrShort},
	} {
		checkRead(t, "places", text, want)
	}
}

func TestPoolsAtTheirMost(t *testing.T) {
	most, more := pooledClass(impl.MaxPool), pooledClass(impl.MaxPool+1)
	if pool := impl.PoolOf(most); len(pool) != impl.MaxPool {
		t.Errorf("%d texts", len(pool))
	}
	if !impl.ClassRight(more) || len(poolTold(more)) != impl.MaxPool+1 {
		t.Fatalf("the test's class is not as it should be")
	}
	if text := impl.ClassBytes(more); text != "" {
		t.Errorf("a text of %d bytes", len(text))
	}
	if pool, size := impl.PoolOf(more), impl.ClassSize(more); len(pool) != 0 || size != 0 {
		t.Errorf("a pool of %d texts, size %d", len(pool), size)
	}
	checkRead(t, "one more", fileText(more), impl.ClassOut{At: 3, Code: impl.ErrPool})
	// Far more, so that a place would not go into a byte.
	far := pooledClass(300)
	if text, pool := impl.ClassBytes(far), impl.PoolOf(far); text != "" || len(pool) != 0 {
		t.Errorf("%d bytes, %d texts", len(text), len(pool))
	}
}

func TestPoolsHaveEachTextOnce(t *testing.T) {
	for _, c := range fileClasses(t) {
		pool := impl.PoolOf(c)
		if !slices.Equal(pool, poolTold(c)) {
			t.Errorf("%.80s: got %q, want %q", shown(c), pool, poolTold(c))
		}
		sorted := slices.Sorted(slices.Values(pool))
		if len(slices.Compact(sorted)) != len(pool) {
			t.Errorf("a text twice: %q", pool)
		}
	}
}

func TestPoolsThatAreToldOtherwise(t *testing.T) {
	c := fullClass()
	own := poolTold(c)
	last := len(own) - 1
	swapped := slices.Clone(own)
	swapped[0], swapped[last] = own[last], own[0]
	sorted := slices.Sorted(slices.Values(own))
	for what, pool := range map[string][]string{
		"a text that is never told behind": append(slices.Clone(own), "never"),
		"a text that is never told ahead":  append([]string{"never"}, own...),
		"an empty text":                    append(slices.Clone(own), ""),
		"a text twice":                     append(slices.Clone(own), own[3]),
		"the first text twice":             append([]string{own[0]}, own...),
		"swapped":                          swapped,
		"sorted":                           sorted,
	} {
		text := textOf(fileWith(c, pool))
		checkRead(t, what, text, impl.ClassOut{At: int64(len(text)), Code: impl.ErrPool})
	}
	checkRead(t, "its own", textOf(fileWith(c, own)), impl.ClassOut{Class: c})
}

// A text may stand twice in the pool with each of the two told once.
func TestOneTextToldFromTwoPlaces(t *testing.T) {
	text := "CF\x01\x04\x01A\x01B\x01I\x01A\x00\x01\x00\x01\x03\x02\x00\x00"
	checkRead(t, "two places", text, impl.ClassOut{At: int64(len(text)), Code: impl.ErrPool})
}

func TestFlags(t *testing.T) {
	for bits := range 256 {
		class := "CF\x01\x02\x01A\x01B\x00\x01" + string([]byte{byte(bits)}) + "\x00\x00"
		want := impl.ClassOut{Class: impl.Class{Name: "A", Super: "B", Final: bits == 1, Abstract: bits == 2}}
		if bits == 3 {
			want = impl.ClassOut{At: int64(len(class)), Code: impl.ErrForm}
		}
		if bits > 3 {
			want = impl.ClassOut{At: 10, Code: impl.ErrSyntax}
		}
		checkRead(t, "a class's flags", class, want)

		field := "CF\x01\x03\x01A\x01B\x01I\x00\x01\x00\x01\x00\x02" + string([]byte{byte(bits)}) + "\x00"
		want = impl.ClassOut{Class: impl.Class{Name: "A", Super: "B", Fields: []impl.Field{{Name: "A", Type: "I", Static: bits == 1}}}}
		if bits > 1 {
			want = impl.ClassOut{At: 16, Code: impl.ErrSyntax}
		}
		checkRead(t, "a field's flags", field, want)
	}
}

func TestMethodsFlags(t *testing.T) {
	for _, m := range []impl.Method{plainMethod(), abstractMethod()} {
		m.Locals = int64(len(m.Code))
		for bits := range 256 {
			m.Static, m.Abstract, m.Final = bits&1 == 1, bits&2 == 2, bits&4 == 4
			c := impl.Class{Name: "A", Super: "B", Abstract: true, Methods: []impl.Method{m}}
			file := fileOf(c)
			at := slices.IndexFunc(file, func(b toldByte) bool { return b.what == flagsByte && b.most == 7 })
			file[at].value = byte(bits)
			want := impl.ClassOut{Class: c}
			if !impl.ClassRight(c) {
				want = impl.ClassOut{At: int64(len(file)), Code: impl.ErrForm}
			}
			if bits > 7 {
				want = impl.ClassOut{At: int64(at), Code: impl.ErrSyntax}
			}
			checkRead(t, "a method's flags", textOf(file), want)
		}
	}
}

func TestOpsThatAreNone(t *testing.T) {
	c := classOf(plainMethod())
	file := fileOf(c)
	at := slices.IndexFunc(file, func(b toldByte) bool { return b.what == opByte })
	for op := range 256 {
		text := []byte(textOf(file))
		text[at] = byte(op)
		if got := impl.ClassRead(string(text)); (impl.OpName(int64(op)) == "") != (got.Code == impl.ErrSyntax && got.At == int64(at)) {
			t.Errorf("op %d: %+v", op, got)
		}
		short := string(text[:at+1])
		if got := impl.ClassRead(short); op >= 1 && op <= 44 && (got.Code != impl.ErrShort || got.At != int64(len(short))) {
			t.Errorf("op %d at the end: %+v", op, got)
		}
	}
}

func TestBytesOfClassesThatAreNotRight(t *testing.T) {
	change := func(do func(*impl.Class)) impl.Class {
		c := fullClass()
		do(&c)
		return c
	}
	long := strings.Repeat("N", 255)
	for i, c := range []impl.Class{
		{}, {Name: "A"}, {Super: "A"}, {Name: "A", Super: "A"}, {Name: "A", Super: "B", Final: true, Abstract: true},
		{Name: long, Super: "A"}, {Name: "A", Super: long}, {Name: "A", Super: "B C"},
		{Name: "A", Super: "B", Fields: fieldsOf(impl.MaxFields + 1)}, {Name: "A", Super: "B", Fields: fieldsOf(190)},
		{Name: "A", Super: "B", Methods: methodsOf(impl.MaxMethods + 1)}, {Name: "A", Super: "B", Methods: methodsOf(180)},
		change(func(c *impl.Class) { c.Abstract = false }),
		change(func(c *impl.Class) { c.Fields[1].Name = "a" }),
		change(func(c *impl.Class) { c.Fields[1].Type = "V" }),
		change(func(c *impl.Class) { c.Methods[1].Desc = "(I)I" }),
		change(func(c *impl.Class) { c.Methods[1].Stack = 1 }),
		change(func(c *impl.Class) { c.Methods[2].Stack = 17 }),
		change(func(c *impl.Class) { c.Methods[2].Locals = 255 }),
		change(func(c *impl.Class) { c.Methods[2].Locals = 0 }),
		change(func(c *impl.Class) { c.Methods[2].Code = nil }),
		change(func(c *impl.Class) { c.Methods[0].Code = nops(61) }),
		change(func(c *impl.Class) { c.Methods[0].Code = nops(255) }),
		change(func(c *impl.Class) { c.Methods[2].Code[1].A = 7 }),
		change(func(c *impl.Class) { c.Methods[2].Code[1].A = 255 }),
		change(func(c *impl.Class) { c.Methods[2].Code[2] = impl.Ins{Op: 3, A: 16} }),
		change(func(c *impl.Class) { c.Methods[2].Code[2].Class = "<init>" }),
		change(func(c *impl.Class) { c.Methods[2].Code[3].Desc = "()V" }),
		change(func(c *impl.Class) { c.Methods[2].Code[5].Desc = "[I" }),
		change(func(c *impl.Class) { c.Methods[2].Handlers[0].From = 3 }),
		change(func(c *impl.Class) { c.Methods[2].Handlers[0].At = 255 }),
		change(func(c *impl.Class) { c.Methods[2].Handlers = slices.Repeat(c.Methods[2].Handlers, 127) }),
	} {
		text := fileText(c)
		checkRead(t, strconv.Itoa(i), text, impl.ClassOut{At: int64(len(text)), Code: impl.ErrForm})
		if got, pool, size := impl.ClassBytes(c), impl.PoolOf(c), impl.ClassSize(c); got != "" || len(pool) != 0 || size != 0 {
			t.Errorf("%d: bytes %q, pool %q, size %d", i, got, pool, size)
		}
	}
}

func TestClassesThatBytesCannotTell(t *testing.T) {
	for what, do := range map[string]func(*impl.Class){
		"an op of 257":         func(c *impl.Class) { c.Methods[2].Code[6].Op = 256 + 26 },
		"a stack of 256":       func(c *impl.Class) { c.Methods[2].Stack = 256 },
		"a stack below nought": func(c *impl.Class) { c.Methods[2].Stack = -1 },
		"a number of 2^32":     func(c *impl.Class) { c.Methods[2].Code[0].A = 1 << 32 },
		"more than is told":    func(c *impl.Class) { c.Methods[2].Code[6].Name = "a" },
		"1000 fields":          func(c *impl.Class) { c.Fields = fieldsOf(1000) },
		"1000 methods":         func(c *impl.Class) { c.Methods = methodsOf(1000) },
		"a wrong byte":         func(c *impl.Class) { c.Name = "A\x00" },
		"a long name":          func(c *impl.Class) { c.Name = strings.Repeat("N", impl.MaxBytes+1) },
	} {
		c := fullClass()
		do(&c)
		if got, pool, size := impl.ClassBytes(c), impl.PoolOf(c), impl.ClassSize(c); got != "" || len(pool) != 0 || size != 0 {
			t.Errorf("%s: bytes %q, pool %q, size %d", what, got, pool, size)
		}
	}
}

func TestClassesOfMaxBytes(t *testing.T) {
	most, more := sizedClass(impl.MaxBytes), sizedClass(impl.MaxBytes+1)
	if text := impl.ClassBytes(most); len(text) != impl.MaxBytes {
		t.Errorf("%d bytes", len(text))
	}
	checkRead(t, "at the most", impl.ClassBytes(most), impl.ClassOut{Class: most})
	// One byte more is told, but not read.
	text := impl.ClassBytes(more)
	if len(text) != impl.MaxBytes+1 || text != fileText(more) || impl.ClassSize(more) != impl.MaxBytes+1 {
		t.Errorf("%d bytes, size %d", len(text), impl.ClassSize(more))
	}
	checkRead(t, "one more", text, impl.ClassOut{Code: impl.ErrSize})
	checkRead(t, "a wrong one of the most", strings.Repeat("x", impl.MaxBytes), impl.ClassOut{Code: impl.ErrSyntax})
	checkRead(t, "a wrong one of one more", strings.Repeat("x", impl.MaxBytes+1), impl.ClassOut{Code: impl.ErrSize})
	behind := fileText(fullClass())
	checkRead(t, "behind, up to the most", behind+strings.Repeat("x", impl.MaxBytes-len(behind)),
		impl.ClassOut{At: int64(len(behind)), Code: impl.ErrSyntax})
}

func TestOfTwoFaultsTheFirstIsNamed(t *testing.T) {
	for what, c := range map[string]struct {
		text string
		want impl.ClassOut
	}{
		"head, then short":                     {"CX", impl.ClassOut{At: 1, Code: impl.ErrSyntax}},
		"head, then pool":                      {"CF\x02\xc9", impl.ClassOut{At: 2, Code: impl.ErrSyntax}},
		"pool, then short":                     {"CF\x01\xc9", impl.ClassOut{At: 3, Code: impl.ErrPool}},
		"a wrong byte in a text too short":     {"CF\x01\x01\x05A\x00", impl.ClassOut{At: 7, Code: impl.ErrShort}},
		"a wrong byte, then short":             {"CF\x01\x02\x01\x00", impl.ClassOut{At: 4, Code: impl.ErrSyntax}},
		"a wrong byte in the second, then bad": {"CF\x01\x02\x01A\x02A\xff\x09\x09\x09", impl.ClassOut{At: 6, Code: impl.ErrSyntax}},
		"a length behind the end":              {"CF\x01\x02\x01A\xff" + strings.Repeat("A", 254), impl.ClassOut{At: 261, Code: impl.ErrShort}},
		"place, then flags":                    {"CF\x01\x02\x01A\x01B\x00\x02\x04", impl.ClassOut{At: 9, Code: impl.ErrPool}},
		"flags, then place":                    {"CF\x01\x02\x01A\x01B\x00\x01\x04\x01\x09", impl.ClassOut{At: 10, Code: impl.ErrSyntax}},
		"flags, then short":                    {"CF\x01\x02\x01A\x01B\x00\x01\xff", impl.ClassOut{At: 10, Code: impl.ErrSyntax}},
		"not right and more":                   {"CF\x01\x01\x01A\x00\x00\x00\x00\x00x", impl.ClassOut{At: 11, Code: impl.ErrSyntax}},
		"not right and otherwise":              {"CF\x01\x02\x01B\x01A\x01\x01\x00\x00\x00", impl.ClassOut{At: 13, Code: impl.ErrForm}},
		"otherwise and more":                   {"CF\x01\x02\x01B\x01A\x01\x00\x00\x00\x00x", impl.ClassOut{At: 13, Code: impl.ErrSyntax}},
		"not right, then short":                {"CF\x01\x01\x01A\x00\x00\x00\x00", impl.ClassOut{At: 10, Code: impl.ErrShort}},
		"too many fields, then a place":        {"CF\x01\x01\x01A\x00\x00\x00\xff\x00\x00\x00\x01", impl.ClassOut{At: 13, Code: impl.ErrPool}},
	} {
		checkRead(t, what, c.text, c.want)
	}
}

func TestReadersEndWhateverTheyAreGiven(t *testing.T) {
	for value := range 256 {
		for _, size := range []int{1, 10, 1000, impl.MaxBytes - 30} {
			rest := strings.Repeat(string([]byte{byte(value)}), size)
			for _, head := range []string{"", "CF\x01", "CF\x01\x00", "CF\x01\x01\x01A", "CF\x01\x02\x01A\x01B\x00\x01\x00"} {
				got := impl.ClassRead(head + rest)
				if got.At < 0 || got.At > int64(len(head)+size) {
					t.Errorf("%d bytes %d: %+v", size, value, got)
				}
			}
		}
	}
}

func TestClassFilesShareNothing(t *testing.T) {
	c := fullClass()
	text := impl.ClassBytes(c)
	pool := impl.PoolOf(c)
	clear(pool)
	read := impl.ClassRead(text)
	again := impl.ClassRead(text)
	read.Class.Fields[0].Name = "changed"
	read.Class.Methods[2].Code[0].A = 99
	read.Class.Methods[2].Handlers[0].Class = "changed"
	read.Class.Methods[0].Code = append(read.Class.Methods[0].Code, impl.Ins{Op: 2})
	if !reflect.DeepEqual(c, fullClass()) || !reflect.DeepEqual(again.Class, fullClass()) {
		t.Errorf("changed: %+v, %+v", c, again)
	}
	if !slices.Equal(impl.PoolOf(c), poolTold(c)) || impl.ClassBytes(c) != text {
		t.Errorf("a second answer is another: %q", impl.PoolOf(c))
	}
}
