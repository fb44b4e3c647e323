package impl

// Constants, see chapter 1.
const (
	OK         = 0
	ErrForm    = 1
	ErrSize    = 2
	ErrSyntax  = 3
	ErrShort   = 4
	ErrPool    = 5
	ErrName    = 6
	ErrThere   = 7
	ErrNone    = 8
	ErrCycle   = 9
	ErrType    = 10
	ErrStack   = 11
	ErrFlow    = 12
	ErrFuel    = 13
	ErrAccess  = 14
	ErrFull    = 15
	MaxBytes   = 20000
	MaxList    = 400
	MaxClasses = 10
	MaxFields  = 8
	MaxMethods = 10
	MaxCode    = 60
	MaxLocals  = 16
	MaxStack   = 16
)

// NumOut is a thing of chapter 2.
type NumOut struct {
	N    int64
	At   int64
	Code int64
}

// TextOut is a thing of chapter 2.
type TextOut struct {
	Text string
	At   int64
	Code int64
}

// The most bytes that a text with its length in one byte, and a name, can have.
const (
	maxShortText = 255
	maxName      = 20
)

// Put1: see chapter 2.
func Put1(n int64) string {
	one := uint8(n)
	if int64(one) != n {
		return ""
	}
	return string([]byte{one})
}

// Put2: see chapter 2.
func Put2(n int64) string {
	two := uint16(n)
	if int64(two) != n {
		return ""
	}
	return string([]byte{byte(two >> 8), byte(two)})
}

// Put4: see chapter 2.
func Put4(n int64) string {
	if !isInt(n) {
		return ""
	}
	four := uint32(int32(n))
	return string([]byte{byte(four >> 24), byte(four >> 16), byte(four >> 8), byte(four)})
}

func isInt(n int64) bool {
	return int64(int32(n)) == n
}

// Get1: see chapter 2.
func Get1(text string, at int64) NumOut {
	if code := reach(text, at, 1); code != OK {
		return NumOut{Code: code}
	}
	return NumOut{N: int64(text[at]), At: at + 1}
}

// Get2: see chapter 2.
func Get2(text string, at int64) NumOut {
	if code := reach(text, at, 2); code != OK {
		return NumOut{Code: code}
	}
	two := uint16(text[at])<<8 | uint16(text[at+1])
	return NumOut{N: int64(two), At: at + 2}
}

// Get4: see chapter 2.
func Get4(text string, at int64) NumOut {
	if code := reach(text, at, 4); code != OK {
		return NumOut{Code: code}
	}
	high := uint32(text[at])<<24 | uint32(text[at+1])<<16
	low := uint32(text[at+2])<<8 | uint32(text[at+3])
	return NumOut{N: int64(int32(high | low)), At: at + 4}
}

// reach tells the first fault that keeps count bytes from being read at that place.
func reach(text string, at int64, count int64) int64 {
	size := int64(len(text))
	if size > MaxBytes {
		return ErrSize
	}
	if at < 0 {
		return ErrForm
	}
	// A difference, since at+count could leave int64.
	if size-at < count {
		return ErrShort
	}
	return OK
}

// PutText: see chapter 2.
func PutText(t string) string {
	if len(t) > maxShortText || !allShown(t) {
		return ""
	}
	return Put1(int64(len(t))) + t
}

// GetText: see chapter 2.
func GetText(text string, at int64) TextOut {
	size := Get1(text, at)
	if size.Code != OK {
		return TextOut{Code: size.Code}
	}
	if code := reach(text, size.At, size.N); code != OK {
		return TextOut{Code: code}
	}
	end := size.At + size.N
	piece := text[size.At:end]
	if !allShown(piece) {
		return TextOut{Code: ErrSyntax}
	}
	// By way of bytes, since a piece of a string shares its memory.
	return TextOut{Text: string([]byte(piece)), At: end}
}

// allShown asks whether each byte is 32 to 126. A range over a string passes by
// the later bytes of a rune, but only behind a first one that is refused already.
func allShown(t string) bool {
	for i := range t {
		if t[i] < ' ' || t[i] > '~' {
			return false
		}
	}
	return true
}

// NameRight: see chapter 2.
func NameRight(t string) bool {
	if len(t) == 0 || len(t) > maxName || isDigit(t[0]) {
		return false
	}
	// As in allShown, only bytes behind a wrong one are passed by.
	for i := range t {
		if !isNameByte(t[i]) {
			return false
		}
	}
	return true
}

func isNameByte(b byte) bool {
	return b >= 'a' && b <= 'z' || b >= 'A' && b <= 'Z' || isDigit(b) || b == '$'
}

func isDigit(b byte) bool {
	return b >= '0' && b <= '9'
}
