package impl

const (
	MaxText = 65536
	MaxList = 4096
	MaxName = 12

	OK         = 0
	ErrBad     = 1
	ErrLong    = 2
	ErrForm    = 3
	ErrRange   = 4
	ErrNone    = 5
	ErrMany    = 6
	ErrFull    = 7
	ErrSize    = 8
	ErrKind    = 9
	ErrName    = 10
	ErrState   = 11
	ErrControl = 12
	ErrToken   = 13
	ErrFuel    = 14
	ErrThrown  = 15
	ErrDenied  = 16
	ErrSealed  = 17
	ErrSame    = 18
)

var codeWords = [...]string{
	"ok", "bad", "long", "form", "range", "none", "many", "full", "size", "kind",
	"name", "state", "control", "token", "fuel", "thrown", "denied", "sealed", "same",
}

func NameOK(t string) bool {
	if len(t) < 1 || len(t) > MaxName || isDigit(t[0]) {
		return false
	}
	for i := range len(t) {
		if !isDigit(t[i]) && !isNameLetter(t[i]) {
			return false
		}
	}
	return true
}

func isDigit(c byte) bool {
	return '0' <= c && c <= '9'
}

func isNameLetter(c byte) bool {
	return 'a' <= c && c <= 'z' || 'A' <= c && c <= 'Z' || c == '_'
}

func CodeWord(code int) string {
	if code < 0 || code >= len(codeWords) {
		return ""
	}
	return codeWords[code]
}

func CodeOf(word string) int {
	for code := range len(codeWords) {
		if codeWords[code] == word {
			return code
		}
	}
	return -1
}
