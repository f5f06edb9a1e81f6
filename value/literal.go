package value

import (
	"strconv"
	"strings"

	"loupe/api"
)

const digits = "0123456789abcdef"

// Literal tells a value's literal.
func Literal(v api.Value) (string, api.Errno) {
	if e := Check(v); e != api.OK {
		return "", e
	}
	kinds := map[api.ValueKind]func() string{
		api.ValueNull: func() string { return "null" },
		api.ValueBool: func() string { return strconv.FormatBool(v.Int == 1) },
		api.ValueInt:  func() string { return strconv.FormatInt(v.Int, 10) },
		api.ValueText: func() string { return "'" + strings.ReplaceAll(v.Text, "'", "''") + "'" },
		api.ValueBlob: func() string { return "x'" + hex(v.Text) + "'" },
	}
	return kinds[v.Kind](), api.OK
}

// hex tells two digits a byte.
func hex(s string) string {
	b := make([]byte, 0, 2*len(s))
	for i := range len(s) {
		b = append(b, digits[s[i]>>4], digits[s[i]&15])
	}
	return string(b)
}

// Parse tells the value of a literal.
func Parse(s string) (v api.Value, e api.Errno) {
	defer func() {
		r := recover()
		if r == nil {
			return
		}
		g, ok := r.(givenUp)
		if !ok {
			panic(r)
		}
		e = g.why
	}()
	r := reader{text{s}}
	return r.value(), api.OK
}

// givenUp is what a reader panics with: Parse alone catches it.
type givenUp struct{ why api.Errno }

// need gives up, unless it is so.
func need(so bool, why api.Errno) {
	if !so {
		panic(givenUp{why})
	}
}

// text is what is not read yet.
type text struct{ rest string }

// take goes on behind a piece, if the text begins with it.
func (t *text) take(piece string) bool {
	rest, ok := strings.CutPrefix(t.rest, piece)
	t.rest = rest
	return ok
}

// reader reads a literal.
type reader struct{ text }

func (r *reader) value() api.Value {
	switch r.rest {
	case "null":
		return Of(api.Unknown)
	case "false":
		return Of(api.False)
	case "true":
		return Of(api.True)
	}
	switch {
	case r.take("'"):
		return api.Value{Kind: api.ValueText, Text: few(quoted(r.body()))}
	case r.take("x'"):
		return api.Value{Kind: api.ValueBlob, Text: few(paired(r.body()))}
	}
	return api.Value{Kind: api.ValueInt, Int: number(r.rest)}
}

// body tells what stands ahead of the quote at the end.
func (r *reader) body() string {
	body, ok := strings.CutSuffix(r.rest, "'")
	need(ok, api.ErrValue)
	return body
}

// quoted reads the text of a body in which each quote must stand twice.
func quoted(body string) string {
	odd := false
	for _, c := range body {
		need(!odd || c == '\'', api.ErrValue)
		odd = c == '\'' && !odd
	}
	need(!odd, api.ErrValue)
	return strings.ReplaceAll(body, "''", "'")
}

// paired reads the bytes of a body in which each has two digits.
func paired(body string) string {
	need(len(body)%2 == 0, api.ErrValue)
	b := make([]byte, 0, len(body)/2)
	for i := 0; i < len(body); i += 2 {
		b = append(b, digit(body[i])<<4|digit(body[i+1]))
	}
	return string(b)
}

func digit(c byte) byte {
	at := strings.IndexByte(digits, c)
	need(at >= 0, api.ErrValue)
	return byte(at)
}

// number reads a number. ParseInt takes more forms than the one that Literal tells: signs, noughts ahead.
func number(s string) int64 {
	n, err := strconv.ParseInt(s, 10, 64)
	need(err == nil && strconv.FormatInt(n, 10) == s, api.ErrValue)
	return n
}

// few gives up on more bytes than a text or a blob may have: the literal of one that is long, but right, is ErrLong.
func few(s string) string {
	need(len(s) <= api.MaxBytes, api.ErrLong)
	return s
}
