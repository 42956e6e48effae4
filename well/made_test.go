package well

import (
	"strings"
	"testing"

	"turntable/api"
	"turntable/made"
	"turntable/parse"
	"turntable/show"
)

// read is the program of a text, and where the word stands that has ! ahead of it (0, if there is none).
func read(t *testing.T, text string) (api.Prog, int) {
	t.Helper()
	at := max(strings.Index(text, "!"), 0)
	p, e := parse.Text(strings.Replace(text, "!", "", 1))
	if e != (api.Err{}) {
		t.Fatalf("%s: %v", text, e)
	}
	return p, at
}

// must holds what is answered of a program.
func must(t *testing.T, p api.Prog, source, made api.Err) {
	t.Helper()
	if got := Source(p); got != source {
		t.Fatalf("Source is %v, want %v, of\n%s", got, source, show.Text(p))
	}
	if got := Made(p); got != made {
		t.Fatalf("Made is %v, want %v, of\n%s", got, made, show.Text(p))
	}
}

// told is a text, and which code is told where it has a ! (of OK nowhere).
type told struct {
	text string
	code api.Code
}

// mustTell holds what is told of texts, whoever asks.
func mustTell(t *testing.T, list ...told) {
	t.Helper()
	for _, x := range list {
		p, at := read(t, x.text)
		must(t, p, api.Err{Code: x.code, At: at}, api.Err{Code: x.code, At: at})
	}
}

// mustTellSource holds what Source tells of texts with which nothing is wrong for Made.
func mustTellSource(t *testing.T, list ...told) {
	t.Helper()
	for _, x := range list {
		p, at := read(t, x.text)
		must(t, p, api.Err{Code: x.code, At: at}, api.Err{})
	}
}

// eachProgram hands over programs by chance that may be run, and whether they have what is put in later.
func eachProgram(count int, do func(m *made.Maker, p api.Prog, later bool)) {
	for seed := range count {
		m := made.New(seed)
		later := m.Intn(2) == 0
		do(m, m.Program(1+m.Intn(3), 1+m.Intn(9), later), later)
	}
}
