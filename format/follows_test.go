package format_test

import (
	"html"
	"math/rand"
	"net/url"
	"os/exec"
	"regexp"
	"slices"
	"strings"
	"testing"

	"colander/api"
)

// P13.3

// someTexts are those of the samples, and many others.
func someTexts() []string {
	out := []string{strings.Repeat("a'\"\\\n<é", 2000)}
	for _, v := range samples() {
		out = append(out, textOf(v))
	}
	r := rand.New(rand.NewSource(132))
	for range 5000 {
		out = append(out, someText(r))
	}
	return out
}

// someRows are rows of those.
func someRows() [][]string {
	r := rand.New(rand.NewSource(133))
	out := [][]string{{""}, {"", ""}, {"'"}, {"", "'", ""}, {"a b", "c"}, {"\\", "\"", ","}, {"\t", "\\t", "\\\\t"}, {"null"}, {"-n", "--"}}
	for range 5000 {
		row := []string{someText(r)}
		for range r.Intn(5) {
			row = append(row, someText(r))
		}
		out = append(out, row)
	}
	return out
}

// rowOf answers texts as an array.
func rowOf(texts []string) api.Value {
	out := arr()
	for _, s := range texts {
		out.List = append(out.List, str(s))
	}
	return out
}

func TestBase64Back(t *testing.T) {
	for _, s := range someTexts() {
		text := formatted(t, "base64", str(s))
		if got := formatted(t, "base64d", str(text)); got != s || len(text)%4 != 0 {
			t.Fatalf("base64d of base64 of %q is %q (%s)", s, got, text)
		}
		// It does without what fills it up, too.
		if got := formatted(t, "base64d", str(strings.TrimRight(text, "="))); got != s {
			t.Fatalf("base64d of base64 of %q is %q, without what fills it up", s, got)
		}
	}
}

// words reads a line as a shell does, as far as it has quotes and backslashes.
func words(t *testing.T, line string) []string {
	t.Helper()
	var out []string
	for line != "" {
		word := ""
		for line != "" && line[0] != ' ' {
			switch line[0] {
			case '\'':
				inner, rest, ok := strings.Cut(line[1:], "'")
				if !ok {
					t.Fatalf("%q: a quote without an end", line)
				}
				word, line = word+inner, rest
			case '\\':
				word, line = word+line[1:2], line[2:]
			default:
				if strings.IndexByte("\t\n\"$`;&|<>()*?[#~!{", line[0]) >= 0 {
					t.Fatalf("%q: a byte that a shell takes otherwise", line)
				}
				word, line = word+line[:1], line[1:]
			}
		}
		out = append(out, word)
		line = strings.TrimPrefix(line, " ")
	}
	return out
}

func TestShBack(t *testing.T) {
	for _, row := range someRows() {
		text := formatted(t, "sh", rowOf(row))
		if got := words(t, text); !slices.Equal(got, row) {
			t.Fatalf("sh writes %q as %s, which a shell reads as %q", row, text, got)
		}
	}
	for _, s := range someTexts() {
		text := formatted(t, "sh", str(s))
		if got := words(t, text); !slices.Equal(got, []string{s}) {
			t.Fatalf("sh writes %q as %s, which a shell reads as %q", s, text, got)
		}
	}
}

// TestShell lets a shell itself read all rows in one script: it tells each row's words, each ended by a byte 0 and the row by two more. (No word of a shell has such a byte.)
func TestShell(t *testing.T) {
	shell, err := exec.LookPath("sh")
	if err != nil {
		t.Skip("no shell is there")
	}
	var script, want strings.Builder
	script.WriteString(`told() { printf '%s\000' "$@"; printf '\000\000'; }` + "\n")
	for _, row := range someRows() {
		if strings.Contains(strings.Join(row, ""), "\x00") {
			continue
		}
		script.WriteString("told " + formatted(t, "sh", rowOf(row)) + "\n")
		want.WriteString(strings.Join(row, "\x00") + "\x00\x00\x00")
	}
	run := exec.Command(shell)
	run.Stdin = strings.NewReader(script.String())
	got, err := run.Output()
	if err != nil || string(got) != want.String() {
		t.Errorf("a shell reads other words: %v, %d bytes, want %d", err, len(got), want.Len())
	}
}

var csvCell = regexp.MustCompile(`\A(?s:"((?:[^"]|"")*)")(,|\z)`)

func TestCSVBack(t *testing.T) {
	for _, row := range someRows() {
		text := formatted(t, "csv", rowOf(row))
		var got []string
		for rest, more := text, true; more; {
			found := csvCell.FindStringSubmatch(rest)
			if found == nil {
				t.Fatalf("csv writes %q as %q, which is no csv at %q", row, text, rest)
			}
			got = append(got, strings.ReplaceAll(found[1], `""`, `"`))
			rest, more = rest[len(found[0]):], found[2] != ""
		}
		if !slices.Equal(got, row) {
			t.Fatalf("csv writes %q as %q, which is read as %q", row, text, got)
		}
	}
}

var tsvSign = regexp.MustCompile(`\\.`)

func TestTSVBack(t *testing.T) {
	for _, row := range someRows() {
		text := formatted(t, "tsv", rowOf(row))
		got := strings.Split(text, "\t")
		for i, cell := range got {
			if strings.ContainsAny(cell, "\n\r") {
				t.Fatalf("tsv writes %q as %q, which are several lines", row, text)
			}
			got[i] = tsvSign.ReplaceAllStringFunc(cell, func(s string) string {
				return map[string]string{`\\`: `\`, `\t`: "\t", `\n`: "\n", `\r`: "\r"}[s]
			})
		}
		if !slices.Equal(got, row) {
			t.Fatalf("tsv writes %q as %q, which is read as %q", row, text, got)
		}
	}
}

func TestHTMLBack(t *testing.T) {
	for _, s := range someTexts() {
		text := formatted(t, "html", str(s))
		if strings.ContainsAny(text, `<>'"`) || html.UnescapeString(text) != s {
			t.Fatalf("html writes %q as %q", s, text)
		}
	}
}

var uriText = regexp.MustCompile(`\A(?:[A-Za-z0-9_.~-]|%[0-9A-F][0-9A-F])*\z`)

func TestURIBack(t *testing.T) {
	for _, s := range someTexts() {
		text := formatted(t, "uri", str(s))
		if got, err := url.PathUnescape(text); err != nil || got != s || !uriText.MatchString(text) {
			t.Fatalf("uri writes %q as %q, which is read as %q", s, text, got)
		}
	}
}
