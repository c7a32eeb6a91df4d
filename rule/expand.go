package rule

import (
	"slices"
	"strings"

	"portcullis/api"
)

const (
	letWord = "let "
	mark    = "$"
	maxName = 8
)

// Names of texts.
func Names(text string) (names, texts []string, err error) {
	if len(text) > api.MaxText {
		return nil, nil, api.ErrFull
	}
	for line := range strings.Lines(text) {
		said, is := strings.CutPrefix(line, letWord)
		if !is {
			continue
		}
		name, tail, _ := strings.Cut(said, " = ")
		body, ended := strings.CutSuffix(tail, lineEnd)
		if !isName(name) || body == "" || !ended {
			return nil, nil, api.ErrSyntax
		}
		if slices.Contains(names, name) {
			return nil, nil, api.ErrClash
		}
		names, texts = append(names, name), append(texts, body)
	}
	return names, texts, nil
}

// Expand names and braces.
func Expand(text string) (string, error) {
	names, texts, err := Names(text)
	if err != nil {
		return "", err
	}
	text, err = fill(withoutLets(text), names, texts)
	if err != nil {
		return "", err
	}
	return spread(text)
}

func isName(s string) bool {
	other := func(c rune) bool { return c < 'a' || c > 'z' }
	return s != "" && len(s) <= maxName && !strings.ContainsFunc(s, other)
}

// withoutLets leaves out the lines that give names, of a text in which no other line begins as they do.
func withoutLets(text string) string {
	var b strings.Builder
	for line := range strings.Lines(text) {
		if !strings.HasPrefix(line, letWord) {
			b.WriteString(line)
		}
	}
	return b.String()
}

// fill puts texts in place of their names.
func fill(text string, names, texts []string) (string, error) {
	var b strings.Builder
	head, rest, marked := strings.Cut(text, mark)
	b.WriteString(head)
	for marked {
		n := longest(names, rest)
		if n < 0 {
			return "", api.ErrNone
		}
		b.WriteString(texts[n])
		head, rest, marked = strings.Cut(rest[len(names[n]):], mark)
		b.WriteString(head)
	}
	if b.Len() > api.MaxText {
		return "", api.ErrFull
	}
	return b.String(), nil
}

// longest tells which name is the longest one that a text begins with; -1: none is.
func longest(names []string, text string) int {
	best := -1
	for i, name := range names {
		if strings.HasPrefix(text, name) && (best < 0 || len(name) > len(names[best])) {
			best = i
		}
	}
	return best
}

// spread makes of each line of a text those that its braces stand for.
func spread(text string) (string, error) {
	lines := strings.Split(text, lineEnd)
	if slices.ContainsFunc(lines, func(line string) bool { return !paired(line) }) {
		return "", api.ErrSyntax
	}
	var told []string
	size := -len(lineEnd) // the last one has no end
	tell := func(line string) bool {
		told = append(told, line)
		size += len(line) + len(lineEnd)
		return size <= api.MaxText
	}
	for _, line := range lines {
		// Braces may stand for more lines than could ever be told, so none is made behind the bound.
		if !choose("", line, tell) {
			return "", api.ErrFull
		}
	}
	return strings.Join(told, lineEnd), nil
}

// choose tells all lines that begin with head and go on as rest does, with the first braces' first alternative first; it stops where tell says no, and says so.
func choose(head, rest string, tell func(line string) bool) bool {
	ahead, rest, braced := strings.Cut(rest, "{")
	head += ahead
	if !braced {
		return tell(head)
	}
	inner, rest, _ := strings.Cut(rest, "}")
	for _, one := range strings.Split(inner, "|") {
		if !choose(head+one, rest, tell) {
			return false
		}
	}
	return true
}

// paired tells whether each brace of a line has its other one, and none stands within another.
func paired(line string) bool {
	open := false
	for i := range len(line) {
		if line[i] != '{' && line[i] != '}' {
			continue
		}
		if open == (line[i] == '{') {
			return false
		}
		open = !open
	}
	return !open
}
