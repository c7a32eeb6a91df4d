package run

import (
	"errors"
	"strconv"
	"strings"
)

const (
	// mostDigits is the greatest number of nine digits.
	mostDigits = 999_999_999
	// digits are those of HEX, each at its value.
	digits = "0123456789abcdef"
)

// errBad says that a line is none that there is.
var errBad = errors.New("bad")

// reader reads words one by one, and keeps the error of the first that it could not read.
type reader struct {
	words []string
	err   error
}

// read reads the next word; a row has as many as are read of it.
func read[T any](r *reader, parse func(word string) (T, error)) T {
	v, err := parse(r.words[0])
	r.words = r.words[1:]
	if r.err == nil {
		r.err = err
	}
	return v
}

func number(word string) (int, error) {
	n, err := strconv.Atoi(word)
	// The library also reads other forms: only what is written again as it was is a number here.
	if err != nil || strconv.Itoa(n) != word || n > mostDigits || n < -mostDigits {
		return 0, errBad
	}
	return n, nil
}

func bytesOf(word string) ([]byte, error) {
	if len(word)%2 != 0 {
		return nil, errBad
	}
	var b []byte
	for i := 0; i < len(word); i += 2 {
		high, low := strings.IndexByte(digits, word[i]), strings.IndexByte(digits, word[i+1])
		if high < 0 || low < 0 {
			return nil, errBad
		}
		b = append(b, byte(high<<4|low))
	}
	return b, nil
}
