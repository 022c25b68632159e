package mac

import (
	"bytes"
	"strings"
	"testing"
)

// secrets are of every kind: none, of bytes that are no text, and such as make the first key 63, 64 and 65 bytes long.
func secrets() []string {
	return []string{"", "s", "secret", "BOLLARD", "\x00", "s\x00", "\xff\xfe", "é", strings.Repeat("x", 56), strings.Repeat("x", 57), strings.Repeat("x", 58), strings.Repeat("long ", 1000)}
}

// words are of every kind, the empty one twice in turn among them.
func words() []string {
	return []string{"12", "", "", "request", "\x00", "\xff", "BOLLARD", strings.Repeat("y", 64), strings.Repeat("long ", 1000), "12"}
}

// derived is the key that another implementation of the code makes.
func derived(secret string, words []string) []byte {
	key := append([]byte("BOLLARD"), secret...)
	for _, word := range words {
		key = code(key, []byte(word))
	}
	return key
}

// P4.1: of no words it is the first key, however they are none.
func TestDeriveOfNoWords(t *testing.T) {
	if got := Derive("s"); string(got) != "BOLLARDs" {
		t.Errorf("Derive of s: %q", got)
	}
	if got := Derive(""); string(got) != "BOLLARD" {
		t.Errorf("Derive of an empty secret: %q", got)
	}
	for _, secret := range secrets() {
		want := "BOLLARD" + secret
		if string(Derive(secret)) != want || string(Derive(secret, nil...)) != want || string(Derive(secret, []string{}...)) != want {
			t.Errorf("Derive of %q and no words: %q", secret, Derive(secret))
		}
	}
}

// P4.1: of every two words and every row of the first ones.
func TestDerive(t *testing.T) {
	for _, secret := range secrets() {
		for n := range len(words()) + 1 {
			if got, want := Derive(secret, words()[:n]...), derived(secret, words()[:n]); !bytes.Equal(got, want) {
				t.Fatalf("Derive of %q and %d words: %x, want %x", secret, n, got, want)
			}
		}
		for _, first := range words() {
			for _, second := range words() {
				if got, want := Derive(secret, first, second), derived(secret, []string{first, second}); !bytes.Equal(got, want) {
					t.Fatalf("Derive of %q, %q and %q: %x, want %x", secret, first, second, got, want)
				}
			}
		}
	}
}

// P4.1: an empty word is a word.
func TestDeriveOfEmptyWords(t *testing.T) {
	seen := map[string]int{}
	for n := range 5 {
		row := make([]string, n)
		got := Derive("s", row...)
		if !bytes.Equal(got, derived("s", row)) {
			t.Fatalf("Derive of %d empty words: %x", n, got)
		}
		seen[string(got)]++
	}
	if len(seen) != 5 {
		t.Error("empty words are left out")
	}
}

// P4.1: the words' order tells, and where one ends.
func TestDeriveTellsWordsApart(t *testing.T) {
	seen := map[string]int{}
	rows := [][]string{{"ab"}, {"a", "b"}, {"b", "a"}, {"ab", ""}, {"", "ab"}, {"a", "", "b"}, {"a"}, {"b"}, {"a", "a"}, {"A", "B"}}
	for _, row := range rows {
		seen[string(Derive("s", row...))]++
	}
	seen[string(Derive("sa", "b"))]++
	if len(seen) != len(rows)+1 {
		t.Error("unlike words make one key:", len(seen))
	}
}

// P4.2: one word more is the code of that word under the key so far, of many words too.
func TestDeriveStepByStep(t *testing.T) {
	var row []string
	for len(row) < 300 {
		row = append(row, words()...)
	}
	for _, secret := range secrets() {
		key := Derive(secret)
		for n, word := range row {
			next := Sum(key, []byte(word))
			key = next[:]
			if !bytes.Equal(Derive(secret, row[:n+1]...), key) {
				t.Fatalf("Derive of %q and %d words isn't that of one fewer and a step", secret, n+1)
			}
		}
		if len(key) != 32 {
			t.Fatal("a key of", len(key), "bytes")
		}
	}
}
