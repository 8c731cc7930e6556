package ways_test

import (
	"strings"
	"testing"
)

// asked lists, layer by layer, the ways of the language that the document's section 'Ways' names.
const asked = `
words: method-value label range-function variadic generic-function closure
hash: array closure range-function embedding copy
sum: range-function variadic closure three-index generic-function
names: range-function label closure variadic generic-function goto
bitmap: range-function label closure generic-function embedding goto struct-compared
extents: array range-function label closure generic-function struct-compared goto variadic
pmem: array array-compared map range-function label embedding closure variadic generic-function delete clear
plan: array function-field range-function label variadic embedding promoted generic-function closure goto
slots: embedding promoted range-function label closure panic recover assertion generic-function variadic struct-compared
scan: method-value function-field map method-expression embedding promoted range-function label generic-function goto
node: iota function-field range-function label embedding promoted generic-function closure variadic goto
tree: map closure embedding promoted range-function label generic-function panic recover assertion variadic
layout: function-field range-function label embedding promoted generic-function goto variadic struct-compared
inode: map function-field closure embedding promoted panic recover assertion variadic generic-function
record: closure embedding promoted range-function generic-function goto variadic
dir: range-function label map embedding promoted generic-function closure panic recover assertion variadic
walk: map function-field embedding promoted goto closure range-function generic-function variadic
model: map method-expression panic recover assertion embedding promoted closure generic-function variadic
image: closure map range-function label embedding promoted generic-function panic recover assertion variadic
space: generic-function closure range-function label embedding promoted goto variadic
journal: map function-field closure embedding promoted panic recover assertion variadic generic-function struct-compared
redo: map closure range-function label embedding promoted three-index generic-function panic recover assertion variadic
deed: map method-expression range-function label embedding promoted closure panic recover assertion generic-function variadic
mount: method-value range-function label embedding promoted closure generic-function panic recover assertion variadic
latch: generic-function closure range-function label embedding promoted goto array array-compared variadic
client: array function-field method-expression embedding promoted range-function closure generic-function variadic goto
yard: map method-expression closure embedding promoted array variadic generic-function goto range-function
stream: range-function label closure embedding promoted goto generic-function variadic
order: closure range-function array copy embedding promoted generic-function panic recover assertion variadic
script: map closure range-function label embedding promoted panic recover assertion generic-function variadic
console: map function-field panic recover assertion embedding promoted range-function label generic-function closure variadic
`

// landed tells up to which layer the program is built.
const landed = 31

func TestWays(t *testing.T) {
	for i, line := range strings.Split(strings.TrimSpace(asked), "\n") {
		if i >= landed {
			break
		}
		name, list, _ := strings.Cut(line, ": ")
		missing, err := WaysMissing("..", "hedgerow", []string{name}, strings.Fields(list))
		if err != nil {
			t.Fatal(err)
		}
		for _, way := range missing {
			t.Errorf("%s: way missing: %s", name, way)
		}
	}
}
