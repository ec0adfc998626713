package tests

import (
	"slices"
	"testing"
)

// chapter holds what promise 1 asks of all functions of one chapter at a time: A are arguments for them, B is what they
// answer. given puts arguments into memory of their own with something behind each list, whole tells that memory, too,
// and spoil overwrites the arguments, scribble the answers.
type chapter[A, B any] struct {
	ask      func(A) B
	equal    func(B, B) bool
	bare     func(B) bool
	given    func(A) A
	whole    func(A) A
	same     func(A, A) bool
	spoil    func(A)
	scribble func(B)
}

// hangsOnArguments: asked again in another order and in other memory they tell the same, and beside a code nothing.
func (c chapter[A, B]) hangsOnArguments(t *testing.T, list []A) {
	t.Helper()
	first := make([]B, len(list))
	for i, a := range list {
		first[i] = c.ask(a)
		if !c.bare(first[i]) {
			t.Errorf("%d: something stands beside a code", i)
		}
	}
	for i, a := range slices.Backward(list) {
		if !c.equal(c.ask(a), first[i]) {
			t.Errorf("%d: asked again it is another answer", i)
		}
		if !c.equal(c.ask(c.given(a)), first[i]) {
			t.Errorf("%d: in other memory it is another answer", i)
		}
	}
}

// leavesArguments: what came in is left as it was, what stands behind it in memory, too, and no answer shares its memory.
func (c chapter[A, B]) leavesArguments(t *testing.T, list []A) {
	t.Helper()
	for i, a := range list {
		given := c.given(a)
		kept := c.whole(given)
		answers := c.ask(given)
		if !c.same(c.whole(given), kept) {
			t.Fatalf("%d: an argument was changed", i)
		}
		c.scribble(answers)
		if !c.same(c.whole(given), kept) {
			t.Fatalf("%d: an answer shares its memory with an argument", i)
		}
	}
}

// tellsNewMemory: an answer stays as it is, whatever becomes of what it was made from and of other answers.
func (c chapter[A, B]) tellsNewMemory(t *testing.T, list []A) {
	t.Helper()
	for i, a := range list {
		want, given := c.ask(a), c.given(a)
		got := c.ask(given)
		c.scribble(c.ask(given))
		c.spoil(given)
		if !c.equal(got, want) {
			t.Fatalf("%d: an answer changed with its arguments or with another answer", i)
		}
	}
}

// overwrite fills a list and all its memory.
func overwrite[T any](list []T, with T) {
	for i := range list[:cap(list)] {
		list[:cap(list)][i] = with
	}
}
