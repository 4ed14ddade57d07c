package tests

import (
	"encoding/hex"
	"slices"
	"testing"
)

// isValue fails the test unless a call has succeeded with a value.
func isValue[T comparable](t *testing.T, what string, got T, ok bool, want T) {
	t.Helper()
	if !ok || got != want {
		t.Errorf("%s: got %#v %v, want %#v true", what, got, ok, want)
	}
}

// isNothing fails the test unless a call has failed with a zero value.
func isNothing[T comparable](t *testing.T, what string, got T, ok bool) {
	t.Helper()
	var zero T
	if ok || got != zero {
		t.Errorf("%s: got %#v %v, want %#v false", what, got, ok, zero)
	}
}

// isList is isValue for lists; an empty list and nil are the same.
func isList[T comparable](t *testing.T, what string, got []T, ok bool, want ...T) {
	t.Helper()
	if !ok || !slices.Equal(got, want) {
		t.Errorf("%s: got %#v %v, want %#v true", what, got, ok, want)
	}
}

// isNoList is isNothing for lists.
func isNoList[T comparable](t *testing.T, what string, got []T, ok bool) {
	t.Helper()
	if ok || len(got) != 0 {
		t.Errorf("%s: got %#v %v, want nothing and false", what, got, ok)
	}
}

// isBool fails the test unless a report is as it should be.
func isBool(t *testing.T, what string, got, want bool) {
	t.Helper()
	if got != want {
		t.Errorf("%s: got %v, want %v", what, got, want)
	}
}

// fromHex returns bytes that are written in hexadecimal in a test.
func fromHex(t *testing.T, s string) string {
	t.Helper()
	b, err := hex.DecodeString(s)
	if err != nil {
		t.Fatal(err)
	}
	return string(b)
}

// upTo returns the numbers from 1 to n.
func upTo(n int64) []int64 {
	list := make([]int64, n)
	for i := range list {
		list[i] = int64(i) + 1
	}
	return list
}

// allBytes returns the 256 different bytes.
func allBytes() string {
	b := make([]byte, 256)
	for i := range b {
		b[i] = byte(i)
	}
	return string(b)
}
