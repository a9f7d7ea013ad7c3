package tests

import (
	"os"
	"runtime/debug"
	"testing"
)

// The drawn tests make much that is thrown away at once, and keep next to nothing: to look for it less often halves the time they take.
func TestMain(m *testing.M) {
	debug.SetGCPercent(1000)
	os.Exit(m.Run())
}
