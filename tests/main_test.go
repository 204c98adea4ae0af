package tests

import (
	"os"
	"runtime/debug"
	"testing"
)

func TestMain(m *testing.M) {
	// Tests drop small worlds by the million: gathering them up would take longer than all else.
	debug.SetGCPercent(800)
	os.Exit(m.Run())
}
