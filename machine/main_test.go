package machine_test

import (
	"os"
	"runtime/debug"
	"testing"
)

// The many small runs of these tests leave little behind: tidying up after each few takes longer than they do.
func TestMain(m *testing.M) {
	debug.SetGCPercent(800)
	os.Exit(m.Run())
}
