package lower_test

import (
	"os"
	"runtime/debug"
	"testing"
)

// TestMain lets rubbish lie for longer: there is so little else that most of the time would go by in sweeping it.
func TestMain(m *testing.M) {
	debug.SetGCPercent(2000)
	os.Exit(m.Run())
}
