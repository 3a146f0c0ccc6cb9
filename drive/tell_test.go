package drive

import (
	"testing"

	"scarfjoint/api"
)

// No image that Link makes of units ends wrong: what would be told of that is held within the package.
func TestEnded(t *testing.T) {
	for _, c := range []struct {
		end  int
		want string
	}{
		{api.EndFuel, "fuel"}, {api.EndExit, "exit -5"}, {api.EndDivided, "divided"}, {api.EndFull, "full"}, {api.EndWrong, "wrong"},
		{api.RunFuel, "fuel"}, {api.RunExit, "exit -5"}, {api.RunDivided, "divided"},
	} {
		if got := ended(c.end, -5, nil); got != c.want {
			t.Errorf("%d: %q, not %q", c.end, got, c.want)
		}
		if got := ended(c.end, -5, []int32{0, -2147483648, 2147483647}); got != c.want+" 0 -2147483648 2147483647" {
			t.Errorf("%d: %q", c.end, got)
		}
	}
}
