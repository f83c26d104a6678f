package sum

import (
	"encoding/binary"
	"strings"
	"testing"
)

// TestEnd is told what stands behind texts that would be too long to lay here: of 2^29 bytes on the length in bits needs more than four bytes.
func TestEnd(t *testing.T) {
	lengths := []int{1 << 20, 1<<29 - 1, 1 << 29, 1<<29 + 56, 1<<30 + 55, 1<<31 - 1}
	for n := range 3*block + 1 {
		lengths = append(lengths, n)
	}
	for _, n := range lengths {
		all := n%block + 1 + 8
		want := "\x80" + strings.Repeat("\x00", (all+block-1)/block*block-all) + string(binary.BigEndian.AppendUint64(nil, uint64(n)*8))
		if got := end(n); got != want || (n+len(got))%block != 0 {
			t.Errorf("behind %d bytes: %x", n, got)
		}
	}
}
