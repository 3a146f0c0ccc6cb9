package moves_test

import (
	"slices"
	"testing"
	"unsafe"

	"scarfjoint/api"
	"scarfjoint/moves"
)

// P3: a list that is handed in is not changed, nor is what lies behind its length; nor is that read.
func TestListsThatAreHandedIn(t *testing.T) {
	d := drawer(0xda942042e4dd58b5)
	for range 3000 {
		l, tmp := d.spoilt()
		whole := append(slices.Clone(l), list("r16>s1000 r-1>r-1 r0>r0")...)
		whole = append(whole, l...)
		kept := slices.Clone(whole)
		row, e := moves.Row(whole[:len(l)], tmp)
		want, err := moves.Row(slices.Clone(l), tmp)
		if !slices.Equal(whole, kept) {
			t.Fatal("changed:", shown(l), tmp)
		}
		if e != err || !slices.Equal(row, want) {
			t.Fatal("hangs on what lies behind the length:", shown(l), tmp, e, err, shown(row), shown(want))
		}
	}
}

// room tells where the memory of a list begins and ends, with what lies behind its length.
func room(l []api.Move) [2]uintptr {
	from := uintptr(unsafe.Pointer(unsafe.SliceData(l)))
	return [2]uintptr{from, from + uintptr(cap(l))*unsafe.Sizeof(api.Move{})}
}

// P3: what comes out shares no memory with what was handed in, nor with what came out of another call.
func TestListsThatComeOut(t *testing.T) {
	d := drawer(0x853c49e6748fea9b)
	for range 3000 {
		l, tmp := d.spoilt()
		a, _ := moves.Row(l, tmp)
		b, _ := moves.Row(l, tmp)
		rooms := [][2]uintptr{room(l), room(a), room(b)}
		for at, x := range rooms {
			for _, y := range rooms[:at] {
				if x[0] < y[1] && y[0] < x[1] {
					t.Fatalf("%s: lists that share memory: %v", shown(l), rooms)
				}
			}
		}
	}
}

// P3: what is written to either list afterwards is not seen in the other one, nor in what is told next.
func TestListsThatAreWrittenTo(t *testing.T) {
	for _, text := range []string{"r1>r2", "r1>r2 r2>r1", "r1>s1 r2>s2 r3>s3", "r1>r1 s1>s2", "s1>s2 s2>s3 s3>s1 r1>r2"} {
		l := list(text)
		row, _ := moves.Row(l, 12)
		before := shown(row)
		for at := range l {
			l[at] = api.Move{From: place("s70"), To: place("s71")}
		}
		if shown(row) != before {
			t.Error("what was told hangs on what was handed in:", text, shown(row))
		}
		l = list(text)
		for at := range row {
			row[at] = api.Move{From: place("s72"), To: place("s73")}
		}
		if shown(l) != text {
			t.Error("changed:", text, shown(l))
		}
		if again, _ := moves.Row(l, 12); shown(again) != before {
			t.Error("what is told next hangs on what was told:", text, shown(again))
		}
	}
}
