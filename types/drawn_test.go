package types_test

import (
	"fmt"
	"regexp"
	"slices"
	"strings"
	"testing"

	"scarfjoint/api"
	"scarfjoint/types"
)

// told is all that is told of one type; the chapter is written here once more, and all at once.
type told struct {
	may, even bool
	words     int
	deep      int
	places    []int
	text      string
}

var name = regexp.MustCompile(`^[a-zA-Z][a-zA-Z0-9_]{0,15}$`)

func isName(text string) bool {
	const barred = " break count else extern extra fn if int long put return static struct while "
	return name.MatchString(text) && !strings.Contains(barred, " "+text+" ")
}

// tell tells of a type, ahead of how deep it may be.
func tell(x api.Type) told {
	var parts []told
	all := told{may: true, deep: 1}
	for _, p := range x.Parts {
		part := tell(p)
		parts = append(parts, part)
		all.may = all.may && part.may
		all.deep = max(all.deep, part.deep+1)
	}
	switch x.Kind {
	case 1, 2:
		all.tellPlain(x)
	case 3:
		all.tellStruct(x, parts)
	case 4:
		all.tellFunction(x, parts)
	default:
		all.may = false
	}
	if !all.may {
		return told{deep: all.deep}
	}
	return all
}

func (all *told) tellPlain(x api.Type) {
	all.may = x.Name == "" && len(x.Names)+len(x.Parts) == 0 && !x.Many
	all.words, all.even = x.Kind, x.Kind == 2
	all.text = []string{"int", "long"}[x.Kind-1]
}

func (all *told) tellStruct(x api.Type, parts []told) {
	n := len(x.Names)
	if !all.may || n < 1 || n > 6 || n != len(parts) || x.Many || !isName(x.Name) {
		all.may = false
		return
	}
	for at, text := range x.Names {
		if !isName(text) || slices.Contains(x.Names[:at], text) {
			all.may = false
			return
		}
		for parts[at].even && all.words&1 == 1 {
			all.words++
		}
		all.places = append(all.places, all.words)
		all.words += parts[at].words
		all.even = all.even || parts[at].even
		all.text += fmt.Sprintf("%s %s;", parts[at].text, text)
	}
	if all.even {
		all.words = (all.words + 1) / 2 * 2
	}
	all.text = fmt.Sprintf("struct %s{%s}", x.Name, all.text)
	all.may = all.words <= 12
}

func (all *told) tellFunction(x api.Type, parts []told) {
	n := len(parts)
	if !all.may || n < 1 || n > 7 || x.Name != "" || len(x.Names) != 0 {
		all.may = false
		return
	}
	all.words = 1
	for _, p := range parts[:n-1] {
		all.text += p.text + ","
	}
	if x.Many {
		all.text += "..."
	}
	all.text = "fn(" + strings.TrimSuffix(all.text, ",") + ")" + parts[n-1].text
}

// drawer draws numbers: the same ones each time.
type drawer uint64

func (d *drawer) below(n int) int {
	*d ^= *d << 13
	*d ^= *d >> 7
	*d ^= *d << 17
	return int(uint64(*d) >> 11 % uint64(n))
}

// kind draws mostly types that have no parts, the deeper the more.
func (d *drawer) kind(deep int) int {
	switch {
	case d.below(100) == 0:
		return d.below(9) - 2
	case deep >= 6 || d.below(5) < deep:
		return 1 + d.below(2)
	}
	return 3 + d.below(2)
}

// draw draws a type: mostly one that may be, or nearly so.
func (d *drawer) draw(deep int) api.Type {
	x := api.Type{Kind: d.kind(deep)}
	if x.Kind == 3 || d.below(200) == 0 {
		x.Name = d.name()
	}
	if x.Kind >= 3 {
		for range 1 + d.below(3) + d.below(3)*d.below(2)*d.below(3) {
			x.Parts = append(x.Parts, d.draw(deep+1))
		}
	}
	if x.Kind == 3 || d.below(200) == 0 {
		for at := range x.Parts {
			x.Names = append(x.Names, string(rune('a'+at)))
		}
	}
	x.Many = x.Kind == 4 && d.below(3) == 0 || d.below(200) == 0
	d.spoil(&x)
	return x
}

func (d *drawer) name() string {
	if d.below(60) == 0 {
		return []string{"", "int", "a-", "_a", "9", strings.Repeat("k", 17)}[d.below(6)]
	}
	return []string{"s", "t", "T_0", strings.Repeat("k", 16)}[d.below(4)]
}

// spoil changes a struct's names, now and then.
func (d *drawer) spoil(x *api.Type) {
	if len(x.Names) > 0 && d.below(8) == 0 {
		x.Names[d.below(len(x.Names))] = d.name()
	}
	if len(x.Names) > 0 && d.below(60) == 0 {
		x.Names = x.Names[1:]
	}
}

// D1, D2, D3: all that is told of drawn types, against the chapter written once more.
func TestDrawnTypes(t *testing.T) {
	d := drawer(0x9e3779b97f4a7c15)
	seen := map[bool]int{}
	last := whole
	for range 60000 {
		x := d.draw(d.below(3))
		want := tell(x)
		if want.deep > 4 {
			want = told{}
		}
		seen[want.may]++
		if types.May(x) != want.may || types.Even(x) != want.even || types.Words(x) != want.words || types.Text(x) != want.text || !slices.Equal(types.Places(x), want.places) {
			t.Fatalf("%+v: %v %v %d %q %v, not %+v", x, types.May(x), types.Even(x), types.Words(x), types.Text(x), types.Places(x), want)
		}
		if types.Same(x, x) != want.may || types.Same(x, last) != (want.may && want.text == types.Text(last)) {
			t.Fatalf("%+v: Same", x)
		}
		last = x
	}
	if seen[true] < 10000 || seen[false] < 10000 {
		t.Error("too few of one sort:", seen)
	}
}
