package block_test

import (
	"math"
	"math/rand"
	"slices"
	"testing"

	"bellwether/api"
	"bellwether/block"
)

// The document's numbers, written out anew.
const (
	size       = 64 // bytes of a sector
	maxSectors = 64
	errArg     = 1
	errDown    = 9
)

// edges: numbers at which something turns, and their neighbours.
var edges = []int{
	math.MinInt, math.MinInt + 1, -65, -64, -63, -3, -2, -1, 0, 1, 2, 3, 31, 62, 63, 64, 65, 66, 126, 127, 128, 129, 191, 192,
	1 << 31, 1 << 40, math.MaxInt - 1, math.MaxInt,
}

// deep: the same disk, sector by sector, in memory of its own.
func deep(d api.Disk) api.Disk {
	x := api.Disk{Fuse: d.Fuse, Down: d.Down}
	for _, s := range d.Sectors {
		x.Sectors = append(x.Sectors, s)
	}
	return x
}

// equal: the same disks, byte by byte.
func equal(a, b api.Disk) bool {
	if a.Fuse != b.Fuse || a.Down != b.Down || len(a.Sectors) != len(b.Sectors) {
		return false
	}
	for i := range a.Sectors {
		for j := range size {
			if a.Sectors[i][j] != b.Sectors[i][j] {
				return false
			}
		}
	}
	return true
}

func plainRight(d api.Disk) bool {
	return !(len(d.Sectors) > maxSectors) && !(d.Fuse < -1)
}

// plainReach: the errors of Get and Put, in their order.
func plainReach(d api.Disk, at int) api.Errno {
	switch {
	case !plainRight(d):
		return errArg
	case d.Down:
		return errDown
	case at < 0, at >= len(d.Sectors):
		return errArg
	}
	return 0
}

// plainPut: a write as the words tell it: zeros first, then byte by byte, till the power goes.
func plainPut(d api.Disk, at int, b [size]byte) (api.Disk, api.Errno) {
	d = deep(d)
	if e := plainReach(d, at); e != 0 {
		return d, e
	}
	for i := range size {
		d.Sectors[at][i] = 0
	}
	for i := range size {
		if d.Fuse == i {
			d.Fuse, d.Down = -1, true
			return d, errDown
		}
		d.Sectors[at][i] = b[i]
	}
	if d.Fuse >= 64 {
		d.Fuse -= 64
	}
	return d, 0
}

func plainArm(d api.Disk, bytes int) (api.Disk, api.Errno) {
	d = deep(d)
	switch {
	case !plainRight(d):
		return d, errArg
	case d.Down:
		return d, errDown
	case bytes < -1:
		return d, errArg
	}
	d.Fuse = bytes
	return d, 0
}

func plainWake(d api.Disk) (api.Disk, api.Errno) {
	d = deep(d)
	if !plainRight(d) {
		return d, errArg
	}
	d.Fuse, d.Down = -1, false
	return d, 0
}

// anySector: bytes none of which is 0, so that each zero was laid by a write.
func anySector(r *rand.Rand) [size]byte {
	var s [size]byte
	for i := range s {
		s[i] = byte(1 + r.Intn(255))
	}
	return s
}

// filled: a disk of so many sectors, none of whose bytes is 0.
func filled(r *rand.Rand, n, fuse int, down bool) api.Disk {
	d := api.Disk{Fuse: fuse, Down: down}
	for range n {
		d.Sectors = append(d.Sectors, anySector(r))
	}
	return d
}

// someDisks: of few, of many and of too many sectors, at all edges of the fuse, up and down.
func someDisks() []api.Disk {
	r := rand.New(rand.NewSource(12))
	l := []api.Disk{{}, {Sectors: [][size]byte{}}, {Sectors: [][size]byte{}, Fuse: -1}}
	for _, n := range []int{0, 1, 2, 3, 63, 64, 65, 66, 200} {
		for _, fuse := range edges {
			l = append(l, filled(r, n, fuse, false), filled(r, n, fuse, true))
		}
	}
	return l
}

// given: a disk with spare room behind its sectors, and a check that it, and that room, stay what they were, whatever is written into what was answered.
func given(t *testing.T, d api.Disk) (api.Disk, func(answers ...api.Disk)) {
	mark := [size]byte{0: 7, 63: 7}
	room := append(slices.Clone(d.Sectors), mark)
	g := api.Disk{Sectors: room[:len(d.Sectors)], Fuse: d.Fuse, Down: d.Down}
	return g, func(answers ...api.Disk) {
		t.Helper()
		for _, x := range answers {
			x.Sectors = x.Sectors[:cap(x.Sectors)]
			for i := range x.Sectors {
				for j := range size {
					x.Sectors[i][j] ^= 0x55
				}
			}
		}
		if !equal(g, d) || room[len(d.Sectors)] != mark {
			t.Errorf("%d sectors, fuse %d, down %t: what was handed in isn't what it was", len(d.Sectors), d.Fuse, d.Down)
		}
	}
}

func holdGet(t *testing.T, d api.Disk, at int) {
	t.Helper()
	g, unchanged := given(t, d)
	var want [size]byte
	wantE := plainReach(d, at)
	if wantE == 0 {
		want = d.Sectors[at]
	}
	if got, e := block.Get(g, at); got != want || e != wantE {
		t.Errorf("%d sectors, fuse %d, down %t, at %d: %v, %d, not %v, %d", len(d.Sectors), d.Fuse, d.Down, at, got, e, want, wantE)
	}
	unchanged()
}

func holdPut(t *testing.T, d api.Disk, at int, b [size]byte) {
	t.Helper()
	g, unchanged := given(t, d)
	want, wantE := plainPut(d, at, b)
	got, e := block.Put(g, at, b)
	if !equal(got, want) || e != wantE {
		t.Errorf("%d sectors, fuse %d, down %t, at %d: %v, %d, not %v, %d", len(d.Sectors), d.Fuse, d.Down, at, got, e, want, wantE)
	}
	unchanged(got)
}

func holdArm(t *testing.T, d api.Disk, bytes int) {
	t.Helper()
	g, unchanged := given(t, d)
	want, wantE := plainArm(d, bytes)
	got, e := block.Arm(g, bytes)
	if !equal(got, want) || e != wantE {
		t.Errorf("%d sectors, fuse %d, down %t, armed %d: %v, %d, not %v, %d", len(d.Sectors), d.Fuse, d.Down, bytes, got, e, want, wantE)
	}
	unchanged(got)
}

func holdWake(t *testing.T, d api.Disk) {
	t.Helper()
	g, unchanged := given(t, d)
	want, wantE := plainWake(d)
	got, e := block.Wake(g)
	if !equal(got, want) || e != wantE {
		t.Errorf("%d sectors, fuse %d, down %t: %v, %d, not %v, %d", len(d.Sectors), d.Fuse, d.Down, got, e, want, wantE)
	}
	unchanged(got)
}

// P12.1: new disks, at all edges: zeros, no fuse, not down.
func TestNew(t *testing.T) {
	for _, n := range slices.Concat(edges, []int{4, 5, 61}) {
		d, e := block.New(n)
		if n < 1 || n > 64 {
			if e != errArg || !equal(d, api.Disk{}) {
				t.Error(n, d, e)
			}
			continue
		}
		if e != api.OK || !equal(d, api.Disk{Sectors: make([][size]byte, n), Fuse: -1}) || !block.Right(d) {
			t.Error(n, d, e)
		}
	}
}

// P12.1: each new disk has memory of its own.
func TestNewApart(t *testing.T) {
	a, _ := block.New(2)
	a.Sectors[0][0], a.Sectors[1][63] = 1, 1
	if b, e := block.New(2); e != api.OK || !equal(b, api.Disk{Sectors: make([][size]byte, 2), Fuse: -1}) {
		t.Error(b, e)
	}
}

// P12.1: which disks may be: by how many sectors and by the fuse, down or not, none at all, too.
func TestRight(t *testing.T) {
	for _, x := range []struct {
		sectors, fuse int
		want          bool
	}{
		{0, -1, true}, {0, 0, true}, {1, -1, true}, {1, 0, true}, {64, -1, true}, {64, 63, true}, {64, 64, true}, {64, math.MaxInt, true},
		{65, -1, false}, {65, 0, false}, {1000, -1, false},
		{0, -2, false}, {1, -2, false}, {64, -2, false}, {1, math.MinInt, false}, {65, -2, false},
	} {
		for _, down := range []bool{false, true} {
			d := api.Disk{Sectors: make([][size]byte, x.sectors), Fuse: x.fuse, Down: down}
			if got := block.Right(d); got != x.want {
				t.Errorf("%d sectors, fuse %d, down %t: %t", x.sectors, x.fuse, down, got)
			}
		}
	}
	for _, d := range someDisks() {
		g, unchanged := given(t, d)
		if got := block.Right(g); got != plainRight(d) {
			t.Errorf("%d sectors, fuse %d, down %t: %t", len(d.Sectors), d.Fuse, d.Down, got)
		}
		unchanged()
	}
}

// P12.1: the document's example.
func TestExample(t *testing.T) {
	var ones, want [size]byte
	for i := range ones {
		ones[i] = 1
	}
	want[0], want[1], want[2] = 1, 1, 1
	d, e := block.New(2)
	if e != api.OK {
		t.Fatal(e)
	}
	d, e = block.Arm(d, 3)
	if e != api.OK || d.Fuse != 3 || d.Down {
		t.Fatal(d, e)
	}
	d, e = block.Put(d, 1, ones)
	if e != api.ErrDown || !equal(d, api.Disk{Sectors: [][size]byte{{}, want}, Fuse: -1, Down: true}) {
		t.Error(d, e)
	}
}

// P12.1: sectors that are read, that aren't there, of disks that are down or may not be; of several errors the one that is named first.
func TestGetByHand(t *testing.T) {
	a, b := [size]byte{0: 1, 63: 2}, [size]byte{5: 3}
	two := [][size]byte{a, b}
	for _, x := range []struct {
		d    api.Disk
		at   int
		want [size]byte
		e    api.Errno
	}{
		{api.Disk{Sectors: two, Fuse: -1}, 0, a, api.OK},
		{api.Disk{Sectors: two, Fuse: -1}, 1, b, api.OK},
		// Reading burns nothing off the fuse.
		{api.Disk{Sectors: two, Fuse: 0}, 0, a, api.OK},
		{api.Disk{Sectors: two, Fuse: 63}, 1, b, api.OK},
		{api.Disk{Sectors: two, Fuse: -1}, -1, [size]byte{}, api.ErrArg},
		{api.Disk{Sectors: two, Fuse: -1}, 2, [size]byte{}, api.ErrArg},
		{api.Disk{Sectors: two, Fuse: -1}, math.MinInt, [size]byte{}, api.ErrArg},
		{api.Disk{Sectors: two, Fuse: -1}, math.MaxInt, [size]byte{}, api.ErrArg},
		{api.Disk{Fuse: -1}, 0, [size]byte{}, api.ErrArg},
		{api.Disk{Sectors: two, Fuse: -1, Down: true}, 0, [size]byte{}, api.ErrDown},
		{api.Disk{Sectors: two, Fuse: -1, Down: true}, 2, [size]byte{}, api.ErrDown},
		{api.Disk{Sectors: two, Fuse: -1, Down: true}, -1, [size]byte{}, api.ErrDown},
		{api.Disk{Sectors: two, Fuse: -2, Down: true}, 0, [size]byte{}, api.ErrArg},
		{api.Disk{Sectors: two, Fuse: -2}, 0, [size]byte{}, api.ErrArg},
		{api.Disk{Sectors: make([][size]byte, 65), Fuse: -1}, 0, [size]byte{}, api.ErrArg},
		{api.Disk{Sectors: make([][size]byte, 65), Fuse: -1, Down: true}, 0, [size]byte{}, api.ErrArg},
	} {
		if got, e := block.Get(x.d, x.at); got != x.want || e != x.e {
			t.Errorf("%v at %d: %v, %d, not %v, %d", x.d, x.at, got, e, x.want, x.e)
		}
	}
}

// P12.1: all of them, over disks of any kind, at all edges.
func TestEdges(t *testing.T) {
	r := rand.New(rand.NewSource(121))
	for _, d := range someDisks() {
		for _, at := range slices.Concat(edges, []int{len(d.Sectors) - 1, len(d.Sectors), len(d.Sectors) + 1}) {
			holdGet(t, d, at)
			holdPut(t, d, at, anySector(r))
			holdArm(t, d, at)
		}
		holdWake(t, d)
	}
}

// P12.1: writes by hand, written out: the fuse, and whether it is down.
func TestPutFuse(t *testing.T) {
	for _, x := range []struct {
		fuse, want int
		down       bool
		e          api.Errno
	}{
		{-1, -1, false, api.OK},
		{0, -1, true, api.ErrDown}, {1, -1, true, api.ErrDown}, {63, -1, true, api.ErrDown},
		{64, 0, false, api.OK}, {65, 1, false, api.OK}, {127, 63, false, api.OK}, {128, 64, false, api.OK},
		{math.MaxInt, math.MaxInt - 64, false, api.OK},
	} {
		d := api.Disk{Sectors: make([][size]byte, 3), Fuse: x.fuse}
		got, e := block.Put(d, 1, [size]byte{63: 1})
		if got.Fuse != x.want || got.Down != x.down || e != x.e {
			t.Errorf("fuse %d: %d, down %t, %d", x.fuse, got.Fuse, got.Down, e)
		}
		if kept := got.Sectors[1][63] == 1; kept == x.down {
			t.Errorf("fuse %d: the last byte: %t", x.fuse, kept)
		}
	}
}

// P12.1: what is refused leaves the disk as it was, the fuse and Down, too; of several errors the one that is named first.
func TestRefused(t *testing.T) {
	two := [][size]byte{{1}, {2}}
	many := make([][size]byte, 65)
	for _, x := range []struct {
		d             api.Disk
		at            int
		put, arm, wak api.Errno
	}{
		{api.Disk{Sectors: two, Fuse: 5}, 2, api.ErrArg, api.OK, api.OK},
		{api.Disk{Sectors: two, Fuse: 5}, -1, api.ErrArg, api.OK, api.OK},
		{api.Disk{Sectors: two, Fuse: 5}, -2, api.ErrArg, api.ErrArg, api.OK},
		{api.Disk{Sectors: two, Fuse: 5, Down: true}, -2, api.ErrDown, api.ErrDown, api.OK},
		{api.Disk{Sectors: two, Fuse: 5, Down: true}, 0, api.ErrDown, api.ErrDown, api.OK},
		{api.Disk{Sectors: two, Fuse: -1, Down: true}, 0, api.ErrDown, api.ErrDown, api.OK},
		{api.Disk{Sectors: two, Fuse: -2, Down: true}, 0, api.ErrArg, api.ErrArg, api.ErrArg},
		{api.Disk{Sectors: two, Fuse: -2}, 0, api.ErrArg, api.ErrArg, api.ErrArg},
		{api.Disk{Sectors: two, Fuse: math.MinInt}, 0, api.ErrArg, api.ErrArg, api.ErrArg},
		{api.Disk{Sectors: many, Fuse: 5}, 0, api.ErrArg, api.ErrArg, api.ErrArg},
		{api.Disk{Sectors: many, Fuse: 5, Down: true}, 64, api.ErrArg, api.ErrArg, api.ErrArg},
	} {
		check := func(what string, got api.Disk, e, want api.Errno) {
			t.Helper()
			if e != want || want != api.OK && !equal(got, x.d) {
				t.Errorf("%s %d sectors, fuse %d, down %t, %d: %v, %d, not %d", what, len(x.d.Sectors), x.d.Fuse, x.d.Down, x.at, got, e, want)
			}
		}
		got, e := block.Put(x.d, x.at, [size]byte{9})
		check("put", got, e, x.put)
		got, e = block.Arm(x.d, x.at)
		check("arm", got, e, x.arm)
		got, e = block.Wake(x.d)
		check("wake", got, e, x.wak)
	}
}

// P12.1: arming takes the place of what was armed; waking ends it, of one that isn't down, too, and leaves the sectors.
func TestArmAndWake(t *testing.T) {
	for _, was := range []int{-1, 0, 5, 64, math.MaxInt} {
		for _, bytes := range []int{-1, 0, 1, 63, 64, 65, math.MaxInt} {
			d := api.Disk{Sectors: [][size]byte{{7}}, Fuse: was}
			if got, e := block.Arm(d, bytes); e != api.OK || !equal(got, api.Disk{Sectors: d.Sectors, Fuse: bytes}) {
				t.Error(was, bytes, got, e)
			}
		}
		for _, down := range []bool{false, true} {
			d := api.Disk{Sectors: [][size]byte{{7}, {63: 8}}, Fuse: was, Down: down}
			if got, e := block.Wake(d); e != api.OK || !equal(got, api.Disk{Sectors: d.Sectors, Fuse: -1}) {
				t.Error(was, down, got, e)
			}
		}
	}
}

// P12.1: the same ones: by each sector in its place, by the fuse, by Down; no sectors are the same as nil; others than those that may be, too.
func TestSame(t *testing.T) {
	l := []api.Disk{
		{}, {Fuse: -1}, {Fuse: 1}, {Fuse: -2}, {Down: true}, {Fuse: -1, Down: true}, {Fuse: math.MaxInt},
		{Sectors: make([][size]byte, 1)}, {Sectors: make([][size]byte, 2)}, {Sectors: make([][size]byte, 64)}, {Sectors: make([][size]byte, 65)},
		{Sectors: [][size]byte{{1}}}, {Sectors: [][size]byte{{63: 1}}}, {Sectors: [][size]byte{{1}, {}}}, {Sectors: [][size]byte{{}, {1}}}, {Sectors: [][size]byte{{}, {63: 1}}},
		{Sectors: [][size]byte{{1}}, Fuse: -1}, {Sectors: [][size]byte{{1}}, Down: true},
	}
	for i, a := range l {
		for j, b := range l {
			b.Sectors = append([][size]byte{}, b.Sectors...)
			if got := block.Same(a, b); got != (i == j) {
				t.Error(i, j, got)
			}
		}
	}
	if !block.Same(api.Disk{Sectors: nil}, api.Disk{Sectors: [][size]byte{}}) || !block.Same(api.Disk{Sectors: [][size]byte{}}, api.Disk{}) {
		t.Error("no sectors")
	}
}

// P12.1: each single byte counts for Same.
func TestSameByBytes(t *testing.T) {
	r := rand.New(rand.NewSource(122))
	d := filled(r, 3, 9, false)
	for at := range d.Sectors {
		for i := range size {
			x := deep(d)
			x.Sectors[at][i]++
			if block.Same(d, x) || block.Same(x, d) {
				t.Error(at, i)
			}
		}
	}
	if !block.Same(d, deep(d)) {
		t.Error("isn't the same as itself")
	}
}

// P12.2: a write that the power ends, at each byte of each sector: its first bytes, zeros behind, and all others as they were.
func TestTorn(t *testing.T) {
	r := rand.New(rand.NewSource(123))
	for _, n := range []int{1, 2, 5, 64} {
		was := filled(r, n, -1, false)
		for at := range n {
			for fuse := range size {
				b := anySector(r)
				d, e := block.Arm(was, fuse)
				if e != api.OK {
					t.Fatal(fuse, e)
				}
				x, e := block.Put(d, at, b)
				if e != api.ErrDown || !x.Down || x.Fuse != -1 || len(x.Sectors) != n {
					t.Fatal(n, at, fuse, x, e)
				}
				for i := range n {
					if i != at && x.Sectors[i] != was.Sectors[i] {
						t.Error("another one:", n, at, fuse, i)
					}
				}
				for i, got := range x.Sectors[at] {
					if i < fuse && got != b[i] || i >= fuse && got != 0 {
						t.Error("a byte:", n, at, fuse, i, got)
					}
				}
				torn := x.Sectors[at]
				x, e = block.Wake(x)
				if got, f := block.Get(x, at); e != api.OK || f != api.OK || got != torn {
					t.Error("awake:", n, at, fuse, e, f)
				}
			}
		}
	}
}

// P12.2: runs of whatever may be done, each step against the plain working-out; the power goes in many of them.
func TestRuns(t *testing.T) {
	r := rand.New(rand.NewSource(124))
	torn, whole, last := 0, 0, 0
	for range 300 {
		n := 1 + r.Intn(8)
		d, e := block.New(n)
		if e != api.OK {
			t.Fatal(n, e)
		}
		for range 60 {
			want, wantE := deep(d), api.OK
			switch r.Intn(8) {
			case 0:
				bytes := r.Intn(300) - 2
				want, wantE = plainArm(d, bytes)
				d, e = block.Arm(d, bytes)
			case 1:
				want, wantE = plainWake(d)
				d, e = block.Wake(d)
			default:
				at, b, up, fuse := r.Intn(n+2)-1, anySector(r), !d.Down, d.Fuse
				want, wantE = plainPut(d, at, b)
				d, e = block.Put(d, at, b)
				switch {
				case up && d.Down:
					torn++
				case e == api.OK && fuse == size:
					last++
				case e == api.OK:
					whole++
				}
			}
			if !equal(d, want) || e != wantE || !block.Same(d, want) {
				t.Fatal(d, e, want, wantE)
			}
		}
	}
	if torn < 500 || whole < 500 || last < 1 {
		t.Error("too few:", torn, whole, last)
	}
}
