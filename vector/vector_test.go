package vector_test

import (
	"math"
	"math/rand"
	"slices"
	"testing"

	"caravan/api"
	"caravan/vector"
)

const top = math.MaxUint32

// of answers the vector of those first counters.
func of(counters ...uint32) api.Vector {
	v := api.Vector{}
	copy(v[:], counters)
	return v
}

// full answers the vector whose counters are all the same.
func full(counter uint32) api.Vector {
	v := api.Vector{}
	for i := range v {
		v[i] = counter
	}
	return v
}

// only answers the vector in which that device alone has a counter.
func only(dev int, counter uint32) api.Vector { return with(api.Vector{}, dev, counter) }

func with(v api.Vector, dev int, counter uint32) api.Vector {
	v[dev-1] = counter
	return v
}

// family answers all vectors of those counters at those devices.
func family(devices []int, counters ...uint32) []api.Vector {
	all := []api.Vector{{}}
	for _, dev := range devices {
		var next []api.Vector
		for _, v := range all {
			for _, c := range counters {
				next = append(next, with(v, dev, c))
			}
		}
		all = next
	}
	return all
}

// some answers n vectors of counters of all sizes, many of them alike or near to one another, the same at each run.
func some(n int) []api.Vector {
	r := rand.New(rand.NewSource(3))
	all := make([]api.Vector, 0, n)
	for i := range n {
		v := api.Vector{}
		if i%2 == 1 {
			v = all[r.Intn(len(all))]
		}
		for range r.Intn(5) {
			v[r.Intn(len(v))] = uint32(r.Int63() >> (31 + r.Intn(32)))
		}
		all = append(all, v)
	}
	return all
}

// vectors answers those that the laws are tried on, each with each other.
func vectors() []api.Vector {
	all := family([]int{1, 2, 16}, 0, 1, top)
	all = append(all, family([]int{7, 8, 9, 10}, 0, 2)...)
	all = append(all, some(40)...)
	for dev := 1; dev <= api.MaxDevices; dev++ {
		all = append(all, only(dev, 1), with(full(5), dev, 4), with(full(top), dev, top-1))
	}
	return append(all, full(5), full(top), full(top-1))
}

// order is P3.3, counter by counter.
func order(a, b api.Vector) int {
	more, less := false, false
	for i := range a {
		more = more || a[i] > b[i]
		less = less || a[i] < b[i]
	}
	switch {
	case more && less:
		return 2
	case more:
		return 1
	case less:
		return -1
	}
	return 0
}

// reaches tells whether a is the same as b, or dominates it.
func reaches(a, b api.Vector) bool {
	c := vector.Cmp(a, b)
	return c == 0 || c == 1
}

// The chapter's examples.
func TestExamples(t *testing.T) {
	for _, x := range []struct {
		v    api.Vector
		dev  int
		time int64
		want api.Vector
		err  api.Errno
	}{
		{of(0, 5), 2, 3, of(0, 6), api.OK},
		{of(0, 5), 2, 9, of(0, 9), api.OK},
		{of(0, 5), 1, 0, of(1, 5), api.OK},
		{of(0, 5), 0, 1, of(), api.ErrArg},
		{of(0, 5), 17, 1, of(), api.ErrArg},
		{of(0, 5), 1, -1, of(), api.ErrArg},
		{of(top), 1, 1, of(), api.ErrMax},
		{of(0), 1, 1 << 32, of(), api.ErrMax},
		{of(0), 1, 1<<32 - 1, of(top), api.OK},
	} {
		if got, err := vector.Bump(x.v, x.dev, x.time); got != x.want || err != x.err {
			t.Errorf("Bump(%v, %d, %d) = %v, %d", x.v, x.dev, x.time, got, err)
		}
	}
	for _, x := range []struct {
		a, b api.Vector
		want int
	}{
		{of(1, 2), of(1, 2), 0}, {of(1, 2), of(1, 1), 1}, {of(0, 0), of(0, 1), -1}, {of(1, 0), of(0, 1), 2},
	} {
		if got := vector.Cmp(x.a, x.b); got != x.want {
			t.Errorf("Cmp(%v, %v) = %d", x.a, x.b, got)
		}
	}
	if got := vector.Merge(of(1, 5), of(3, 2)); got != of(3, 5) {
		t.Errorf("Merge = %v", got)
	}
	if got := vector.Merge(); got != of() {
		t.Errorf("Merge of none = %v", got)
	}
	if got := vector.Sum(of(1, 5)); got != 6 {
		t.Errorf("Sum = %d", got)
	}
	if dev, ok := vector.Least(of(0, 5)); dev != 2 || !ok {
		t.Errorf("Least = %d, %t", dev, ok)
	}
	if dev, ok := vector.Least(of(0)); dev != 0 || ok {
		t.Errorf("Least of none = %d, %t", dev, ok)
	}
}

// P3.1: of each device, by counters and times: of that device's counter alone.
func TestBump(t *testing.T) {
	counters := []uint32{0, 1, 2, 5, 255, 256, 1<<16 - 1, 1 << 16, 1<<31 - 2, 1<<31 - 1, 1 << 31, 1<<31 + 1, top - 2, top - 1}
	for dev := 1; dev <= api.MaxDevices; dev++ {
		for _, rest := range []api.Vector{{}, full(3), full(top)} {
			for _, c := range counters {
				v := with(rest, dev, c)
				for _, other := range append(counters, top) {
					want := with(rest, dev, max(c+1, other))
					if got, err := vector.Bump(v, dev, int64(other)); got != want || err != api.OK {
						t.Errorf("Bump(%v, %d, %d) = %v, %d", v, dev, other, got, err)
					}
				}
			}
		}
	}
}

// P3.1: one more again and again, where the time stands.
func TestBumpAgain(t *testing.T) {
	v := full(7)
	for i := range 300 {
		next, err := vector.Bump(v, 9, 100)
		if want := with(full(7), 9, uint32(100+i)); next != want || err != api.OK {
			t.Fatalf("%d: Bump(%v) = %v, %d", i, v, next, err)
		}
		v = next
	}
}

// P3.1: a device or a time that is none, also where the counter or the time is at its end, too.
func TestBumpErrArg(t *testing.T) {
	times := []int64{0, 1, top, 1 << 32, 1 << 40, math.MaxInt64}
	for _, v := range []api.Vector{{}, full(5), full(top)} {
		for _, dev := range []int{0, -1, -16, 17, 18, 255, 256, 257, 1 << 16, 1<<16 + 1, math.MaxInt32, math.MinInt32, 1<<32 + 1, math.MaxInt, math.MinInt, math.MinInt + 1} {
			for _, time := range append([]int64{-1, math.MinInt64}, times...) {
				if got, err := vector.Bump(v, dev, time); got != of() || err != api.ErrArg {
					t.Errorf("Bump(%v, %d, %d) = %v, %d", v, dev, time, got, err)
				}
			}
		}
		for dev := 1; dev <= api.MaxDevices; dev++ {
			for _, time := range []int64{-1, -2, -1 << 31, -top, -1 << 32, 1 - 1<<32, math.MinInt64, math.MinInt64 + 1} {
				if got, err := vector.Bump(v, dev, time); got != of() || err != api.ErrArg {
					t.Errorf("Bump(%v, %d, %d) = %v, %d", v, dev, time, got, err)
				}
			}
		}
	}
}

// P3.1: a counter at its end, whatever the time; a time above it, whatever the counter.
func TestBumpErrMax(t *testing.T) {
	late := []int64{1 << 32, 1<<32 + 1, 1<<32 + 5, 1 << 33, 1 << 40, math.MaxInt64 - 1, math.MaxInt64}
	for dev := 1; dev <= api.MaxDevices; dev++ {
		for _, v := range []api.Vector{only(dev, top), with(full(5), dev, top), full(top)} {
			for _, time := range append([]int64{0, 1, 6, 1 << 31, top - 1, top}, late...) {
				if got, err := vector.Bump(v, dev, time); got != of() || err != api.ErrMax {
					t.Errorf("Bump(%v, %d, %d) = %v, %d", v, dev, time, got, err)
				}
			}
		}
		for _, v := range []api.Vector{{}, full(5), full(top - 1), only(dev, top-1)} {
			for _, time := range late {
				if got, err := vector.Bump(v, dev, time); got != of() || err != api.ErrMax {
					t.Errorf("Bump(%v, %d, %d) = %v, %d", v, dev, time, got, err)
				}
			}
		}
	}
}

// P3.2: Merge of each device alone, of none, one, two and many.
func TestMerge(t *testing.T) {
	if got := vector.Merge(nil...); got != of() {
		t.Errorf("Merge of none = %v", got)
	}
	var rising []api.Vector
	want := api.Vector{}
	for dev := 1; dev <= api.MaxDevices; dev++ {
		c := uint32(dev) << 28
		rising = append(rising, only(dev, c-1))
		want[dev-1] = c - 1
		if got := vector.Merge(rising...); got != want {
			t.Errorf("Merge of %d = %v, not %v", dev, got, want)
		}
		for _, x := range [][2]uint32{{0, 1}, {1, 2}, {2, 3}, {255, 256}, {1<<31 - 1, 1 << 31}, {1 << 31, top}, {1, top}, {top - 1, top}} {
			for _, rest := range []api.Vector{{}, full(9), full(top)} {
				low, high := with(rest, dev, x[0]), with(rest, dev, x[1])
				if got := vector.Merge(low, high); got != high {
					t.Errorf("Merge(%v, %v) = %v", low, high, got)
				}
				if got := vector.Merge(high, low); got != high {
					t.Errorf("Merge(%v, %v) = %v", high, low, got)
				}
			}
		}
	}
	if got := vector.Merge(of(1, 9, 3), of(4, 5, 6), of(7, 8, 2, 1)); got != of(7, 9, 6, 1) {
		t.Errorf("Merge of three = %v", got)
	}
	for _, v := range vectors() {
		if got := vector.Merge(v); got != v {
			t.Errorf("Merge(%v) = %v", v, got)
		}
	}
}

// P3.2: Merge of many, and that none of them is changed (R4).
func TestMergeOfMany(t *testing.T) {
	l := vectors()
	kept := slices.Clone(l)
	want := api.Vector{}
	for _, v := range some(10000) {
		l = append(l, v)
		kept = append(kept, v)
	}
	for _, v := range l {
		for i, c := range v {
			want[i] = max(want[i], c)
		}
	}
	if got := vector.Merge(l...); got != want {
		t.Errorf("Merge = %v, not %v", got, want)
	}
	if !slices.Equal(l, kept) {
		t.Error("Merge changed what was handed in")
	}
}

// P3.2: Sum.
func TestSum(t *testing.T) {
	if got := vector.Sum(of()); got != 0 {
		t.Errorf("Sum of noughts = %d", got)
	}
	if got := vector.Sum(full(top)); got != api.MaxDevices*uint64(top) {
		t.Errorf("Sum of the greatest = %d", got)
	}
	if got := vector.Sum(of(1, 2, 4, 8, 16, 32, 64, 128, 256, 512, 1024, 2048, 4096, 8192, 16384, 32768)); got != 65535 {
		t.Errorf("Sum of powers = %d", got)
	}
	for dev := 1; dev <= api.MaxDevices; dev++ {
		for _, c := range []uint32{1, 2, 256, 1 << 31, top} {
			if got := vector.Sum(only(dev, c)); got != uint64(c) {
				t.Errorf("Sum of %d alone = %d", c, got)
			}
			if got := vector.Sum(with(full(top), dev, c)); got != 15*uint64(top)+uint64(c) {
				t.Errorf("Sum of %d and the greatest = %d", c, got)
			}
		}
	}
}

// P3.2: Least, of each set of devices that have a counter.
func TestLeast(t *testing.T) {
	if dev, ok := vector.Least(of()); dev != 0 || ok {
		t.Errorf("Least of noughts = %d, %t", dev, ok)
	}
	for set := 1; set < 1<<api.MaxDevices; set++ {
		v, want := api.Vector{}, 0
		for dev := api.MaxDevices; dev >= 1; dev-- {
			if set>>(dev-1)&1 == 1 {
				v[dev-1] = uint32(dev) << 28 >> (set % 29) // the counters rise or fall with the devices, and are small or great
				v[dev-1] = max(v[dev-1], 1)
				want = dev
			}
		}
		if dev, ok := vector.Least(v); dev != want || !ok {
			t.Fatalf("Least(%v) = %d, %t", v, dev, ok)
		}
	}
	for dev := 1; dev <= api.MaxDevices; dev++ {
		for _, c := range []uint32{1, 2, 1 << 16, 1<<31 - 1, 1 << 31, top} {
			if got, ok := vector.Least(only(dev, c)); got != dev || !ok {
				t.Errorf("Least of %d at %d = %d, %t", c, dev, got, ok)
			}
		}
	}
}

// P3.3: Cmp, where the two differ at one device, or at two.
func TestCmp(t *testing.T) {
	pairs := [][2]uint32{{0, 1}, {1, 2}, {255, 256}, {0, 1 << 31}, {1<<31 - 1, 1 << 31}, {1, top}, {0, top}, {top - 1, top}}
	for dev := 1; dev <= api.MaxDevices; dev++ {
		for _, rest := range []api.Vector{{}, full(5), full(top)} {
			for _, x := range pairs {
				low, high := with(rest, dev, x[0]), with(rest, dev, x[1])
				if got := vector.Cmp(low, high); got != -1 {
					t.Errorf("Cmp(%v, %v) = %d", low, high, got)
				}
				if got := vector.Cmp(high, low); got != 1 {
					t.Errorf("Cmp(%v, %v) = %d", high, low, got)
				}
				if got := vector.Cmp(high, high); got != 0 {
					t.Errorf("Cmp(%v, %v) = %d", high, high, got)
				}
				for other := 1; other <= api.MaxDevices; other++ {
					if other == dev {
						continue
					}
					a, b := with(low, other, 4), with(high, other, 3)
					if got := vector.Cmp(a, b); got != 2 {
						t.Errorf("Cmp(%v, %v) = %d", a, b, got)
					}
					a, b = with(low, other, 3), with(high, other, 4)
					if got := vector.Cmp(a, b); got != -1 {
						t.Errorf("Cmp(%v, %v) = %d", a, b, got)
					}
				}
			}
		}
	}
}

// P3.3 and P3.4: Cmp of each two, and the other way round; what dominates has the greater Sum.
func TestCmpOfEachPair(t *testing.T) {
	all := vectors()
	turned := map[int]int{0: 0, 1: -1, -1: 1, 2: 2}
	met := map[int]int{}
	for _, a := range all {
		for _, b := range all {
			got := vector.Cmp(a, b)
			met[got]++
			if got != order(a, b) {
				t.Errorf("Cmp(%v, %v) = %d", a, b, got)
			}
			if back := vector.Cmp(b, a); back != turned[got] {
				t.Errorf("Cmp(%v, %v) = %d, and %d the other way round", a, b, got, back)
			}
			if got == 1 && vector.Sum(a) <= vector.Sum(b) {
				t.Errorf("%v dominates %v, with the sums %d and %d", a, b, vector.Sum(a), vector.Sum(b))
			}
		}
	}
	for _, c := range []int{0, 1, -1, 2} {
		if met[c] < 100 {
			t.Errorf("only %d pairs tell %d", met[c], c)
		}
	}
}

// P3.4: what dominates what dominates a third one dominates that.
func TestCmpOfEachThree(t *testing.T) {
	all := append(family([]int{1, 8, 16}, 0, 1, top), full(top), full(1))
	for _, a := range all {
		for _, b := range all {
			for _, c := range all {
				if vector.Cmp(a, b) == 1 && vector.Cmp(b, c) == 1 && vector.Cmp(a, c) != 1 {
					t.Errorf("of %v, %v, %v", a, b, c)
				}
			}
		}
	}
}

// P3.5: Merge reaches each one that it is of, and whatever reaches all of these reaches it.
func TestMergeIsLeast(t *testing.T) {
	all := vectors()
	for _, a := range all {
		for _, b := range all {
			m := vector.Merge(a, b)
			if !reaches(m, a) || !reaches(m, b) {
				t.Errorf("Merge(%v, %v) = %v", a, b, m)
			}
			for _, c := range all {
				if reaches(c, a) && reaches(c, b) && !reaches(c, m) {
					t.Fatalf("Merge(%v, %v) = %v, and %v is less", a, b, m, c)
				}
			}
		}
	}
}

// P3.5: Merge in whatever order, each however often, in whatever parts.
func TestMergeInAnyOrder(t *testing.T) {
	all := append(family([]int{1, 9, 16}, 0, 1, top), some(8)...)
	for _, a := range all {
		for _, b := range all {
			for _, c := range all {
				m := vector.Merge(a, b, c)
				for _, l := range [][]api.Vector{
					{a, c, b}, {b, a, c}, {b, c, a}, {c, a, b}, {c, b, a}, {a, a, b, c}, {c, b, a, b, c}, {a, b, c, a, b, c},
					{vector.Merge(a, b), c}, {a, vector.Merge(b, c)}, {m, m}, {m, a}, {{}, a, b, c},
				} {
					if got := vector.Merge(l...); got != m {
						t.Fatalf("Merge(%v) = %v, not %v", l, got, m)
					}
				}
			}
		}
	}
}

// P3.5: what Bump tells dominates what it was of, and is never behind what that was concurrent with.
func TestBumpDominates(t *testing.T) {
	all := vectors()
	for _, v := range all {
		for dev := 1; dev <= api.MaxDevices; dev++ {
			for _, time := range []int64{0, 1, 6, top} {
				next, err := vector.Bump(v, dev, time)
				if err != api.OK {
					if v[dev-1] != top {
						t.Errorf("Bump(%v, %d, %d): %d", v, dev, time, err)
					}
					continue
				}
				if vector.Cmp(next, v) != 1 {
					t.Errorf("Bump(%v, %d, %d) = %v", v, dev, time, next)
				}
				for _, other := range all {
					now := vector.Cmp(next, other)
					if vector.Cmp(v, other) == 2 && now != 2 && now != 1 {
						t.Fatalf("Bump(%v, %d, %d) = %v; to %v: %d", v, dev, time, next, other, now)
					}
				}
			}
		}
	}
}

// P3.6: no call panics, at the least and the greatest arguments.
func TestNoPanic(t *testing.T) {
	ends := []int64{math.MinInt64, math.MinInt64 + 1, -1 << 32, -1, 0, 1, top - 1, top, 1 << 32, math.MaxInt64 - 1, math.MaxInt64}
	for _, v := range append(vectors(), api.Vector{}) {
		for dev := -20; dev <= 40; dev++ {
			for _, time := range ends {
				vector.Bump(v, dev, time)
			}
		}
		for _, dev := range ends {
			vector.Bump(v, int(dev), dev)
		}
		vector.Merge(v, v)
		vector.Cmp(v, api.Vector{})
		vector.Sum(v)
		vector.Least(v)
	}
	vector.Merge(nil...)
	vector.Merge([]api.Vector{}...)
	vector.Merge(make([]api.Vector, 1<<16)...)
}
