package conf

import (
	"math"
	"sync"
	"testing"

	"quorumite/api"
)

// wide is a Conf of which each part may go up and down by itself: of its numbers only those of f and quorum, and of min and max, lean on others.
func wide() api.Conf {
	c := Default()
	c.N, c.F, c.M, c.Quorum = 10, 2, 2, 7
	c.Target = [4]int64{5, 6}
	c.Min, c.Max = 20, 50
	return c
}

// part is a part of a Conf: where it stands, and from where to where it may go in wide.
type part struct {
	name      string
	at        func(c *api.Conf) *int
	low, high int
}

// parts are those that are numbers of kind int, in the order in which they are told.
func parts() []part {
	return []part{
		{"n", func(c *api.Conf) *int { return &c.N }, 7, 16},
		{"f", func(c *api.Conf) *int { return &c.F }, 0, 3},
		{"m", func(c *api.Conf) *int { return &c.M }, 1, 4},
		{"quorum", func(c *api.Conf) *int { return &c.Quorum }, 5, 10},
		{"fresh", func(c *api.Conf) *int { return &c.Fresh }, 1, 8},
		{"grace", func(c *api.Conf) *int { return &c.Grace }, 1, 100},
		{"window", func(c *api.Conf) *int { return &c.Window }, 1, 64},
		{"tol", func(c *api.Conf) *int { return &c.Tol }, 0, 1000},
		{"min", func(c *api.Conf) *int { return &c.Min }, 1, 50},
		{"max", func(c *api.Conf) *int { return &c.Max }, 20, 10000},
		{"calmup", func(c *api.Conf) *int { return &c.CalmUp }, 0, 60},
		{"calmdown", func(c *api.Conf) *int { return &c.CalmDown }, 0, 60},
		{"podsup", func(c *api.Conf) *int { return &c.PodsUp }, 1, 1000},
		{"pctup", func(c *api.Conf) *int { return &c.PctUp }, 1, 1000},
		{"podsdown", func(c *api.Conf) *int { return &c.PodsDown }, 1, 1000},
		{"pctdown", func(c *api.Conf) *int { return &c.PctDown }, 1, 100},
		{"period", func(c *api.Conf) *int { return &c.Period }, 1, 60},
		{"strikes", func(c *api.Conf) *int { return &c.Strikes }, 1, 100},
		{"probe", func(c *api.Conf) *int { return &c.Probe }, 1, 100},
		{"sectors", func(c *api.Conf) *int { return &c.Sectors }, 64, 4096},
	}
}

// asks holds Wrong's and May's answers to c against the name that is asked for.
func asks(t *testing.T, what string, c api.Conf, name string) {
	t.Helper()
	if got := Wrong(c); got != name {
		t.Errorf("%s: Wrong is %q, not %q", what, got, name)
	}
	if May(c) != (name == "") {
		t.Errorf("%s: May is %v", what, name != "")
	}
}

func TestDefault(t *testing.T) { // 3.1
	want := api.Conf{
		N: 4, F: 1, M: 1, Quorum: 3, Fresh: 2, Grace: 2, Window: 32,
		Target: [4]int64{1000, 0, 0, 0}, Tol: 100, Min: 1, Max: 100,
		CalmUp: 0, CalmDown: 3, PodsUp: 4, PctUp: 100, PodsDown: 4, PctDown: 50, Period: 2,
		Far: 100, Strikes: 3, Probe: 4, Sectors: 256, Seed: 1,
	}
	if got := Default(); got != want {
		t.Errorf("Default is %+v", got)
	}
	asks(t, "Default", Default(), "")
}

func TestDefaultIsTheCallersOwn(t *testing.T) { // 3.1
	c, want := Default(), Default()
	c.N, c.Seed, c.Target[0], c.Target[3] = 9, 9, 9, 9
	if Default() != want {
		t.Error("what became of one answer changes the next one")
	}
}

func TestWrongOfNoughts(t *testing.T) { // 3.2
	asks(t, "the zero Conf", api.Conf{}, "n")
}

func TestWrongAtTheEdges(t *testing.T) { // 3.2, 3.3
	asks(t, "wide", wide(), "")
	for _, p := range parts() {
		for _, n := range []int{p.low, p.low + 1, p.high - 1, p.high} {
			c := wide()
			*p.at(&c) = n
			if p.name == "n" { // fewer collectors bear a smaller quorum
				c.Quorum = 2*c.F + 1
			}
			if p.name == "m" {
				c.Target = [4]int64{}
				for i := range n {
					c.Target[i] = 1
				}
			}
			asks(t, p.name, c, "")
		}
	}
}

func TestWrongBeyondTheEdges(t *testing.T) { // 3.2, 3.3
	for _, p := range parts() {
		if p.name == "n" || p.name == "min" {
			continue // beyond their edges here another part is wrong: tested by themselves
		}
		for _, n := range []int{p.low - 1, p.high + 1, p.low - 100, p.high + 100, -p.high - 1, math.MinInt, math.MinInt + 1, math.MaxInt, math.MaxInt - 1} {
			c := wide()
			*p.at(&c) = n
			asks(t, p.name, c, p.name)
		}
	}
}

func TestWrongN(t *testing.T) { // 3.2
	for _, n := range []int{0, 17, -1, -4, 18, 1 << 32, math.MinInt, math.MinInt + 1, math.MaxInt} {
		c := wide()
		c.N = n
		asks(t, "n", c, "n")
	}
	for n := 1; n <= 16; n++ {
		c := wide()
		c.N, c.F, c.Quorum = n, 0, n
		asks(t, "n", c, "")
	}
}

func TestWrongF(t *testing.T) { // 3.2: n is at least 3 f + 1, though that wrapped round
	for n := 1; n <= 16; n++ {
		for f := range 20 {
			c := wide()
			c.N, c.F, c.Quorum = n, f, n
			want := ""
			if n < 3*f+1 {
				want = "f"
			}
			asks(t, "f", c, want)
		}
	}
	const third = 6148914691236517205 // three of it and one are 2^64
	for _, f := range []int{third, third + 1, third - 1, third / 2, -1, -third, -third - 1, math.MaxInt, math.MinInt} {
		c := wide()
		c.F = f
		asks(t, "f", c, "f")
	}
}

func TestWrongQuorum(t *testing.T) { // 3.2
	for n := 1; n <= 16; n++ {
		for f := 0; 3*f+1 <= n; f++ {
			for q := -1; q <= 18; q++ {
				c := wide()
				c.N, c.F, c.Quorum = n, f, q
				want := "quorum"
				if 2*f+1 <= q && q <= n {
					want = ""
				}
				asks(t, "quorum", c, want)
			}
		}
	}
}

func TestWrongTarget(t *testing.T) { // 3.2: of each of the first m metrics one, of the others none
	for m := 1; m <= 4; m++ {
		for i := range 4 {
			for _, v := range []int64{0, 1, 2, 1000, api.MaxValue - 1, api.MaxValue, api.MaxValue + 1, -1, -1000, math.MaxInt64, math.MinInt64} {
				c := wide()
				c.M, c.Target = m, [4]int64{}
				for j := range m {
					c.Target[j] = 7
				}
				c.Target[i] = v
				want := "target"
				if i < m && v >= 1 && v <= 1<<40 || i >= m && v == 0 {
					want = ""
				}
				asks(t, "target", c, want)
			}
		}
	}
}

func TestWrongMinAndMax(t *testing.T) { // 3.2: a min above max is max's fault
	rows := []struct {
		min, max int
		want     string
	}{
		{1, 1, ""}, {1, 10000, ""}, {10000, 10000, ""}, {50, 50, ""},
		{0, 0, "min"}, {0, 50, "min"}, {-1, 50, "min"}, {10001, 10001, "min"}, {10001, 50, "min"}, {math.MinInt, 50, "min"}, {math.MaxInt, math.MaxInt, "min"},
		{51, 50, "max"}, {1, 0, "max"}, {1, -1, "max"}, {1, 10001, "max"}, {10000, 9999, "max"}, {10000, 10001, "max"}, {1, math.MaxInt, "max"}, {1, math.MinInt, "max"},
	}
	for _, r := range rows {
		c := wide()
		c.Min, c.Max = r.min, r.max
		asks(t, "min and max", c, r.want)
	}
}

func TestWrongFar(t *testing.T) { // 3.2
	rows := []struct {
		far  int64
		want string
	}{
		{0, ""}, {1, ""}, {1<<40 - 1, ""}, {1 << 40, ""},
		{1<<40 + 1, "far"}, {-1, "far"}, {math.MaxInt64, "far"}, {math.MinInt64, "far"},
	}
	for _, r := range rows {
		c := wide()
		c.Far = r.far
		asks(t, "far", c, r.want)
	}
}

func TestAnySeedMayBe(t *testing.T) { // 3.2: it is named nowhere
	for _, seed := range []uint64{0, 1, 2, 1 << 63, math.MaxUint64} {
		c := wide()
		c.Seed = seed
		asks(t, "seed", c, "")
	}
}

// spoilers make each part wrong, in the order in which they are told, and leave what may be of the others as it is.
func spoilers() ([]string, []func(c *api.Conf)) {
	names := []string{
		"n", "f", "m", "quorum", "fresh", "grace", "window", "target", "tol", "min", "max",
		"calmup", "calmdown", "podsup", "pctup", "podsdown", "pctdown", "period", "far", "strikes", "probe", "sectors",
	}
	at := map[string]func(c *api.Conf) *int{}
	for _, p := range parts() {
		at[p.name] = p.at
	}
	var spoil []func(c *api.Conf)
	for _, name := range names {
		switch name {
		case "target":
			spoil = append(spoil, func(c *api.Conf) { c.Target[0] = -1 })
		case "far":
			spoil = append(spoil, func(c *api.Conf) { c.Far = -1 })
		default:
			spoil = append(spoil, func(c *api.Conf) { *at[name](c) = -1 })
		}
	}
	return names, spoil
}

func TestWrongTellsTheFirst(t *testing.T) { // 3.2
	names, spoil := spoilers()
	for i := range spoil {
		for j := i; j < len(spoil); j++ {
			c := wide()
			spoil[j](&c)
			spoil[i](&c)
			asks(t, names[i]+" and "+names[j], c, names[i])
		}
	}
	for i := range spoil {
		c := wide()
		for _, s := range spoil[i:] {
			s(&c)
		}
		asks(t, "all from "+names[i]+" on", c, names[i])
	}
}

func TestWrongOfAnything(t *testing.T) { // 3.2, rule 1: every Conf has an answer, whatever its numbers
	for _, n := range []int{math.MinInt, math.MinInt + 1, -1, 0, 1, 5, 16, 17, math.MaxInt} {
		for _, p := range parts() {
			for _, q := range parts() {
				c := Default()
				*p.at(&c) = n
				*q.at(&c) = n
				if May(c) != (Wrong(c) == "") {
					t.Fatalf("%s and %s of %d", p.name, q.name, n)
				}
			}
		}
	}
}

func TestTheSameEachTime(t *testing.T) { // 3.2, rule 3: what was asked ahead, or at one time, changes no answer
	names, spoil := spoilers()
	var all sync.WaitGroup
	for i := range spoil {
		all.Go(func() {
			for range 50 {
				c := wide()
				spoil[i](&c)
				if got := Wrong(c); got != names[i] {
					t.Errorf("Wrong is %q, not %q", got, names[i])
				}
				if !May(wide()) || Default().N != 4 {
					t.Error("what may be, or the Default")
				}
			}
		})
	}
	all.Wait()
}

func TestWrongIsInLowerCase(t *testing.T) { // 3.2, 3.3: the names as the document writes them, and no others
	names, spoil := spoilers()
	seen := map[string]int{}
	for i := range spoil {
		c := wide()
		spoil[i](&c)
		seen[Wrong(c)]++
	}
	for _, name := range names {
		if seen[name] != 1 {
			t.Errorf("%q is told %d times", name, seen[name])
		}
	}
	if len(seen) != 22 {
		t.Errorf("%d names are told", len(seen))
	}
}

func TestHonest(t *testing.T) { // 3.2
	if got := Honest(Default()); got != 3 {
		t.Errorf("Honest of Default is %d", got)
	}
	rows := []struct{ n, f, want int }{
		{0, 0, 0}, {1, 0, 1}, {4, 1, 3}, {7, 2, 5}, {16, 5, 11}, {3, 5, -2}, {5, -5, 10}, {math.MaxInt, 1, math.MaxInt - 1},
	}
	for _, r := range rows {
		c := wide()
		c.N, c.F = r.n, r.f
		if got := Honest(c); got != r.want {
			t.Errorf("Honest of %d and %d is %d", r.n, r.f, got)
		}
	}
}
