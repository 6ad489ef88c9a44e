package ring

import (
	"math"
	"math/big"
	"math/rand/v2"
	"slices"
	"sync"
	"testing"

	"quorumite/api"
	"quorumite/mac"
)

const seed = 7

// ends are numbers at the ends of their kind, and where a smaller kind would wrap round to what may be.
func ends() []int64 {
	return []int64{math.MinInt64, math.MinInt64 + 1, -1 << 40, -1 << 32, -60000, -256, -2, -1, 1<<32 + 1, 1 << 48, 1<<62 + 1, math.MaxInt64 - 1, math.MaxInt64}
}

// nobody are numbers of no collector of n.
func nobody(n int) []int {
	l := []int{n, n + 1, n + 256}
	for _, x := range ends() {
		l = append(l, int(x))
	}
	return l
}

// made is a Ring of which it is known that it may be.
func made(t *testing.T, n, grace int) *Ring {
	t.Helper()
	r := New(seed, n, grace)
	if r == nil {
		t.Fatalf("New of %d collectors and a grace of %d is nil", n, grace)
	}
	return r
}

// turns rotates who to gen at now, which must go.
func turns(t *testing.T, r *Ring, who, gen int, now int64) {
	t.Helper()
	if code := r.Rotate(who, gen, now); code != api.OK {
		t.Fatalf("Rotate(%d, %d, %d) is %d", who, gen, now, code)
	}
}

// sets sets who to gen since an epoch, which must go.
func sets(t *testing.T, r *Ring, who, gen int, since int64) {
	t.Helper()
	if code := r.Set(who, gen, since); code != api.OK {
		t.Fatalf("Set(%d, %d, %d) is %d", who, gen, since, code)
	}
}

// stands holds who's generation, and since when, against what is asked for.
func stands(t *testing.T, r *Ring, who, gen int, since int64) {
	t.Helper()
	if r.Gen(who) != gen || r.Since(who) != since {
		t.Errorf("%d has generation %d since %d, not %d since %d", who, r.Gen(who), r.Since(who), gen, since)
	}
}

// opens holds Key against the code that is asked for, and against the key of the seed, or none.
func opens(t *testing.T, r *Ring, who, gen int, now int64, code int) {
	t.Helper()
	var want api.Key
	if code == api.OK {
		want = mac.Of(seed, who, gen)
	}
	if k, got := r.Key(who, gen, now); k != want || got != code {
		t.Errorf("Key(%d, %d, %d) is %x, %d, not %x, %d", who, gen, now, k, got, want, code)
	}
}

// whole is all that a Ring of n collectors tells of where they stand.
func whole(r *Ring, n int) []int64 {
	var l []int64
	for who := range n {
		l = append(l, int64(r.Gen(who)), r.Since(who))
	}
	return l
}

func TestNewAtTheEdges(t *testing.T) { // 5.1
	for _, n := range append(ends(), 0, 1, 2, 8, 15, 16, 17, 18, 32, 257, 1<<32+16) {
		for _, grace := range append(ends(), 0, 1, 2, 50, 99, 100, 101, 102, 200, 257, 1<<32+100) {
			may := n >= 1 && n <= 16 && grace >= 1 && grace <= 100
			if r := New(seed, int(n), int(grace)); (r != nil) != may {
				t.Errorf("New of %d collectors and a grace of %d is %v", n, grace, r)
			}
		}
	}
}

func TestNewBegins(t *testing.T) { // 5.1: with just n collectors, each with generation 0 since 0
	for n := 1; n <= 16; n++ {
		r := made(t, n, 1)
		for who := range n {
			stands(t, r, who, 0, 0)
			opens(t, r, who, 0, 0, api.OK)
			opens(t, r, who, 1, 0, api.ErrGen)
		}
		for _, who := range nobody(n) {
			stands(t, r, who, -1, -1)
			opens(t, r, who, 0, 0, api.ErrWho)
		}
	}
}

func TestKeysAsReckonedElsewhere(t *testing.T) { // 5.1: the keys are those of another program
	for _, x := range []struct {
		seed          uint64
		who, gen, has int
		want          api.Key
	}{
		{0, 0, 0, 0, api.Key{0x77bc01073c69f4c5, 0xf74adb5003a51531}},
		{1, 0, 0, 0, api.Key{0x0fc3a74f4a689a99, 0x6f9ff2ea8dc5a9fb}},
		{1, 0, 1, 1, api.Key{0x892c434126104ca7, 0xa6d70eaf03be2375}},
		{1, 0, 0, 1, api.Key{0x0fc3a74f4a689a99, 0x6f9ff2ea8dc5a9fb}},
		{1, 3, 0, 0, api.Key{0xfb547ec1056d8f24, 0xb2dc8eb26c087ef5}},
		{1, 15, 60000, 60000, api.Key{0x599096b7eb4fb86e, 0x0880ee2aa83aac48}},
		{1, 15, 59999, 60000, api.Key{0xe08bf13ee52186a1, 0xb28167953ffeaf2f}},
		{7, 2, 5, 5, api.Key{0x0cb63327739e07ba, 0xdbc75b5f01ed8083}},
		{7, 2, 4, 5, api.Key{0x6881ff83b7c16265, 0xc2af60c3afb0d052}},
		{math.MaxUint64, 9, 1, 1, api.Key{0x106b91f775fe2ce5, 0x442b68c88e60ce39}},
	} {
		r := New(x.seed, 16, 2)
		sets(t, r, x.who, x.has, 10)
		if k, code := r.Key(x.who, x.gen, 11); k != x.want || code != api.OK {
			t.Errorf("of the seed %d: Key(%d, %d) at generation %d is %x, %d", x.seed, x.who, x.gen, x.has, k, code)
		}
	}
}

func TestKeyOfTheGenerationNowAtAnyTime(t *testing.T) { // 5.1: it is not asked when
	for _, has := range []int{0, 1, 2, 59999, 60000} {
		for _, since := range []int64{0, 1, 1 << 39, 1<<40 - 1, 1 << 40} {
			r := made(t, 4, 2)
			sets(t, r, 3, has, since)
			for _, now := range append(ends(), 0, 1, since-1, since, since+1, since+2, since+3, 1<<40, 1<<40+1) {
				opens(t, r, 3, has, now, api.OK)
			}
		}
	}
}

func TestKeyOfTheOneAheadWithinGrace(t *testing.T) { // 5.1, 5.3: for each grace, to the epoch
	for _, since := range []int64{0, 1, 5, 1 << 39, 1<<40 - 1, 1 << 40} {
		for grace := int64(1); grace <= 100; grace++ {
			r := made(t, 2, int(grace))
			sets(t, r, 1, 3, since)
			for _, now := range []int64{math.MinInt64, math.MinInt64 + 1, math.MinInt64 + grace, -1 << 40, -grace - 1, -grace, -1, 0, since - 1, since, since + 1, since + grace - 1, since + grace, since + grace + 1, since + 200, 1<<40 + 101, 1 << 62, math.MaxInt64 - grace, math.MaxInt64 - 1, math.MaxInt64} {
				code := api.OK
				if now >= since+grace {
					code = api.ErrGen
				}
				opens(t, r, 1, 2, now, code)
			}
		}
	}
}

func TestKeyOfOthers(t *testing.T) { // 5.1: neither below the one ahead nor above the one now, whenever
	for _, has := range []int64{0, 1, 2, 3, 256, 59999, 60000} {
		r := made(t, 1, 100)
		sets(t, r, 0, int(has), 1<<40)
		for _, gen := range append(ends(), 0, 1, has-256, has-3, has-2, has-1, has, has+1, has+2, has+256, 60000, 60001, 65536, has+65536, has-1+65536, has+1<<32, has-1+1<<32, has-1-1<<32) {
			for _, now := range []int64{math.MinInt64, -1, 0, 1 << 40, 1<<40 + 99, math.MaxInt64} {
				code := api.ErrGen
				if gen == has || gen == has-1 && gen >= 0 && now < 1<<40+100 {
					code = api.OK
				}
				opens(t, r, 0, int(gen), now, code)
			}
		}
	}
}

func TestNoneAheadOfTheFirst(t *testing.T) { // 5.1: there is no generation below 0
	r := made(t, 4, 100)
	for who := range 4 {
		for _, now := range []int64{math.MinInt64, -1, 0, 1, 99, math.MaxInt64} {
			opens(t, r, who, -1, now, api.ErrGen)
		}
	}
}

func TestExample(t *testing.T) { // the chapter's
	if k, code := New(1, 4, 2).Key(0, 1, 0); k != (api.Key{}) || code != api.ErrGen {
		t.Errorf("Key of generation 1 at first is %x, %d", k, code)
	}
}

func TestRotate(t *testing.T) { // 5.2
	r := made(t, 3, 2)
	turns(t, r, 1, 1, 10)
	stands(t, r, 1, 1, 10)
	opens(t, r, 1, 0, 11, api.OK)
	opens(t, r, 1, 0, 12, api.ErrGen)
	opens(t, r, 1, 1, 12, api.OK)
	opens(t, r, 1, 2, 12, api.ErrGen)
	turns(t, r, 1, 2, 10) // in one epoch, too
	stands(t, r, 1, 2, 10)
	turns(t, r, 1, 3, 4) // nor is it asked whether now is behind since
	stands(t, r, 1, 3, 4)
	turns(t, r, 1, 4, 1<<40)
	stands(t, r, 1, 4, 1<<40)
	stands(t, r, 0, 0, 0)
	stands(t, r, 2, 0, 0)
}

func TestRotateOnlyToTheNext(t *testing.T) { // 5.2
	for _, has := range []int64{0, 1, 2, 255, 59998, 59999, 60000} {
		for _, gen := range append(ends(), 0, 1, has-2, has-1, has, has+1, has+2, has+257, has+65537, has+1+1<<32, 60000, 60001, 60002) {
			r := made(t, 2, 5)
			sets(t, r, 0, int(has), 3)
			code := r.Rotate(0, int(gen), 9)
			if gen == has+1 && gen <= 60000 {
				if code != api.OK {
					t.Errorf("Rotate from %d to %d is %d", has, gen, code)
				}
				stands(t, r, 0, int(gen), 9)
				continue
			}
			if code != api.ErrGen {
				t.Errorf("Rotate from %d to %d is %d", has, gen, code)
			}
			stands(t, r, 0, int(has), 3)
		}
	}
}

func TestRotateAtTheEdges(t *testing.T) { // 5.2: an epoch from 0 to MaxEpoch
	for _, now := range append(ends(), 0, 1, 2, 100, 1<<32, 1<<40-1, 1<<40, 1<<40+1, 1<<40+2, 1<<41) {
		r := made(t, 2, 5)
		code := r.Rotate(1, 1, now)
		if now >= 0 && now <= 1<<40 {
			if code != api.OK {
				t.Errorf("Rotate at %d is %d", now, code)
			}
			stands(t, r, 1, 1, now)
			continue
		}
		if code != api.ErrArg {
			t.Errorf("Rotate at %d is %d", now, code)
		}
		stands(t, r, 1, 0, 0)
	}
}

func TestToTheLastGenerationAndNoFurther(t *testing.T) { // 5.2
	r := made(t, 1, 1)
	for gen := 1; gen <= api.MaxGen; gen++ {
		if code := r.Rotate(0, gen, int64(gen)); code != api.OK {
			t.Fatalf("Rotate to %d is %d", gen, code)
		}
	}
	stands(t, r, 0, 60000, 60000)
	for _, gen := range []int{60001, 60000, 0, 1, -1} {
		if code := r.Rotate(0, gen, 70000); code != api.ErrGen {
			t.Errorf("Rotate from the last to %d is %d", gen, code)
		}
	}
	stands(t, r, 0, 60000, 60000)
	opens(t, r, 0, 60000, math.MaxInt64, api.OK)
	opens(t, r, 0, 60001, 0, api.ErrGen)
}

func TestSet(t *testing.T) { // 5.2: forth and back, and with no regard to what was
	r := made(t, 16, 2)
	for _, x := range []struct {
		gen   int
		since int64
	}{{60000, 1 << 40}, {0, 0}, {0, 1 << 40}, {60000, 0}, {5, 9}, {5, 9}, {4, 8}, {1, 1}} {
		sets(t, r, 15, x.gen, x.since)
		stands(t, r, 15, x.gen, x.since)
		opens(t, r, 15, x.gen, x.since, api.OK)
		opens(t, r, 15, x.gen+1, x.since, api.ErrGen)
		opens(t, r, 15, x.gen-2, x.since, api.ErrGen)
		if x.gen > 0 {
			opens(t, r, 15, x.gen-1, x.since+1, api.OK)
			opens(t, r, 15, x.gen-1, x.since+2, api.ErrGen)
		}
	}
	turns(t, r, 15, 2, 7) // and it goes on from there
	stands(t, r, 15, 2, 7)
	for who := range 15 {
		stands(t, r, who, 0, 0)
	}
}

func TestSetAtTheEdges(t *testing.T) { // 5.2
	for _, gen := range append(ends(), 0, 1, 59999, 60000, 60001, 65536, 65537) {
		for _, since := range append(ends(), 0, 1, 1<<40-1, 1<<40, 1<<40+1, 1<<41) {
			r := made(t, 2, 5)
			sets(t, r, 1, 2, 3)
			code := r.Set(1, int(gen), since)
			if gen >= 0 && gen <= 60000 && since >= 0 && since <= 1<<40 {
				if code != api.OK {
					t.Errorf("Set to %d since %d is %d", gen, since, code)
				}
				stands(t, r, 1, int(gen), since)
				continue
			}
			if code != api.ErrArg {
				t.Errorf("Set to %d since %d is %d", gen, since, code)
			}
			stands(t, r, 1, 2, 3)
		}
	}
}

func TestTheErrorThatIsToldFirst(t *testing.T) { // 5.1, 5.2: who, then the generation, then the epoch
	r := made(t, 3, 2)
	for _, who := range nobody(3) {
		for _, gen := range []int{math.MinInt, -1, 0, 1, 60001, math.MaxInt} {
			for _, now := range []int64{math.MinInt64, -1, 0, 1 << 40, 1<<40 + 1, math.MaxInt64} {
				opens(t, r, who, gen, now, api.ErrWho)
				if code := r.Rotate(who, gen, now); code != api.ErrWho {
					t.Errorf("Rotate(%d, %d, %d) is %d", who, gen, now, code)
				}
				if code := r.Set(who, gen, now); code != api.ErrWho {
					t.Errorf("Set(%d, %d, %d) is %d", who, gen, now, code)
				}
			}
		}
	}
	for _, gen := range []int{math.MinInt, -1, 0, 2, 60001, math.MaxInt} {
		for _, now := range []int64{math.MinInt64, -1, 1<<40 + 1, math.MaxInt64} {
			if code := r.Rotate(0, gen, now); code != api.ErrGen {
				t.Errorf("Rotate(0, %d, %d) is %d", gen, now, code)
			}
		}
	}
	if l := whole(r, 3); !slices.Equal(l, make([]int64, 6)) {
		t.Errorf("what was refused changed it to %v", l)
	}
}

func TestOfNil(t *testing.T) { // 5.2: with any arguments
	var r *Ring
	for _, who := range append(nobody(4), 0, 1, 3, 15) {
		stands(t, r, who, -1, -1)
		for _, gen := range []int{math.MinInt, -1, 0, 1, 60000, math.MaxInt} {
			for _, now := range []int64{math.MinInt64, -1, 0, 1 << 40, math.MaxInt64} {
				opens(t, r, who, gen, now, api.ErrArg)
				if code := r.Rotate(who, gen, now); code != api.ErrArg {
					t.Errorf("Rotate of nil is %d", code)
				}
				if code := r.Set(who, gen, now); code != api.ErrArg {
					t.Errorf("Set of nil is %d", code)
				}
			}
		}
	}
}

func TestOfARingThatNewDidNotMake(t *testing.T) { // it has no collectors
	var r Ring
	for _, who := range []int{math.MinInt, -1, 0, 1, 15, math.MaxInt} {
		stands(t, &r, who, -1, -1)
		opens(t, &r, who, 0, 0, api.ErrWho)
		if code := r.Rotate(who, 1, 0); code != api.ErrWho {
			t.Errorf("Rotate is %d", code)
		}
		if code := r.Set(who, 1, 0); code != api.ErrWho {
			t.Errorf("Set is %d", code)
		}
	}
}

func TestOldKeysGoButNotAtOnce(t *testing.T) { // 5.3: each old one is there for just grace epochs behind its end
	for _, grace := range []int64{1, 2, 3, 7, 99, 100} {
		r := made(t, 1, int(grace))
		now := int64(0)
		for gen := 1; gen <= 20; gen++ {
			now += grace + int64(gen)
			opens(t, r, 0, gen-1, now, api.OK)
			opens(t, r, 0, gen, now, api.ErrGen)
			turns(t, r, 0, gen, now)
			there := int64(0)
			for past := range 2*grace + 50 {
				opens(t, r, 0, gen, now+past, api.OK)
				if _, code := r.Key(0, gen-1, now+past); code == api.OK {
					there++
					if past >= grace {
						t.Errorf("of a grace of %d: generation %d is there %d epochs behind its end", grace, gen-1, past)
					}
				}
			}
			if there != grace {
				t.Errorf("of a grace of %d: generation %d is there for %d epochs", grace, gen-1, there)
			}
		}
	}
}

func TestOlderOnesNeverComeBack(t *testing.T) { // 5.3: not within another's grace, and not at an earlier epoch either
	r := made(t, 1, 100)
	for gen := 1; gen <= 300; gen++ {
		turns(t, r, 0, gen, int64(gen/3)) // three in an epoch: all of them within the grace of the first
		for old := range gen - 1 {
			for _, now := range []int64{math.MinInt64, 0, int64(gen / 3), int64(gen/3) + 99, math.MaxInt64} {
				opens(t, r, 0, old, now, api.ErrGen)
			}
		}
		if code := r.Rotate(0, gen-1, int64(gen/3)); code != api.ErrGen {
			t.Errorf("Rotate back to %d is %d", gen-1, code)
		}
		stands(t, r, 0, gen, int64(gen/3))
	}
}

func TestEachForItself(t *testing.T) { // 5.2: one collector's turn is none of another's, nor of another Ring's
	a, b := made(t, 16, 2), made(t, 16, 2)
	for who := range 16 {
		for gen := 1; gen <= who; gen++ {
			turns(t, a, who, gen, int64(10*gen+who))
		}
	}
	for who := range 16 {
		since := int64(10*who + who)
		stands(t, a, who, who, since)
		stands(t, b, who, 0, 0)
		opens(t, a, who, who, since, api.OK)
		if who > 0 {
			opens(t, a, who, who-1, since+1, api.OK)
			opens(t, b, who, who, since, api.ErrGen)
		}
		opens(t, a, who, who-1, since+2, api.ErrGen)
	}
}

func TestAskingChangesNothing(t *testing.T) { // 5.1
	r := made(t, 4, 3)
	turns(t, r, 2, 1, 8)
	want := whole(r, 4)
	for who := -2; who < 7; who++ {
		for gen := -2; gen < 5; gen++ {
			for now := int64(-2); now < 15; now++ {
				first, one := r.Key(who, gen, now)
				again, two := r.Key(who, gen, now)
				if first != again || one != two {
					t.Errorf("Key(%d, %d, %d) is %x, %d and then %x, %d", who, gen, now, first, one, again, two)
				}
			}
		}
	}
	if l := whole(r, 4); !slices.Equal(l, want) {
		t.Errorf("it was changed to %v", l)
	}
}

// tale is a second telling of a Ring, by whole numbers of any length.
type tale struct {
	grace     int64
	gen, when []int64
}

// key is the code of Key.
func (a *tale) key(who, gen, now int64) int {
	if who < 0 || who >= int64(len(a.gen)) {
		return api.ErrWho
	}
	end := new(big.Int).Add(big.NewInt(a.when[who]), big.NewInt(a.grace))
	ahead := new(big.Int).Sub(big.NewInt(a.gen[who]), big.NewInt(gen))
	switch {
	case ahead.Sign() == 0:
		return api.OK
	case gen >= 0 && ahead.Cmp(big.NewInt(1)) == 0 && big.NewInt(now).Cmp(end) < 0:
		return api.OK
	}
	return api.ErrGen
}

// rotate is the code of Rotate.
func (a *tale) rotate(who, gen, now int64) int {
	switch {
	case who < 0 || who >= int64(len(a.gen)):
		return api.ErrWho
	case gen < 1 || gen > 60000 || gen-1 != a.gen[who]:
		return api.ErrGen
	case now < 0 || now > 1<<40:
		return api.ErrArg
	}
	a.gen[who], a.when[who] = gen, now
	return api.OK
}

// set is the code of Set.
func (a *tale) set(who, gen, since int64) int {
	switch {
	case who < 0 || who >= int64(len(a.gen)):
		return api.ErrWho
	case gen < 0 || gen > 60000 || since < 0 || since > 1<<40:
		return api.ErrArg
	}
	a.gen[who], a.when[who] = gen, since
	return api.OK
}

// near is a number at an end of its kind, or near to one of those that are handed in.
func near(dice *rand.Rand, about ...int64) int64 {
	if dice.IntN(20) == 0 {
		l := ends()
		return l[dice.IntN(len(l))]
	}
	return about[dice.IntN(len(about))] + dice.Int64N(7) - 3
}

func TestAsToldASecondTime(t *testing.T) { // 5.1, 5.2: whatever is called, in whatever order
	dice := rand.New(rand.NewPCG(5, 5))
	for range 200 {
		n, grace := 1+dice.IntN(16), 1+dice.IntN(100)
		r := made(t, n, grace)
		a := &tale{grace: int64(grace), gen: make([]int64, n), when: make([]int64, n)}
		for range 300 {
			who, has, since := near(dice, int64(dice.IntN(n))), int64(0), int64(0)
			if who >= 0 && who < int64(n) {
				has, since = a.gen[who], a.when[who]
			}
			gen, now := near(dice, has, has, 60000), near(dice, since, since+int64(grace), 0, 1<<40)
			var got, want int
			switch dice.IntN(8) {
			case 0:
				got, want = r.Set(int(who), int(gen), now), a.set(who, gen, now)
			case 1, 2:
				got, want = r.Rotate(int(who), int(gen), now), a.rotate(who, gen, now)
			default:
				want = a.key(who, gen, now)
				got = want
				opens(t, r, int(who), int(gen), now, want)
			}
			if got != want {
				t.Fatalf("of %d, %d, %d at generation %d since %d: %d, not %d", who, gen, now, has, since, got, want)
			}
			for who := range n {
				stands(t, r, who, int(a.gen[who]), a.when[who])
			}
		}
	}
}

func TestTheSameEachTime(t *testing.T) { // 5.1: what others do at one time, on Rings of their own, changes no answer
	var all sync.WaitGroup
	for range 16 {
		all.Go(func() {
			r := New(seed, 4, 2)
			for gen := 1; gen <= 50; gen++ {
				if code := r.Rotate(gen%4, (gen+3)/4, int64(gen)); code != api.OK {
					t.Errorf("Rotate at %d is %d", gen, code)
				}
			}
			if l := whole(r, 4); !slices.Equal(l, []int64{12, 48, 13, 49, 13, 50, 12, 47}) {
				t.Errorf("it stands at %v", l)
			}
		})
	}
	all.Wait()
}
