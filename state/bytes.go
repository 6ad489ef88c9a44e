package state

import (
	"bytes"
	"slices"

	"quorumite/api"
	"quorumite/law"
	"quorumite/sip"
)

const (
	maxWant    = 1000000 // how many replicas are wanted at most
	word       = 8       // bytes of a number
	ofSample   = 4       // numbers of a sample
	ofDecision = 8       // numbers of a decision
)

// Bytes is all that s knows, as numbers of eight bytes: From makes it again. Nothing of nil.
func (s *State) Bytes() []byte {
	if !s.isMade() {
		return nil
	}
	var w writer
	w.put(s.Now())
	for who := range s.conf.N {
		s.putCollector(&w, who)
	}
	w.list(s.law.Calm().All())
	w.list(s.law.Policy().All())
	w.put(int64(s.law.Count()))
	s.putSamples(&w)
	s.putDecisions(&w)
	return w.b
}

// From is the State by c whose Bytes b is; ErrArg of a c that may not be, ErrBytes of what no State's Bytes can be. Each part keeps only what may be set there, so it is read whatever stands there, told again and held against b; what no part asks by itself is asked behind that.
func From(c api.Conf, b []byte) (*State, int) {
	s := New(c)
	if s == nil {
		return nil, api.ErrArg
	}
	s.get(&reader{b})
	if !bytes.Equal(s.Bytes(), b) || !s.mayBe() {
		return nil, api.ErrBytes
	}
	return s, api.OK
}

// Same is whether both are of one configuration and know the same; false of nil.
func (s *State) Same(o *State) bool {
	return s.isMade() && o.isMade() && s.conf == o.conf && bytes.Equal(s.Bytes(), o.Bytes())
}

// get makes s, which is new, know what is read, as far as that can be.
func (s *State) get(r *reader) {
	s.now.Store(r.next())
	for who := range s.conf.N {
		s.getCollector(r, who)
	}
	s.getLaw(r)
	s.getSamples(r)
	s.getDecisions(r)
}

// mayBe is whether what s knows may be, as far as its parts don't ask it by themselves.
func (s *State) mayBe() bool {
	counts := s.law.Policy().All()
	return within(s.Now(), 0, api.MaxEpoch) &&
		s.law.Count() == counts[len(counts)-1] &&
		!slices.ContainsFunc(s.decisions, s.isWrong)
}

// isWrong is whether d can come of no epoch.
func (s *State) isWrong(d api.Decision) bool {
	return !within(d.Epoch, 0, api.MaxEpoch) ||
		!within(d.Replicas, s.conf.Min, s.conf.Max) ||
		!within(d.Want, 0, maxWant) ||
		slices.ContainsFunc(d.Values[:], isNoValue)
}

// isNoValue is whether v is a number that no metric may have.
func isNoValue(v int64) bool { return !within(v, 0, api.MaxValue) }

// putCollector tells all that is known of who.
func (s *State) putCollector(w *writer, who int) {
	ring, now, old := s.gate.Ring(), s.gate.Replay(who), s.gate.Old(who)
	w.put(int64(ring.Gen(who)), ring.Since(who))
	w.put(now.Top(), int64(now.Bits()))
	w.put(old.Top(), int64(old.Bits()))
	t, _ := s.score.Get(who)
	w.put(int64(t.Strikes), int64(t.Clean), flag(t.Out))
}

// getCollector makes known of who what putCollector told.
func (s *State) getCollector(r *reader, who int) {
	s.gate.Ring().Set(who, int(r.next()), r.next())
	s.gate.Replay(who).Set(r.next(), uint64(r.next()))
	s.gate.Old(who).Set(r.next(), uint64(r.next()))
	s.score.Set(who, api.Standing{Strikes: int(r.next()), Clean: int(r.next()), Out: isSet(r.next())})
}

// getLaw makes a Law that goes on from the wants, the counts and the count; of a count that may not be, that of New stays.
func (s *State) getLaw(r *reader) {
	wants, counts := r.list(), r.list()
	if l := law.New(s.conf, int(r.next())); l != nil {
		s.law = l
	}
	s.law.Calm().Set(wants)
	s.law.Policy().Set(counts)
}

// putSamples tells the samples.
func (s *State) putSamples(w *writer) {
	all := s.table.All()
	w.put(int64(len(all)))
	for _, x := range all {
		w.put(x.Epoch, int64(x.Metric), int64(x.Who), x.Value)
	}
}

// getSamples puts into the Table what putSamples told.
func (s *State) getSamples(r *reader) {
	for range r.items(ofSample) {
		x := api.Sample{Epoch: r.next(), Metric: int(r.next()), Who: int(r.next()), Value: r.next()}
		s.table.Put(x, s.Now())
	}
}

// putDecisions tells the decisions.
func (s *State) putDecisions(w *writer) {
	w.put(int64(len(s.decisions)))
	for _, d := range s.decisions {
		w.put(d.Epoch, int64(d.Replicas), int64(d.Want), flag(d.Hold))
		w.put(d.Values[:]...)
	}
}

// getDecisions puts behind one another what putDecisions told; of more than are kept, only as many are there then.
func (s *State) getDecisions(r *reader) {
	for range r.items(ofDecision) {
		d := api.Decision{Epoch: r.next(), Replicas: int(r.next()), Want: int(r.next()), Hold: isSet(r.next())}
		for i := range d.Values {
			d.Values[i] = r.next()
		}
		s.keep(d)
	}
}

// writer is the bytes of the numbers that were put.
type writer struct{ b []byte }

// put puts numbers behind the others.
func (w *writer) put(numbers ...int64) {
	for _, n := range numbers {
		w.b = append(w.b, sip.Put(uint64(n))...)
	}
}

// list puts how many counts there are, and these.
func (w *writer) list(counts []int) {
	w.put(int64(len(counts)))
	for _, n := range counts {
		w.put(int64(n))
	}
}

// reader is the bytes that were not read yet.
type reader struct{ b []byte }

// next is the next number; 0, if its bytes are not all there: there is none behind it then.
func (r *reader) next() int64 {
	n, _ := sip.Get(r.b, 0)
	r.b = r.b[min(word, len(r.b)):]
	return int64(n)
}

// items is how many items follow, of so many numbers each: as many as are told, but no more than there are bytes of.
func (r *reader) items(numbers int) int {
	told := uint64(r.next())
	return int(min(told, uint64(len(r.b)/(word*numbers))))
}

// list is the counts that writer's list put.
func (r *reader) list() []int {
	counts := make([]int, r.items(1))
	for i := range counts {
		counts[i] = int(r.next())
	}
	return counts
}

// flag is 1 of what is so, 0 of what is not.
func flag(is bool) int64 {
	if is {
		return 1
	}
	return 0
}

// isSet is whether a flag tells that it is so.
func isSet(flag int64) bool { return flag == 1 }

// within is whether n is from low to high.
func within[T int | int64](n, low, high T) bool {
	return low <= n && n <= high
}
