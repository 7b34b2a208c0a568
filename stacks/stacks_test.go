package stacks_test

import (
	"bytes"
	"math"
	"math/rand"
	"reflect"
	"slices"
	"testing"

	"stopcock/api"
	"stopcock/conn"
	"stopcock/rtt"
	"stopcock/stacks"
)

// What an event does, and what becomes of a frame: by the document's numbers.
const (
	listen, connect, accept, write, read, shut, closes, run, pass = 0, 1, 2, 3, 4, 5, 6, 7, 8

	lost, twice, late, marked, cut = 1, 2, 3, 4, 5
)

func config() stacks.Config {
	return stacks.Config{Shards: 2, MTU: 1500, Every: 1, Limit: 100, Quantum: 1500, Conn: conn.Config{MSS: 1000, Send: 5000, Recv: 5000, Kind: 1,
		Rtt: rtt.Params{Init: 100, Min: 20, Max: 400, Grain: 1}, MSL: 500, Tries: 16}}
}

func changed(f func(c *stacks.Config)) stacks.Config {
	c := config()
	f(&c)
	return c
}

// script is events that are put down one after another.
type script struct{ l []stacks.Event }

func (s *script) do(what, host, a, b int) int {
	s.l = append(s.l, stacks.Event{What: what, Host: host, A: a, B: b})
	return len(s.l) - 1
}

func (s *script) write(host, place int, text string) int {
	s.l = append(s.l, stacks.Event{What: write, Host: host, A: place, Data: []byte(text)})
	return len(s.l) - 1
}

// turns lets all shards run, and a tick pass, so many times.
func (s *script) turns(n int) {
	for range n {
		s.do(run, 0, 4, 0)
		s.do(run, 1, 4, 0)
		s.do(pass, 0, 1, 0)
	}
}

// joined is a script by which host 0 has one socket (0), and host 1 two: one that
// listens (0), and one that is joined to host 0's (1).
func joined() *script {
	s := &script{}
	s.do(listen, 1, 80, 0)
	s.do(connect, 0, 1, 80)
	s.turns(8)
	s.do(accept, 1, 0, 0)
	return s
}

func play(t *testing.T, c stacks.Config, s *script) stacks.Report {
	t.Helper()
	r, e := stacks.Run(c, s.l)
	if e != api.OK || len(r.Answers) != len(s.l) {
		t.Fatalf("Run: %d, %d answers", e, len(r.Answers))
	}
	return r
}

func same(t *testing.T, what string, got, want any) {
	t.Helper()
	if !reflect.DeepEqual(got, want) {
		t.Errorf("%s: %+v; want %+v", what, got, want)
	}
}

// answers wants an event's answer to be that, but for its Data.
func answers(t *testing.T, r stacks.Report, at int, want api.Errno, n int) {
	t.Helper()
	if a := r.Answers[at]; a.Err != want || a.N != n {
		t.Errorf("event %d: %+v; want %d, %d", at, a, want, n)
	}
}

func TestExample(t *testing.T) {
	s := joined()
	at := s.write(0, 0, "hello")
	s.turns(2)
	got := s.do(read, 1, 1, 100)
	r := play(t, config(), s)
	answers(t, r, at, api.OK, 5)
	answers(t, r, got, api.OK, 5)
	same(t, "Data", string(r.Answers[got].Data), "hello")
	same(t, "Wrote", r.Wrote, [2][][]byte{{[]byte("hello")}, {nil, nil}})
	same(t, "Read", r.Read, [2][][]byte{{nil}, {nil, []byte("hello")}})
	same(t, "Now", r.Now, 10)
}

func TestCheckP28_1(t *testing.T) {
	checked := func(c stacks.Config, want api.Errno) {
		t.Helper()
		e1 := stacks.Check(c)
		r, e2 := stacks.Run(c, nil)
		_, e3 := stacks.Finish(c, nil, 0)
		if e1 != want || e2 != want || e3 != want {
			t.Errorf("Check, Run, Finish of %+v: %d, %d, %d; want %d", c, e1, e2, e3, want)
		}
		if e2 != api.OK && !reflect.DeepEqual(r, stacks.Report{}) {
			t.Error("beside an error something is told")
		}
	}
	for _, x := range []struct {
		set       func(c *stacks.Config, n int)
		low, high int
	}{
		{func(c *stacks.Config, n int) { c.Shards = n }, 1, 4},
		{func(c *stacks.Config, n int) { c.MTU = n }, 576, 9000},
		{func(c *stacks.Config, n int) { c.Every = n }, 1, 1000},
		{func(c *stacks.Config, n int) { c.Limit = n }, 1, 4096},
		{func(c *stacks.Config, n int) { c.Quantum = n }, 1, 65535},
		{func(c *stacks.Config, n int) { c.Conn.MSS = n }, 1, 8960},
	} {
		for _, n := range []int{math.MinInt, -1, x.low - 1, x.low, x.high, x.high + 1, math.MaxInt} {
			want := api.OK
			if n < x.low || n > x.high {
				want = api.ErrConfig
			}
			checked(changed(func(c *stacks.Config) { x.set(c, n) }), want)
		}
	}
	fates := func(n int, l ...stacks.Fate) func(c *stacks.Config) {
		return func(c *stacks.Config) { c.Fates = append(make([]stacks.Fate, n), l...) }
	}
	checked(changed(fates(4096)), api.OK)
	checked(changed(fates(4097)), api.ErrCount)
	checked(changed(fates(4096, stacks.Fate{Kind: 6})), api.ErrCount)
	checked(changed(fates(1, stacks.Fate{Kind: 6})), api.ErrArg)
	checked(changed(fates(0, stacks.Fate{Kind: -1})), api.ErrArg)
	checked(changed(fates(0, stacks.Fate{Kind: 5, N: -1})), api.ErrArg)
	checked(changed(fates(0, stacks.Fate{Kind: 5, N: math.MaxInt})), api.OK)
	checked(changed(func(c *stacks.Config) { fates(4097)(c); c.Conn.Tries = 0 }), api.ErrConfig)
	checked(stacks.Config{}, api.ErrConfig)
}

func TestCountP28_1(t *testing.T) {
	for _, x := range []struct {
		l    []stacks.Event
		want api.Errno
	}{
		{make([]stacks.Event, 4096), api.OK},
		{make([]stacks.Event, 4097), api.ErrCount},
		{append(slices.Repeat([]stacks.Event{{What: pass, A: 10000}}, 104), stacks.Event{What: pass, A: 8576}), api.OK},
		{append(slices.Repeat([]stacks.Event{{What: pass, A: 10000}}, 104), stacks.Event{What: pass, A: 8577}), api.ErrCount},
		{append(slices.Repeat([]stacks.Event{{What: pass, A: 10000}}, 104), stacks.Event{What: pass, A: 8576}, stacks.Event{What: pass, A: 1}), api.ErrCount},
		{slices.Repeat([]stacks.Event{{What: read, A: 10000}}, 200), api.OK},
		{[]stacks.Event{{What: pass, A: math.MaxInt}, {What: pass, A: math.MaxInt}}, api.OK}, // such a one passes no tick
		{slices.Repeat([]stacks.Event{{What: pass, Host: 2, A: 10000}}, 200), api.OK},        // nor does one of no host
		{slices.Repeat([]stacks.Event{{What: pass, Host: 1, A: 10000}}, 105), api.ErrCount},
	} {
		if _, e := stacks.Run(config(), x.l); e != x.want {
			t.Errorf("Run of %d events: %d; want %d", len(x.l), e, x.want)
		}
		if _, e := stacks.Finish(config(), x.l, -1); e == api.OK || x.want != api.OK && e != x.want {
			t.Errorf("Finish of %d events: %d; want %d", len(x.l), e, x.want)
		}
	}
	r, e := stacks.Run(changed(func(c *stacks.Config) { c.Shards = 5 }), make([]stacks.Event, 5000))
	if e != api.ErrConfig || r.Answers != nil {
		t.Errorf("Run: %+v, %d", r, e)
	}
	r, e = stacks.Run(config(), nil)
	if e != api.OK || r.Now != 0 || r.Sent != [2]int{} || len(r.Answers) != 0 {
		t.Errorf("Run of nothing: %+v, %d", r, e)
	}
}

func TestArgP28_1(t *testing.T) {
	s := joined()
	first := len(s.l)
	for _, x := range []stacks.Event{
		{What: -1}, {What: 9}, {What: math.MaxInt},
		{What: listen, Host: 2, A: 81}, {What: listen, Host: -1, A: 81}, {What: listen, A: -1}, {What: listen, A: 65536},
		{What: connect, Host: 2}, {What: connect, B: -1}, {What: connect, B: 65536},
		{What: accept, A: 1}, {What: accept, Host: 1, A: 2}, {What: accept, Host: 1, A: -1}, {What: accept, Host: 2},
		{What: write, A: 1}, {What: write, A: -1}, {What: write, Host: 3}, {What: read, A: 1}, {What: read, A: math.MinInt}, {What: read, Host: -1},
		{What: shut, A: 1}, {What: shut, Host: 2}, {What: closes, A: 1}, {What: closes, Host: 2},
		{What: run, Host: 2}, {What: run, A: -1}, {What: run, A: 65}, {What: run, A: 1, B: -1},
		{What: pass, A: 0}, {What: pass, A: -1}, {What: pass, A: 10001},
		{What: pass, Host: -1, A: 1}, {What: pass, Host: 2, A: 1}, {What: pass, Host: math.MinInt, A: 5}, {What: pass, Host: math.MaxInt, A: 10000}, {What: pass, Host: 2},
	} {
		s.l = append(s.l, x)
	}
	last := len(s.l)
	for _, x := range []stacks.Event{{What: run, A: 0}, {What: run, A: 64, B: math.MaxInt}, {What: pass, A: 1}, {What: pass, Host: 1, A: 10000}, {What: listen, Host: 1, A: 65535}, {What: listen, A: 0}} {
		s.l = append(s.l, x)
	}
	r := play(t, config(), s)
	for i := first; i < last; i++ {
		same(t, "a wrong event", r.Answers[i], stacks.Answer{Err: api.ErrArg})
	}
	for i := last; i < len(s.l); i++ {
		if r.Answers[i].Err != api.OK {
			t.Errorf("event %+v: %d", s.l[i], r.Answers[i].Err)
		}
	}
	same(t, "Now", r.Now, 8+10001)
}

// TestNoTimeP28_1: by a refused event nothing that flies arrives, and no card
// gives out a frame; what comes behind it finds all as it was.
func TestNoTimeP28_1(t *testing.T) {
	s := joined()
	s.write(0, 0, "hello")
	s.do(run, 0, 2, 0)
	s.do(pass, 0, 1, 0)
	plain := *s
	plain.l = slices.Clone(s.l)
	for _, host := range []int{-1, 2, math.MaxInt} {
		s.do(pass, host, 100, 0)
	}
	refused := len(s.l)
	for _, x := range []*script{s, &plain} {
		x.do(run, 1, 2, 0)
		x.do(pass, 1, 3, 0)
		x.do(read, 1, 1, 10)
	}
	got, want := play(t, config(), s), play(t, config(), &plain)
	for i := refused - 3; i < refused; i++ {
		same(t, "a refused event", got.Answers[i], stacks.Answer{Err: api.ErrArg})
	}
	got.Answers = slices.Delete(got.Answers, refused-3, refused)
	same(t, "Report", got, want)
}

func TestPlacesP28_1(t *testing.T) {
	s := &script{}
	type want struct {
		at int
		e  api.Errno
		n  int
	}
	var wants []want
	expect := func(at int, e api.Errno, n int) { wants = append(wants, want{at, e, n}) }
	expect(s.do(listen, 1, 80, 0), api.OK, 0)
	expect(s.do(listen, 1, 80, 0), api.ErrInUse, 0)
	expect(s.do(connect, 0, 2, 80), api.ErrRange, 0)
	expect(s.do(connect, 0, -1, 80), api.ErrRange, 0)
	expect(s.do(connect, 0, 0, 80), api.OK, 0)
	expect(s.do(listen, 1, 81, 0), api.OK, 1)
	expect(s.do(connect, 0, 0, 80), api.OK, 1) // by another port
	expect(s.do(accept, 1, 0, 0), api.ErrWait, 0)
	s.turns(8)
	expect(s.do(accept, 1, 0, 0), api.OK, 2)
	expect(s.do(accept, 1, 1, 0), api.ErrWait, 0)
	expect(s.do(accept, 1, 2, 0), api.ErrSock, 0) // it does not listen
	expect(s.do(accept, 0, 0, 0), api.ErrSock, 0)
	expect(s.do(connect, 1, 1, 5), api.OK, 3)
	expect(s.do(accept, 1, 0, 0), api.OK, 4)
	expect(s.write(1, 0, "x"), api.ErrState, 0)
	expect(s.do(read, 1, 0, 1), api.ErrState, 0)
	expect(s.do(shut, 1, 0, 0), api.ErrState, 0)
	expect(s.do(read, 1, 2, -1), api.ErrRange, 0)
	expect(s.do(read, 1, 2, 1), api.ErrWait, 0)
	expect(s.write(1, 2, string(make([]byte, 6000))), api.OK, 5000)
	expect(s.write(1, 2, "x"), api.ErrWait, 0)
	expect(s.do(shut, 1, 2, 0), api.OK, 0)
	expect(s.do(shut, 1, 2, 0), api.ErrClosed, 0)
	expect(s.write(1, 2, "x"), api.ErrClosed, 0)
	expect(s.do(closes, 1, 2, 0), api.OK, 0)
	expect(s.do(closes, 1, 2, 0), api.ErrSock, 0)
	expect(s.write(1, 2, "x"), api.ErrSock, 0)
	expect(s.do(closes, 1, 0, 0), api.OK, 0)
	expect(s.do(accept, 1, 0, 0), api.ErrSock, 0)
	expect(s.do(listen, 1, 80, 0), api.OK, 5) // places are not given twice
	s.turns(8)
	r := play(t, config(), s)
	for _, x := range wants {
		answers(t, r, x.at, x.e, x.n)
	}
	if len(r.Wrote[0]) != 2 || len(r.Read[0]) != 2 || len(r.Wrote[1]) != 6 || len(r.Read[1]) != 6 || len(r.Wrote[1][2]) != 5000 {
		t.Errorf("Wrote and Read of %d, %d and %d, %d sockets", len(r.Wrote[0]), len(r.Read[0]), len(r.Wrote[1]), len(r.Read[1]))
	}
}

// acceptedAt is the turn at which host 1 first has a connection to accept.
func acceptedAt(t *testing.T, c stacks.Config) int {
	t.Helper()
	s := &script{}
	s.do(listen, 1, 80, 0)
	s.do(connect, 0, 0, 80)
	var at []int
	for range 900 {
		at = append(at, s.do(accept, 1, 0, 0))
		s.turns(1)
	}
	r := play(t, c, s)
	for i, x := range at {
		if r.Answers[x].Err == api.OK {
			return i
		}
	}
	t.Fatal("nothing to accept")
	return 0
}

// TestFatesP28_1: ARP's question and answer, SYN, and the answer to it go from
// card to card in a tick each, and so does the ACK.
func TestFatesP28_1(t *testing.T) {
	fates := func(l ...stacks.Fate) stacks.Config {
		return changed(func(c *stacks.Config) { c.Fates = l })
	}
	base := acceptedAt(t, config())
	same(t, "turns", base, 6)
	ok := stacks.Fate{}
	for _, x := range []struct {
		l    []stacks.Fate
		want int
	}{
		{[]stacks.Fate{{Kind: late, N: 7}}, base + 7},
		{[]stacks.Fate{ok, {Kind: late, N: 7}}, base + 7},
		{[]stacks.Fate{ok, ok, {Kind: late, N: 7}}, base + 7},
		{[]stacks.Fate{ok, ok, ok, {Kind: late, N: 7}}, base + 7},
		{[]stacks.Fate{ok, ok, ok, ok, {Kind: late, N: 7}}, base + 7},
		{[]stacks.Fate{ok, ok, ok, ok, ok, {Kind: late, N: 7}}, base}, // behind the ACK
		{[]stacks.Fate{{Kind: late}}, base},
		{[]stacks.Fate{{Kind: twice, N: 50}, {Kind: twice}, {Kind: twice}, {Kind: twice}, {Kind: twice}}, base},
		{[]stacks.Fate{{Kind: marked, N: 50}, {Kind: marked}, {Kind: marked}, {Kind: marked}, {Kind: marked}}, base}, // none says ECT
		{[]stacks.Fate{ok, ok, {Kind: cut, N: 1000}}, base},
		{[]stacks.Fate{ok, ok, {Kind: lost}}, base + 98},       // SYN again, 100 ticks behind the first one
		{[]stacks.Fate{ok, ok, {Kind: cut, N: 77}}, base + 98}, // an octet is missing
		{[]stacks.Fate{ok, ok, {Kind: cut, N: 0}}, base + 98},  // all of them
		{[]stacks.Fate{ok, ok, {Kind: cut, N: 78}}, base},      // none is
		{[]stacks.Fate{{Kind: lost}}, base + 100},              // the question
		{[]stacks.Fate{ok, ok, ok, {Kind: lost}}, base + 100},  // the answer to SYN
	} {
		if got := acceptedAt(t, fates(x.l...)); got != x.want {
			t.Errorf("fates %v: %d turns; want %d", x.l, got, x.want)
		}
	}
	// Held back for at most 1000 ticks more: SYN comes again ahead of it.
	s := &script{}
	s.do(listen, 1, 80, 0)
	s.do(connect, 0, 0, 80)
	s.do(run, 0, 2, 0)
	s.do(pass, 0, 1002, 0)
	for n, want := range map[int]int{999: 1, 1000: 1, 1001: 1, math.MaxInt: 1, 1: 1} {
		if r := play(t, fates(stacks.Fate{Kind: late, N: n}), s); r.Sent[1] != want {
			t.Errorf("late by %d: host 1 sent %d frames", n, r.Sent[1])
		}
	}
	s.l[3].A = 1001
	for n, want := range map[int]int{999: 1, 1000: 0, math.MaxInt: 0} {
		if r := play(t, fates(stacks.Fate{Kind: late, N: n}), s); r.Sent[1] != want {
			t.Errorf("late by %d: host 1 sent %d frames", n, r.Sent[1])
		}
	}
}

func TestLostMarked(t *testing.T) {
	s := joined()
	s.write(0, 0, "hello")
	s.turns(5)
	got := s.do(read, 1, 1, 10)
	for i := range 12 {
		c := config()
		c.Fates = make([]stacks.Fate, i+1)
		c.Fates[i].Kind = marked
		r := play(t, c, s)
		same(t, "Data", string(r.Answers[got].Data), "hello")
		want := 0
		if i == 5 { // behind question, answer, SYN, its answer, and ACK
			want = 1
		}
		same(t, "Marked", r.Marked, want)
		same(t, "Lost", r.Lost, 0)
		c.Fates[i].Kind = lost
		r = play(t, c, s)
		want = 1
		if i >= r.Sent[0]+r.Sent[1] {
			want = 0
		}
		same(t, "Lost", r.Lost, want)
		same(t, "Marked", r.Marked, 0)
	}
	// A single octet goes as ECT, too.
	s = joined()
	s.write(0, 0, "x")
	s.turns(5)
	c := changed(func(c *stacks.Config) { c.Fates = make([]stacks.Fate, 6); c.Fates[5].Kind = marked })
	same(t, "Marked", play(t, c, s).Marked, 1)
	// A mark makes Reno's window less: it is heard of at the other end.
	s = joined()
	s.write(0, 0, string(make([]byte, 20000)))
	for range 4 {
		s.do(run, 0, 2, 0)
		s.do(pass, 0, 20, 0)
		s.do(run, 1, 2, 0)
		s.do(pass, 0, 20, 0)
	}
	c.Conn.MSS, c.Conn.Send, c.Conn.Recv = 200, 20000, 20000
	marks := play(t, c, s)
	c.Fates = nil
	plain := play(t, c, s)
	if marks.Marked != 1 || plain.Marked != 0 || marks.Sent[0]+10 > plain.Sent[0] {
		t.Errorf("%d frames behind a mark, %d without", marks.Sent[0], plain.Sent[0])
	}
}

// TestTwice: a SYN that nobody listens to is refused as often as it comes.
func TestTwice(t *testing.T) {
	s := &script{}
	s.do(connect, 0, 0, 80)
	s.turns(10)
	c := config()
	same(t, "Sent", play(t, c, s).Sent, [2]int{2, 2})
	c.Fates = []stacks.Fate{{}, {}, {Kind: twice}}
	same(t, "Sent", play(t, c, s).Sent, [2]int{2, 3})
}

// TestPorts: each connection has a port of its own.
func TestPorts(t *testing.T) {
	for shards := 1; shards <= 4; shards++ {
		s := &script{}
		s.do(listen, 1, 0, 0)
		for i := range 100 {
			s.do(connect, 0, i*i%shards, 0)
		}
		s.turns(800)
		for range 100 {
			s.do(accept, 1, 0, 0)
		}
		r := play(t, changed(func(c *stacks.Config) { c.Shards = shards; c.Conn.Send, c.Conn.Recv = 10, 10 }), s)
		for i, a := range r.Answers {
			if a.Err != api.OK {
				t.Fatalf("%d shards: event %+v: %d", shards, s.l[i], a.Err)
			}
		}
	}
}

func TestEveryP28_5(t *testing.T) {
	for _, every := range []int{1, 3, 10, 1000} {
		s := joined()
		s.write(0, 0, string(make([]byte, 5000)))
		s.turns(300)
		r := play(t, changed(func(c *stacks.Config) { c.Every = every; c.Conn.MSS = 100 }), s)
		for _, n := range r.Sent {
			if n > (r.Now+every-1)/every {
				t.Errorf("Every %d: %d frames in %d ticks", every, n, r.Now)
			}
		}
		if every == 3 && r.Sent[0] < 53 {
			t.Errorf("Every %d: only %d frames", every, r.Sent[0])
		}
	}
}

func TestRateP28_1(t *testing.T) {
	// 1024 octets in 1024 ticks: a frame of 166 octets (100 of them data) goes out
	// each 166 ticks, a quantum of 1 octet aside.
	for rate, want := range map[int]int{1024: 7, 2048: 13, 0: 51} {
		s := joined()
		s.turns(300)
		s.write(0, 0, string(make([]byte, 5000)))
		s.do(run, 0, 2, 0)
		s.do(pass, 0, 1000, 0)
		c := changed(func(c *stacks.Config) {
			c.Quantum, c.Conn.MSS, c.Conn.Kind, c.Conn.Script = 1, 100, 4, []int{5000, rate}
			c.Conn.Rtt = rtt.Params{Init: 5000, Min: 5000, Max: 5000, Grain: 1}
		})
		// Three frames made the connection: the question, SYN, ACK.
		if got := play(t, c, s).Sent[0] - 3; got != want && got != want-1 {
			t.Errorf("rate %d: %d frames in 1000 ticks; want %d", rate, got, want)
		}
	}
}

func TestMTUP28_1(t *testing.T) {
	for size, want := range map[int]int{524: 1, 525: 2, 1048: 2, 1049: 3} {
		s := joined()
		s.write(0, 0, string(make([]byte, size)))
		s.do(run, 0, 2, 0)
		s.do(pass, 0, 10, 0)
		c := changed(func(c *stacks.Config) { c.MTU = 576 })
		if got := play(t, c, s).Sent[0] - 3; got != want {
			t.Errorf("%d octets by an MTU of 576: %d frames; want %d", size, got, want)
		}
	}
}

func TestRunsP28_1(t *testing.T) {
	// A connection of the shard 1 goes on by that shard alone.
	for first := range 4 {
		for turns := range 4 {
			s := &script{}
			s.do(connect, 0, 1, 80)
			s.do(run, 0, turns, first)
			s.do(pass, 0, 1, 0)
			want := 0
			for i := range turns {
				if (first+i)%3 == 1 {
					want = 1
				}
			}
			r := play(t, changed(func(c *stacks.Config) { c.Shards = 3 }), s)
			if r.Sent[0] != want {
				t.Errorf("%d shards from %d on: %d frames; want %d", turns, first, r.Sent[0], want)
			}
		}
	}
}

func TestFinishP28_2(t *testing.T) {
	for _, ticks := range []int{-1, 1<<20 + 1, math.MinInt, math.MaxInt} {
		if r, e := stacks.Finish(config(), nil, ticks); e != api.ErrRange || !reflect.DeepEqual(r, stacks.Report{}) {
			t.Errorf("Finish, %d ticks: %+v, %d", ticks, r, e)
		}
	}
	finish := func(c stacks.Config, s *script, ticks int) stacks.Report {
		t.Helper()
		r, e := stacks.Finish(c, s.l, ticks)
		if e != api.OK || len(r.Answers) != len(s.l) {
			t.Fatalf("Finish: %d", e)
		}
		return r
	}
	s := joined()
	s.write(0, 0, "hello")
	s.write(1, 1, string(make([]byte, 5000)))
	same(t, "no round", finish(config(), s, 0), play(t, config(), s))
	same(t, "a round", finish(config(), s, 1).Now, play(t, config(), s).Now+1)
	r := finish(config(), s, 1<<20)
	same(t, "Read", r.Read, [2][][]byte{{make([]byte, 5000)}, {nil, []byte("hello")}})
	if r.Now > 60 {
		t.Errorf("%d ticks, though nothing was left to be sent", r.Now)
	}
	// What is in the sockets is read, though nothing is to be sent.
	s.turns(30)
	before := play(t, config(), s)
	r = finish(config(), s, 1)
	if len(before.Read[1][1]) != 0 || string(r.Read[1][1]) != "hello" || len(r.Answers) != len(before.Answers) {
		t.Errorf("Read: %d, %q, %d, %d", len(before.Read[1][1]), r.Read[1][1], len(r.Answers), len(before.Answers))
	}
	// What is lost is waited for.
	s = joined()
	s.write(0, 0, "hello")
	c := changed(func(c *stacks.Config) { c.Fates = slices.Repeat([]stacks.Fate{{}}, 5) })
	c.Fates = append(c.Fates, slices.Repeat([]stacks.Fate{{Kind: lost}}, 8)...)
	r = finish(c, s, 1<<20)
	same(t, "Read", string(r.Read[1][1]), "hello")
	same(t, "Lost", r.Lost, 8)
	// And so it is of a socket that was closed, which nobody sees any more.
	s.do(closes, 0, 0, 0)
	r = finish(c, s, 1<<20)
	same(t, "Read", string(r.Read[1][1]), "hello")
	// Time-wait has nothing to send.
	s.do(shut, 1, 1, 0)
	if r = finish(changed(func(c *stacks.Config) { c.Conn.MSL = 1 << 30 }), s, 1<<20); r.Now > 1000 {
		t.Errorf("%d ticks", r.Now)
	}
}

// TestNothingLeftP28_2: where Finish ends, more rounds send nothing more.
func TestNothingLeftP28_2(t *testing.T) {
	for seed := range int64(40) {
		r := rand.New(rand.NewSource(seed))
		c := changed(func(c *stacks.Config) {
			c.Every = []int{1, 3, 20}[r.Intn(3)]
			c.Conn.MSS, c.Conn.Send, c.Conn.Recv, c.Conn.Kind = 50+r.Intn(900), 1+r.Intn(1500), 1+r.Intn(1500), 1+r.Intn(2)
			for range 30 {
				c.Fates = append(c.Fates, stacks.Fate{Kind: r.Intn(6) * r.Intn(2), N: r.Intn(40)})
			}
		})
		s := joined()
		s.turns(c.Every * 10)
		s.do(accept, 1, 0, 0)
		s.write(0, 0, text(r, r.Intn(1500)))
		s.write(1, 1, text(r, r.Intn(1500)))
		if r.Intn(2) == 0 {
			s.do(shut, 0, 0, 0)
			s.do(shut, 1, 1, 0)
		}
		before := play(t, c, s)
		x, _ := stacks.Finish(c, s.l, 1<<20)
		rounds := x.Now - before.Now + 50
		if rounds*5 > 4096-len(s.l) { // too long to be put down
			continue
		}
		for range rounds {
			s.do(run, 0, 2, 0)
			s.do(run, 1, 2, 0)
			s.do(read, 0, 0, 5000)
			s.do(read, 1, 1, 5000)
			s.do(pass, 0, 1, 0)
		}
		y := play(t, c, s)
		if x.Sent != y.Sent || !reflect.DeepEqual(x.Read, y.Read) || x.Lost != y.Lost {
			t.Fatalf("seed %d: at %d Finish had sent %v, later that was %v", seed, x.Now, x.Sent, y.Sent)
		}
	}
}

// TestRefusedP28_2: what waits for its tick in the card is left to be sent,
// though no socket waits for it: three connections that nobody took are aborted.
func TestRefusedP28_2(t *testing.T) {
	s := &script{}
	s.do(listen, 1, 80, 0)
	for i := range 3 {
		s.do(connect, 0, i%2, 80)
	}
	s.turns(300)
	s.do(closes, 1, 0, 0)
	for every, want := range map[int][2]int{1: {7, 7}, 20: {7, 7}} {
		c := changed(func(c *stacks.Config) {
			c.Every = every
			c.Conn.Rtt = rtt.Params{Init: 5000, Min: 5000, Max: 5000, Grain: 1}
		})
		x, e := stacks.Finish(c, s.l, 1000)
		if e != api.OK || x.Sent != want {
			t.Errorf("Every %d: %v frames, %d; want %v", every, x.Sent, e, want)
		}
	}
}

func TestMemoryP28_7(t *testing.T) {
	c := changed(func(c *stacks.Config) {
		c.Fates = []stacks.Fate{{Kind: late, N: 2}}
		c.Conn.Kind, c.Conn.Script = 4, []int{5000, 0}
	})
	s := joined()
	s.write(0, 0, "hello")
	s.turns(5)
	got := s.do(read, 1, 1, 100)
	kept := slices.Clone(s.l)
	r := play(t, c, s)
	same(t, "events", s.l, kept)
	same(t, "config", []any{c.Fates, c.Conn.Script}, []any{[]stacks.Fate{{Kind: late, N: 2}}, []int{5000, 0}})
	r.Answers[got].Data[0] = 'x'
	r.Wrote[0][0][1] = 'x'
	same(t, "Read", string(r.Read[1][1]), "hello")
	same(t, "Data", string(s.l[got-16].Data), "hello")
	// P28.6: the same again.
	again := play(t, c, s)
	r.Answers[got].Data[0], r.Wrote[0][0][1] = 'h', 'e'
	same(t, "again", again, r)
}

// anyConfig is some config, with so many fates that may be bad.
func anyConfig(r *rand.Rand, fates int) stacks.Config {
	c := stacks.Config{Shards: 1 + r.Intn(4), MTU: 576 + r.Intn(2000), Every: 1 + r.Intn(5), Limit: 1 + r.Intn(100), Quantum: 1 + r.Intn(3000),
		Conn: conn.Config{MSS: 50 + r.Intn(1500), Send: 50 + r.Intn(1000), Recv: 50 + r.Intn(1000), Kind: []int{1, 2, 4}[r.Intn(3)],
			Script: []int{r.Intn(3000), 0, r.Intn(2000), 50000, 1, 1 << 20},
			Rtt:    rtt.Params{Init: 100, Min: 20, Max: 400, Grain: 1}, MSL: 1000, Tries: 16}}
	for range r.Intn(150) {
		c.Fates = append(c.Fates, stacks.Fate{})
	}
	for range fates {
		c.Fates = slices.Insert(c.Fates, r.Intn(len(c.Fates)+1), stacks.Fate{Kind: r.Intn(6), N: r.Intn(400)})
	}
	return c
}

func text(r *rand.Rand, size int) string {
	b := make([]byte, size)
	r.Read(b)
	return string(b)
}

// TestBeginningP28_3: any events, any fates: each end reads a beginning of what
// one other end wrote.
func TestBeginningP28_3(t *testing.T) {
	for seed := range int64(400) {
		r := rand.New(rand.NewSource(seed))
		c := anyConfig(r, r.Intn(300))
		c.Conn.Kind = 1 + r.Intn(4)
		s := &script{}
		s.do(listen, 1, 80, 0)
		s.do(listen, 0, 80, 0)
		for range 600 {
			host := r.Intn(2)
			switch r.Intn(12) {
			case 0:
				s.do(connect, host, r.Intn(c.Shards), 80)
			case 1:
				s.do(accept, host, 0, 0)
			case 2, 3:
				s.write(host, r.Intn(6), text(r, 8+r.Intn(300)))
			case 4:
				s.do(read, host, r.Intn(6), r.Intn(300))
			case 5:
				if r.Intn(20) == 0 {
					s.do(shut+r.Intn(2), host, 1+r.Intn(5), 0)
				}
			case 6, 7, 8:
				s.do(run, host, r.Intn(5), r.Intn(9))
			default:
				s.do(pass, 0, 1+r.Intn(20), 0)
			}
		}
		x, e := stacks.Finish(c, s.l, r.Intn(3000))
		if e != api.OK {
			t.Fatalf("seed %d: %d", seed, e)
		}
		for i := range x.Read {
			for k, b := range x.Read[i] {
				if len(b) > 0 && !slices.ContainsFunc(x.Wrote[1-i], func(w []byte) bool { return bytes.HasPrefix(w, b) }) {
					t.Fatalf("seed %d: host %d, socket %d read %d octets that nobody wrote so", seed, i, k, len(b))
				}
			}
		}
	}
}

// TestAllP28_4: three connections, ten bad fates: all that was written is read.
func TestAllP28_4(t *testing.T) {
	for seed := range int64(300) {
		r := rand.New(rand.NewSource(seed))
		c := anyConfig(r, 10)
		s := &script{}
		s.do(listen, 1, 80, 0)
		for i := range 3 {
			s.do(connect, 0, i%c.Shards, 80)
		}
		for range 300 {
			s.do(run, 0, 4, r.Intn(4))
			s.do(run, 1, 4, r.Intn(4))
			s.do(pass, 0, 1+r.Intn(12), 0)
		}
		for range 3 {
			s.do(accept, 1, 0, 0)
		}
		for i := range 3 {
			for _, size := range []int{100, 300, 1} {
				s.write(0, i, text(r, size))
				s.write(1, 1+i, text(r, size))
				s.turns(r.Intn(30))
			}
			if r.Intn(2) == 0 {
				s.do(shut, r.Intn(2), i, 0)
			}
		}
		x, e := stacks.Finish(c, s.l, 20000)
		if e != api.OK || len(x.Read[1]) != 4 {
			t.Fatalf("seed %d: %d, %d sockets", seed, e, len(x.Read[1]))
		}
		for i := range 3 {
			isIts := func(k int) bool {
				return bytes.Equal(x.Read[1][k], x.Wrote[0][i]) && bytes.Equal(x.Read[0][i], x.Wrote[1][k])
			}
			if !isIts(1) && !isIts(2) && !isIts(3) {
				t.Fatalf("seed %d: not all of the connection %d was read by %d", seed, i, x.Now)
			}
		}
	}
}
