package desk_test

import (
	"bytes"
	"math/rand"
	"reflect"
	"slices"
	"strings"
	"testing"

	"stopcock/api"
	"stopcock/conn"
	"stopcock/desk"
	"stopcock/octets"
	"stopcock/rtt"
	"stopcock/stacks"
)

const (
	maxText   = 1 << 16
	maxReport = 1 << 22
	maxTicks  = 1 << 20
)

// first is how a desk is at first.
func first() stacks.Config {
	return stacks.Config{Shards: 2, MTU: 1500, Every: 1, Limit: 100, Quantum: 1500, Conn: conn.Config{MSS: 1000, Send: 65536, Recv: 65536, Kind: 1,
		Rtt: rtt.Params{Init: 100, Min: 20, Max: 5000, Grain: 1}, MSL: 1000, Tries: 10}}
}

// does wants a line to be answered so.
func does(t *testing.T, d *desk.Desk, line, want string, errno api.Errno) {
	t.Helper()
	if got, e := d.Do(line); got != want || e != errno {
		t.Errorf("%.60q: %.200q, %d; want %.200q, %d", line, got, e, want, errno)
	}
}

func allOK(t *testing.T, d *desk.Desk, lines ...string) {
	t.Helper()
	for _, line := range lines {
		does(t, d, line, "ok\n", api.OK)
	}
}

func refuses(t *testing.T, d *desk.Desk, line string, errno api.Errno) {
	t.Helper()
	does(t, d, line, "! "+octets.Decimal(int(errno))+"\n", errno)
}

// joined are the lines by which host 0 has a socket, that is joined to the
// socket 1 of host 1.
func joined() []string {
	l := []string{"listen 1 80", "connect 0 1 80"}
	l = append(l, turns(8)...)
	return append(l, "accept 1 0")
}

func turns(n int) []string {
	return slices.Repeat([]string{"run 0 2 0", "run 1 2 0", "pass 1"}, n)
}

func TestExample(t *testing.T) {
	refuses(t, desk.New(), "hello", 291)
	refuses(t, desk.New(), "shards 9", 121)
}

func TestSplitP29_1(t *testing.T) {
	for s, want := range map[string][]string{
		"": nil, " ": nil, "   ": nil, "a": {"a"}, " a ": {"a"}, "a b": {"a", "b"}, "  ab   c d ": {"ab", "c", "d"}, "a\tb c\r": {"a\tb", "c\r"},
	} {
		if got := desk.Split(s); !slices.Equal(got, want) {
			t.Errorf("Split(%q) = %q; want %q", s, got, want)
		}
	}
}

func TestDoErrorsP29_1(t *testing.T) {
	for _, d := range []*desk.Desk{nil, {}} {
		for _, line := range []string{"", "show", strings.Repeat("x", maxText+1), "\n"} {
			does(t, d, line, "", api.ErrMade)
		}
		if d.Len() != 0 {
			t.Error("Len of one that no New made")
		}
	}
	d := desk.New()
	does(t, d, strings.Repeat(" ", maxText), "", api.OK)
	does(t, d, strings.Repeat(" ", maxText+1), "", api.ErrLong)
	does(t, d, strings.Repeat("\n", maxText+1), "", api.ErrLong)
	does(t, d, "listen 1 80\n", "", api.ErrLine)
	does(t, d, "\n", "", api.ErrLine)
	does(t, d, "# remark\n", "", api.ErrLine)
	if d.Len() != 0 {
		t.Errorf("Len %d", d.Len())
	}
	for _, line := range []string{"", "   ", "#", "# a remark", "  #remark", "#show 1 2 3"} {
		does(t, d, line, "", api.OK)
	}
}

func TestLinesP29_1(t *testing.T) {
	d := desk.New()
	for _, line := range []string{
		"hello", "Show", "show 1", "clear 1", "finish", "finish 1 2", "finish x", "shards", "shards 1 2", "mtu x", "every -1", "limit +1",
		"quantum 12345678", "kind 1.0", "mss 0x10", "fate 1", "fate 1 2 3", "fate x 1", "listen 1", "listen 1 2 3", "listen 1 x", "connect 1 2",
		"connect 1 2 3 4", "accept 1", "accept 1 2 3", "write 1 2", "write 1 2 3", "write 1 2 xx", "write 1 2 ab cd", "write 1 2 --", "write x 2 ab",
		"write", "write 1", "write 1 2 abc", "read 1 2", "read 1 2 3 4", "read 1 2 -", "shut 1", "shut 1 2 3", "close 1", "close 1 2 3", "run 1 2",
		"run 1 2 3 4", "pass", "pass 1 2", "pass \t1", "pass 1\r", "pass ١", "> pass 1", "ok", "!",
	} {
		refuses(t, d, line, api.ErrLine)
	}
	if d.Len() != 0 {
		t.Errorf("Len %d", d.Len())
	}
	for i, line := range []string{
		"listen 0 9999999", "  connect   1 0000001   80  ", "accept 1 0", "write 0 0 00ffAB", "write 0 0 -", "read 1 2 3", "shut 1 1", "close 1 1", "run 0 64 0", "pass 0", "pass 9999999",
	} {
		allOK(t, d, line)
		if d.Len() != i+1 {
			t.Errorf("%q: Len %d", line, d.Len())
		}
	}
}

func TestSettings(t *testing.T) {
	for _, x := range []struct {
		name      string
		low, high int
	}{
		{"shards", 1, 4}, {"mtu", 576, 9000}, {"every", 1, 1000}, {"limit", 1, 4096}, {"quantum", 1, 65535}, {"kind", 1, 4}, {"mss", 1, 8960},
	} {
		d := desk.New()
		for _, n := range []int{x.low, x.high} {
			allOK(t, d, x.name+" "+octets.Decimal(n))
		}
		for _, n := range []int{x.low - 1, x.high + 1, 9999999} {
			refuses(t, d, x.name+" "+octets.Decimal(n), api.ErrConfig)
		}
	}
	d := desk.New()
	refuses(t, d, "fate 6 0", api.ErrArg)
	for range 4096 {
		allOK(t, d, "fate 5 9999999")
	}
	refuses(t, d, "fate 0 0", api.ErrCount)
	refuses(t, d, "fate 6 0", api.ErrCount)
	refuses(t, d, "shards 5", api.ErrConfig)
	allOK(t, d, "clear", "fate 0 0")
}

func TestEventsCount(t *testing.T) {
	d := desk.New()
	for range 4096 {
		allOK(t, d, "read 1 2 3")
	}
	refuses(t, d, "pass 1", api.ErrCount)
	refuses(t, d, "pass x", api.ErrLine)
	if d.Len() != 4096 {
		t.Errorf("Len %d", d.Len())
	}
	allOK(t, d, "clear")
	if d.Len() != 0 {
		t.Errorf("Len %d", d.Len())
	}
	allOK(t, d, "pass 1")
}

// shown is what show is to tell of a report.
func shown(r stacks.Report) string {
	var b strings.Builder
	b.WriteString("ok\n")
	for i, a := range r.Answers {
		b.WriteString(octets.Decimal(i) + " " + octets.Decimal(int(a.Err)) + " " + octets.Decimal(a.N) + " " + hexOf(a.Data) + "\n")
	}
	return b.String()
}

// finished is what finish is to tell of one.
func finished(r stacks.Report) string {
	var b strings.Builder
	b.WriteString("ok\n")
	for host := range 2 {
		for i := range r.Wrote[host] {
			b.WriteString(octets.Decimal(host) + " " + octets.Decimal(i) + " " + hexOf(r.Wrote[host][i]) + " " + hexOf(r.Read[host][i]) + "\n")
		}
	}
	return b.String()
}

func hexOf(b []byte) string {
	if len(b) == 0 {
		return "-"
	}
	return octets.Hex(b)
}

func TestShow(t *testing.T) {
	d := desk.New()
	does(t, d, "show", "ok\n", api.OK)
	does(t, d, "finish 0", "ok\n", api.OK)
	allOK(t, d, "listen 1 80", "listen 1 80", "listen 2 80", "accept 1 0")
	does(t, d, "show", "ok\n0 0 0 -\n1 262 0 -\n2 1 0 -\n3 251 0 -\n", api.OK)
	does(t, d, "finish 5", "ok\n1 0 - -\n", api.OK)
	allOK(t, d, "clear")
	allOK(t, d, joined()...)
	allOK(t, d, "write 0 0 68656C6c6f", "write 1 1 -", "write 1 1 6F6b")
	allOK(t, d, turns(3)...)
	allOK(t, d, "read 1 1 3")
	got, e := d.Do("show")
	if e != api.OK || !strings.HasSuffix(got, "\n39 0 3 68656c\n") || !strings.Contains(got, "\n27 0 5 -\n28 0 0 -\n29 0 2 -\n") {
		t.Errorf("show: %q, %d", got, e)
	}
	does(t, d, "finish 100", "ok\n0 0 68656c6c6f 6f6b\n1 0 - -\n1 1 6f6b 68656c6c6f\n", api.OK)
}

// TestShowP29_4: any lines; what they tell is what stacks tells, by settings and
// events that are put down a second time.
func TestShowP29_4(t *testing.T) {
	for seed := range int64(60) {
		r := rand.New(rand.NewSource(seed))
		d, c := desk.New(), first()
		var l []stacks.Event
		dec := octets.Decimal
		put := func(line string, x stacks.Event) {
			allOK(t, d, line)
			l = append(l, x)
		}
		if seed%2 == 0 { // else all is as it is at first
			c.Shards, c.MTU, c.Every, c.Limit, c.Quantum, c.Conn.Kind, c.Conn.MSS = 1+r.Intn(4), 600+r.Intn(900), 1+r.Intn(4), 5+r.Intn(90), 1+r.Intn(2000), 1+r.Intn(4), 100+r.Intn(900)
			allOK(t, d, "shards "+dec(c.Shards), "mtu "+dec(c.MTU), "every "+dec(c.Every), "limit "+dec(c.Limit), "quantum "+dec(c.Quantum), "kind "+dec(c.Conn.Kind), "mss "+dec(c.Conn.MSS))
		}
		put("listen 1 80", stacks.Event{What: 0, Host: 1, A: 80})
		for range 300 {
			h, a, n := r.Intn(2), r.Intn(4), r.Intn(100)
			at := " " + dec(h) + " " + dec(a)
			switch r.Intn(11) {
			case 0:
				put("connect"+at+" 80", stacks.Event{What: 1, Host: h, A: a, B: 80})
			case 1:
				put("accept"+at, stacks.Event{What: 2, Host: h, A: a})
			case 2:
				b := make([]byte, n*n/2)
				r.Read(b)
				put("write"+at+" "+hexOf(b), stacks.Event{What: 3, Host: h, A: a, Data: b})
			case 3:
				put("read"+at+" "+dec(n*n), stacks.Event{What: 4, Host: h, A: a, B: n * n})
			case 4:
				if n < 5 {
					put("shut"+at, stacks.Event{What: 5, Host: h, A: a})
					put("close"+at, stacks.Event{What: 6, Host: h, A: a})
				}
			case 5, 6, 7, 8:
				put("run"+at+" "+dec(n), stacks.Event{What: 7, Host: h, A: a, B: n})
			case 9:
				put("pass "+dec(n%7), stacks.Event{What: 8, A: n % 7})
			default:
				c.Fates = append(c.Fates, stacks.Fate{Kind: n % 6, N: n})
				allOK(t, d, "fate "+dec(n%6)+" "+dec(n))
			}
		}
		x, _ := stacks.Run(c, l)
		does(t, d, "show", shown(x), api.OK)
		x, _ = stacks.Finish(c, l, 300)
		does(t, d, "finish 300", finished(x), api.OK)
		does(t, d, "show", shown(firstOf(stacks.Run(c, l))), api.OK)
	}
}

func firstOf(r stacks.Report, _ api.Errno) stacks.Report { return r }

func TestAsked(t *testing.T) {
	d := desk.New()
	allOK(t, d, "pass 10000", "pass 0")
	// A show counts 2 events and 10000 ticks: 104 of them are 1040208.
	for range 104 {
		does(t, d, "show", "ok\n0 0 0 -\n1 1 0 -\n", api.OK)
	}
	left := maxTicks - 104*10002
	refuses(t, d, "show", api.ErrCount)
	refuses(t, d, "finish 0", api.ErrCount)
	refuses(t, d, "finish 9999999", api.ErrCount)
	allOK(t, d, "clear") // that the count stays
	refuses(t, d, "finish "+octets.Decimal(left+1), api.ErrCount)
	does(t, d, "finish "+octets.Decimal(left-2), "ok\n", api.OK)
	does(t, d, "show", "ok\n", api.OK) // which counts nothing
	allOK(t, d, "listen 0 1")
	does(t, d, "show", "ok\n0 0 0 -\n", api.OK)
	does(t, d, "show", "ok\n0 0 0 -\n", api.OK)
	refuses(t, d, "show", api.ErrCount)
	// A pass that passes no tick counts, too.
	d = desk.New()
	allOK(t, d, "pass 1048576")
	refuses(t, d, "show", api.ErrCount)
	allOK(t, d, "clear", "pass 1048575")
	does(t, d, "show", "ok\n0 1 0 -\n", api.OK)
	refuses(t, d, "show", api.ErrCount)
}

func TestSessionP29_2(t *testing.T) {
	for text, want := range map[string]string{
		"":                               "",
		"\n\n  \n# remark\n":             "",
		"hello":                          "> hello\n! 291\n",
		"hello\n":                        "> hello\n! 291\n",
		"  shards   9 \n\nlisten 1 80":   "> shards 9\n! 121\n> listen 1 80\nok\n",
		"listen 1 80\r\nshow\n":          "> listen 1 80\r\n! 291\n> show\nok\n",
		"listen 1 80\nshow\nclear\nshow": "> listen 1 80\nok\n> show\nok\n0 0 0 -\n> clear\nok\n> show\nok\n",
		" #x\npass 1 # no remark\n":      "> pass 1 # no remark\n! 291\n",
	} {
		if got, e := desk.Session(text); got != want || e != api.OK {
			t.Errorf("Session(%q) = %q, %d; want %q", text, got, e, want)
		}
	}
	if got, e := desk.Session(strings.Repeat(" ", maxText)); got != "" || e != api.OK {
		t.Errorf("%q, %d", got, e)
	}
	if got, e := desk.Session(strings.Repeat(" ", maxText+1)); got != "" || e != api.ErrLong {
		t.Errorf("%q, %d", got, e)
	}
}

// TestLinesP29_3: a report is what Do tells, line by line.
func TestLinesP29_3(t *testing.T) {
	lines := append(joined(), "write 0 0 6869", "", "# remark", "  ", "nonsense 1", "mtu  1")
	lines = append(lines, turns(3)...)
	lines = append(lines, "read 1 1 9", "  show", "finish 20", "clear", "show")
	var want strings.Builder
	d := desk.New()
	for _, line := range lines {
		told, _ := d.Do(line)
		if words := desk.Split(line); len(words) > 0 && words[0][0] != '#' {
			want.WriteString("> " + strings.Join(words, " ") + "\n" + told)
		}
	}
	if got, e := desk.Session(strings.Join(lines, "\n")); got != want.String() || e != api.OK {
		t.Errorf("Session: %q, %d; want %q", got, e, want.String())
	}
}

func TestLongReportP29_2(t *testing.T) {
	// Each finish tells what was written, and what was read.
	text := strings.Join(joined(), "\n") + "\n"
	for range 20 {
		text += "write 0 0 " + strings.Repeat("ab", 1200) + "\n"
	}
	text += strings.Join(turns(3), "\n") + "\n" + strings.Repeat("finish 60\n", 60)
	// An Outcome that is not cut: what Do tells, line by line.
	var whole strings.Builder
	d := desk.New()
	for line := range strings.SplitSeq(strings.TrimSuffix(text, "\n"), "\n") {
		told, e := d.Do(line)
		if e != api.OK {
			t.Fatalf("%.20q: %d", line, e)
		}
		whole.WriteString("> " + line + "\n" + told)
	}
	if whole.Len() <= maxReport {
		t.Fatalf("only %d octets", whole.Len())
	}
	cut := whole.String()[:maxReport]
	cut = cut[:strings.LastIndex(cut, "\n")+1]
	if got, e := desk.Session(text); got != cut || e != api.ErrLong {
		t.Errorf("%d octets, %d; want %d", len(got), e, len(cut))
	}
}

// TestFullReportP29_2: a report of just MaxReport octets is whole.
func TestFullReportP29_2(t *testing.T) {
	var text, report strings.Builder
	d := desk.New()
	do := func(lines ...string) {
		for _, line := range lines {
			told, _ := d.Do(line)
			text.WriteString(line + "\n")
			report.WriteString("> " + line + "\n" + told)
		}
	}
	// Of two sizes, the second one for what the first leaves.
	for _, size := range []int{24000, 300} {
		do("clear")
		do(joined()...)
		for range size / 300 {
			do("write 0 0 " + strings.Repeat("ab", 300))
		}
		do(turns(3)...)
		before := report.Len()
		do("finish 60")
		for more := report.Len() - before; report.Len()+more+1000 < maxReport; {
			do("finish 60")
		}
	}
	last := maxReport - report.Len() - len("> \n! 291\n")
	for _, n := range []int{last, last + 1} {
		whole := "> " + strings.Repeat("x", n) + "\n! 291\n"
		want, errno := report.String()+whole, api.OK
		if n > last {
			want, errno = report.String()+whole[:n+3], api.ErrLong
		}
		if got, e := desk.Session(text.String() + strings.Repeat("x", n)); got != want || e != errno {
			t.Errorf("%d octets, %d; want %d, %d", len(got), e, len(want), errno)
		}
	}
}

func TestSessionsP29_2(t *testing.T) {
	for _, x := range []struct {
		texts, workers int
		want           api.Errno
	}{{65, 0, api.ErrCount}, {65, 1, api.ErrCount}, {64, 0, api.ErrRange}, {0, -1, api.ErrRange}, {1, 17, api.ErrRange}, {64, 16, api.OK}, {0, 1, api.OK}} {
		l, e := desk.Sessions(make([]string, x.texts), x.workers)
		if e != x.want || e != api.OK && l != nil || e == api.OK && len(l) != x.texts {
			t.Errorf("Sessions of %d by %d: %v, %d; want %d", x.texts, x.workers, l, e, x.want)
		}
	}
	var texts []string
	var want []desk.Outcome
	for i := range 40 {
		l := append(joined(), "write 0 0 "+octets.Hex(bytes.Repeat([]byte{byte(i)}, i)), "every "+octets.Decimal(i), "finish 50", "show")
		text := strings.Join(l, "\n")
		if i == 7 {
			text = strings.Repeat("x", maxText+1)
		}
		report, e := desk.Session(text)
		texts, want = append(texts, text), append(want, desk.Outcome{Report: report, Err: e})
	}
	kept := slices.Clone(texts)
	for _, workers := range []int{1, 2, 16} {
		got, e := desk.Sessions(texts, workers)
		if e != api.OK || !reflect.DeepEqual(got, want) {
			t.Errorf("Sessions by %d workers: other reports than Session's (%d)", workers, e)
		}
	}
	if !slices.Equal(texts, kept) {
		t.Error("the texts were changed")
	}
}

// TestApartP29_5: desks share nothing, and what is told is no part of one.
func TestApartP29_5(t *testing.T) {
	a, b := desk.New(), desk.New()
	allOK(t, a, "listen 1 80", "fate 1 0", "mtu 600")
	if b.Len() != 0 {
		t.Errorf("Len %d", b.Len())
	}
	allOK(t, b, joined()...)
	allOK(t, b, "write 0 0 6869")
	does(t, b, "finish 50", "ok\n0 0 6869 -\n1 0 - -\n1 1 - 6869\n", api.OK)
	words := desk.Split("a b")
	words[0] = "x"
	if got := desk.Split("a b"); got[0] != "a" {
		t.Error("Split hands out what it keeps")
	}
}
