package lead_test

import (
	"math"
	"math/rand"
	"slices"
	"testing"

	"leeboard/api"
	"leeboard/lead"
)

const (
	up   = true
	down = false
)

func view(epoch, leader int, up bool) api.View {
	return api.View{Epoch: epoch, Leader: leader, Up: up}
}

// views with spare room behind them.
func views(l ...api.View) []api.View {
	return append(make([]api.View, 0, 9), l...)
}

// led: server 1 leads by its second epoch, of which voter 0 has not heard.
func led() []api.View {
	return views(view(1, 0, down), view(2, 1, up), view(2, 1, up))
}

// refuses: each call tells what is wrong of views ahead of all else, and nothing beside it.
func refuses(t *testing.T, l []api.View, want api.Errno) {
	t.Helper()
	if got := lead.Check(l); got != want {
		t.Errorf("Check of %v says %d, not %d", l, got, want)
	}
	if who, is, e := lead.Now(l); who != 0 || is || e != want {
		t.Errorf("Now of %v says %d %v %d, not %d", l, who, is, e, want)
	}
	for _, who := range []int{-1, 0, 1, 2, 3, math.MaxInt} {
		refusesWin(t, l, who, want)
		refusesSet(t, l, who, want)
	}
}

func refusesWin(t *testing.T, l []api.View, who int, want api.Errno) {
	t.Helper()
	if y, won, e := lead.Win(l, who); len(y) != 0 || won || e != want {
		t.Errorf("Win of %v, %d says %v %v %d, not %d", l, who, y, won, e, want)
	}
}

func refusesSet(t *testing.T, l []api.View, who int, want api.Errno) {
	t.Helper()
	for _, is := range []bool{up, down} {
		if y, e := lead.Set(l, who, is); len(y) != 0 || e != want {
			t.Errorf("Set of %v, %d says %v %d, not %d", l, who, y, e, want)
		}
	}
}

func TestI1Good(t *testing.T) {
	for name, l := range map[string][]api.View{
		"the first of all":              views(view(0, 0, up), view(0, 0, up), view(0, 0, up)),
		"all down":                      views(view(0, 0, down), view(0, 0, down), view(0, 0, down)),
		"a leader":                      led(),
		"three epochs":                  views(view(1, 1, up), view(2, 0, up), view(3, 1, down)),
		"one leader of several epochs":  views(view(4, 1, up), view(5, 1, up), view(6, 1, up)),
		"epochs that fall":              views(view(99, 1, up), view(50, 0, down), view(0, 0, up)),
		"the last epoch of all":         views(view(99, 0, up), view(99, 0, up), view(99, 0, up)),
		"an epoch that only one has":    views(view(0, 0, up), view(0, 0, up), view(7, 1, up)),
		"a leader that has not its own": views(view(3, 0, up), view(4, 0, up), view(4, 0, up)),
	} {
		if got := lead.Check(l); got != api.OK {
			t.Errorf("%s: %d", name, got)
		}
	}
}

func TestI1HowMany(t *testing.T) {
	for _, n := range []int{0, 1, 2, 4, 5, 6, 3000} {
		refuses(t, make([]api.View, n), api.ErrForm)
	}
	refuses(t, nil, api.ErrForm)
	refuses(t, led()[:2], api.ErrForm)
	refuses(t, append(led(), view(2, 1, up)), api.ErrForm)
}

// TestI1Edges: wherever a wrong view stands, it tells.
func TestI1Edges(t *testing.T) {
	for place := range 3 {
		for v, want := range map[api.View]api.Errno{
			view(-1, 0, up):             api.ErrRange,
			view(-1, 1, up):             api.ErrRange,
			view(100, 0, up):            api.ErrRange,
			view(100, 1, down):          api.ErrRange,
			view(math.MinInt, 0, up):    api.ErrRange,
			view(math.MaxInt, 1, up):    api.ErrRange,
			view(5, -1, up):             api.ErrRange,
			view(5, 2, up):              api.ErrRange,
			view(0, -1, up):             api.ErrRange,
			view(0, 2, down):            api.ErrRange,
			view(5, math.MinInt, down):  api.ErrRange,
			view(5, math.MaxInt, up):    api.ErrRange,
			view(0, 1, up):              api.ErrState,
			view(0, 1, down):            api.ErrState,
			view(0, 0, up):              api.OK,
			view(1, 0, up):              api.OK,
			view(1, 1, down):            api.OK,
			view(99, 0, up):             api.OK,
			view(99, 1, up):             api.OK,
			view(100, math.MaxInt, up):  api.ErrRange,
			view(-1, math.MinInt, down): api.ErrRange,
		} {
			l := views(view(7, 1, up), view(7, 1, down), view(7, 1, up))
			l[place] = v
			if want != api.OK {
				refuses(t, l, want)
			} else if got := lead.Check(l); got != api.OK {
				t.Errorf("%v: %d", l, got)
			}
		}
	}
}

// TestI1OneLeader: of one epoch there is one leader, whoever of them is up.
func TestI1OneLeader(t *testing.T) {
	for _, epoch := range []int{1, 2, 50, 99} {
		for _, other := range []api.View{view(0, 0, up), view(epoch/2, 0, up), view(epoch, 0, up), view(epoch, 1, down)} {
			for set := range 4 {
				a, b := view(epoch, 0, set&1 > 0), view(epoch, 1, set&2 > 0)
				for _, l := range [][]api.View{{a, b, other}, {a, other, b}, {other, a, b}, {b, a, other}, {b, other, a}, {other, b, a}} {
					refuses(t, l, api.ErrState)
				}
			}
		}
	}
}

// TestI1ThingByThing: of several wrong views the first one tells, of that the error that is named first, and all of them ahead of what two have not in common.
func TestI1ThingByThing(t *testing.T) {
	wrong := map[api.View]api.Errno{
		view(-1, 1, up): api.ErrRange, view(100, 0, up): api.ErrRange, view(9, 2, up): api.ErrRange, view(0, -1, up): api.ErrRange, view(0, 1, up): api.ErrState,
	}
	for a, first := range wrong {
		for b := range wrong {
			refuses(t, []api.View{a, b, view(0, 0, up)}, first)
			refuses(t, []api.View{a, view(0, 0, up), b}, first)
			refuses(t, []api.View{view(3, 1, up), a, b}, first)
		}
		refuses(t, []api.View{a, view(3, 0, up), view(3, 1, up)}, first)
		refuses(t, []api.View{view(3, 0, up), a, view(3, 1, up)}, first)
		refuses(t, []api.View{view(3, 0, up), view(3, 1, up), a}, first)
		refuses(t, []api.View{a, a, a, a}, api.ErrForm)
		refuses(t, []api.View{a}, api.ErrForm)
	}
}

func TestI2Now(t *testing.T) {
	for _, c := range []struct {
		name  string
		views []api.View
		who   int
		is    bool
	}{
		{"nobody has ever won", views(view(0, 0, up), view(0, 0, up), view(0, 0, up)), 0, false},
		{"all have one epoch", views(view(1, 0, up), view(1, 0, up), view(1, 0, up)), 0, true},
		{"all have one epoch, server 1", views(view(1, 1, up), view(1, 1, up), view(1, 1, up)), 1, true},
		{"the last epoch of all", views(view(99, 1, up), view(99, 1, up), view(99, 1, up)), 1, true},
		{"the other server is down", views(view(2, 0, up), view(2, 0, down), view(2, 0, up)), 0, true},
		{"the witness is down", views(view(2, 1, up), view(2, 1, up), view(2, 1, down)), 1, true},
		{"the leader is down", views(view(2, 0, down), view(2, 0, up), view(2, 0, up)), 0, false},
		{"the leader, server 1, is down", views(view(2, 1, up), view(2, 1, down), view(2, 1, up)), 0, false},
		{"more than half are down", views(view(2, 0, up), view(2, 0, down), view(2, 0, down)), 0, false},
		{"more than half are down, the leader too", views(view(2, 0, down), view(2, 0, down), view(2, 0, up)), 0, false},
		{"all are down", views(view(2, 1, down), view(2, 1, down), view(2, 1, down)), 0, false},
		{"one has an elder epoch", views(view(2, 0, up), view(2, 0, up), view(1, 1, up)), 0, true},
		{"one has an elder epoch, and is down", led(), 1, true},
		{"one has an elder epoch, and one is down", views(view(2, 0, up), view(2, 0, down), view(1, 1, up)), 0, false},
		{"one has no epoch, and one is down", views(view(0, 0, up), view(1, 1, up), view(1, 1, down)), 0, false},
		{"a leader of an elder epoch that most have, and that is up", views(view(2, 0, up), view(1, 1, up), view(1, 1, up)), 0, false},
		{"a leader of an elder epoch that most have; the newer one is down", views(view(2, 0, down), view(1, 1, up), view(1, 1, up)), 0, false},
		{"the witness alone has the greatest epoch", views(view(3, 0, up), view(3, 0, up), view(4, 1, up)), 0, false},
		{"the witness alone has the greatest epoch, and is down", views(view(3, 0, up), view(3, 0, up), view(4, 1, down)), 0, false},
		{"a leader that is up, and has an elder epoch itself", views(view(1, 1, up), view(2, 0, up), view(2, 0, up)), 0, true},
		{"a leader that is down, and has an elder epoch itself", views(view(1, 1, down), view(2, 0, up), view(2, 0, up)), 0, false},
		{"three epochs", views(view(1, 0, up), view(2, 1, up), view(3, 0, up)), 0, false},
	} {
		if who, is, e := lead.Now(c.views); who != c.who || is != c.is || e != api.OK {
			t.Errorf("%s: %d %v %d", c.name, who, is, e)
		}
	}
}

func TestI2Win(t *testing.T) {
	for _, c := range []struct {
		name  string
		views []api.View
		who   int
		won   bool
		want  []api.View
	}{
		{"the first of all", views(view(0, 0, up), view(0, 0, up), view(0, 0, up)), 0, true, views(view(1, 0, up), view(1, 0, up), view(1, 0, up))},
		{"the first of all, server 1", views(view(0, 0, up), view(0, 0, up), view(0, 0, up)), 1, true, views(view(1, 1, up), view(1, 1, up), view(1, 1, up))},
		{"who leads already", views(view(1, 0, up), view(1, 0, up), view(1, 0, up)), 0, true, views(view(2, 0, up), view(2, 0, up), view(2, 0, up))},
		{"another one leads", views(view(1, 0, up), view(1, 0, up), view(1, 0, up)), 1, true, views(view(2, 1, up), view(2, 1, up), view(2, 1, up))},
		{"the other server is down", views(view(1, 0, up), view(1, 0, down), view(1, 0, up)), 0, true, views(view(2, 0, up), view(1, 0, down), view(2, 0, up))},
		{"the leader is down", views(view(1, 0, down), view(1, 0, up), view(1, 0, up)), 1, true, views(view(1, 0, down), view(2, 1, up), view(2, 1, up))},
		{"the witness is down", views(view(1, 0, up), view(1, 0, up), view(0, 0, down)), 1, true, views(view(2, 1, up), view(2, 1, up), view(0, 0, down))},
		{"one that is down has the greatest epoch", views(view(9, 1, down), view(3, 0, up), view(4, 1, up)), 1, true, views(view(9, 1, down), view(10, 1, up), view(10, 1, up))},
		{"the last epoch of all", views(view(98, 1, up), view(0, 0, up), view(97, 0, up)), 0, true, views(view(99, 0, up), view(99, 0, up), view(99, 0, up))},
		{"it is down", views(view(1, 0, down), view(1, 0, up), view(1, 0, up)), 0, false, views(view(1, 0, down), view(1, 0, up), view(1, 0, up))},
		{"it is down, and another one leads", led(), 0, false, led()},
		{"more than half are down", views(view(1, 0, up), view(1, 0, down), view(1, 0, down)), 0, false, views(view(1, 0, up), view(1, 0, down), view(1, 0, down))},
		{"all are down", views(view(1, 0, down), view(1, 0, down), view(1, 0, down)), 1, false, views(view(1, 0, down), view(1, 0, down), view(1, 0, down))},
		{"no epoch is left, and it is down", views(view(99, 0, down), view(99, 0, up), view(99, 0, up)), 0, false, views(view(99, 0, down), view(99, 0, up), view(99, 0, up))},
		{"no epoch is left, and more than half are down", views(view(99, 0, down), view(99, 0, up), view(99, 0, down)), 1, false, views(view(99, 0, down), view(99, 0, up), view(99, 0, down))},
	} {
		y, won, e := lead.Win(c.views, c.who)
		if !slices.Equal(y, c.want) || won != c.won || e != api.OK {
			t.Errorf("%s: %v %v %d, not %v %v", c.name, y, won, e, c.want, c.won)
		}
	}
}

// TestI2WinRefused: who is no server, the witness too, can't lead, and no epoch comes behind the last one, whoever has it.
func TestI2WinRefused(t *testing.T) {
	for _, l := range [][]api.View{
		led(), views(view(0, 0, up), view(0, 0, up), view(0, 0, up)), views(view(9, 0, down), view(9, 0, down), view(9, 0, down)), views(view(99, 0, up), view(99, 0, up), view(99, 0, up)),
	} {
		for _, who := range []int{-1, 2, 3, 4, math.MinInt, math.MaxInt} {
			refusesWin(t, l, who, api.ErrRange)
		}
	}
	for place := range 3 {
		for _, is := range []bool{up, down} {
			for _, leader := range []int{0, 1} {
				l := views(view(3, 0, up), view(3, 0, up), view(3, 0, up))
				l[place] = view(99, leader, is)
				for who := range 2 {
					if l[who].Up {
						refusesWin(t, l, who, api.ErrMany)
					}
				}
			}
		}
	}
}

func TestI2Set(t *testing.T) {
	for who := range 3 {
		for set := range 8 {
			l := views(view(5, 1, set&1 > 0), view(6, 0, set&2 > 0), view(6, 0, set&4 > 0))
			for _, is := range []bool{up, down} {
				want := slices.Clone(l)
				want[who] = view(l[who].Epoch, l[who].Leader, is)
				if y, e := lead.Set(l, who, is); !slices.Equal(y, want) || e != api.OK {
					t.Errorf("%v, %d %v: %v %d", l, who, is, y, e)
				}
			}
		}
	}
	for _, who := range []int{-1, 3, 4, math.MinInt, math.MaxInt} {
		refusesSet(t, led(), who, api.ErrRange)
	}
}

// wrong: what an own check of views says.
func wrong(l []api.View) api.Errno {
	leaders := map[int]int{}
	for _, v := range l {
		if v.Epoch < 0 || v.Epoch > 99 || v.Leader*v.Leader != v.Leader {
			return api.ErrRange
		}
		if v.Epoch*2 < v.Leader {
			return api.ErrState
		}
		leaders[2*v.Epoch+v.Leader]++
	}
	for epoch := range 100 {
		if leaders[2*epoch] > 0 && leaders[2*epoch+1] > 0 {
			return api.ErrState
		}
	}
	return api.OK
}

// leads: who leads right views, by an own count; -1 is nobody.
func leads(l []api.View) int {
	for epoch := 99; epoch > 0; epoch-- {
		has, alive, leader := 0, 0, -1
		for _, v := range l {
			if v.Epoch != epoch {
				continue
			}
			has, leader = has+1, v.Leader
			if v.Up {
				alive++
			}
		}
		if has > 0 {
			if alive < 2 || !l[leader].Up {
				return -1
			}
			return leader
		}
	}
	return -1
}

// TestI2All: of all views of some numbers an own count says the same.
func TestI2All(t *testing.T) {
	var each []api.View
	for _, epoch := range []int{-1, 0, 1, 2, 98, 99, 100} {
		for leader := -1; leader <= 2; leader++ {
			each = append(each, view(epoch, leader, up), view(epoch, leader, down))
		}
	}
	for _, a := range each {
		for _, b := range each {
			for _, c := range each {
				all(t, []api.View{a, b, c})
			}
		}
	}
}

func all(t *testing.T, l []api.View) {
	t.Helper()
	want := wrong(l)
	if got := lead.Check(l); got != want {
		t.Fatalf("Check of %v says %d, not %d", l, got, want)
	}
	who, is, e := lead.Now(l)
	if want != api.OK {
		if who != 0 || is || e != want {
			t.Fatalf("Now of %v says %d %v %d, not %d", l, who, is, e, want)
		}
		return
	}
	if n := leads(l); who != max(n, 0) || is != (n >= 0) || e != api.OK {
		t.Fatalf("Now of %v says %d %v %d, not %d", l, who, is, e, n)
	}
	for who := range 2 {
		wins(t, l, who)
	}
}

func wins(t *testing.T, l []api.View, who int) {
	t.Helper()
	alive, epoch := 0, 0
	for _, v := range l {
		if v.Up {
			alive++
		}
		epoch = max(epoch, v.Epoch+1)
	}
	want, won, errno := slices.Clone(l), l[who].Up && alive >= 2, api.OK
	if won && epoch == 100 {
		want, won, errno = nil, false, api.ErrMany
	}
	for i := range want {
		if won && l[i].Up {
			want[i] = view(epoch, who, up)
		}
	}
	y, is, e := lead.Win(l, who)
	if !slices.Equal(y, want) || is != won || e != errno {
		t.Fatalf("Win of %v, %d says %v %v %d, not %v %v %d", l, who, y, is, e, want, won, errno)
	}
}

// TestI3NeverTwo: whatever voters do, views stay right; who wins leads, and goes on leading till more than half of those that promised it are down, it is down, or another one wins; and nobody leads again by an elder epoch.
func TestI3NeverTwo(t *testing.T) {
	r := rand.New(rand.NewSource(9))
	led, lost, wonAgain := 0, 0, 0
	for range 300 {
		l := []api.View{view(0, 0, up), view(0, 0, up), view(0, 0, up)}
		leader, promised := -1, [3]bool{} // of the last epoch: who won it, and who promised it
		for range 60 {
			who := r.Intn(3)
			if r.Intn(3) == 0 && who < 2 {
				y, won, e := lead.Win(l, who)
				if e != api.OK {
					t.Fatalf("%v, %d: %d", l, who, e)
				}
				if won {
					leader = who
					for i := range l {
						promised[i] = l[i].Up
					}
					wonAgain++
				}
				l = y
			} else {
				y, e := lead.Set(l, who, r.Intn(2) == 0)
				if e != api.OK {
					t.Fatalf("%v, %d: %d", l, who, e)
				}
				l = y
			}
			if e := lead.Check(l); e != api.OK {
				t.Fatalf("%v: %d", l, e)
			}
			alive := 0
			for i := range l {
				if promised[i] && l[i].Up {
					alive++
				}
			}
			want := leader >= 0 && alive >= 2 && l[leader].Up
			who, is, e := lead.Now(l)
			if is != want || is && who != leader || e != api.OK {
				t.Fatalf("%v: %d %v %d, not %d %v", l, who, is, e, leader, want)
			}
			if is {
				led++
			} else if leader >= 0 {
				lost++
			}
		}
	}
	if led < 1000 || lost < 1000 || wonAgain < 1000 {
		t.Errorf("%d, %d, %d: that tells little", led, lost, wonAgain)
	}
}

// TestI3AllEpochs: servers win by turns till no epoch is left; then who leads goes on leading.
func TestI3AllEpochs(t *testing.T) {
	l := []api.View{view(0, 0, up), view(0, 0, up), view(0, 0, up)}
	for n := range 99 {
		y, won, e := lead.Win(l, n%2)
		if who, is, _ := lead.Now(y); !won || e != api.OK || who != n%2 || !is || y[2].Epoch != n+1 {
			t.Fatalf("%v: %v %v %d; %d %v", l, y, won, e, who, is)
		}
		l = y
	}
	refusesWin(t, l, 0, api.ErrMany)
	refusesWin(t, l, 1, api.ErrMany)
	if who, is, e := lead.Now(l); who != 0 || !is || e != api.OK {
		t.Errorf("%v: %d %v %d", l, who, is, e)
	}
}

// scrawl over all that a list holds, the spare room too.
func scrawl(l []api.View) {
	l = l[:cap(l)]
	for i := range l {
		l[i] = view(-7, -7, !l[i].Up)
	}
}

// TestP2NewMemory: what is handed in is only read, and neither it nor what was answered is seen again when it is changed.
func TestP2NewMemory(t *testing.T) {
	for name, call := range map[string]func(l []api.View) []api.View{
		"Win that wins":     func(l []api.View) []api.View { y, _, _ := lead.Win(l, 1); return y },
		"Win that does not": func(l []api.View) []api.View { y, _, _ := lead.Win(l, 0); return y },
		"Set up":            func(l []api.View) []api.View { y, _ := lead.Set(l, 0, up); return y },
		"Set up again":      func(l []api.View) []api.View { y, _ := lead.Set(l, 1, up); return y },
		"Set down":          func(l []api.View) []api.View { y, _ := lead.Set(l, 2, down); return y },
	} {
		l := led()
		before := slices.Clone(l[:cap(l)])
		y := call(l)
		if len(y) != 3 || !slices.Equal(l[:cap(l)], before) {
			t.Errorf("%s changed what it was handed", name)
		}
		first := slices.Clone(y)
		scrawl(y)
		if !slices.Equal(l[:cap(l)], before) {
			t.Errorf("%s hands out what it was handed", name)
		}
		y = call(l)
		scrawl(l)
		if !slices.Equal(y, first) {
			t.Errorf("%s keeps what it was handed, or what it answered", name)
		}
		scrawl(y)
		if who, is, e := lead.Now(led()); who != 1 || !is || e != api.OK {
			t.Errorf("behind %s somebody else leads: %d %v %d", name, who, is, e)
		}
	}
}

// TestP3SameAgain: a call changes nothing that a later one could tell.
func TestP3SameAgain(t *testing.T) {
	a, won, e := lead.Win(led(), 1)
	lead.Win(led(), 0)
	lead.Win(views(view(50, 0, up), view(50, 0, up), view(50, 0, up)), 0)
	lead.Set(led(), 1, down)
	b, again, f := lead.Win(led(), 1)
	if !slices.Equal(a, b) || won != again || e != f {
		t.Errorf("%v %v %d, then %v %v %d", a, won, e, b, again, f)
	}
}
