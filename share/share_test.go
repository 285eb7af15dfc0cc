package share

import (
	"math"
	"math/rand"
	"reflect"
	"slices"
	"testing"

	"mullion/api"
	"mullion/scene"
)

const (
	top    = math.MaxInt64
	bottom = math.MinInt64
)

// object is one that may be.
func object(id int) api.Object {
	m := api.Matrix{{api.One}, {0, api.One}, {0, 0, api.One}, {0, 0, 0, api.One}}
	return api.Object{ID: id, M: m, Verts: [][3]int64{{1, 2, 3}, {4, 5, 6}, {7, 8, 9}}, Tris: []api.Tri{{A: 0, B: 1, C: 2, Color: 5}}}
}

// sample is a scene of objects of these IDs, in this order.
func sample(ids ...int) api.Scene {
	s := api.Scene{W: 4, H: 3, Camera: object(0).M}
	for _, id := range ids {
		s.Objects = append(s.Objects, object(id))
	}
	return s
}

// through is the numbers from one to another.
func through(from, to int) []int {
	var l []int
	for n := from; n <= to; n++ {
		l = append(l, n)
	}
	return l
}

// notMembers are lists that may not be.
func notMembers() [][]int {
	return [][]int{
		nil, {}, {-1}, {64}, {bottom}, {top}, {-1, 0}, {63, 64}, {0, top}, {bottom, 0},
		{3, 3}, {0, 0}, {63, 63}, {5, 1}, {1, 0}, {63, 0}, {0, 1, 1}, {0, 2, 1}, {0, 0, 1}, {1, 2, 0}, {0, 5, 64}, {-1, 5, 6},
		through(-1, 63), through(0, 64), append(through(0, 63), 63), append(through(0, 63), 0),
	}
}

// areMembers are lists that may be.
func areMembers() [][]int {
	return [][]int{{0}, {63}, {7}, {0, 63}, {0, 1}, {62, 63}, {2, 5}, {1, 5, 9}, through(0, 63), through(1, 63), through(0, 62), through(10, 25), through(10, 26)}
}

// notScenes are scenes that may not be: one without anything, and by each rule one of objects that may be dealt nevertheless.
func notScenes() []api.Scene {
	turns := []func(s *api.Scene){
		func(s *api.Scene) { s.W = 0 },
		func(s *api.Scene) { s.H = 65 },
		func(s *api.Scene) { s.Camera[3][0] = 1<<24 + 1 },
		func(s *api.Scene) {
			for id := range 14 {
				s.Objects = append(s.Objects, object(20+id))
			}
		},
		func(s *api.Scene) { s.Objects[1].ID = 0 },
		func(s *api.Scene) { s.Objects[1].ID = -4 },
		func(s *api.Scene) { s.Objects[1].ID = 65536 },
		func(s *api.Scene) { s.Objects[1].ID = 7 },
		func(s *api.Scene) { s.Objects[2].M[1][2] = bottom },
		func(s *api.Scene) { s.Camera[0][0], s.Objects[2].M[0][0] = 1<<24, 1<<24 },
		func(s *api.Scene) { s.Objects[2].Verts[1][1] = 1<<30 + 1 },
		func(s *api.Scene) { s.Objects[2].Verts = make([][3]int64, 65) },
		func(s *api.Scene) { s.Objects[2].Tris[0].C = 3 },
		func(s *api.Scene) { s.Objects[2].Tris = make([]api.Tri, 65) },
	}
	l := []api.Scene{{}}
	for _, turn := range turns {
		s := sample(7, 4, 9)
		turn(&s)
		l = append(l, s)
	}
	return l
}

// rank is how many of a scene's objects have a lesser ID.
func rank(s api.Scene, id int) int {
	lesser := 0
	for _, o := range s.Objects {
		if o.ID < id {
			lesser++
		}
	}
	return lesser
}

// ownerWanted is whose an object that there is should be, by the chapter's words.
func ownerWanted(s api.Scene, members []int, id int) int {
	return members[rank(s, id)%len(members)]
}

// wanted are those IDs, rising, that are asked for.
func wanted(s api.Scene, asked func(id int) bool) []int {
	var ids []int
	for _, o := range s.Objects {
		if asked(o.ID) {
			ids = append(ids, o.ID)
		}
	}
	slices.Sort(ids)
	return ids
}

func ofWanted(s api.Scene, members []int, node int) []int {
	return wanted(s, func(id int) bool { return ownerWanted(s, members, id) == node })
}

func allWanted(s api.Scene, members []int) [][]int {
	var all [][]int
	for _, node := range members {
		all = append(all, ofWanted(s, members, node))
	}
	return all
}

func movedWanted(s api.Scene, from, to []int) []int {
	return wanted(s, func(id int) bool { return ownerWanted(s, from, id) != ownerWanted(s, to, id) })
}

// equal says whether lists of lists are the same, nil as empty.
func equal(a, b [][]int) bool {
	return slices.EqualFunc(a, b, slices.Equal)
}

func holdOwner(t *testing.T, s api.Scene, members []int, id, want int, wantErr api.Errno) {
	t.Helper()
	if got, e := Owner(s, members, id); got != want || e != wantErr {
		t.Errorf("Owner of %d among %v is %d %d, not %d %d", id, members, got, e, want, wantErr)
	}
}

func holdOf(t *testing.T, s api.Scene, members []int, node int, want []int, wantErr api.Errno) {
	t.Helper()
	if got, e := Of(s, members, node); !slices.Equal(got, want) || e != wantErr {
		t.Errorf("Of %d among %v are %v %d, not %v %d", node, members, got, e, want, wantErr)
	}
}

func holdAll(t *testing.T, s api.Scene, members []int, want [][]int, wantErr api.Errno) {
	t.Helper()
	if got, e := All(s, members); !equal(got, want) || e != wantErr {
		t.Errorf("All among %v are %v %d, not %v %d", members, got, e, want, wantErr)
	}
}

func holdMoved(t *testing.T, s api.Scene, from, to, want []int, wantErr api.Errno) {
	t.Helper()
	if got, e := Moved(s, from, to); !slices.Equal(got, want) || e != wantErr {
		t.Errorf("Moved from %v to %v are %v %d, not %v %d", from, to, got, e, want, wantErr)
	}
}

func holdMost(t *testing.T, s api.Scene, members []int, want int) {
	t.Helper()
	if got := Most(s, members); got != want {
		t.Errorf("Most among %v is %d, not %d", members, got, want)
	}
}

// holdDealt holds every call on a scene that may be, of some members, against the chapter's words.
func holdDealt(t *testing.T, s api.Scene, members []int) {
	t.Helper()
	most := 0
	for _, node := range members {
		want := ofWanted(s, members, node)
		most = max(most, len(want))
		holdOf(t, s, members, node, want, api.OK)
	}
	for _, o := range s.Objects {
		holdOwner(t, s, members, o.ID, ownerWanted(s, members, o.ID), api.OK)
	}
	holdAll(t, s, members, allWanted(s, members), api.OK)
	holdMost(t, s, members, most)
}

// P8.1, P8.2: the chapter's examples.
func TestExamples(t *testing.T) {
	s := sample(9, 4, 7)
	holdOf(t, s, []int{2, 5}, 2, []int{4, 9}, api.OK)
	holdOf(t, s, []int{2, 5}, 5, []int{7}, api.OK)
	holdOf(t, s, []int{2, 5}, 3, nil, api.ErrShare)
	holdOwner(t, s, []int{0, 1, 2}, 7, 1, api.OK)
	holdMoved(t, s, []int{2, 5}, []int{2}, []int{7}, api.OK)
	holdAll(t, s, []int{2, 5}, [][]int{{4, 9}, {7}}, api.OK)
	holdMost(t, s, []int{2, 5}, 2)
}

// P8.1: nodes' numbers, rising, each once, one at least.
func TestMembers(t *testing.T) {
	for _, l := range notMembers() {
		if Members(l) {
			t.Errorf("%v are members", l)
		}
	}
	for _, l := range areMembers() {
		if !Members(l) {
			t.Errorf("%v are no members", l)
		}
	}
	for n := -70; n <= 140; n++ {
		if Members([]int{n}) != (n >= 0 && n <= 63) {
			t.Errorf("%d alone", n)
		}
	}
}

// P8.1: all lists of three numbers about the bounds.
func TestMembersOfThree(t *testing.T) {
	numbers := []int{-2, -1, 0, 1, 2, 31, 32, 61, 62, 63, 64, 65}
	for _, a := range numbers {
		for _, b := range numbers {
			if want := 0 <= a && a < b && b <= 63; Members([]int{a, b}) != want {
				t.Errorf("%d %d", a, b)
			}
			for _, c := range numbers {
				if want := 0 <= a && a < b && b < c && c <= 63; Members([]int{a, b, c}) != want {
					t.Errorf("%d %d %d", a, b, c)
				}
			}
		}
	}
}

// holdRefused holds each call that takes a scene and members against ErrShare, with nothing beside it.
func holdRefused(t *testing.T, s api.Scene, members []int) {
	t.Helper()
	// Also of what would be there if nothing were asked of the scene or the members.
	for _, id := range []int{7, 4, 0, -4, 65536} {
		holdOwner(t, s, members, id, 0, api.ErrShare)
	}
	for _, node := range append([]int{0, 2, 5, 63}, members...) {
		holdOf(t, s, members, node, nil, api.ErrShare)
	}
	holdAll(t, s, members, nil, api.ErrShare)
	holdMost(t, s, members, 0)
}

// P8.1, P8.2: what are no members is refused, in each place where members stand, whatever else is right or wrong.
func TestNoMembers(t *testing.T) {
	good := []int{2, 5}
	for _, s := range []api.Scene{sample(7, 4, 9), sample(), {}} {
		for _, l := range notMembers() {
			holdRefused(t, s, l)
			holdMoved(t, s, l, good, nil, api.ErrShare)
			holdMoved(t, s, good, l, nil, api.ErrShare)
			holdMoved(t, s, l, l, nil, api.ErrShare)
		}
	}
}

// P8.1, P8.2: a scene that may not be is refused, by whichever rule.
func TestNoScene(t *testing.T) {
	broken := make([]int, 9)
	for _, s := range notScenes() {
		rule, _ := scene.Wrong(s)
		broken[rule]++
		for _, l := range areMembers() {
			holdRefused(t, s, l)
			holdMoved(t, s, l, []int{2, 5}, nil, api.ErrShare)
			holdMoved(t, s, []int{2, 5}, l, nil, api.ErrShare)
		}
	}
	if broken[0] > 0 || slices.Contains(broken[1:], 0) {
		t.Error("how often each rule is broken:", broken)
	}
}

// P8.1: an ID that no object has.
func TestNoObject(t *testing.T) {
	for _, l := range areMembers() {
		for _, id := range []int{0, 1, 3, 5, 8, 10, 65535, 65536, -7, bottom, top} {
			holdOwner(t, sample(9, 4, 7), l, id, 0, api.ErrShare)
			holdOwner(t, sample(), l, id, 0, api.ErrShare)
		}
	}
}

// P8.1: a node that is no member, of such as are, whether it is among the numbers or beyond them.
func TestNoMember(t *testing.T) {
	s := sample(9, 4, 7)
	for _, l := range areMembers() {
		for _, node := range append(through(-3, 67), bottom, top) {
			if !slices.Contains(l, node) {
				holdOf(t, s, l, node, nil, api.ErrShare)
				holdOf(t, sample(), l, node, nil, api.ErrShare)
			}
		}
	}
}

// P8.1, P8.2: as many objects as may be, at the bounds of IDs, and none, among each kind of members.
func TestEdges(t *testing.T) {
	full := sample(append(through(65528, 65535), through(1, 8)...)...)
	for _, l := range areMembers() {
		holdDealt(t, full, l)
		holdDealt(t, sample(65535), l)
		holdDealt(t, sample(1), l)
		holdDealt(t, sample(), l)
		holdAll(t, sample(), l, make([][]int, len(l)), api.OK)
		holdMost(t, sample(), l, 0)
	}
	holdOwner(t, full, through(0, 63), 65535, 15, api.OK)
	holdOwner(t, full, through(0, 14), 65535, 0, api.OK)
	holdOwner(t, full, through(0, 14), 65534, 14, api.OK)
	holdOf(t, full, []int{63}, 63, append(through(1, 8), through(65528, 65535)...), api.OK)
	holdOf(t, full, through(0, 63), 16, nil, api.OK)
	holdMost(t, full, []int{63}, 16)
	holdMost(t, full, []int{1, 2, 3}, 6)
	holdMost(t, full, through(0, 15), 1)
	holdMost(t, full, through(0, 14), 2)
	holdMost(t, full, through(0, 63), 1)
}

// P8.1, P8.2: by rising ID: not by first digits, nor by places in the scene.
func TestByRisingID(t *testing.T) {
	s := sample(100, 20, 3, 65535, 1000)
	holdAll(t, s, []int{4, 6}, [][]int{{3, 100, 65535}, {20, 1000}}, api.OK)
	holdAll(t, s, []int{0, 1, 62}, [][]int{{3, 1000}, {20, 65535}, {100}}, api.OK)
	holdAll(t, s, []int{8, 9, 10, 11, 12, 13, 14}, [][]int{{3}, {20}, {100}, {1000}, {65535}, nil, nil}, api.OK)
}

// P8.2: objects whose owner is another node; at another place the same node is no other one.
func TestMoved(t *testing.T) {
	s := sample(50, 10, 40, 20, 30)
	cases := []struct{ from, to, want []int }{
		{[]int{1, 5, 9}, []int{1, 9}, []int{20, 30, 40, 50}},
		{[]int{1, 9}, []int{1, 5, 9}, []int{20, 30, 40, 50}},
		{[]int{1, 5, 9}, []int{1, 5, 9}, nil},
		{[]int{0}, []int{0}, nil},
		{[]int{0}, []int{1}, []int{10, 20, 30, 40, 50}},
		{[]int{0}, []int{0, 1}, []int{20, 40}},
		{[]int{0, 1}, []int{1}, []int{10, 30, 50}},
		{[]int{1}, []int{0, 1}, []int{10, 30, 50}},
		{[]int{0, 1}, []int{2, 3}, []int{10, 20, 30, 40, 50}},
		{[]int{0, 2}, []int{0, 3}, []int{20, 40}},
		{[]int{0, 1, 2}, []int{0, 1, 2, 3}, []int{40, 50}},
		{[]int{0, 1, 2, 3}, []int{1, 2, 3}, []int{10, 20, 30, 40, 50}},
		{[]int{0, 1, 2, 3}, []int{0, 1, 3}, []int{30, 40, 50}},
		{through(0, 4), through(0, 63), nil},
		{through(0, 4), through(1, 63), []int{10, 20, 30, 40, 50}},
	}
	for _, c := range cases {
		holdMoved(t, s, c.from, c.to, c.want, api.OK)
		holdMoved(t, sample(), c.from, c.to, nil, api.OK)
	}
	for _, from := range areMembers() {
		for _, to := range areMembers() {
			holdMoved(t, s, from, to, movedWanted(s, from, to), api.OK)
		}
	}
}

// someIDs are IDs by chance, in any order.
func someIDs(r *rand.Rand) []int {
	width := []int{16, 20, 300, 65535}[r.Intn(4)]
	var ids []int
	for _, n := range r.Perm(width)[:r.Intn(17)] {
		ids = append(ids, n+1)
	}
	return ids
}

// someMembers are as many as there may be, or few.
func someMembers(r *rand.Rand) []int {
	l := r.Perm(64)[:1+r.Intn(1+r.Intn(64))]
	slices.Sort(l)
	return l
}

// P8.1, P8.2, P8.4: scenes and members by chance against the chapter's words.
func TestSome(t *testing.T) {
	r := rand.New(rand.NewSource(8))
	for range 1000 {
		s, from, to := sample(someIDs(r)...), someMembers(r), someMembers(r)
		all, e := All(s, from)
		if e != api.OK {
			t.Fatal(e)
		}
		for k, ids := range all {
			for _, id := range ids {
				if ownerWanted(s, from, id) != from[k] {
					t.Errorf("%d is %d's", id, from[k])
				}
				holdOwner(t, s, from, id, from[k], api.OK)
			}
			holdOf(t, s, from, from[k], ids, api.OK)
		}
		holdMoved(t, s, from, to, movedWanted(s, from, to), api.OK)
		holdFollows(t, s, from, all)
	}
}

// holdFollows holds all members' shares against P8.4.
func holdFollows(t *testing.T, s api.Scene, members []int, all [][]int) {
	t.Helper()
	var together []int
	least, most := len(s.Objects), 0
	for _, ids := range all {
		if !slices.IsSorted(ids) {
			t.Errorf("%v do not rise", ids)
		}
		together = append(together, ids...)
		least, most = min(least, len(ids)), max(most, len(ids))
	}
	slices.Sort(together)
	if len(all) != len(members) || !slices.Equal(together, scene.IDs(s)) {
		t.Errorf("among %v: %v", members, all)
	}
	if most-least > 1 {
		t.Errorf("among %v: from %d to %d", members, least, most)
	}
	holdMost(t, s, members, most)
}

// P8.4: in which order objects stand makes no difference to any answer.
func TestOrder(t *testing.T) {
	r := rand.New(rand.NewSource(84))
	for range 200 {
		s, from, to := sample(someIDs(r)...), someMembers(r), someMembers(r)
		all, _ := All(s, from)
		moved, _ := Moved(s, from, to)
		most := Most(s, from)
		turned := scene.Copy(s)
		r.Shuffle(len(turned.Objects), func(a, b int) {
			turned.Objects[a], turned.Objects[b] = turned.Objects[b], turned.Objects[a]
		})
		holdAll(t, turned, from, all, api.OK)
		holdMoved(t, turned, from, to, moved, api.OK)
		holdMost(t, turned, from, most)
		for k, node := range from {
			holdOf(t, turned, from, node, all[k], api.OK)
		}
		for _, o := range s.Objects {
			want, _ := Owner(s, from, o.ID)
			holdOwner(t, turned, from, o.ID, want, api.OK)
		}
	}
}

// roomy is a list with room behind its end, filled with numbers that nobody may turn.
func roomy(l ...int) []int {
	room := append(append([]int{}, l...), -9, -9, -9)
	return room[:len(l)]
}

// P8.3: nothing that is handed in is turned, neither what stands in it nor what stands behind its end.
func TestOnlyRead(t *testing.T) {
	s := sample(9, 4, 7, 1, 65535)
	s.Objects = s.Objects[:3]
	from, to := roomy(2, 5, 8), roomy(5, 60)
	before := scene.Copy(s)
	Members(from)
	Owner(s, from, 7)
	Of(s, from, 5)
	All(s, from)
	Moved(s, from, to)
	Most(s, from)
	for _, l := range notMembers() {
		twin := slices.Clone(l)
		Members(l)
		Owner(s, l, 7)
		Of(s, l, 7)
		All(s, l)
		Moved(s, l, l)
		Most(s, l)
		if !slices.Equal(l, twin) {
			t.Error("turned:", l, twin)
		}
	}
	if !reflect.DeepEqual(s, before) || s.Objects[:5][3].ID != 1 || s.Objects[:5][4].ID != 65535 {
		t.Error("the scene is turned")
	}
	if !slices.Equal(from[:6], []int{2, 5, 8, -9, -9, -9}) || !slices.Equal(to[:5], []int{5, 60, -9, -9, -9}) {
		t.Error("members are turned")
	}
}

// fill writes over a list, and over the room behind its end.
func fill(l []int) {
	for k := range l[:cap(l)] {
		l[:cap(l)][k] = -5
	}
}

// P8.3: what is answered is new memory: whoever writes on it turns nothing that was handed in, and no other answer.
func TestNewMemory(t *testing.T) {
	s, members, to := sample(9, 4, 7, 11, 2), []int{2, 5}, []int{5}
	for range 2 {
		all, _ := All(s, members)
		for k := range all {
			fill(all[k])
			for other := k + 1; other < len(all); other++ {
				if !slices.Equal(all[other], ofWanted(s, members, members[other])) {
					t.Fatal("lists of one answer share memory")
				}
			}
		}
		for _, node := range members {
			ids, _ := Of(s, members, node)
			fill(ids)
		}
		moved, _ := Moved(s, members, to)
		fill(moved)
		if !reflect.DeepEqual(s, sample(9, 4, 7, 11, 2)) || !slices.Equal(members, []int{2, 5}) || !slices.Equal(to, []int{5}) {
			t.Fatal("an answer shares memory with what was handed in")
		}
	}
	holdDealt(t, s, members)
	holdMoved(t, s, members, to, movedWanted(s, members, to), api.OK)
}

// P8.3: what was handed in is not kept: turned behind the call, it turns no answer that was given.
func TestNotKept(t *testing.T) {
	s, members, to := sample(9, 4, 7), []int{2, 5}, []int{5}
	all, _ := All(s, members)
	ids, _ := Of(s, members, 2)
	moved, _ := Moved(s, members, to)
	fill(members)
	fill(to)
	for k := range s.Objects {
		s.Objects[k].ID = 60 + k
	}
	if !equal(all, [][]int{{4, 9}, {7}}) || !slices.Equal(ids, []int{4, 9}) || !slices.Equal(moved, []int{4, 9}) {
		t.Error(all, ids, moved)
	}
	holdDealt(t, s, []int{1, 3})
}
