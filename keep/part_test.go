package keep

import (
	"reflect"
	"sync"
	"testing"

	"siblings/api"
)

func wantVisible(t *testing.T, p *Part, key string, want int) {
	t.Helper()
	if got := p.Visible(key); got != (Told{Write: want}) {
		t.Errorf("Visible(%q) = %v, want %d alone", key, got, want)
	}
}

func wantValue(t *testing.T, p *Part, write int, key, want string, wantKept bool) {
	t.Helper()
	wantWrite := 0
	if wantKept {
		wantWrite = write
	}
	wantGreatest(t, p, key, []int{write}, wantWrite, want)
}

func wantGreatest(t *testing.T, p *Part, key string, writes []int, want int, wantValue string) {
	t.Helper()
	if got, value := p.Greatest(key, writes); got != want || value != wantValue {
		t.Errorf("Greatest(%q, %v) = %d, %q, want %d, %q", key, writes, got, value, want, wantValue)
	}
}

func wantTold(t *testing.T, p *Part, key string, want Told) {
	t.Helper()
	if got := p.Tell(key); !reflect.DeepEqual(got, want) {
		t.Errorf("Tell(%q) = %v, want %v", key, got, want)
	}
}

func TestEmptyPart(t *testing.T) {
	p := NewPart()
	wantVisible(t, p, "a", 0)
	wantValue(t, p, 1, "a", "", false)
	wantTold(t, p, "a", Told{})
	wantGreatest(t, p, "a", nil, 0, "")
	wantGreatest(t, p, "a", []int{0, 1, -1}, 0, "")
	p.Drop(1)
	p.Commit(1)
	wantVisible(t, p, "a", 0)
}

func TestPreparedIsKeptAndNotVisible(t *testing.T) {
	p := NewPart()
	p.Prepare(1, []api.Item{{Key: "a", Value: "x"}, {Key: "b"}}, nil)
	wantVisible(t, p, "a", 0)
	wantValue(t, p, 1, "a", "x", true)
	wantValue(t, p, 1, "b", "", true)
	wantValue(t, p, 1, "c", "", false)
	wantValue(t, p, 2, "a", "", false)
}

func TestCommittedIsVisible(t *testing.T) {
	p := NewPart()
	p.Prepare(1, []api.Item{{Key: "a", Value: "x"}, {Key: "b", Value: "y"}}, nil)
	p.Prepare(2, []api.Item{{Key: "a", Value: "z"}}, nil)
	p.Commit(1)
	wantVisible(t, p, "a", 1)
	wantVisible(t, p, "b", 1)
	p.Commit(2)
	wantVisible(t, p, "a", 2)
	wantVisible(t, p, "b", 1)
	wantValue(t, p, 1, "a", "x", true)
	wantValue(t, p, 2, "a", "z", true)
}

func TestGreatestStaysVisible(t *testing.T) {
	p := NewPart()
	p.Prepare(1, []api.Item{{Key: "a"}, {Key: "b"}}, nil)
	p.Prepare(2, []api.Item{{Key: "a"}}, nil)
	p.Commit(2)
	p.Commit(1)
	wantVisible(t, p, "a", 2)
	wantVisible(t, p, "b", 1)
}

func TestDroppedIsGone(t *testing.T) {
	p := NewPart()
	p.Prepare(1, []api.Item{{Key: "a", Value: "x"}}, nil)
	p.Prepare(2, []api.Item{{Key: "a", Value: "y"}}, nil)
	p.Drop(1)
	wantValue(t, p, 1, "a", "", false)
	wantValue(t, p, 2, "a", "y", true)
	if len(p.kept) != 1 {
		t.Errorf("%d writes are kept, want 1", len(p.kept))
	}
}

func TestTellCarriesAlong(t *testing.T) {
	p := NewPart()
	one, three := Keys{"a", "b", "z"}, MaskOf([]string{"a"})
	p.Prepare(1, []api.Item{{Key: "a", Value: "x"}, {Key: "b"}}, one)
	p.Prepare(2, []api.Item{{Key: "a", Value: "y"}}, nil)
	p.Prepare(3, []api.Item{{Key: "a", Value: "z"}}, three)
	wantTold(t, p, "a", Told{})
	p.Commit(1)
	wantTold(t, p, "a", Told{Write: 1, HasValue: true, Value: "x", Siblings: one})
	wantTold(t, p, "b", Told{Write: 1, HasValue: true, Siblings: one})
	wantTold(t, p, "z", Told{}) // of another part
	p.Commit(2)
	wantTold(t, p, "a", Told{Write: 2, HasValue: true, Value: "y"})
	p.Commit(3)
	wantTold(t, p, "a", Told{Write: 3, HasValue: true, Value: "z", Siblings: three})
	wantTold(t, p, "b", Told{Write: 1, HasValue: true, Siblings: one})
}

func TestGreatestOfSome(t *testing.T) {
	p := NewPart()
	p.Prepare(1, []api.Item{{Key: "a", Value: "one"}}, nil)
	p.Prepare(2, []api.Item{{Key: "b", Value: "two"}, {Key: "a", Value: "2"}}, nil)
	p.Prepare(3, []api.Item{{Key: "a", Value: "three"}}, nil)
	p.Prepare(4, []api.Item{{Key: "b", Value: "four"}}, nil)
	p.Commit(3)
	p.Drop(4)
	wantGreatest(t, p, "a", nil, 0, "")
	wantGreatest(t, p, "a", []int{1, 2}, 2, "2") // what is visible is greater, and was not asked for
	wantGreatest(t, p, "a", []int{2, 1}, 2, "2")
	wantGreatest(t, p, "a", []int{1, 4, 0}, 1, "one")
	wantGreatest(t, p, "a", []int{1, 3, 2}, 3, "three")
	wantGreatest(t, p, "b", []int{1, 2, 3, 4, 5}, 2, "two")
	wantGreatest(t, p, "c", []int{1, 2, 3, 4, 5}, 0, "")
}

func TestManyAtOnce(t *testing.T) {
	p := NewPart()
	var all sync.WaitGroup
	for n := 1; n <= api.MaxWrites; n++ {
		all.Go(func() {
			p.Prepare(n, []api.Item{{Key: "a", Value: "x"}}, nil)
			if n%2 == 1 {
				p.Drop(n)
				return
			}
			p.Commit(n)
			if seen := p.Visible("a").Write; seen < n {
				t.Errorf("Visible = %d just after the commit of %d", seen, n)
			}
			wantValue(t, p, n, "a", "x", true)
		})
	}
	all.Wait()
	wantVisible(t, p, "a", api.MaxWrites)
	if len(p.kept) != api.MaxWrites/2 {
		t.Errorf("%d writes are kept, want %d", len(p.kept), api.MaxWrites/2)
	}
}
