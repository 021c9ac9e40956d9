package keep

import (
	"sync"
	"testing"

	"siblings/api"
)

func wantVisible(t *testing.T, p *Part, key string, want int) {
	t.Helper()
	if got := p.Visible(key); got != want {
		t.Errorf("Visible(%q) = %d, want %d", key, got, want)
	}
}

func wantValue(t *testing.T, p *Part, write int, key, want string, wantKept bool) {
	t.Helper()
	if got, kept := p.Value(write, key); got != want || kept != wantKept {
		t.Errorf("Value(%d, %q) = %q, %v, want %q, %v", write, key, got, kept, want, wantKept)
	}
}

func TestEmptyPart(t *testing.T) {
	p := NewPart()
	wantVisible(t, p, "a", 0)
	wantValue(t, p, 1, "a", "", false)
	p.Drop(1)
	p.Commit(1)
	wantVisible(t, p, "a", 0)
}

func TestPreparedIsKeptAndNotVisible(t *testing.T) {
	p := NewPart()
	p.Prepare(1, []api.Item{{Key: "a", Value: "x"}, {Key: "b"}})
	wantVisible(t, p, "a", 0)
	wantValue(t, p, 1, "a", "x", true)
	wantValue(t, p, 1, "b", "", true)
	wantValue(t, p, 1, "c", "", false)
	wantValue(t, p, 2, "a", "", false)
}

func TestCommittedIsVisible(t *testing.T) {
	p := NewPart()
	p.Prepare(1, []api.Item{{Key: "a", Value: "x"}, {Key: "b", Value: "y"}})
	p.Prepare(2, []api.Item{{Key: "a", Value: "z"}})
	p.Commit(1)
	wantVisible(t, p, "a", 1)
	wantVisible(t, p, "b", 1)
	p.Commit(2)
	wantVisible(t, p, "a", 2)
	wantVisible(t, p, "b", 1)
	wantValue(t, p, 1, "a", "x", true)
	wantValue(t, p, 2, "a", "z", true)
}

func TestGreatestStaysVisible(t *testing.T) {
	p := NewPart()
	p.Prepare(1, []api.Item{{Key: "a"}, {Key: "b"}})
	p.Prepare(2, []api.Item{{Key: "a"}})
	p.Commit(2)
	p.Commit(1)
	wantVisible(t, p, "a", 2)
	wantVisible(t, p, "b", 1)
}

func TestDroppedIsGone(t *testing.T) {
	p := NewPart()
	p.Prepare(1, []api.Item{{Key: "a", Value: "x"}})
	p.Prepare(2, []api.Item{{Key: "a", Value: "y"}})
	p.Drop(1)
	wantValue(t, p, 1, "a", "", false)
	wantValue(t, p, 2, "a", "y", true)
	if len(p.kept) != 1 {
		t.Errorf("%d writes are kept, want 1", len(p.kept))
	}
}

func TestManyAtOnce(t *testing.T) {
	p := NewPart()
	var all sync.WaitGroup
	for n := 1; n <= api.MaxWrites; n++ {
		all.Go(func() {
			p.Prepare(n, []api.Item{{Key: "a", Value: "x"}})
			if n%2 == 1 {
				p.Drop(n)
				return
			}
			p.Commit(n)
			if seen := p.Visible("a"); seen < n {
				t.Errorf("Visible = %d just after the commit of %d", seen, n)
			}
			wantValue(t, p, n, "a", "x", true)
		})
	}
	all.Wait()
	wantVisible(t, p, "a", api.MaxWrites)
	if len(p.kept) != api.MaxWrites/2 {
		t.Errorf("%d writes are kept, want %d", len(p.kept), api.MaxWrites/2)
	}
}
