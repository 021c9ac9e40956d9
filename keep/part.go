// Package keep: what one part keeps of the writes, behind a mutex of its own.
package keep

import (
	"sync"

	"siblings/api"
)

// Part is one part of a store. Parts share nothing, so none waits for another.
type Part struct {
	mu      sync.Mutex
	kept    map[int][]api.Item // by write: what it writes here, prepared or committed
	visible map[string]int     // by key: its visible write
}

// NewPart makes an empty part.
func NewPart() *Part {
	return &Part{kept: map[int][]api.Item{}, visible: map[string]int{}}
}

// Prepare keeps what a write writes here. The list becomes the part's own.
func (p *Part) Prepare(write int, items []api.Item) {
	p.mu.Lock()
	defer p.mu.Unlock()
	p.kept[write] = items
}

// Commit makes what a write has prepared here visible.
func (p *Part) Commit(write int) {
	p.mu.Lock()
	defer p.mu.Unlock()
	for _, item := range p.kept[write] {
		// A greater write may have been committed ahead of this one, and stays visible.
		p.visible[item.Key] = max(p.visible[item.Key], write)
	}
}

// Drop forgets what a write has prepared here.
func (p *Part) Drop(write int) {
	p.mu.Lock()
	defer p.mu.Unlock()
	delete(p.kept, write)
}

// Visible is the first question: the number of a key's visible write (0: there is none).
func (p *Part) Visible(key string) int {
	p.mu.Lock()
	defer p.mu.Unlock()
	return p.visible[key]
}

// Value is the second question: what a write writes to a key here. What is only prepared is told, too: whoever asks knows the write from a sibling that is visible.
func (p *Part) Value(write int, key string) (string, bool) {
	p.mu.Lock()
	defer p.mu.Unlock()
	for _, item := range p.kept[write] {
		if item.Key == key {
			return item.Value, true
		}
	}
	return "", false
}
