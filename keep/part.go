// Package keep: what one part keeps of the writes, behind a mutex of its own.
package keep

import (
	"sync"

	"siblings/api"
)

// Part is one part of a store. Parts share nothing, so none waits for another.
type Part struct {
	mu      sync.Mutex
	kept    map[int]share  // by write: those that are prepared or committed here
	visible map[string]int // by key: its visible write
}

// share is what a part keeps of one write.
type share struct {
	items    []api.Item // what it writes here
	siblings Siblings   // what it writes here and elsewhere, as far as first questions tell it
}

// NewPart makes an empty part.
func NewPart() *Part {
	return &Part{kept: map[int]share{}, visible: map[string]int{}}
}

// Prepare keeps what a write writes here. The list becomes the part's own.
func (p *Part) Prepare(write int, items []api.Item, siblings Siblings) {
	p.mu.Lock()
	defer p.mu.Unlock()
	p.kept[write] = share{items: items, siblings: siblings}
}

// Commit makes what a write has prepared here visible.
func (p *Part) Commit(write int) {
	p.mu.Lock()
	defer p.mu.Unlock()
	for _, item := range p.kept[write].items {
		// A greater write may have been committed ahead of this one, and stays visible.
		p.visible[item.Key] = max(p.visible[item.Key], write)
	}
}

// Drop forgets what a write has prepared here.
func (p *Part) Drop(write int) {
	p.mu.Lock()
	defer p.mu.Unlock()
	delete(p.kept, write)
}

// Visible is the short first question: the number of a key's visible write, and nothing beside it.
func (p *Part) Visible(key string) Told {
	p.mu.Lock()
	defer p.mu.Unlock()
	return Told{Write: p.visible[key]}
}

// Tell is the long first question: a key's visible write with all that is carried along.
func (p *Part) Tell(key string) Told {
	p.mu.Lock()
	defer p.mu.Unlock()
	write := p.visible[key]
	value, ok := p.value(write, key)
	return Told{Write: write, HasValue: ok, Value: value, Siblings: p.kept[write].siblings}
}

// Greatest is the second question: of some writes the greatest that writes a key here (0: none does), and what it writes. What is only prepared is told, too: whoever asks knows the write from a sibling that is visible.
func (p *Part) Greatest(key string, writes []int) (int, string) {
	p.mu.Lock()
	defer p.mu.Unlock()
	greatest := 0
	for _, write := range writes {
		if _, ok := p.value(write, key); ok {
			greatest = max(greatest, write)
		}
	}
	value, _ := p.value(greatest, key)
	return greatest, value
}

// value finds what a write writes to a key here; the caller holds the mutex.
func (p *Part) value(write int, key string) (string, bool) {
	for _, item := range p.kept[write].items {
		if item.Key == key {
			return item.Value, true
		}
	}
	return "", false
}
