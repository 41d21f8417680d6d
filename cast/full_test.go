package cast

import (
	"testing"

	"minster/api"
	"minster/event"
)

// No run comes to so many events: so the vector is set here, from within.
func TestPublishUpToTheGreatestCount(t *testing.T) {
	c, _ := New(2, 2)
	c.vector = api.Vector{3, api.MaxCount - 1}
	e, code := c.Publish("t", nil, nil)
	if code != api.OK || e.ID != (api.Dot{Region: 2, Count: api.MaxCount}) || e.Past != (api.Vector{3, api.MaxCount - 1}) || !event.May(e) {
		t.Fatal(e, code)
	}
	for range 2 {
		if e, code := c.Publish("t", nil, nil); code != api.ErrFull || !event.Same(e, api.Event{}) {
			t.Error(e, code)
		}
		if e, code := c.Publish("", nil, nil); code != api.ErrArg || !event.Same(e, api.Event{}) {
			t.Error(e, code)
		}
		if c.Len() != 1 || c.Vector() != (api.Vector{3, api.MaxCount}) {
			t.Error(c.Len(), c.Vector())
		}
	}
	if l, code := c.Offer(api.Event{ID: api.Dot{Region: 1, Count: 4}, Topic: "t", Past: api.Vector{3, api.MaxCount}}); len(l) != 1 || code != api.OK {
		t.Error(l, code)
	}
}
