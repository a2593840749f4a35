package resolve

import (
	"slices"

	"wharf/api"
)

// cached is what is cached for a name: the name that it is another one for, or its addresses.
type cached struct {
	of      string // in small letters
	alias   bool
	other   string
	addrs   []api.Addr
	expires int
}

// cache is what is cached, by the names in small letters and by age.
type cache struct {
	byName map[string]*cached
	age    []*cached // the one that was cached first is the first one
}

// lower is a name in small letters; as in chapter 21, only A to Z have any.
func lower(s string) string {
	b := []byte(s)
	for i, c := range b {
		if c >= 'A' && c <= 'Z' {
			b[i] = c + 'a' - 'A'
		}
	}
	return string(b)
}

// valid is what is cached for a name and has not expired; nil: nothing.
func (c *cache) valid(name string, now int) *cached {
	one := c.byName[lower(name)]
	if one == nil || one.expires <= now {
		return nil
	}
	return one
}

// put caches something in the place of what was cached for its name.
func (c *cache) put(one cached) {
	if c.byName == nil {
		c.byName = map[string]*cached{}
	}
	if before := c.byName[one.of]; before != nil {
		c.remove(before)
	}
	if len(c.age) >= api.MaxCached {
		first := c.age[0]
		for _, other := range c.age {
			if other.expires < first.expires {
				first = other
			}
		}
		c.remove(first)
	}
	c.byName[one.of] = &one
	c.age = append(c.age, &one)
}

// remove takes something out of the cache.
func (c *cache) remove(one *cached) {
	delete(c.byName, one.of)
	c.age = slices.DeleteFunc(c.age, func(other *cached) bool { return other == one })
}

// expire removes what has expired by now.
func (c *cache) expire(now int) {
	for _, one := range slices.Clone(c.age) {
		if one.expires <= now {
			c.remove(one)
		}
	}
}

// count is how many names are cached.
func (c *cache) count() int { return len(c.age) }
