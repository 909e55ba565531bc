package cell

// sleep is a free Park.
func (c *Cell) sleep(v int64) int64 {
	c.sleepers.Add(1) // ahead of looking at the value: a change that the look does not see finds somebody counted
	defer c.sleepers.Add(-1)
	for {
		changed := c.change()
		if now := c.value.Load(); now != v {
			return now
		}
		<-changed
	}
}

// change: a channel that is closed behind the next change. It is taken ahead of looking at the value, so that no change is slept through.
func (c *Cell) change() <-chan struct{} {
	c.lock.Lock()
	defer c.lock.Unlock()
	if c.changed == nil {
		c.changed = make(chan struct{})
	}
	return c.changed
}

// tell wakes all who sleep, when the value was changed from was to now.
func (c *Cell) tell(was, now int64) {
	if was == now || c.sleepers.Load() == 0 {
		return
	}
	c.lock.Lock()
	defer c.lock.Unlock()
	if c.changed != nil {
		close(c.changed)
		c.changed = nil
	}
}
