package conn

// Tick lets one tick go by.
func (c *Conn) Tick() {
	if c.State() == Gone {
		return
	}
	if c.measure.runs {
		c.measure.age++
	}
	if c.state == Linger {
		c.linger--
		if c.linger == 0 {
			c.state = Gone
			return
		}
	}
	if c.left == 0 {
		return
	}
	c.left--
	if c.left == 0 {
		c.ranOut()
	}
}

// ranOut does what is to be done when the timer ran out.
func (c *Conn) ranOut() {
	switch {
	case c.state == SynIn:
		c.againSyn()
	case c.nxt == c.una && c.top == c.una:
		c.waitLonger()
		c.sendProbe()
	default:
		c.again()
	}
}

// againSyn sends the first segment again, or gives up.
func (c *Conn) againSyn() {
	c.tries++
	if c.tries > c.maxTries {
		c.giveUp()
		return
	}
	c.measure = measure{}
	c.waitLonger()
	c.sendSyn()
}

// again sends again what was not acknowledged, from its beginning on, as much as one segment holds, or gives up. While the other end says that it has no room it is there, so it is not given up, and asked with one byte.
func (c *Conn) again() {
	if c.window != 0 {
		c.tries++
	}
	if c.tries > c.maxTries {
		c.sendRst()
		c.giveUp()
		return
	}
	c.measure = measure{}
	c.waitLonger()
	c.nxt = c.una
	n := c.window
	if n == 0 {
		n = 1
	}
	if !c.sendData(n) {
		c.sendFin()
	}
}

func (c *Conn) waitLonger() {
	c.clock.Back()
	c.left = c.clock.Wait()
}

func (c *Conn) giveUp() {
	c.state = Gone
	c.reset = true
}
