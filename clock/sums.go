package clock

// round tells how many values a counter has; of the greatest of all they are more than 32 bits tell.
func round(greatest uint32) uint64 { return uint64(greatest) + 1 }

// Next tells a counter's value behind one tick (P16.1).
func Next(greatest, now uint32) uint32 { return After(greatest, now, 1) }

// After tells its value behind so many ticks (P16.1).
func After(greatest, now uint32, ticks uint64) uint32 {
	now = min(now, greatest)
	// Whole rounds are left out ahead of adding: the sum of all ticks might wrap.
	return uint32((uint64(now) + ticks%round(greatest)) % round(greatest))
}

// Until tells how many ticks there are until it has a value, one at least (P16.1).
func Until(greatest, now, value uint32) uint64 {
	now, value = min(now, greatest), min(value, greatest)
	if value > now {
		return uint64(value - now)
	}
	return round(greatest) - uint64(now-value)
}
