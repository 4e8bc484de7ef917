package disk

// act: may the act be done that has come to that point? If not, the power has failed.
func (d *Disk) act() bool {
	if d.alarm == 0 {
		d.Off()
		return false
	}
	if d.alarm != noAlarm {
		d.alarm--
	}
	return true
}

// Arm says behind how many further writes and syncs the power fails; below 0: never.
func (d *Disk) Arm(acts int) {
	if d.power {
		d.alarm = max(acts, noAlarm)
	}
}

// Off takes the power away.
func (d *Disk) Off() {
	d.power = false
	d.alarm = noAlarm
}

// On gives it back; of the writes that were not synced those last that keep says.
func (d *Disk) On(keep []bool) {
	if d.power {
		return
	}
	for i, w := range d.unsynced {
		if i < len(keep) && keep[i] {
			d.settle(w.at, w.bytes)
		}
	}
	d.forget()
	d.power = true
}

// IsOn tells whether it is there.
func (d *Disk) IsOn() bool { return d.power }
