package whole

import (
	"slices"
	"testing"

	"casket/api"
	"casket/audit"
	"casket/disk"
	"casket/sample"
	"casket/seal"
	"casket/wrap"
)

var master = [32]byte(bytesOf(1, 32))

// slotNeedles are what a slot's block has of a passphrase.
func slotNeedles(t *testing.T, h api.Head, at int) [][]byte {
	t.Helper()
	x, e := wrap.Wrap(h, master, []byte(passwords[at]), saltOf(at))
	if e != api.OK {
		t.Fatal("Wrap", e)
	}
	return [][]byte{x.Salt[:], x.Wrapped[:16], x.Wrapped[16:], x.Tag[:16], x.Tag[16:]}
}

// ringOf are the keys of an epoch, as volumes here have them.
func ringOf(epoch int) api.EpochKeys {
	k := keysOf(epoch)
	return api.EpochKeys{Epoch: epoch, Data: [32]byte(k[:32]), Tag: [32]byte(k[32:])}
}

// keyNeedles are what the block of keys has of an epoch.
func keyNeedles(t *testing.T, h api.Head, epoch int) [][]byte {
	t.Helper()
	x, e := wrap.Keys(h, master, []api.EpochKeys{ringOf(epoch)})
	if e != api.OK {
		t.Fatal("Keys", e)
	}
	w := x.Epochs[0].Wrapped
	return [][]byte{w[:16], w[16:32], w[32:48], w[48:]}
}

// sealNeedles are what blocks have of a sector that was sealed.
func sealNeedles(t *testing.T, epoch, n int, b []byte) [][]byte {
	t.Helper()
	sealed, record, e := seal.Seal(ringOf(epoch), n, b)
	if e != api.OK {
		t.Fatal("Seal", e)
	}
	return [][]byte{sealed[:16], sealed[240:256], sealed[496:], record[4:36]}
}

// found is how many needles stand in some block.
func found(d *disk.Disk, needles [][]byte) int {
	count := 0
	for _, x := range needles {
		if len(audit.Find(d, x)) > 0 {
			count++
		}
	}
	return count
}

// P3: behind a revoke nothing of the slot is left in any block, whatever was done ahead of it, crashes among that.
func TestNothingIsLeftOfARevokedSlot(t *testing.T) {
	revoked := 0
	for run := range 12 {
		source := sample.Source(300 + run)
		segment := 1 + source.Below(4)
		head := headOf(4+source.Below(9), 4, segment, 16+segment+20*source.Below(5))
		h := newHistory(t, head)
		for range 40 {
			for range source.Below(6) {
				h.anyCall(&source)
			}
			if source.Below(3) == 0 {
				h.d.Stop(source.Below(40))
				h.anyCall(&source)
				h.crash(h.oneOf(&source))
			}
			for h.info().Left > 0 {
				h.rekey()
			}
			at := source.Below(4)
			if !h.info().Slots[at] {
				h.slotAdd(at)
			}
			needles := slotNeedles(t, head, at)
			if found(h.d, needles) != len(needles) {
				t.Fatalf("slot %d is not there", at)
			}
			others := 0
			for n, taken := range h.info().Slots {
				if taken && n != at {
					others++
				}
			}
			if others == 0 {
				continue
			}
			h.slotRevoke(at)
			revoked++
			if found(h.d, needles) != 0 || len(h.d.Unsure()) != 0 {
				t.Fatalf("slot %d is left, or unsure", at)
			}
			h.crash(nil)
		}
	}
	if revoked < 200 {
		t.Errorf("%d slots were revoked", revoked)
	}
}

// P4: behind a rekey's end nothing that the elder keys made is left in any block; ahead of it it was there.
func TestNothingIsLeftOfOldKeys(t *testing.T) {
	for run := range 8 {
		source := sample.Source(400 + run)
		segment := 1 + source.Below(6)
		head := headOf(4+source.Below(20), 2, segment, 16+segment+30*source.Below(4))
		h := newHistory(t, head)
		seals := map[int][][]byte{}
		write := func() {
			n, b := source.Below(head.Sectors), source.Bytes(512)
			h.write(n, b)
			for epoch := range 3 { // under which of them it lies, is not asked
				seals[epoch+1] = append(seals[epoch+1], sealNeedles(t, epoch+1, n, b)...)
			}
		}
		for epoch := 1; epoch <= 2; epoch++ {
			for range 6 {
				write()
			}
			h.flush()
			if found(h.d, seals[epoch]) == 0 || found(h.d, keyNeedles(t, head, epoch)) != 4 {
				t.Fatalf("nothing is there under the keys %d", epoch)
			}
			h.rekey()
			for h.info().Left > 0 {
				h.rekey()
				if h.info().Left > 0 && source.Below(3) == 0 {
					h.d.Stop(source.Below(12))
					write()
					h.rekey()
					h.crash(h.oneOf(&source))
				}
			}
			h.flush() // behind the step of a crash, too, all is clean: each rekey here ends in a step that was OK
			for elder := 1; elder <= epoch; elder++ {
				if found(h.d, seals[elder]) != 0 || found(h.d, keyNeedles(t, head, elder)) != 0 {
					t.Fatalf("something is left of the keys %d behind the rekey %d", elder, epoch)
				}
			}
			if found(h.d, seals[epoch+1]) == 0 || found(h.d, keyNeedles(t, head, epoch+1)) != 4 {
				t.Fatalf("nothing is there under the keys %d", epoch+1)
			}
		}
	}
}

// P4: two volumes that had other keys at first, with the same calls and the same crashes, are the same disk behind a rekey's end, and were not ahead of it.
func TestOldKeysMakeNoDifference(t *testing.T) {
	for run := range 20 {
		head := headOf(4+run, 2, 1+run%5, 24+run)
		disks := []*disk.Disk{formatted(t, head, 1), formatted(t, head, 50)}
		play := func(d *disk.Disk) (ahead *disk.Disk) {
			source := sample.Source(450 + run)
			v := opened(t, d, "one")
			for range 9 {
				v.Write(source.Below(head.Sectors), source.Bytes(512))
			}
			v.RekeyStart(keysOf(2))
			v.Flush()
			for range 1000 {
				ahead = d.Fork()
				if source.Below(3) > 0 {
					d.Stop(source.Below(60))
				}
				v.Write(source.Below(head.Sectors), source.Bytes(512))
				_, e := v.RekeyStep()
				keeps := slices.Collect(source.Keeps(d.Unsure(), 20))
				d.Crash(keeps[source.Below(len(keeps))])
				v = opened(t, d, "one")
				i, _ := v.Info()
				if e == api.OK && i.Left == 0 {
					return ahead
				}
				if i.Left == 0 { // its cleaning was cut off: that is done by the next rekey
					v.RekeyStart(keysOf(i.Epoch + 1))
					v.Flush()
				}
			}
			t.Fatal("no rekey comes to its end")
			return nil
		}
		one, other := play(disks[0]), play(disks[1])
		if len(audit.Differ(one, other)) == 0 {
			t.Errorf("%+v: they are the same ahead of the end", head)
		}
		if list := audit.Differ(disks[0], disks[1]); len(list) != 0 {
			t.Errorf("%+v: %v are otherwise", head, list)
		}
	}
}

// P6: neither what was written, nor a key, nor a passphrase ever stands on the disk as it is.
func TestNothingStandsOpen(t *testing.T) {
	source := sample.Source(7)
	h := newHistory(t, headOf(9, 4, 2, 40))
	needles := [][]byte{master[:16], master[16:]}
	for epoch := range 9 {
		k := keysOf(epoch + 1)
		needles = append(needles, k[:16], k[16:32], k[32:48], k[48:])
	}
	long := bytesOf(9, 40)
	if e := h.v.SlotAdd(3, long, saltOf(3)); e != api.OK {
		t.Fatal("SlotAdd", e)
	}
	needles = append(needles, long)
	h.last().SlotAdd(3, long)
	for h.info().Epoch < 6 {
		switch n := source.Below(9); source.Below(3) {
		case 0:
			h.rekey()
		default:
			b := source.Bytes(512)
			h.write(n, b)
			needles = append(needles, b[:16], b[300:316])
		}
		fork := h.d.Fork()
		fork.Flush()
		if found(fork, needles) != 0 || found(h.d, needles) != 0 {
			t.Fatal("something stands open")
		}
	}
}
