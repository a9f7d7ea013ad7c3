package tests

import (
	"slices"

	"loop.example/wharfhall/impl"
)

// takeByHand is what chapter 23 says of RecTake.
func takeByHand(r impl.Recorder, m impl.RecMessage) impl.Recorder {
	if !recorderByHand(r) {
		return impl.Recorder{}
	}
	x := copyRecorder(r)
	if !x.Up || m.To != x.Number || !messageByHand(m, x.Of) {
		return x
	}
	switch m.Kind {
	case 1, 3, 5:
		ledByHand(&x, m)
	case 2:
		if x.Trying && x.Ballot == m.Ballot {
			promiseByHand(&x, m.From, m.Slots)
		}
	case 4:
		if x.Lead && x.Ballot == m.Ballot && m.Index > 0 {
			tookByHand(&x, m.From, m.Index)
		}
	case 6:
		if m.Index == x.Disk.Known+1 && m.Ballot > 0 && m.Ballot <= x.Disk.Promise {
			slotByHand(&x, m.Index, m.Ballot, m.Text)
			x.Disk.Known = m.Index
		}
	case 7:
		for i := m.Index; x.Lead && m.Index > 0 && i < m.Index+5; i++ {
			if i <= x.Disk.Known {
				holdByHand(&x, impl.RecMessage{Kind: 6, To: m.From, Ballot: x.Ballot, Index: i, Text: x.Disk.Slots[i-1].Text})
			}
		}
	case 8:
		wishedByHand(&x, m.Text)
	case 9:
		if (x.Lead || x.Trying) && m.Ballot > x.Ballot {
			quiets(&x)
			x.Disk.Promise = max(m.Ballot, x.Disk.Promise)
		}
	}
	return x
}

// ledByHand takes what comes of one that leads, or tries to.
func ledByHand(x *impl.Recorder, m impl.RecMessage) {
	below := m.Ballot < x.Disk.Promise || m.Kind == 1 && m.Ballot == x.Disk.Promise
	if below {
		holdByHand(x, impl.RecMessage{Kind: 9, To: m.From, Ballot: x.Disk.Promise})
		return
	}
	if m.Kind != 1 && (m.Ballot == 0 || m.From == x.Number) || m.Kind == 3 && m.Index == 0 {
		return
	}
	x.Disk.Promise, x.Heard = m.Ballot, 0
	if m.Ballot != x.Ballot {
		quiets(x)
	}
	switch m.Kind {
	case 1:
		holdByHand(x, impl.RecMessage{Kind: 2, To: m.From, Ballot: m.Ballot, Slots: slices.Clone(x.Disk.Slots)})
	case 3:
		if m.Index > x.Disk.Known {
			slotByHand(x, m.Index, m.Ballot, m.Text)
		}
		holdByHand(x, impl.RecMessage{Kind: 4, To: m.From, Ballot: m.Ballot, Index: m.Index})
	case 5:
		for i, s := range x.Disk.Slots {
			if i == x.Disk.Known && i < m.Known && s.Ballot == m.Ballot {
				x.Disk.Known++
			}
		}
		if x.Disk.Known < m.Known {
			holdByHand(x, impl.RecMessage{Kind: 7, To: m.From, Ballot: m.Ballot, Index: x.Disk.Known + 1})
		}
		for _, text := range x.Wishes {
			holdByHand(x, impl.RecMessage{Kind: 8, To: m.From, Text: text})
		}
	}
}

func holdByHand(x *impl.Recorder, m impl.RecMessage) {
	if len(x.Held) < 400 {
		m.From = x.Number
		x.Held = append(x.Held, m)
	}
}

func slotByHand(x *impl.Recorder, index, ballot int, text string) {
	for index > len(x.Disk.Slots) {
		x.Disk.Slots = append(x.Disk.Slots, impl.RecSlot{})
	}
	x.Disk.Slots[index-1] = impl.RecSlot{Ballot: ballot, Text: text}
}

// withByHand are numbers with one of them more, in order, each once.
func withByHand(numbers []int, number int) []int {
	out := append(slices.Clone(numbers), number)
	slices.Sort(out)
	return slices.Compact(out)
}

func promiseByHand(x *impl.Recorder, from int, slots []impl.RecSlot) {
	x.Yes, x.Best = withByHand(x.Yes, from), mergeByHand(x.Best, slots)
	if len(x.Yes) <= x.Of/2 {
		return
	}
	for i, s := range x.Best {
		if i >= x.Disk.Known {
			slotByHand(x, i+1, x.Ballot, s.Text)
		}
	}
	x.Lead, x.Trying, x.Yes, x.Best, x.Acks = true, false, nil, nil, nil
}

func tookByHand(x *impl.Recorder, from, index int) {
	at := slices.IndexFunc(x.Acks, func(a impl.RecAck) bool { return a.Index == index })
	if at < 0 {
		at = len(x.Acks)
		x.Acks = append(x.Acks, impl.RecAck{Index: index})
	}
	x.Acks[at].From = withByHand(x.Acks[at].From, from)
	slices.SortFunc(x.Acks, func(a, b impl.RecAck) int { return a.Index - b.Index })
	for _, a := range x.Acks {
		there := a.Index <= len(x.Disk.Slots) && x.Disk.Slots[a.Index-1].Ballot == x.Ballot
		if a.Index == x.Disk.Known+1 && len(a.From) > x.Of/2 && there {
			x.Disk.Known = a.Index
		}
	}
}

func wishedByHand(x *impl.Recorder, text string) {
	for i, s := range x.Disk.Slots {
		if i < x.Disk.Known && s.Text == text {
			return
		}
	}
	if text != "" && len(text) <= 160 && !slices.Contains(x.Wishes, text) && len(x.Wishes) < 20 {
		x.Wishes = append(x.Wishes, text)
	}
}

// recWishByHand is what chapter 23 says of RecWish.
func recWishByHand(r impl.Recorder, text string) impl.Recorder {
	if !recorderByHand(r) {
		return impl.Recorder{}
	}
	x := copyRecorder(r)
	if x.Up {
		wishedByHand(&x, text)
	}
	return x
}
