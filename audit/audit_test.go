package audit_test

import (
	"fmt"
	"math"
	"math/rand/v2"
	"slices"
	"strings"
	"testing"

	"headgate/api"
	"headgate/audit"
	"headgate/entry"
	"headgate/kernel"
)

// say writes values with blanks between them, errors by their names.
func say(l ...any) string { return strings.TrimSuffix(fmt.Sprintln(l...), "\n") }

// expect compares what calls gave with what they should give.
func expect(t *testing.T, l [][2]string) {
	t.Helper()
	for i, c := range l {
		if c[0] != c[1] {
			t.Fatalf("case %d: %.900q, not %.900q", i, c[0], c[1])
		}
	}
}

// config is the configuration of chapter 37's examples.
var config = api.Config{Frames: 40, Low: 8, Slots: 8, Cap: 2, Queue: 4, Min: 3, LowMark: 6, High: 9, MapCap: 64}

func pack(s string) uint64 {
	e, err := entry.Parse(s)
	if err != api.OK {
		panic(s)
	}
	w, _ := entry.Pack(e)
	return w
}

// proc makes a process.
func proc(state, root, leaf int, regions []api.Range, entries map[int]string) api.ProcView {
	p := api.ProcView{State: state, Root: root, Leaves: [8]int{leaf, -1, -1, -1, -1, -1, -1, -1}, Regions: regions}
	for page, text := range entries {
		p.Entries[page] = pack(text)
	}
	return p
}

// rich returns a snapshot without violations that has nearly everything: the process 2 claims the write of the slot 0, the slot 1 is read into an Orphan.
func rich() api.Snapshot {
	s := api.Snapshot{Config: config, Roles: make([]int, 40), Refs: make([]int, 40), Referenced: make([]bool, 40), Slots: make([]int, 8), Objects: []int{2, 1, 0}, Next: 7}
	roles := "PTTTTSSST.MMWOWR"
	for f := range roles {
		s.Roles[f] = strings.IndexByte(".PSTMWRO", roles[f])
	}
	s.Refs[10], s.Refs[11], s.Referenced[10] = 1, 2, true
	s.Slots[0], s.Slots[1] = 2, 1
	s.Active, s.Inactive, s.WriteSlabs = []int{10}, []int{11}, []int{5}
	s.Writes = []api.WriteView{{Slot: 0, Frame: 12, Claim: 2}, {Slot: 2, Frame: 14}}
	s.Pending = []api.Pending{{Write: true, Slot: 0, Frame: 12}, {Slot: 1, Frame: 13}, {Write: true, Slot: 2, Frame: 14}}
	ten := []api.Range{{From: 0, To: 9}}
	s.Procs = []api.ProcView{
		proc(api.Live, 1, 2, ten, map[int]string{0: "p10w", 1: "p11c", 2: "s0", 3: "s1"}),
		proc(api.Blocked, 3, 4, ten, map[int]string{1: "p11c", 2: "s0"}),
		proc(api.Blocked, -1, -1, nil, nil),
		proc(api.Blocked, 8, -1, []api.Range{{From: 5, To: 6}}, nil),
	}
	for range 4 {
		s.Procs = append(s.Procs, proc(api.Dead, -1, -1, nil, nil))
	}
	s.Requests = []api.Request{
		{Ticket: 3, Command: api.Command{Kind: api.DoWrite, Proc: 2, A: 2}, State: api.Claims, Frames: []int{15}},
		{Ticket: 5, Command: api.Command{Kind: api.DoSpawn, Proc: 3}, State: api.Wants},
		{Ticket: 6, Command: api.Command{Kind: api.DoRead, Proc: 4, A: 5}, State: api.Wants},
	}
	return s
}

// reading returns a snapshot like it, in which the process 2 reads the slot 0 into the frame that it holds.
func reading() api.Snapshot {
	s := rich()
	s.Roles[12] = api.Free
	s.Writes, s.Pending = s.Writes[1:], []api.Pending{{Slot: 0, Frame: 15}, s.Pending[1], s.Pending[2]}
	s.Requests[0].State = api.Reading
	return s
}

// found writes violations: kind, frame, slot and process.
func found(l []api.Violation, err api.Errno) (s string) {
	for _, v := range l {
		s += fmt.Sprintf("%d:%d.%d.%d ", v.Kind, v.Frame, v.Slot, v.Proc)
	}
	return s + err.Error()
}

// none are the results of all functions with an error.
func refused(t *testing.T, s api.Snapshot, e api.Errno) {
	t.Helper()
	expect(t, [][2]string{
		{say(audit.Check(s)), e.Error()},
		{say(audit.Uses(s, -1)), say("[]", e)},
		{say(audit.Frames(s)), say("[]", e)},
		{say(audit.Slots(s)), say("[]", e)},
		{say(audit.Procs(s)), say("[]", e)},
		{say(audit.All(s)), say("[]", e)},
		{say(audit.Backed(s)), say(0, e)},
		{say(audit.FreeSlots(s)), say("[]", e)},
	})
}

// P41.1

func TestCheck(t *testing.T) {
	for i, c := range []struct {
		err    api.Errno
		change func(s *api.Snapshot)
	}{
		{api.ErrRange, func(s *api.Snapshot) { s.Config.Frames = 300; s.Roles = nil }},
		{api.ErrOrder, func(s *api.Snapshot) { s.Config.Min = 2; s.Roles = nil }},
		{api.ErrForm, func(s *api.Snapshot) { s.Config.Frames = 41; s.Roles[0] = 9 }},
		{api.ErrForm, func(s *api.Snapshot) { s.Roles = s.Roles[:39] }},
		{api.ErrForm, func(s *api.Snapshot) { s.Refs = append(s.Refs, -1); s.Roles[0] = 9 }},
		{api.ErrForm, func(s *api.Snapshot) { s.Referenced = nil; s.Roles[0] = 9 }},
		{api.ErrForm, func(s *api.Snapshot) { s.Procs = s.Procs[:7]; s.Roles[0] = 9 }},
		{api.ErrForm, func(s *api.Snapshot) { s.Slots = s.Slots[:7]; s.Roles[0] = 9 }},
		{api.ErrForm, func(s *api.Snapshot) { s.Objects = append(s.Objects, 0); s.Roles[0] = 9 }},
		{api.ErrRole, func(s *api.Snapshot) { s.Roles[39] = 8; s.Refs[0] = -1 }},
		{api.ErrRole, func(s *api.Snapshot) { s.Roles[39] = -1 }},
		{api.ErrCount, func(s *api.Snapshot) { s.Refs[0] = -1; s.Procs[0].State = 9 }},
		{api.ErrCount, func(s *api.Snapshot) { s.Refs[39] = 1001 }},
		{api.ErrCount, func(s *api.Snapshot) { s.Slots[7] = 1001; s.Procs[0].State = 9 }},
		{api.ErrCount, func(s *api.Snapshot) { s.Slots[0] = math.MinInt }},
		{api.ErrCount, func(s *api.Snapshot) { s.Objects[2] = 257; s.Procs[0].State = 9 }},
		{api.ErrCount, func(s *api.Snapshot) { s.Objects[0] = -1 }},
		{api.ErrRange, func(s *api.Snapshot) { s.Procs[7].State = 3 }},
		{api.ErrRange, func(s *api.Snapshot) { s.Procs[7].State = -1 }},
		{api.ErrRange, func(s *api.Snapshot) { s.Procs[7].Root = 40; s.Procs[7].Entries[0] = 3 }},
		{api.ErrRange, func(s *api.Snapshot) { s.Procs[7].Root = -2 }},
		{api.ErrRange, func(s *api.Snapshot) { s.Procs[0].Leaves[7] = 40; s.Procs[0].Entries[0] = 3 }},
		{api.ErrRange, func(s *api.Snapshot) { s.Procs[0].Leaves[7] = math.MinInt }},
		{api.ErrRange, func(s *api.Snapshot) { s.Procs[0].Regions = []api.Range{{From: 5, To: 64}}; s.Procs[0].Entries[0] = 3 }},
		{api.ErrOrder, func(s *api.Snapshot) {
			s.Procs[0].Regions = []api.Range{{From: 5, To: 6}, {From: 7, To: 7}}
			s.Procs[0].Entries[0] = 3
		}},
		{api.ErrKind, func(s *api.Snapshot) { s.Procs[0].Entries[63] = 3; s.Procs[1].State = 9 }},
		{api.ErrForm, func(s *api.Snapshot) { s.Procs[0].Entries[63] = 0x711; s.Writes[0].Slot = -1 }},
		{api.ErrRange, func(s *api.Snapshot) { s.Procs[0].Entries[62], s.Procs[0].Entries[63] = pack("p40w"), 3 }},
		{api.ErrRange, func(s *api.Snapshot) { s.Procs[0].Entries[62], s.Procs[0].Entries[63] = pack("s8"), 3 }},
		{api.ErrRange, func(s *api.Snapshot) { s.Writes[1].Slot = 8 }},
		{api.ErrRange, func(s *api.Snapshot) { s.Writes[1].Frame = 40 }},
		{api.ErrRange, func(s *api.Snapshot) { s.Writes[1].Claim = 9 }},
		{api.ErrRange, func(s *api.Snapshot) { s.Writes[1].Claim = -1 }},
		{api.ErrRange, func(s *api.Snapshot) { s.WriteSlabs = []int{-1} }},
		{api.ErrRange, func(s *api.Snapshot) { s.WriteSlabs = []int{5, 40} }},
		{api.ErrRange, func(s *api.Snapshot) { s.Pending[2].Slot = 8 }},
		{api.ErrRange, func(s *api.Snapshot) { s.Pending[2].Frame = -1 }},
		{api.ErrRange, func(s *api.Snapshot) { s.Active[0] = 40 }},
		{api.ErrRange, func(s *api.Snapshot) { s.Inactive[0] = math.MaxInt }},
		{api.ErrRange, func(s *api.Snapshot) { s.Requests[0].Frames[0] = 40 }},
		{api.ErrRange, func(s *api.Snapshot) { s.Requests[0].Slot = 8 }},
		{api.ErrRange, func(s *api.Snapshot) { s.Requests[1].Slot = -1 }},
		{api.ErrRange, func(s *api.Snapshot) { s.Requests[1].Command.Proc = 0 }},
		{api.ErrRange, func(s *api.Snapshot) { s.Requests[1].Command.Proc = 9 }},
		{api.ErrRange, func(s *api.Snapshot) { s.Requests[2].State = 0 }},
		{api.ErrRange, func(s *api.Snapshot) { s.Requests[2].State = 5 }},
	} {
		s := rich()
		c.change(&s)
		if err := audit.Check(s); err != c.err {
			t.Error(i, err, c.err)
		}
		refused(t, s, c.err)
	}
	s := rich()
	s.Refs[39], s.Slots[7], s.Objects[2] = 1000, 1000, 256
	expect(t, [][2]string{{say(audit.Check(rich())), "ok"}, {say(audit.Check(reading())), "ok"}, {say(audit.Check(s)), "ok"}})
}

// P41.2, P41.3

func TestUses(t *testing.T) {
	s := rich()
	for f, want := range map[int]string{0: "[]", 1: "[3]", 2: "[3]", 4: "[3]", 5: "[]", 6: "[]", 8: "[3]", 9: "[]", 10: "[4]", 11: "[4]", 12: "[5]", 13: "[7]", 14: "[5]", 15: "[6]", 39: "[]"} {
		expect(t, [][2]string{{say(audit.Uses(s, f)), want + " ok"}})
	}
	expect(t, [][2]string{{say(audit.Uses(reading(), 15)), "[6] ok"}, {say(audit.Uses(reading(), 12)), "[] ok"}})
	for _, f := range []int{-1, 40, math.MinInt, math.MaxInt} {
		expect(t, [][2]string{{say(audit.Uses(s, f)), "[] range"}})
	}
	s.Procs[0].Root, s.Procs[3].Root, s.Procs[0].Leaves[3] = 10, 10, 10
	s.Writes[1].Frame, s.Writes[0].Frame = 10, 10
	s.Requests[0].Frames, s.Requests[2].Frames = []int{10, 10}, []int{10}
	s.Pending[1].Frame = 10
	expect(t, [][2]string{{say(audit.Uses(s, 10)), "[3 3 3 4 5 5 6 6 6] ok"}})
	s.Requests[0].Frames, s.Requests[2].Frames = nil, nil
	s.Pending = append(s.Pending, s.Pending[1])
	expect(t, [][2]string{{say(audit.Uses(s, 10)), "[3 3 3 4 5 5 7 7] ok"}})
	expect(t, [][2]string{
		{say(audit.Backed(rich())), "26 ok"},
		{say(audit.FreeSlots(rich())), "[3 4 5 6 7] ok"},
		{say(audit.FreeSlots(reading())), "[3 4 5 6 7] ok"},
	})
	s = rich()
	s.Pending = append(s.Pending, api.Pending{Slot: 7, Frame: 30}, api.Pending{Write: true, Slot: 7, Frame: 31})
	expect(t, [][2]string{{say(audit.FreeSlots(s)), "[3 4 5 6] ok"}})
	s = rich()
	s.Slots[0], s.Slots[3], s.Procs[0].Entries[5] = 0, 9, pack("s5")
	expect(t, [][2]string{{say(audit.FreeSlots(s)), "[3 4 6 7] ok"}})
}

// P41.2, P41.5

func TestViolations(t *testing.T) {
	expect(t, [][2]string{{found(audit.All(rich())), "ok"}, {found(audit.All(reading())), "ok"}})
	for i, c := range []struct {
		want   string
		change func(s *api.Snapshot)
	}{
		{"1:10.0.0 4:10.0.0", func(s *api.Snapshot) { s.Roles[10] = api.Free }},
		{"1:1.0.0", func(s *api.Snapshot) { s.Roles[1] = api.Reserved }},
		{"1:9.0.0", func(s *api.Snapshot) { s.Roles[9] = api.TableFrame }},
		{"1:9.0.0 4:9.0.0", func(s *api.Snapshot) { s.Roles[9] = api.MappedFrame }},
		{"7:0.0.0", func(s *api.Snapshot) { s.Roles[9] = api.PoolFrame }},
		{"7:0.0.0", func(s *api.Snapshot) { s.Roles[0] = api.Free }},
		{"", func(s *api.Snapshot) { s.Roles[9] = api.SlabFrame }},
		{"7:0.0.0", func(s *api.Snapshot) { s.Roles[9], s.Roles[16] = api.SlabFrame, api.SlabFrame }},
		{"", func(s *api.Snapshot) { s.Roles[6] = api.Free }},
		{"7:0.0.0", func(s *api.Snapshot) { s.Roles[6], s.Roles[7] = api.Free, api.Free }},
		{"1:5.0.0", func(s *api.Snapshot) { s.Roles[5] = api.Free }},
		{"1:10.0.0", func(s *api.Snapshot) { s.WriteSlabs = []int{5, 10} }},
		{"1:15.0.0", func(s *api.Snapshot) { s.Requests[0].Frames = []int{15, 15} }},
		{"1:1.0.0", func(s *api.Snapshot) { s.Requests[0].Frames = []int{15, 1} }},
		{"1:15.0.0", func(s *api.Snapshot) { s.Requests[0].Frames = nil }},
		{"1:13.0.0 6:0.1.0", func(s *api.Snapshot) { s.Roles[13] = api.Reserved }},
		{"2:10.0.0 3:10.0.1", func(s *api.Snapshot) { s.Refs[10] = 2 }},
		{"2:10.0.0 3:10.0.1", func(s *api.Snapshot) { s.Refs[10] = 0 }},
		{"2:11.0.0", func(s *api.Snapshot) { s.Refs[11] = 1 }},
		{"2:39.0.0", func(s *api.Snapshot) { s.Refs[39] = 1 }},
		{"3:11.0.1 3:11.0.2", func(s *api.Snapshot) { s.Procs[0].Entries[1], s.Procs[1].Entries[1] = pack("p11w"), pack("p11wr") }},
		{"2:10.0.0 2:11.0.0 3:10.0.1 3:11.0.1", func(s *api.Snapshot) {
			s.Procs[0].Entries[1], s.Procs[0].Entries[4] = pack("p11w"), pack("p11w")
			s.Refs[10] = 0
		}},
		{"1:20.0.0 2:10.0.0 2:20.0.0 3:20.0.1 3:10.0.2", func(s *api.Snapshot) {
			s.Procs[0].Entries[0], s.Procs[1].Entries[3] = pack("p20w"), pack("p10w")
			s.Refs[10] = 5
		}},
		{"4:10.0.0", func(s *api.Snapshot) { s.Active = nil }},
		{"4:11.0.0", func(s *api.Snapshot) { s.Active = []int{11, 10} }},
		{"4:11.0.0", func(s *api.Snapshot) { s.Inactive = []int{11, 11} }},
		{"4:39.0.0", func(s *api.Snapshot) { s.Inactive = []int{11, 39} }},
		{"4:39.0.0", func(s *api.Snapshot) { s.Referenced[39] = true }},
		{"4:12.0.0", func(s *api.Snapshot) { s.Referenced[12] = true }},
		{"", func(s *api.Snapshot) { s.Referenced[11] = true }},
		{"5:0.0.0", func(s *api.Snapshot) { s.Slots[0] = 1 }},
		{"5:0.7.0", func(s *api.Snapshot) { s.Slots[7] = 1 }},
		{"5:0.1.0 5:0.2.0", func(s *api.Snapshot) { s.Procs[0].Entries[3] = pack("s2") }},
		{"1:14.0.0 6:0.2.0", func(s *api.Snapshot) { s.Writes = s.Writes[:1] }},
		{"6:0.2.0", func(s *api.Snapshot) { s.Pending = s.Pending[:2] }},
		{"6:0.1.0 6:0.2.0", func(s *api.Snapshot) { s.Pending[2].Slot = 1 }},
		{"6:0.2.0", func(s *api.Snapshot) { s.Pending = append(s.Pending, s.Pending[2]) }},
		{"1:13.0.0 6:0.1.0", func(s *api.Snapshot) { s.Pending = append(s.Pending, s.Pending[1]) }},
		{"1:13.0.0 1:39.0.0 6:0.1.0", func(s *api.Snapshot) { s.Pending[1].Frame = 39 }},
		{"1:13.0.0 6:0.1.0", func(s *api.Snapshot) { s.Pending[1].Frame = 15 }},
		{"6:0.0.0", func(s *api.Snapshot) { s.Writes[0].Claim = 0 }},
		{"6:0.0.0", func(s *api.Snapshot) { s.Writes[0].Claim = 1 }},
		{"6:0.2.0", func(s *api.Snapshot) { s.Requests[0].Slot = 2 }},
		{"6:0.5.0", func(s *api.Snapshot) { s.Requests[0].Slot = 5 }},
		{"6:0.0.0", func(s *api.Snapshot) { s.Requests[0].State = api.Reading }},
		{"", func(s *api.Snapshot) { s.Requests[0].State = api.Holds }},
		{"1:16.0.0 1:17.0.0 6:0.3.0 7:0.0.0", func(s *api.Snapshot) {
			s.Writes = append(s.Writes, api.WriteView{Slot: 3, Frame: 16}, api.WriteView{Slot: 4, Frame: 17})
			s.Pending = append(s.Pending, api.Pending{Write: true, Slot: 4, Frame: 17})
		}},
		{"7:0.0.0", func(s *api.Snapshot) { s.WriteSlabs = nil }},
		{"7:0.0.0", func(s *api.Snapshot) { s.WriteSlabs = []int{5, 6, 7} }},
		{"7:0.0.0", func(s *api.Snapshot) { s.Objects = []int{0, 0, 1} }},
		{"7:0.0.0", func(s *api.Snapshot) { s.Objects = []int{0, 17, 0} }},
		{"", func(s *api.Snapshot) { s.Objects = []int{9, 0, 7} }},
		{"", func(s *api.Snapshot) { s.Objects = []int{0, 0, 2} }},
		{"8:0.0.1", func(s *api.Snapshot) { s.Procs[0].Regions = []api.Range{{From: 0, To: 2}} }},
		{"5:0.5.0 8:0.0.1", func(s *api.Snapshot) { s.Procs[0].Entries[8] = pack("s5") }},
		{"1:2.0.0 8:0.0.1", func(s *api.Snapshot) { s.Procs[0].Leaves[0] = -1 }},
		{"1:1.0.0 8:0.0.1", func(s *api.Snapshot) { s.Procs[0].Root = -1 }},
		{"1:3.0.0 8:0.0.2", func(s *api.Snapshot) { s.Procs[1].Root = -1 }},
		{"1:8.0.0", func(s *api.Snapshot) { s.Procs[3].Root = -1 }},
		{"1:9.0.0 8:0.0.1", func(s *api.Snapshot) { s.Procs[0].Leaves[1] = 9 }},
		{"1:9.0.0", func(s *api.Snapshot) { s.Procs[1].Leaves[1] = 9 }},
		{"1:9.0.0 8:0.0.4", func(s *api.Snapshot) { s.Procs[3].Leaves[1] = 9 }},
		{"1:9.0.0 8:0.0.8", func(s *api.Snapshot) { s.Procs[7].Root = 9 }},
		{"1:9.0.0 8:0.0.8", func(s *api.Snapshot) { s.Procs[7].Leaves[5] = 9 }},
		{"8:0.0.8", func(s *api.Snapshot) { s.Procs[7].Regions = []api.Range{{From: 1, To: 1}} }},
		{"5:0.5.0 8:0.0.8", func(s *api.Snapshot) { s.Procs[7].Entries[1] = pack("s5") }},
		{"1:9.0.0 8:0.0.3", func(s *api.Snapshot) { s.Procs[2].Root = 9 }},
		{"8:0.0.3", func(s *api.Snapshot) { s.Procs[2].Regions = []api.Range{{From: 1, To: 1}} }},
		{"8:0.0.8", func(s *api.Snapshot) { s.Procs[7].State = api.Live }},
		{"9:0.0.8", func(s *api.Snapshot) { s.Procs[7].State = api.Blocked }},
		{"9:0.0.1", func(s *api.Snapshot) { s.Procs[0].State = api.Blocked }},
		{"9:0.0.4", func(s *api.Snapshot) { s.Procs[3].State = api.Live }},
		{"9:0.0.3", func(s *api.Snapshot) { s.Procs[2].State = api.Dead }},
		{"9:0.0.4", func(s *api.Snapshot) { s.Requests = s.Requests[:2] }},
		{"9:0.0.4", func(s *api.Snapshot) {
			s.Requests = append(s.Requests, s.Requests[2])
			s.Requests[3].Ticket, s.Next = 9, 10
		}},
		{"9:0.0.4", func(s *api.Snapshot) { s.Next = 6 }},
		{"9:0.0.3", func(s *api.Snapshot) { s.Requests[1].Ticket = 3 }},
		{"9:0.0.4", func(s *api.Snapshot) { s.Requests[1].Ticket = 6 }},
		{"9:0.0.3 9:0.0.4", func(s *api.Snapshot) { s.Requests[1].Ticket, s.Requests[2].Ticket = 2, 1 }},
		{"9:0.0.3", func(s *api.Snapshot) { s.Requests[1].State = api.Holds }},
		{"1:9.0.0 9:0.0.3", func(s *api.Snapshot) { s.Requests[1].Frames = []int{9} }},
		{"9:0.0.0", func(s *api.Snapshot) { s.Awake = true }},
		{"1:9.0.0 8:0.0.8", func(s *api.Snapshot) { s.Procs[7].Root, s.Procs[7].Leaves[5] = 9, 9 }},
		{"1:20.0.0 1:21.0.0 1:22.0.0 2:20.0.0 2:21.0.0 2:22.0.0 3:20.0.1 3:21.0.1 3:22.0.1 3:20.0.2 3:21.0.2 3:22.0.2", func(s *api.Snapshot) {
			for i, w := range []string{"p22w", "p20w", "p21w"} {
				s.Procs[0].Entries[5+i], s.Procs[1].Entries[7-i] = pack(w), pack(w)
			}
		}},
	} {
		s := rich()
		c.change(&s)
		if got, want := found(audit.All(s)), strings.TrimSpace(c.want+" ok"); got != want {
			t.Errorf("%d: %s, not %s", i, got, want)
		}
		parts(t, s)
	}
}

// P41.2: BadWrite, where a read is under way for a request.

func TestReads(t *testing.T) {
	for i, c := range []struct {
		want   string
		change func(s *api.Snapshot)
	}{
		{"ok", func(s *api.Snapshot) {}},
		{"6:0.0.0 ok", func(s *api.Snapshot) { s.Requests[0].Slot = 1 }},
		{"6:0.0.0 ok", func(s *api.Snapshot) { s.Requests[0].State = api.Holds }},
		{"1:15.0.0 6:0.0.0 ok", func(s *api.Snapshot) { s.Requests[0].Frames = nil }},
		{"1:15.0.0 1:16.0.0 6:0.0.0 ok", func(s *api.Snapshot) { s.Requests[0].Frames = []int{16} }},
		{"6:0.0.0 ok", func(s *api.Snapshot) { s.Pending = s.Pending[1:] }},
		{"6:0.0.0 ok", func(s *api.Snapshot) { s.Requests[0].State = api.Claims }},
	} {
		s := reading()
		c.change(&s)
		if got := found(audit.All(s)); got != c.want {
			t.Errorf("%d: %s, not %s", i, got, c.want)
		}
	}
}

// parts checks that All is what the three other functions find.
func parts(t *testing.T, s api.Snapshot) {
	t.Helper()
	before := say(s)
	a, _ := audit.Frames(s)
	b, _ := audit.Slots(s)
	c, _ := audit.Procs(s)
	expect(t, [][2]string{{say(audit.All(s)), say(slices.Concat(a, b, c), "ok")}, {say(s), before}})
	for i, l := range [][]api.Violation{a, b, c} {
		for _, v := range l {
			if low := []int{1, 5, 8}[i]; v.Kind < low || v.Kind > []int{4, 7, 9}[i] {
				t.Fatal(i, v)
			}
		}
	}
}

// P41.2: BadMark and BadQueue, where frames are short.

func TestMarks(t *testing.T) {
	for _, c := range []struct {
		free  int
		awake bool
		want  string
	}{
		{9, false, "ok"}, {9, true, "9:0.0.0 ok"}, {8, true, "ok"}, {8, false, "ok"}, {7, true, "ok"}, {7, false, "ok"},
		{5, false, "9:0.0.0 ok"}, {5, true, "ok"}, {2, true, "ok"}, {1, true, "7:0.0.0 ok"}, {0, true, "7:0.0.0 ok"}, {1, false, "7:0.0.0 9:0.0.0 ok"},
	} {
		s := short(c.free)
		s.Awake = c.awake
		expect(t, [][2]string{{found(audit.All(s)), c.want}, {say(audit.Backed(s)), say(c.free+1, "ok")}})
	}
	s := short(7)
	s.Config.LowMark = 7
	expect(t, [][2]string{{found(audit.All(s)), "ok"}})
	s.Config.LowMark = 8
	expect(t, [][2]string{{found(audit.All(s)), "9:0.0.0 ok"}})
}

// short returns a rich snapshot with so many free frames: the others are pages of the process 4, and their leaves.
func short(free int) api.Snapshot {
	s := rich()
	p := &s.Procs[3]
	p.Regions = []api.Range{{From: 0, To: 63}}
	page := 0
	take := func(role int) int {
		f := slices.Index(s.Roles, api.Free)
		s.Roles[f] = role
		return f
	}
	for left := 25; left > free; left-- {
		if page%8 == 0 {
			p.Leaves[page/8] = take(api.TableFrame)
			left--
		}
		f := take(api.MappedFrame)
		p.Entries[page], page = pack(fmt.Sprintf("p%dw", f)), page+1
		s.Active, s.Refs[f] = append(s.Active, f), 1
	}
	return s
}

// some returns a command for a kernel.
func some(r *rand.Rand) api.Command {
	p, page := 1+r.IntN(5), r.IntN(24)
	return []api.Command{
		{Kind: api.DoSpawn, Proc: p}, {Kind: api.DoMap, Proc: p, A: page, B: page + 5}, {Kind: api.DoUnmap, Proc: p, A: page, B: page}, {Kind: api.DoRead, Proc: p, A: page},
		{Kind: api.DoWrite, Proc: p, A: page, B: 1, Value: 5}, {Kind: api.DoWrite, Proc: p, A: page, B: 2, Value: 7}, {Kind: api.DoFork, Proc: p, A: p%5 + 1}, {Kind: api.DoHoard, A: 1 + r.IntN(3)},
		{Kind: api.DoPick, Proc: p}, {Kind: api.DoPick}, {Kind: api.DoComplete}, {Kind: api.DoRounds, A: 1}, {Kind: api.DoPick, Proc: p}, {Kind: api.DoKill, Proc: p},
	}[min(r.IntN(14), r.IntN(16))]
}

// P41.4, P41.5, P41.6, P41.7

func TestKernels(t *testing.T) {
	for seed := range uint64(12) {
		r := rand.New(rand.NewPCG(seed, 41))
		c := []api.Config{config, {Frames: 24, Low: 6, Slots: 6, Cap: 1, Queue: 2, Min: 2, LowMark: 4, High: 8, MapCap: 64}, {Frames: 30, Low: 20, Slots: 20, Cap: 3, Queue: 8, Min: 5, LowMark: 9, High: 14, MapCap: 64}, {Frames: 30, Low: 20, Slots: 20, Cap: 3, Queue: 9, Min: 5, LowMark: 9, High: 14, MapCap: 64}}[seed%4]
		k, _ := kernel.New(c)
		for range 300 {
			cmd := some(r)
			if w := k.Waiting(); cmd.Kind == api.DoPick && cmd.Proc > 0 && len(w) > 0 {
				cmd.Proc = w[0]
			}
			k.Step(cmd)
			s := k.Snapshot()
			backed, err := audit.Backed(s)
			if got := found(audit.All(s)); got != "ok" || err != api.OK || backed < c.Min {
				t.Fatal(seed, cmd, got, err, backed)
			}
			if r.IntN(4) == 0 {
				broken(t, r, s)
			}
		}
	}
}

// broken changes one thing in a snapshot, and expects that it is found.
func broken(t *testing.T, r *rand.Rand, s api.Snapshot) {
	t.Helper()
	f, n := r.IntN(s.Config.Frames), r.IntN(s.Config.Slots)
	what := r.IntN(5)
	switch what {
	case 0:
		old, role := s.Roles[f], r.IntN(8)
		free := func(role int) bool { return role == api.Free || role == api.SlabFrame }
		if old == role || free(old) && free(role) && !slices.Contains(s.WriteSlabs, f) {
			return
		}
		s.Roles[f] = role
	case 1:
		s.Refs[f]++
	case 2:
		s.Slots[n]++
	case 3:
		if len(s.Active) == 0 {
			return
		}
		s.Active = s.Active[1:]
	case 4:
		if len(s.Requests) == 0 {
			return
		}
		s.Requests = s.Requests[:len(s.Requests)-1]
	}
	l, err := audit.All(s)
	if len(l) == 0 || err != api.OK {
		t.Fatal("not found:", what, f, n, err)
	}
}

// The examples of the chapter.

func TestExamples(t *testing.T) {
	k, _ := kernel.New(config)
	s := k.Snapshot()
	expect(t, [][2]string{{say(audit.Check(s)), "ok"}, {found(audit.All(s)), "ok"}, {say(audit.Backed(s)), "39 ok"}, {say(audit.FreeSlots(s)), "[0 1 2 3 4 5 6 7] ok"}})
	pick := api.Command{Kind: api.DoPick, Proc: 1}
	k.Run([]api.Command{{Kind: api.DoSpawn, Proc: 1}, pick, pick, {Kind: api.DoMap, Proc: 1, A: 3, B: 7}, {Kind: api.DoWrite, Proc: 1, A: 3, Value: 9}, pick, pick, pick})
	e, _ := entry.Unpack(k.Snapshot().Procs[0].Entries[3])
	f, root := e.Number, k.Snapshot().Procs[0].Root
	with := func(change func(s *api.Snapshot)) string {
		s := k.Snapshot()
		change(&s)
		return found(audit.All(s))
	}
	expect(t, [][2]string{
		{with(func(s *api.Snapshot) {}), "ok"},
		{say(audit.Uses(k.Snapshot(), f)), "[4] ok"},
		{with(func(s *api.Snapshot) { s.Roles[f] = api.Free }), fmt.Sprintf("1:%d.0.0 4:%d.0.0 ok", f, f)},
		{with(func(s *api.Snapshot) { s.Refs[f] = 2 }), fmt.Sprintf("2:%d.0.0 3:%d.0.1 ok", f, f)},
		{with(func(s *api.Snapshot) { s.Slots[0] = 1 }), "5:0.0.0 ok"},
		{with(func(s *api.Snapshot) { s.Awake = true }), "9:0.0.0 ok"},
		{with(func(s *api.Snapshot) { s.Active = nil }), fmt.Sprintf("4:%d.0.0 ok", f)},
		{with(func(s *api.Snapshot) { s.Procs[0].Root = -1 }), fmt.Sprintf("1:%d.0.0 8:0.0.1 ok", root)},
	})
}
