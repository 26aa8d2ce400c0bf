package tests

import (
	"math"
	"slices"
	"strings"
	"testing"
	"unsafe"

	"loop.example/g00221/impl"
)

// disk: by what is safe, and the writes behind it.
func disk(safe string, loose ...string) impl.Disk {
	return impl.Disk{Safe: safe, Loose: loose}
}

// sameDisk: is what is safe and each write the same?
func sameDisk(a impl.Disk, b impl.Disk) bool {
	return a.Safe == b.Safe && slices.Equal(a.Loose, b.Loose)
}

// copiedDisk: with a list of its own.
func copiedDisk(d impl.Disk) impl.Disk {
	return impl.Disk{Safe: d.Safe, Loose: slices.Clone(d.Loose)}
}

// wholeOf: what stands on a disk, right or not.
func wholeOf(d impl.Disk) string {
	return d.Safe + strings.Join(d.Loose, "")
}

// manyWrites: so many of one byte, no two beside each other alike.
func manyWrites(count int) []string {
	var list []string
	for i := range count {
		list = append(list, string([]byte{byte(i * 7)}))
	}
	return list
}

// rightDisks: ordinary ones, and those at each edge.
func rightDisks() []impl.Disk {
	full := mixedText(impl.MaxBytes)
	return []impl.Disk{
		{}, {Loose: []string{}}, disk("a"), disk("", "a"), disk("ab", "cd"), disk("ab", "c", "def", "g"),
		disk("", "\x00", "\xff\x80"), disk("\x00\xff", "\n"), disk("\u00e9", "\u4e16", "x"),
		disk("safe", manyWrites(impl.MaxWrites-1)...), disk("safe", manyWrites(impl.MaxWrites)...),
		disk("", manyWrites(impl.MaxWrites)...),
		disk(full[:impl.MaxBytes-1]), disk(full), disk("", full), disk("", full[:impl.MaxBytes-1]),
		disk(full[:impl.MaxBytes-1], full[impl.MaxBytes-1:]), disk(full[:1], full[1:]),
		disk(full[:9000], full[9000:9001], full[9001:]), disk("", full[:12345], full[12345:]),
		disk(full[:impl.MaxBytes-impl.MaxWrites], manyWrites(impl.MaxWrites)...),
	}
}

// wrongDisks: each has one fault.
func wrongDisks() []impl.Disk {
	full := mixedText(impl.MaxBytes)
	emptyLast, emptyFirst := manyWrites(impl.MaxWrites), manyWrites(impl.MaxWrites)
	emptyLast[impl.MaxWrites-1], emptyFirst[0] = "", ""
	return []impl.Disk{
		disk("safe", manyWrites(impl.MaxWrites+1)...), disk("", manyWrites(impl.MaxWrites+1)...),
		disk("", manyWrites(impl.MaxList+1)...), disk("a", slices.Repeat([]string{"b"}, 50000)...),
		disk("", ""), disk("a", ""), disk("a", "b", ""), disk("a", "", "b"), disk("a", "b", "", "c"),
		disk("a", emptyLast...), disk("a", emptyFirst...),
		disk(full + "x"), disk("", full+"x"), disk(full, "x"), disk("x", full), disk(full[1:], "x", "y"),
		disk(full[:10000], full[10000:], "z"), disk("", full[:10000], full[:10001]),
		disk(full[:impl.MaxBytes-impl.MaxWrites+1], manyWrites(impl.MaxWrites)...),
		disk(strings.Repeat(full, 3)), disk(full, full, full),
	}
}

func TestDiskConstants(t *testing.T) {
	if impl.MaxWrites != 100 {
		t.Error("the bound of writes is another one")
	}
}

func TestDiskRight(t *testing.T) {
	for i, d := range rightDisks() {
		if !impl.DiskRight(d) {
			t.Errorf("right disk %d is not right", i)
		}
	}
	for i, d := range wrongDisks() {
		if impl.DiskRight(d) {
			t.Errorf("wrong disk %d is right", i)
		}
	}
}

func TestDiskText(t *testing.T) {
	cases := []struct {
		d    impl.Disk
		want string
	}{
		{impl.Disk{}, ""}, {disk("ab"), "ab"}, {disk("", "ab"), "ab"}, {disk("ab", "c"), "abc"},
		{disk("b", "a", "d", "c"), "badc"}, {disk("\xff", "\x00", "\xc3", "\xa9"), "\xff\x00\u00e9"},
	}
	for _, c := range cases {
		if got := impl.DiskText(c.d); got != c.want {
			t.Errorf("DiskText of %q is %q, not %q", c.d, got, c.want)
		}
	}
	for i, d := range rightDisks() {
		if got := impl.DiskText(d); got != wholeOf(d) {
			t.Errorf("DiskText of right disk %d is %.50q", i, got)
		}
	}
	for i, d := range wrongDisks() {
		if got := impl.DiskText(d); got != "" {
			t.Errorf("DiskText of wrong disk %d is %.50q", i, got)
		}
	}
}

func TestDiskWrite(t *testing.T) {
	full := mixedText(impl.MaxBytes)
	nearly := manyWrites(impl.MaxWrites - 1)
	all := manyWrites(impl.MaxWrites)
	cases := []struct {
		what string
		d    impl.Disk
		text string
		want impl.Disk
	}{
		{"the first write", impl.Disk{}, "a", disk("", "a")},
		{"behind what is safe", disk("ab"), "c", disk("ab", "c")},
		{"behind other writes", disk("ab", "d", "c"), "a", disk("ab", "d", "c", "a")},
		{"the same again", disk("", "a", "a"), "a", disk("", "a", "a", "a")},
		{"whatever bytes", disk("\xff", "\x00"), "\x80\n", disk("\xff", "\x00", "\x80\n")},
		{"nothing, to nothing", impl.Disk{}, "", impl.Disk{}},
		{"nothing", disk("ab", "c"), "", disk("ab", "c")},
		{"nothing, to a full disk", disk(full), "", disk(full)},
		{"the last write", disk("s", nearly...), "ab", disk("s", append(slices.Clone(nearly), "ab")...)},
		{"one write too many", disk("s", all...), "a", disk("s", all...)},
		{"nothing, behind the last write", disk("s", all...), "", disk("s", all...)},
		{"as many bytes as may be", impl.Disk{}, full, disk("", full)},
		{"the last byte", disk(full[:5000], full[5000:19999]), "x", disk(full[:5000], full[5000:19999], "x")},
		{"the last bytes", disk(full[:5000]), full[5000:], disk(full[:5000], full[5000:])},
		{"one byte too many", disk(full), "x", disk(full)},
		{"one byte too many behind writes", disk("", full[:9000], full[9000:]), "x", disk("", full[:9000], full[9000:])},
		{"one byte too many of several", disk("a", "b"), full[:19999], disk("a", "b")},
		{"a full disk's bytes", disk("a"), full, disk("a")},
		{"far too many bytes", disk(full), full, disk(full)},
	}
	for _, c := range cases {
		if got := impl.DiskWrite(c.d, c.text); !sameDisk(got, c.want) {
			t.Errorf("%s: %.200q, not %.200q", c.what, got, c.want)
		}
	}
}

// Such a text is refused by the zero answer, ahead of all else: also where the disk is not right, and is not handed back.
func TestDiskWriteSize(t *testing.T) {
	for _, size := range []int{impl.MaxBytes + 1, impl.MaxBytes + 2, 5 * impl.MaxBytes} {
		long := mixedText(size)
		for i, d := range append(rightDisks(), wrongDisks()...) {
			if got := impl.DiskWrite(d, long); !sameDisk(got, impl.Disk{}) {
				t.Errorf("DiskWrite of %d bytes to disk %d is %.100q", size, i, got)
			}
		}
	}
}

func TestDiskWriteToEach(t *testing.T) {
	for i, d := range rightDisks() {
		for _, text := range []string{"a", "abc", mixedText(100), mixedText(impl.MaxBytes - 4)} {
			want := copiedDisk(d)
			if len(d.Loose) < impl.MaxWrites && len(wholeOf(d))+len(text) <= impl.MaxBytes {
				want.Loose = append(want.Loose, text)
			}
			got := impl.DiskWrite(d, text)
			if !sameDisk(got, want) {
				t.Errorf("DiskWrite of %d bytes to right disk %d is %.100q", len(text), i, got)
			}
			if !impl.DiskRight(got) {
				t.Errorf("DiskWrite of %d bytes leaves right disk %d not right", len(text), i)
			}
		}
	}
}

func TestDiskSync(t *testing.T) {
	cases := []struct{ d, want impl.Disk }{
		{impl.Disk{}, impl.Disk{}}, {disk("ab"), disk("ab")}, {disk("", "ab"), disk("ab")},
		{disk("ab", "d", "c"), disk("abdc")}, {disk("\xc3", "\xa9", "\x00"), disk("\u00e9\x00")},
	}
	for _, d := range rightDisks() {
		cases = append(cases, struct{ d, want impl.Disk }{d, disk(wholeOf(d))})
	}
	for i, c := range cases {
		got := impl.DiskSync(c.d)
		if !sameDisk(got, c.want) {
			t.Errorf("DiskSync of disk %d is %.100q, not %.100q", i, got, c.want)
		}
		if again := impl.DiskSync(got); !sameDisk(again, c.want) {
			t.Errorf("DiskSync of synced disk %d is %.100q", i, again)
		}
	}
}

func TestDiskCrash(t *testing.T) {
	d := disk("safe", "ab", "c", "def")
	cases := []struct {
		what string
		d    impl.Disk
		keep int64
		want string
	}{
		{"below nought", d, -1, "safe"},
		{"far below nought", d, math.MinInt64, "safe"},
		{"nothing", d, 0, "safe"},
		{"within the first write", d, 1, "safea"},
		{"at the first write's end", d, 2, "safeab"},
		{"at the second write's end", d, 3, "safeabc"},
		{"at the last write's first byte", d, 4, "safeabcd"},
		{"within the last write", d, 5, "safeabcde"},
		{"all", d, 6, "safeabcdef"},
		{"one more than there is", d, 7, "safeabcdef"},
		{"as many as all bytes", d, 10, "safeabcdef"},
		{"far more than there is", d, math.MaxInt64, "safeabcdef"},
		{"more than an int32 has", d, 1 << 32, "safeabcdef"},
		{"an empty disk, nothing", impl.Disk{}, 0, ""},
		{"an empty disk, below nought", impl.Disk{}, -5, ""},
		{"an empty disk, more", impl.Disk{}, 5, ""},
		{"nothing loose, below nought", disk("safe"), -1, "safe"},
		{"nothing loose", disk("safe"), 0, "safe"},
		{"nothing loose, fewer than is safe", disk("safe"), 2, "safe"},
		{"nothing loose, more", disk("safe"), 9, "safe"},
		{"nothing safe, nothing", disk("", "ab"), 0, ""},
		{"nothing safe", disk("", "ab"), 1, "a"},
		{"nothing safe, all", disk("", "ab"), 2, "ab"},
		{"by bytes, not by runes", disk("x", "\u00e9"), 1, "x\xc3"},
	}
	for _, c := range cases {
		if got := impl.DiskCrash(c.d, c.keep); !sameDisk(got, disk(c.want)) {
			t.Errorf("%s: %q, not %q safe alone", c.what, got, c.want)
		}
	}
}

// keeps: the edges of what may be kept of so many bytes, and some between.
func keeps(size int) []int64 {
	list := []int64{math.MinInt64, -1, 0, 1, 2, 3, math.MaxInt64}
	for i := -2; i <= 2; i++ {
		list = append(list, int64(size+i), int64(size/2+i))
	}
	for i := 0; i < size; i += 1 + size/40 {
		list = append(list, int64(i))
	}
	return list
}

// Promise 11: what stands behind a crash begins as it stood, and has all that was synced.
func TestCrashes(t *testing.T) {
	for i, d := range rightDisks() {
		stood := impl.DiskText(d)
		loose := len(stood) - len(d.Safe)
		for _, keep := range keeps(loose) {
			got := impl.DiskCrash(d, keep)
			text := impl.DiskText(got)
			if !strings.HasPrefix(stood, text) || !strings.HasPrefix(text, d.Safe) {
				t.Fatalf("disk %d with %d kept has %.50q", i, keep, text)
			}
			if want := len(d.Safe) + int(min(max(keep, 0), int64(loose))); len(text) != want {
				t.Fatalf("disk %d with %d kept has %d bytes, not %d", i, keep, len(text), want)
			}
			if len(got.Loose) != 0 || got.Safe != text || !impl.DiskRight(got) {
				t.Fatalf("disk %d with %d kept is %.100q", i, keep, got)
			}
			if again := impl.DiskCrash(got, keep); !sameDisk(again, got) {
				t.Fatalf("disk %d crashed twice with %d kept is %.100q", i, keep, again)
			}
		}
	}
}

// Promise 11, behind writes: what was synced ahead of the crash is there, whatever is kept of the writes behind it.
func TestSyncedIsKept(t *testing.T) {
	for i, d := range rightDisks() {
		synced := impl.DiskText(d)
		now := impl.DiskSync(d)
		for _, text := range []string{"one", "two", mixedText(200)} {
			now = impl.DiskWrite(now, text)
		}
		stood := impl.DiskText(now)
		for _, keep := range keeps(len(stood) - len(synced)) {
			text := impl.DiskText(impl.DiskCrash(now, keep))
			if !strings.HasPrefix(text, synced) || !strings.HasPrefix(stood, text) {
				t.Fatalf("disk %d synced, written and crashed with %d kept has %d of %d bytes", i, keep, len(text), len(stood))
			}
			if whole := impl.DiskCrash(impl.DiskSync(now), keep); !sameDisk(whole, disk(stood)) {
				t.Fatalf("disk %d synced twice and crashed with %d kept is %.100q", i, keep, whole)
			}
		}
	}
}

func TestDiskCut(t *testing.T) {
	d := disk("safe", "ab", "c")
	cases := []struct {
		what string
		d    impl.Disk
		size int64
		want impl.Disk
	}{
		{"below nought", d, -1, d},
		{"far below nought", d, math.MinInt64, d},
		{"to nothing", d, 0, impl.Disk{}},
		{"to one byte", d, 1, disk("s")},
		{"within what is safe", d, 3, disk("saf")},
		{"to what is safe", d, 4, disk("safe")},
		{"within the first write", d, 5, disk("safea")},
		{"to the first write's end", d, 6, disk("safeab")},
		{"to all", d, 7, disk("safeabc")},
		{"one more", d, 8, d},
		{"far more", d, math.MaxInt64, d},
		{"more than an int32 has", d, 1 << 32, d},
		{"an empty disk to nothing", impl.Disk{}, 0, impl.Disk{}},
		{"an empty disk, below nought", impl.Disk{}, -1, impl.Disk{}},
		{"an empty disk, one more", impl.Disk{}, 1, impl.Disk{}},
		{"nothing loose", disk("ab"), 1, disk("a")},
		{"nothing loose, one more", disk("ab"), 3, disk("ab")},
		{"nothing safe", disk("", "ab"), 1, disk("a")},
		{"nothing safe, to all", disk("", "ab"), 2, disk("ab")},
		{"by bytes, not by runes", disk("", "\u00e9"), 1, disk("\xc3")},
	}
	for _, c := range cases {
		if got := impl.DiskCut(c.d, c.size); !sameDisk(got, c.want) {
			t.Errorf("%s: %q, not %q", c.what, got, c.want)
		}
	}
}

func TestDiskCutOfEach(t *testing.T) {
	for i, d := range rightDisks() {
		whole := wholeOf(d)
		for _, size := range append(keeps(len(whole)), keeps(len(d.Safe))...) {
			want := d
			if size >= 0 && size <= int64(len(whole)) {
				want = disk(whole[:size])
			}
			if got := impl.DiskCut(d, size); !sameDisk(got, want) {
				t.Fatalf("DiskCut of disk %d to %d is %.100q", i, size, got)
			}
		}
	}
}

// A disk that is not right is handed back as it is, whatever it is asked for.
func TestWrongDisksStay(t *testing.T) {
	for i, d := range wrongDisks() {
		if got := impl.DiskSync(d); !sameDisk(got, d) {
			t.Errorf("DiskSync of wrong disk %d is %.100q", i, got)
		}
		for _, text := range []string{"", "a", mixedText(impl.MaxBytes)} {
			if got := impl.DiskWrite(d, text); !sameDisk(got, d) {
				t.Errorf("DiskWrite of %d bytes to wrong disk %d is %.100q", len(text), i, got)
			}
		}
		for _, n := range []int64{math.MinInt64, -1, 0, 1, 2, 19999, 20000, 20001, math.MaxInt64} {
			if got := impl.DiskCrash(d, n); !sameDisk(got, d) {
				t.Errorf("DiskCrash of wrong disk %d with %d kept is %.100q", i, n, got)
			}
			if got := impl.DiskCut(d, n); !sameDisk(got, d) {
				t.Errorf("DiskCut of wrong disk %d to %d is %.100q", i, n, got)
			}
		}
	}
}

// diskCalls: each call that hands back a Disk, with what it does and with what it refuses.
func diskCalls() map[string]func(d impl.Disk) impl.Disk {
	return map[string]func(d impl.Disk) impl.Disk{
		"write":       func(d impl.Disk) impl.Disk { return impl.DiskWrite(d, "written") },
		"write none":  func(d impl.Disk) impl.Disk { return impl.DiskWrite(d, "") },
		"write much":  func(d impl.Disk) impl.Disk { return impl.DiskWrite(d, mixedText(impl.MaxBytes)) },
		"write long":  func(d impl.Disk) impl.Disk { return impl.DiskWrite(d, mixedText(impl.MaxBytes+1)) },
		"sync":        func(d impl.Disk) impl.Disk { return impl.DiskSync(d) },
		"crash all":   func(d impl.Disk) impl.Disk { return impl.DiskCrash(d, 1000) },
		"crash some":  func(d impl.Disk) impl.Disk { return impl.DiskCrash(d, 3) },
		"crash none":  func(d impl.Disk) impl.Disk { return impl.DiskCrash(d, 0) },
		"cut":         func(d impl.Disk) impl.Disk { return impl.DiskCut(d, 5) },
		"cut far":     func(d impl.Disk) impl.Disk { return impl.DiskCut(d, 1000) },
		"cut below":   func(d impl.Disk) impl.Disk { return impl.DiskCut(d, -1) },
		"only looked": func(d impl.Disk) impl.Disk { impl.DiskRight(d); return disk(impl.DiskText(d)) },
	}
}

// What is handed in is as it was, also behind the end of its list, and no answer shares a list with it.
func TestDisksAreNotChanged(t *testing.T) {
	disks := []impl.Disk{disk("safe bytes", "ab", "cd", "ef"), disk("safe bytes", "ab", "", "ef"), disk("", "abcdef"), disk("safe bytes")}
	for name, call := range diskCalls() {
		for i, d := range disks {
			all := append(slices.Clone(d.Loose), "room", "behind")
			ahead := slices.Clone(all)
			got := call(impl.Disk{Safe: d.Safe, Loose: all[:len(d.Loose)]})
			want := copiedDisk(got)
			if !slices.Equal(all, ahead) {
				t.Errorf("%s, disk %d: what was handed in is %q now", name, i, all)
			}
			for at := range all {
				all[at] = "other"
			}
			if !sameDisk(got, want) {
				t.Errorf("%s, disk %d: the answer hangs on what was handed in", name, i)
			}
			for at := range got.Loose[:cap(got.Loose)] {
				got.Loose[:cap(got.Loose)][at] = "spoilt"
			}
			if slices.Contains(all, "spoilt") {
				t.Errorf("%s, disk %d: what was handed in hangs on the answer", name, i)
			}
			if again := call(copiedDisk(d)); !sameDisk(again, want) {
				t.Errorf("%s, disk %d: the second answer is %.100q", name, i, again)
			}
		}
	}
}

// shares: has the one text bytes in the memory of the other one?
func shares(a string, b string) bool {
	if a == "" || b == "" {
		return false
	}
	from, at := uintptr(unsafe.Pointer(unsafe.StringData(a))), uintptr(unsafe.Pointer(unsafe.StringData(b)))
	return from < at+uintptr(len(b)) && at < from+uintptr(len(a))
}

// Bytes are kept apart: no text of an answer lies in the memory of one that was handed in.
func TestDiskBytesAreKeptApart(t *testing.T) {
	disks := []impl.Disk{disk(mixedText(50), mixedText(60), mixedText(70)), disk("", mixedText(60)), disk(mixedText(60)), disk(mixedText(50), mixedText(60), "")}
	for name, call := range diskCalls() {
		for i, d := range disks {
			got := call(d)
			for _, in := range append(d.Loose, d.Safe) {
				for _, out := range append(got.Loose, got.Safe) {
					if shares(in, out) {
						t.Errorf("%s, disk %d: %q lies in what was handed in", name, i, out)
					}
				}
			}
		}
	}
	text := mixedText(40)
	if got := impl.DiskWrite(impl.Disk{}, text); shares(got.Loose[0], text) {
		t.Error("what was written lies in the text that was handed in")
	}
	all := impl.RecBytes(mixedText(40)) + impl.RecBytes(mixedText(30))
	for i, body := range impl.RecsOf(all).List {
		if shares(body, all) {
			t.Errorf("body %d lies in the text that was handed in", i)
		}
	}
}
