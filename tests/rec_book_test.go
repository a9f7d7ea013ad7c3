package tests

import (
	"slices"
	"testing"

	"loop.example/wharfhall/impl"
)

func wantRecBook(t *testing.T, what string, r impl.Recorder, want ...string) {
	t.Helper()
	if got := impl.RecBook(r); !slices.Equal(got, want) {
		t.Errorf("%s: the book of %s is %q, not %q", what, recorderTold(r), got, want)
	}
}

// A book is what is known of the disk as it is written, not what is safe, nor what is only taken.
func TestBooksOfRecorders(t *testing.T) {
	for what, make := range validRecorders() {
		wantRecBook(t, what, make(), "a", "b")
		wantRecBook(t, what+", nothing known", turnedRecorder(make(), knows(0)))
		wantRecBook(t, what+", one known", turnedRecorder(make(), knows(1)), "a")
		wantRecBook(t, what+", an empty text", turnedRecorder(make(), writes("3:a 5: 8:c"), knows(3)), "a", "", "c")
		wantRecBook(t, what+", one text twice", turnedRecorder(make(), writes("3:a 8:a"), knows(2)), "a", "a")
		wantRecBook(t, what+", known and not taken", turnedRecorder(make(), knows(3)))
		wantRecBook(t, what+", known and not there", turnedRecorder(make(), knows(5)))
		wantRecBook(t, what+", known below 0", turnedRecorder(make(), knows(-1)))
		wantRecBook(t, what+", a safe disk that is not ok", turnedRecorder(make(), func(r *impl.Recorder) { r.Safe.Known = 9 }))
		wantRecBook(t, what+", Heard below 0", turnedRecorder(make(), func(r *impl.Recorder) { r.Heard = -1 }))
		wantRecBook(t, what+", nobody", turnedRecorder(make(), func(r *impl.Recorder) { r.Number = 0 }))
	}
	wantRecBook(t, "nothing", impl.Recorder{})
	wantRecBook(t, "new", impl.RecNew(1, 1))
	full := turnedRecorder(quietRecorder(), func(r *impl.Recorder) { r.Disk.Slots = manySlots(impl.RecMaxSlots, 8) }, knows(impl.RecMaxSlots))
	var texts []string
	for _, s := range full.Disk.Slots {
		texts = append(texts, s.Text)
	}
	wantRecBook(t, "all places", full, texts...)
}

func TestBooksOfRecordersShareNoMemory(t *testing.T) {
	for _, plain := range []impl.Recorder{quietRecorder(), leadingRecorder(), fallenRecorder(), {}} {
		r := withRoom(plain)
		before := opened(r)
		wantApart(t, "a book", [][]string{impl.RecBook(r), impl.RecBook(r)}, r)
		wantUntouched(t, "a recorder", r, before)
	}
}
