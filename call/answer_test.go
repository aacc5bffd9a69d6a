package call_test

import (
	"testing"

	"millpond/api"
)

// P19.2: OK of a Read and of a Write: with a version, at the bounds of its PSN and between.
func TestAnswerOfPages(t *testing.T) {
	for _, c := range []api.Call{read(0), read(15), write(3, "ab"), write(3, "")} {
		for _, psn := range rightPSNs {
			for _, s := range []string{"", "ab", "\x00x"} {
				d := with(t, sync(), c)
				v := version(psn, s)
				answers(t, d, api.OK, v, api.Answer{Number: 2, Call: c, V: v})
				stands(t, d, 2)
			}
		}
	}
}

// P19.2: PSNs just beyond their bounds and further, whatever the errno.
func TestAnswerOfWrongVersions(t *testing.T) {
	for _, c := range four() {
		d := with(t, sync(), c)
		for _, psn := range wrongPSNs {
			for _, s := range []string{"", "ab"} {
				for _, e := range []api.Errno{api.OK, api.ErrFenced, -1} {
					noAnswer(t, d, e, version(psn, s), api.ErrArg)
				}
			}
		}
		stands(t, d, 2, c)
	}
}

// P19.2: OK of a Sync and of a Checkpoint: no version.
func TestAnswerOfNoPages(t *testing.T) {
	for _, c := range []api.Call{sync(), checkpoint()} {
		d := with(t, read(1), c)
		for _, v := range []api.Version{version(1, ""), version(2, "ab"), version(api.MaxStamp, ""), version(0, "ab"), version(0, "\x00x")} {
			noAnswer(t, d, api.OK, v, api.ErrArg)
			stands(t, d, 2, c)
		}
		answers(t, d, api.OK, api.Version{}, api.Answer{Number: 2, Call: c})
		stands(t, d, 2)
	}
}

// P19.2: each errno from 1 to ErrCorrupt, of each kind: no version.
func TestAnswerOfErrnos(t *testing.T) {
	for _, c := range four() {
		for e := api.ErrNil; e <= api.ErrCorrupt; e++ {
			d := with(t, read(1), c)
			for _, v := range []api.Version{version(1, ""), version(2, "ab"), version(api.MaxStamp, ""), version(0, "ab"), version(0, "\x00x")} {
				noAnswer(t, d, e, v, api.ErrArg)
				stands(t, d, 2, c)
			}
			answers(t, d, e, api.Version{}, api.Answer{Number: 2, Call: c, Errno: e})
			stands(t, d, 2)
		}
	}
}

// P19.2: errnos just beyond their bounds and further, with a version or without.
func TestAnswerOfWrongErrnos(t *testing.T) {
	for _, c := range four() {
		d := with(t, c)
		for _, e := range wrongErrnos {
			for _, v := range []api.Version{{}, version(1, ""), version(-1, "ab"), version(0, "ab")} {
				noAnswer(t, d, e, v, api.ErrArg)
			}
		}
		stands(t, d, 1, c)
		answers(t, d, api.OK, api.Version{}, api.Answer{Number: 1, Call: c})
	}
}

// P19.2: what is answered is what was pending, not what came in between.
func TestAnswerIsOfThePendingCall(t *testing.T) {
	d := with(t, read(1), write(3, "ab"))
	d.Ask(job(16), write(4, "cd"))
	d.Ask(job(16), read(16))
	noAnswer(t, d, api.ErrDown, version(1, "x"), api.ErrArg)
	answers(t, d, api.OK, version(7, "ab"), api.Answer{Number: 2, Call: write(3, "ab"), V: version(7, "ab")})
	asks(t, d, write(4, "cd"), 3)
	answers(t, d, api.ErrFenced, api.Version{}, api.Answer{Number: 3, Call: write(4, "cd"), Errno: api.ErrFenced})
}

// P19.2: a version's bytes may be any, also others than the call's.
func TestAnswerOfAnyBytes(t *testing.T) {
	d := with(t, write(3, "ab"))
	answers(t, d, api.OK, version(1, "cd"), api.Answer{Number: 1, Call: write(3, "ab"), V: version(1, "cd")})
	var full api.Version
	full.PSN = api.MaxStamp
	for i := range full.Body {
		full.Body[i] = byte(255 - i)
	}
	asks(t, d, read(0), 2)
	answers(t, d, api.OK, full, api.Answer{Number: 2, Call: read(0), V: full})
	if full.Body[0] != 255 || full.Body[95] != 160 {
		t.Error("the version handed in")
	}
	stands(t, d, 2)
}
