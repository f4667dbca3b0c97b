package plant

import (
	"bytes"
	"strconv"
	"strings"
)

// record is one of a log. Its index is its place there, so that records at the
// same place of two logs have equal bytes just if the structs are equal, as far
// as all records before them are equal, too.
type record struct {
	epoch int
	text  string
	end   int // of its bytes on the disk
}

// log is the log of a disk.
type log []record

// recordBytes returns the bytes of a record.
func recordBytes(epoch, index int, text string) []byte {
	return []byte(strconv.Itoa(epoch) + " " + strconv.Itoa(index) + " " + text + "\n")
}

// readLog returns the log of a disk with these bytes.
func readLog(b []byte) log {
	var l log
	for {
		r, ok := l.next(b)
		if !ok {
			return l
		}
		l = append(l, r)
	}
}

// next returns the record behind those of l, if there is one that goes on with
// the log.
func (l log) next(b []byte) (record, bool) {
	at := l.size()
	n := bytes.IndexByte(b[at:], '\n')
	if n < 0 {
		return record{}, false
	}
	parts := strings.SplitN(string(b[at:at+n]), " ", 3)
	if len(parts) < 3 {
		return record{}, false
	}
	epoch, ok := number(parts[0], maxEpoch)
	ok = ok && epoch >= max(1, l.epoch()) && parts[1] == strconv.Itoa(len(l)+1) && (parts[2] == "" || isLine(parts[2]))
	return record{epoch, parts[2], at + n + 1}, ok
}

// epoch returns the greatest epoch of a record, 0 if there is none.
func (l log) epoch() int {
	if len(l) == 0 {
		return 0
	}
	return l[len(l)-1].epoch
}

// size returns the number of bytes of all records.
func (l log) size() int {
	if len(l) == 0 {
		return 0
	}
	return l[len(l)-1].end
}

// common returns the records that two logs have in common from the front on.
func (l log) common(m log) log {
	n := 0
	for n < min(len(l), len(m)) && l[n] == m[n] {
		n++
	}
	return l[:n]
}

// lines returns the texts that are no marks.
func (l log) lines() []string {
	var out []string
	for _, r := range l {
		if r.text != "" {
			out = append(out, r.text)
		}
	}
	return out
}
