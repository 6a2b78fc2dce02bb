package seg

// The kinds of options that are known: what ends them, what is one byte long, and the MSS. All others are passed over.
const (
	endKind = 0
	oneKind = 1
	mssKind = 2
)

// How an option's bytes lie: its kind, its length, and what it tells.
const (
	lengthAt = 1
	toldAt   = 2
	mssSize  = toldAt + wordSize
)

// optionsOf is the options of a segment that tells this MSS, if it does.
func optionsOf(mss int) string {
	if mss == 0 {
		return ""
	}
	return number(mssKind, byteSize) + number(mssSize, byteSize) + number(mss, wordSize)
}

// readOptions is the MSS that options tell last, 0 if they tell none; false, if they are not as options should be.
func readOptions(options string) (int, bool) {
	mss := 0
	for options != "" && options[0] != endKind {
		n, ok := sizeOfOption(options)
		if !ok {
			return 0, false
		}
		if options[0] == mssKind {
			mss = word(options, toldAt)
		}
		options = options[n:]
	}
	return mss, true
}

// sizeOfOption is how many bytes the option has that options begin with; false, if it is not as it should be.
func sizeOfOption(options string) (int, bool) {
	if options[0] == oneKind {
		return 1, true
	}
	if len(options) <= lengthAt {
		return 0, false
	}
	n := int(options[lengthAt])
	if n < toldAt || n > len(options) || options[0] == mssKind && n != mssSize {
		return 0, false
	}
	return n, true
}
