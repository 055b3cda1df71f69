package sample

// Spoilt returns a text in which a byte is one of some others, or is there no more, or twice.
func Spoilt(p *Picks, text, some string) string {
	if text == "" {
		return text
	}
	at := p.Below(len(text))
	switch p.Below(3) {
	case 0:
		return text[:at] + text[at+1:]
	case 1:
		return text[:at] + text[at:at+1] + text[at:]
	}
	k := p.Below(len(some))
	return text[:at] + some[k:k+1] + text[at+1:]
}
