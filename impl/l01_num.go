package impl

import "strconv"

const MaxVarint = 562949953421311

const (
	maxFixedWidth = 7
	maxVarintSize = 7
	maxParsedInt  = 999999999
	hexDigits     = "0123456789abcdef"
)

// EncodeFixed returns n as width bytes, most significant byte first.
func EncodeFixed(n int, width int) string {
	if width < 1 || width > maxFixedWidth || n < 0 || n >= 1<<(8*width) {
		return ""
	}
	out := make([]byte, width)
	for i := width - 1; i >= 0; i-- {
		out[i] = byte(n)
		n >>= 8
	}
	return string(out)
}

// DecodeFixed returns the number that the first width bytes of s encode.
func DecodeFixed(s string, width int) (int, bool) {
	if width < 1 || width > maxFixedWidth || len(s) < width {
		return 0, false
	}
	n := 0
	for i := range width {
		n = n<<8 | int(s[i])
	}
	return n, true
}

// EncodeVarint returns the shortest LEB128 form of n.
func EncodeVarint(n int) string {
	if n < 0 || n > MaxVarint {
		return ""
	}
	out := make([]byte, 0, maxVarintSize)
	for n >= 128 {
		out = append(out, byte(n&127|128))
		n >>= 7
	}
	return string(append(out, byte(n)))
}

// DecodeVarint returns the number whose varint begins s, and the length of
// that varint; 0 and 0 if there is none.
func DecodeVarint(s string) (int, int) {
	n := 0
	for i := range min(len(s), maxVarintSize) {
		n |= int(s[i]&127) << (7 * i)
		if s[i] >= 128 {
			continue
		}
		// A last group of 0 adds nothing, so a shorter form exists and this
		// one is not what EncodeVarint returns.
		if i > 0 && s[i] == 0 {
			return 0, 0
		}
		return n, i + 1
	}
	return 0, 0
}

// EncodeHex returns two lowercase hexadecimal digits for each byte of s.
func EncodeHex(s string) string {
	out := make([]byte, 0, 2*len(s))
	for i := range len(s) {
		out = append(out, hexDigits[s[i]>>4], hexDigits[s[i]&15])
	}
	return string(out)
}

// DecodeHex returns the string for which EncodeHex returns s.
func DecodeHex(s string) (string, bool) {
	if len(s)%2 != 0 {
		return "", false
	}
	out := make([]byte, len(s)/2)
	// Every digit is one byte long and anything else ends the loop, so the
	// place of a rune is also its number.
	for i, r := range s {
		digit, ok := hexValue(r)
		if !ok {
			return "", false
		}
		out[i/2] = out[i/2]<<4 | digit
	}
	return string(out), true
}

// hexValue returns the value of a lowercase hexadecimal digit.
func hexValue(r rune) (byte, bool) {
	switch {
	case '0' <= r && r <= '9':
		return byte(r - '0'), true
	case 'a' <= r && r <= 'f':
		return byte(r-'a') + 10, true
	}
	return 0, false
}

// FormatInt returns n in decimal without leading zeros.
func FormatInt(n int) string {
	return strconv.Itoa(n)
}

// ParseInt returns the number of at most 9 digits that FormatInt formats as s.
func ParseInt(s string) (int, bool) {
	n, err := strconv.Atoi(s)
	if err != nil || n < -maxParsedInt || n > maxParsedInt {
		return 0, false
	}
	// Atoi also reads a leading + or zeros and -0, which FormatInt never writes.
	if FormatInt(n) != s {
		return 0, false
	}
	return n, true
}
