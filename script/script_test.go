package script

import (
	"strings"
	"testing"
)

func run(t *testing.T, text, want string) {
	t.Helper()
	if got := Run(text); got != want {
		t.Errorf("%q\ngives %q\nwant  %q", text, got, want)
	}
}

const connected = "1 0 tcp\n1 0 bind 0 0.0.0.0 80\n1 0 listen 0 5\n1 0 accept 0\n0 0 tcp\n0 0 connect 0 10.0.0.2 80\nsettle 1\n"

func TestTheExamples(t *testing.T) {
	run(t, "0 0 tcp\n0 0 name 0\n0 0 recv 9 1\n", "0 0 0\n0 0 21\n0 0 20\n")
	run(t, "1 1 udp\n1 1 bind 0 10.0.0.2 9\n0 2 udp\n0 2 sendto 0 10.0.0.2 9 hi\n1 3 recvfrom 0 9\nsettle 3\n", "1 1 0\n1 1 0\n0 2 0\n0 2 0 n=2\n1 3 0 n=2 from=10.0.0.1:58516 hi\n")
}

func TestP25_1Calls(t *testing.T) {
	out := Run(connected)
	if !strings.HasPrefix(out, "1 0 0\n1 0 0\n1 0 0\n0 0 0\n0 0 0\n1 0 0 n=1 from=10.0.0.1:") || strings.Count(out, "\n") != 6 {
		t.Errorf("%q", out)
	}
	for _, c := range [][2]string{
		{"0 1 send 0 hello\nsettle 5\n1 1 recv 1 99\n", "0 1 0 n=5\n1 1 0 n=5 hello\n"},
		{"0 1 send 0 a%\x00\xff!~\x7f\t\nsettle 5\n1 1 recv 1 99\n", "0 1 0 n=8\n1 1 0 n=8 a%25%00%ff!~%7f%09\n"},
		{"1 1 name 1\n", "1 1 0 from=10.0.0.2:80\n"},
		{"0 1 peer 0\n", "0 1 0 from=10.0.0.2:80\n"},
		{"0 1 poll 0 7\n0 1 poll 0 1\n", "0 1 0 n=2\n0 1 0\n"},
		{"0 1 shut 0\n0 1 shut 0\nsettle 5\n1 1 recv 1 5\n", "0 1 0\n0 1 27\n1 1 0\n"},
		{"0 1 close 0\n0 1 close 0\n", "0 1 0\n0 1 20\n"},
		{"0 1 option 0 1 1\n0 1 recv 0 5\n0 1 option 0 4 1\n0 1 option 0 3 999999999\n", "0 1 0\n0 1 25\n0 1 21\n0 1 0\n"},
		{"0 1 recv 0 5\n0 1 recv 0 5\n1 1 send 1 x\nsettle 0\n", "0 1 37\n1 1 0 n=1\n0 1 0 n=1 x\n"},
		{"0 31 name 0\n0 32 name 0\n", "0 31 0 from=0.0.0.0:"},
		{"1 1 connect 1 10.0.0.1 9\n", "1 1 26\n"},
		{"1 1 recvfrom 1 9\n1 1 sendto 1 10.0.0.1 9 x\n1 1 accept 1\n1 1 listen 1 1\n", "1 1 36\n1 1 36\n1 1 21\n1 1 21\n"},
	} {
		if got := Run(connected + c[0]); !strings.HasPrefix(got, out+c[1]) {
			t.Errorf("%q gives %q, want %q", c[0], strings.TrimPrefix(got, out), c[1])
		}
	}
}

func TestP25_1Steps(t *testing.T) {
	sent := "0 0 udp\n0 0 sendto 0 10.0.0.2 9 x\n"
	done := "0 0 0\n0 0 0 n=1\n"
	for _, c := range [][2]string{
		{"flight\n", "1\n"},
		{"give 0\nflight\n", "1\n"},
		{"give 1\n", "error 7\n"},
		{"lose 0\nflight\nlose 0\n", "0\nerror 7\n"},
		{"twice 0\nflight\ntwice 2\n", "2\nerror 7\n"},
		{"alter 0 12 255\ngive 0\nflight\n", "0\n"},
		{"alter 0 12 0\ngive 0\nflight\n", "1\n"},
		{"alter 0 60 1\nalter 1 0 1\n", "error 7\nerror 7\n"},
		{"tick 10\nflight\ntick 0\ntick 1048577\n", "2\nerror 1\nerror 1\n"},
		{"tick 1\ntick 8\nflight\n", "1\n"},
		{"settle 0\nflight\nsettle 999999999\n", "0\n"},
		{strings.Repeat("twice 0\n", 256), "error 6\n"},
	} {
		run(t, sent+c[0], done+c[1])
	}
	run(t, sent+"0 1 recv 0 5\ngive 0\ngive 0\ngive 0\ngive 0\ngive 0\n", done+"error 7\n")
}

// TestP25_1Hosts: the addresses of the hosts, and that they have no gateways.
func TestP25_1Hosts(t *testing.T) {
	run(t, "0 0 udp\n0 0 sendto 0 10.0.0.255 9 x\nflight\n0 0 sendto 0 10.0.1.0 9 x\n1 0 udp\n1 0 bind 0 10.0.0.1 5\n1 0 bind 0 10.0.0.2 5\n0 0 bind 0 10.0.0.1 5\n", "0 0 0\n0 0 0 n=1\n1\n0 0 24\n1 0 0\n1 0 23\n1 0 0\n0 0 21\n")
	// The answer to host 0 becomes one to everybody, only if it went to the address that host 0 has; and so with host 1.
	run(t, "0 0 udp\n0 0 sendto 0 10.0.0.2 9 x\ngive 0\nalter 0 0 253\nalter 0 1 255\nalter 0 2 255\nalter 0 3 255\nalter 0 4 255\nalter 0 5 254\ngive 0\nflight\nalter 0 0 253\nalter 0 1 255\nalter 0 2 255\nalter 0 3 255\nalter 0 4 255\nalter 0 5 253\ngive 0\nflight\n", "0 0 0\n0 0 0 n=1\n1\n1\n")
}

func TestP25_1NoForm(t *testing.T) {
	for _, line := range []string{
		"x", " ", "0", "0 0", "0 0 xyz", "2 0 tcp", "00 0 tcp", "0 0 tcp ", " 0 0 tcp", "0  0 tcp", "0 0  tcp", "0 0 tcp 1", "0 0 TCP", "0 0 tcp\r", "0 x tcp", "0 -1 tcp", "0 01 tcp", "0 1234567890 tcp",
		"0 0 bind", "0 0 bind 0 10.0.0.1", "0 0 bind 0 10.0.0 9", "0 0 bind 0 10.0.0.01 9", "0 0 bind 0 10.0.0.1 9 9", "0 0 bind x 10.0.0.1 9", "0 0 bind 0 10.0.0.1 09", "0 0 bind 0 10.0.0.1 x",
		"0 0 listen 0", "0 0 listen 0 x", "0 0 accept", "0 0 accept 0 0", "0 0 connect 0 80", "0 0 send 0", "0 0 send 0 ", "0 0 send 0 a b", "0 0 recv 0", "0 0 recv 0 1 1", "0 0 sendto 0 10.0.0.1 9", "0 0 sendto 0 10.0.0.1 9 a b", "0 0 recvfrom 0",
		"0 0 shut", "0 0 close", "0 0 option 0 1", "0 0 option 0 1 -1", "0 0 poll 0", "0 0 name", "0 0 peer 0 0",
		"give", "give x", "give 0 0", "give -1", "lose", "twice", "alter 0 0", "alter 0 0 256", "alter 0 0 0 0", "alter x 0 0", "tick", "tick 1 1", "tick 01", "settle", "settle 1234567890", "settle +1", "flight 0", "flight ", "Flight", "\xff\x00", "give\t0", "0 0 tcp\v",
	} {
		run(t, line+"\n", "? "+line+"\n")
		run(t, line, "? "+line+"\n")
	}
	for _, line := range []string{"0 999999999 tcp", "0 0 recv 999999999 999999999", "1 0 bind 0 255.255.255.255 999999999"} {
		if got := Run(line); strings.HasPrefix(got, "?") || strings.Count(got, "\n") != 1 {
			t.Errorf("%q: %q", line, got)
		}
	}
}

func TestP25_2NoOutput(t *testing.T) {
	run(t, "", "")
	run(t, "\n", "")
	run(t, "\n\n# 0 0 tcp\n#\n#x\n\n", "")
	run(t, "#", "")
	run(t, " #\n", "?  #\n")
	run(t, "flight\n\n#\nflight", "0\n0\n")
}

func TestP25_3Beginnings(t *testing.T) {
	lines := strings.SplitAfter(connected+"0 1 send 0 hello\nx y z\nsettle 5\n1 1 recv 1 3\n\n# no\ngive 7\n1 1 recv 1 9\n1 1 close 1\nsettle 50\n0 1 recv 0 1\nflight", "\n")
	all := Run(strings.Join(lines, ""))
	for i := range lines {
		first := strings.Join(lines[:i], "")
		if !strings.HasPrefix(all, Run(first)) {
			t.Errorf("not the beginning: %q", first)
		}
	}
}

func TestP25_4OnlyTheScript(t *testing.T) {
	x := uint32(1)
	draw := func(n int) int {
		x = x*1664525 + 1013904223
		return int(x>>8) % n
	}
	words := []string{"0", "1", "2", "3", "80", "10.0.0.1", "10.0.0.2", "tcp", "udp", "bind", "listen", "accept", "connect", "send", "recv", "sendto", "recvfrom", "shut", "close", "option", "poll", "name", "peer", "give", "lose", "twice", "alter", "tick", "settle", "flight", "x", "%", ""}
	for range 200 {
		var text strings.Builder
		for range 60 {
			for k := range 1 + draw(6) {
				if k > 0 {
					text.WriteByte(' ')
				}
				text.WriteString(words[draw(len(words))])
			}
			text.WriteByte('\n')
		}
		s := connected + text.String()
		first := Run(s)
		Run(connected)
		if Run(s) != first {
			t.Fatal("another output of the same script")
		}
	}
}
