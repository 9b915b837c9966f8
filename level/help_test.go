package level_test

import (
	"math"
	"strings"
)

// figures are numbers in, around and far from those that the chapter has, also such as have one of those as their lower bits.
func figures() []int {
	l := []int{math.MinInt, math.MinInt + 1, math.MinInt + 4, math.MinInt32, math.MaxInt32, math.MaxUint32, math.MaxInt - 1, math.MaxInt}
	for n := -300; n <= 600; n++ {
		l = append(l, n)
	}
	for n := range 50 {
		l = append(l, n+1<<8, n+1<<16, n+1<<31, n+1<<32, n-1<<31, n-1<<32, n+1<<62)
	}
	return l
}

// nearly are texts that are a name but for a little.
func nearly(name string) []string {
	l := []string{
		strings.ToLower(name), strings.ToUpper(name), strings.ToUpper(name[:1]) + strings.ToLower(name[1:]),
		" " + name, name + " ", name + "\n", name + "\x00", "\x00" + name, name + name, "\"" + name + "\"", name + ";", "_" + name, name + "_",
		strings.ReplaceAll(name, "_", ""), strings.ReplaceAll(name, "_", "-"), strings.TrimPrefix(name, "E_"), strings.TrimPrefix(name, "E_OS_"), strings.TrimPrefix(name, "E_COM_"),
		strings.Replace(name, "O", "\u041e", 1), // a letter that looks alike
	}
	for i := range len(name) {
		l = append(l, name[:i], name[i+1:], name[:i]+name[i+1:], name[:i]+name[i:i+1]+name[i:])
		for _, b := range []byte{name[i] ^ 1, name[i] ^ 32, name[i] ^ 128, 0} {
			l = append(l, name[:i]+string([]byte{b})+name[i+1:])
		}
	}
	return l
}

// strangers are texts that are no name of anything here.
func strangers() []string {
	return []string{"", " ", "0", "1", "4", "-1", "E", "E_", "E_OS", "E_OS_", "E_COM", "E_COM_", "E_NOT_OK", "E_OS_CALLLEVEL", "E_OS_DISABLED", "OK", "StatusType", "GetTaskId", "GetTaskStatus", "StopOS", "LevelTask", "TASK", "ISR", "ERROR", "RUNNING", "SUSPENDED", "\xff\xfe", "ä", strings.Repeat("ActivateTask", 10000)}
}
