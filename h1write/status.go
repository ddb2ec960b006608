package h1write

// Statuses that three digits can write, and the one that stands for any other.
const (
	leastStatus    = 100
	greatestStatus = 999
	otherStatus    = 500
)

// counted is what a status counts as.
func counted(status int) int {
	if status < leastStatus || status > greatestStatus {
		return otherStatus
	}
	return status
}

// Reason is a status' phrase.
func Reason(status int) string {
	switch status {
	case 100:
		return "Continue"
	case 200:
		return "OK"
	case 204:
		return "No Content"
	case 206:
		return "Partial Content"
	case 304:
		return "Not Modified"
	case 400:
		return "Bad Request"
	case 404:
		return "Not Found"
	case 405:
		return "Method Not Allowed"
	case 408:
		return "Request Timeout"
	case 410:
		return "Gone"
	case 412:
		return "Precondition Failed"
	case 413:
		return "Content Too Large"
	case 414:
		return "URI Too Long"
	case 416:
		return "Range Not Satisfiable"
	case 417:
		return "Expectation Failed"
	case 421:
		return "Misdirected Request"
	case 431:
		return "Request Header Fields Too Large"
	case 500:
		return "Internal Server Error"
	case 501:
		return "Not Implemented"
	case 503:
		return "Service Unavailable"
	case 505:
		return "HTTP Version Not Supported"
	}
	return "Status"
}
