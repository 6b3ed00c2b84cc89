package studio

import "studwork/api"

// Indices of the numbers of a job.
const (
	numberN = iota
	numberM
	textBytes
	itemCount
	shapeW
	shapeD
	shapeH
	shapeCells
	plateCount
	useCount
	numberCount
)

// numbers tell how much there is in each field of a job: they are 0 for fields that are zero or empty.
type numbers [numberCount]int

func numbersOf(j api.Job) numbers {
	return numbers{
		numberN:    j.N,
		numberM:    j.M,
		textBytes:  len(j.Text),
		itemCount:  len(j.Items),
		shapeW:     j.Shape.W,
		shapeD:     j.Shape.D,
		shapeH:     j.Shape.H,
		shapeCells: len(j.Shape.Cells),
		plateCount: len(j.Plates),
		useCount:   len(j.Uses),
	}
}

// named returns the indices of the numbers that a kind of jobs may have; none if there is no such kind.
func named(kind uint8) []int {
	switch kind {
	case api.JobLoad:
		return []int{textBytes}
	case api.JobPrint, api.JobDrop, api.JobStand, api.JobBuild, api.JobBuy:
		return []int{numberN}
	case api.JobInline, api.JobGuide:
		return []int{numberN, numberM}
	case api.JobStock:
		return []int{itemCount}
	case api.JobCompose:
		return []int{textBytes, shapeW, shapeD, shapeH, shapeCells, plateCount, useCount}
	}
	return nil
}

// CheckJob returns ErrArg unless a job is valid (P10.1).
func CheckJob(j api.Job) api.Errno {
	free := named(j.Kind)
	others := numbersOf(j)
	for _, i := range free {
		others[i] = 0
	}
	if len(free) == 0 || others != (numbers{}) {
		return api.ErrArg
	}
	return api.OK
}
