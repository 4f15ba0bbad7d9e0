/- A slice of bytes among a law's arguments. -/
import Derived.Test.YtogncnoheodgbaaBytes
namespace Go.Proofs.Ytogncnoheodgbaa.NumK
open Go.RowKit
theorem opens_bytes : Opens Try.prog 23 (spSlice (spInt .u8)) := opens_slice Try.underlying23 (by kernel_rfl) (opens_int Try.underlying5 (by kernel_rfl)) (by decide)
end Go.Proofs.Ytogncnoheodgbaa.NumK
