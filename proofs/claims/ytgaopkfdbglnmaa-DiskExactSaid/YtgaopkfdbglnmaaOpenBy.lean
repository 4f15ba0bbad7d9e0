/- A slice of bytes among a law's arguments. -/
import Derived.Test.YtgaopkfdbglnmaaBytes
namespace Go.Proofs.Ytgaopkfdbglnmaa.NumK
open Go.RowKit
theorem opens_bytes : Opens Try.prog 44 (spSlice (spInt .u8)) := opens_slice Try.underlying44 (by kernel_rfl) (opens_int Try.underlying5 (by kernel_rfl)) (by decide)
end Go.Proofs.Ytgaopkfdbglnmaa.NumK
