/- A pair of logs: step. -/
import Derived.Test.YthnhhhfjgbgpgaaRLxG
import Derived.Test.YthnhhhfjgbgpgaaRLxI
namespace Go.Proofs.Ythnhhhfjgbgpgaa.NumK
open Go.RowKit

theorem pstep_any {N : Nat → Prop} {w0 w : World} {pb d q lb lr : Nat} {s : DS} {l : LS} (x : At7) (A2 : Option Addr) (n2 c2 : Nat) (A3 : Option Addr) (n3 c3 : Nat) (A4 : Option Addr) (n4 c4 : Nat) (hI : At7In w0 x A2 A3 A4 n2 c2 n3 c3 n4) (hLt : Light x) (hN : N pb) (hpb : w0.heap.size ≤ pb)
    (hC : PairC w pb (some ⟨lb, 0, none⟩) d (some ⟨lr, 0, none⟩) q) (h : SX N w0 w (PJ lb d s l) (RJ lr q s l)) (ho : s.off = false) (hn : s.opn.length ≤ 400000) (hsl : s.safe.length ≤ 300) (hs1 : 1 ≤ s.safe.length) :
    Calls Try.prog 8 #[.pointer (some ⟨pb, 0, none⟩), .agg #[.int .i64 x.K, .int .i64 x.N, .slice A2 n2 c2, .slice A3 n3 c3, .slice A4 n4 c4]] w (StepPost N w0 pb d q s) := by
  have h0 : 0 ≤ IntKind.u64.wrap x.K := by rw [IntKind.wrap_u64]; omega
  have h1 := Int.tmod_nonneg (10 : Int) h0
  have h2 := Int.tmod_lt_of_pos (IntKind.u64.wrap x.K) (show (0 : Int) < 10 by omega)
  rcases (by omega : (IntKind.u64.wrap x.K).tmod 10 = 4 ∨ (IntKind.u64.wrap x.K).tmod 10 = 5 ∨ (IntKind.u64.wrap x.K).tmod 10 = 6 ∨ (IntKind.u64.wrap x.K).tmod 10 = 7 ∨ (IntKind.u64.wrap x.K).tmod 10 = 8 ∨ (IntKind.u64.wrap x.K).tmod 10 = 9 ∨ (IntKind.u64.wrap x.K).tmod 10 < 4) with e | e | e | e | e | e | e
  · exact pstep_4 x A2 n2 c2 A3 n3 c3 A4 n4 c4 hI hLt hN hpb hC h ho hn hsl e
  · exact pstep_5 x A2 n2 c2 A3 n3 c3 A4 n4 c4 hI hLt hN hpb hC h ho hn hsl e
  · exact pstep_6 x A2 n2 c2 A3 n3 c3 A4 n4 c4 hI hLt hN hpb hC h ho hn hsl e
  · exact pstep_7 x A2 n2 c2 A3 n3 c3 A4 n4 c4 hI hLt hN hpb hC h ho hn hsl e
  · exact pstep_8 x A2 n2 c2 A3 n3 c3 A4 n4 c4 hI hLt hN hpb hC h ho hn hsl e
  · exact pstep_9 x A2 n2 c2 A3 n3 c3 A4 n4 c4 hI hLt hN hpb hC h ho hn hsl e hs1
  · exact pstep_0 x A2 n2 c2 A3 n3 c3 A4 n4 c4 hI hLt hN hpb hC h ho hn hsl ⟨((IntKind.u64.wrap x.K).tmod 10).toNat, by omega, by omega⟩
end Go.Proofs.Ythnhhhfjgbgpgaa.NumK
