/- The contract of the reference's Quo. -/
import Derived.Test.YtodnllopokoicaaGreatRG16
import Derived.Test.YtodnllopokoicaaGreatRG1
import Derived.Test.YtodnllopokoicaaGreatRG3
import Derived.Deep.DeepCutAuto
import Derived.Deep.Light
namespace Go.Proofs.YtodnllopokoicaaGreat.NumK
open Go.RowKit

def wqB (x n : Int) : Bool := decide (0 < n) && isMoney (x / n)
end Go.Proofs.YtodnllopokoicaaGreat.NumK
namespace Go.Proofs.YtodnllopokoicaaGreat.NumK
open Go.RowKit

theorem wshare_any (a b c : Int) (w : World) (ha : -9223372036854775808 ≤ a ∧ a ≤ 9223372036854775807) (hb : -9223372036854775808 ≤ b ∧ b ≤ 9223372036854775807) (hc : c ≤ 9223372036854775807) :
    Calls Tryz.prog 70 #[.int .i64 a, .int .i64 b, .int .i64 c] w fun e w' => e = .returned (.tuple #[.int .i64 (wqV (a * b) c), .int .i64 (wqE (a * b) c)]) ∧ Grew w w' := by
  have CT := fun w => wtimes_any a b w ha hb
  have hx : isWide (a * b) = true := by
    obtain ⟨t1, t2, t3⟩ := times_arith a b ha hb
    rw [isWide_iff]
    generalize a * b = p at *
    generalize a.natAbs * b.natAbs = P at *
    omega
  have CQ := fun w => wquo_any (a * b) c w hx hc
  generalize a * b = x at *
  go_enter Tryz.func70, Tryz.ntmps70
  go_wp2_with (first
    | (go_at_call 92; ((with_reducible refine (CT _).mono ?_); rintro e w1 ⟨rfl, hg1⟩))
    | (go_at_call 121; ((with_reducible refine (CQ _).mono ?_); rintro e w2 ⟨rfl, hg2⟩)))
  go_ret2
  exact ⟨rfl, grew_trans hg1 hg2⟩
end Go.Proofs.YtodnllopokoicaaGreat.NumK
