/- frame: Seal. -/
import Derived.Test.YtogncnoheodgbaaFrameE
namespace Go.Proofs.Ytogncnoheodgbaa.NumK
open Go.RowKit

/-- What a slice of the call's own is, its capacity too. -/
theorem bys_own2 {w : World} {base : Nat} {e : TypeId} {v : Value} {n : Nat} {l : List UInt8} (h : w.ownsRow base e 1 v n (l.map byv)) :
    ∃ A c, v = .slice A n c ∧ Bys w A n l ∧ (A = none → c = 0) ∧ n ≤ c ∧ c ≤ 9223372036854775807 ∧ ∀ w0 : World, w0.heap.size ≤ base → FreshB w0 w A n c := by
  obtain ⟨A, c, rfl, h1, h2, h3⟩ := bys_of_own h
  refine ⟨A, c, rfl, h1, h2, ?_, ?_, h3⟩
  · rcases h.2 with ⟨e1, e2⟩ | ⟨g, cap, cur, e1, _, _, h4, _⟩
    · cases e1; omega
    · cases e1; exact h4
  · rcases h.2 with ⟨e1, e2⟩ | ⟨g, cap, cur, e1, _, _, _, h4, _⟩
    · cases e1; omega
    · cases e1; unfold maxLen at h4; omega
theorem ownB_keep {w w' : World} {base : Nat} {e : TypeId} {v : Value} {n : Nat} {xs : List Value} (h : w.ownsRow base e 1 v n xs) (g : Grew w w') : w'.ownsRow base e 1 v n xs := by
  obtain ⟨h1, h2⟩ := h
  refine ⟨h1, ?_⟩
  rcases h2 with h2 | ⟨k, cap, cur, e1, e2, e3, e4⟩
  · exact Or.inl h2
  · exact Or.inr ⟨k, cap, cur, e1, e2, (g.block k (own_at_lt e3)).trans e3, e4⟩
theorem ownB_low {w : World} {base low : Nat} {e : TypeId} {v : Value} {n : Nat} {xs : List Value} (h : w.ownsRow base e 1 v n xs) (g : low ≤ base) : w.ownsRow low e 1 v n xs := by
  obtain ⟨h1, h2⟩ := h
  refine ⟨h1, ?_⟩
  rcases h2 with h2 | ⟨k, cap, cur, e1, e2, e3, e4⟩
  · exact Or.inl h2
  · exact Or.inr ⟨k, cap, cur, e1, Nat.le_trans g e2, e3, e4⟩
theorem ownB_lit (w : World) (x : UInt8) (t : TypeId) (z : Int) (hz : z = (x.toNat : Int)) : (w.alloc (.cells #[.int .u8 z] t)).ownsRow w.heap.size t 1 (.slice (some ⟨w.heap.size, 0, none⟩) 1 1) 1 (([x] : List UInt8).map byv) := by
  subst hz
  exact ⟨rfl, .inr ⟨w.heap.size, 1, _, rfl, Nat.le_refl _, heap_alloc_new w _, Nat.le_refl _, by unfold maxLen; omega, rfl, rfl⟩⟩

/-- The run of 'make([]byte, 0, n)'. -/
theorem run_u8cap (w : World) (n : Nat) (hn : n ≤ 140737488355328) : (Instr.makeSlice 23 (.int .i64 0) (.int .i64 n)).run Try.prog w = .ok (.slice (some ⟨w.heap.size, 0, none⟩) 0 n) (w.alloc (.cells (madeCells #[.int .u8 0] n) 5)) := by
  obtain ⟨i, hi, hz0, hz1, hz2⟩ := info_parts info_u8
  have := run_make (P := Try.prog) w 23 5 i (.int .u8 0) Try.underlying23 hi hz0 .i64 .i64 0 n (by omega) (by omega) (by rw [hz2]; omega) (by omega)
  simpa [hz1, Value.cells] using this

def mayI (gen no : Int) (n : Nat) : Int := if gen < 0 ∨ 1099511627776 < gen ∨ no < 0 ∨ 2147483647 < no then 3 else if 65536 < n then 5 else 0
/-- What Seal tells. -/
def SealPost (gen no : Int) (l : List UInt8) (w : World) (e : Ending) (w' : World) : Prop :=
  Grew w w' ∧ ((mayI gen no l.length ≠ 0 ∧ e = .returned (.tuple #[.slice none 0 0, .int .i64 (mayI gen no l.length)])) ∨
    (mayI gen no l.length = 0 ∧ ∃ v, e = .returned (.tuple #[v, .int .i64 0]) ∧ w'.ownsRow w.heap.size 5 1 v (l.length + 21) ((frameB gen.toNat no.toNat l).map byv)))

set_option maxHeartbeats 1000000 in
theorem seal_arg (gen no : Int) (v : Value) (w : World) (h : gen < 0 ∨ 1099511627776 < gen ∨ no < 0 ∨ 2147483647 < no) :
    Calls Try.prog 14 #[.int .i64 gen, .int .i64 no, v] w fun e w' => e = .returned (.tuple #[.slice none 0 0, .int .i64 3]) ∧ w = w' := by
  by_cases h1 : gen < 0
  · clear h
    go_enter Try.func14, Try.ntmps14
    go_wp2
    go_ret2
    exact ⟨rfl, rfl⟩
  · by_cases h2 : 1099511627776 < gen
    · clear h
      go_enter Try.func14, Try.ntmps14
      go_wp2
      go_ret2
      exact ⟨rfl, rfl⟩
    · by_cases h3 : no < 0
      · clear h
        go_enter Try.func14, Try.ntmps14
        go_wp2
        go_ret2
        exact ⟨rfl, rfl⟩
      · have h4 : 2147483647 < no := by omega
        clear h
        go_enter Try.func14, Try.ntmps14
        go_wp2
        go_ret2
        exact ⟨rfl, rfl⟩
set_option maxHeartbeats 1000000 in
theorem seal_long (gen no : Int) (A : Option Addr) (n c : Nat) (w : World) (h1 : ¬ gen < 0) (h2 : ¬ 1099511627776 < gen) (h3 : ¬ no < 0) (h4 : ¬ 2147483647 < no) (hn : 65536 < n) :
    Calls Try.prog 14 #[.int .i64 gen, .int .i64 no, .slice A n c] w fun e w' => e = .returned (.tuple #[.slice none 0 0, .int .i64 5]) ∧ w = w' := by
  have d : (65536 : Int) < (n : Int) := by omega
  clear hn
  go_enter Try.func14, Try.ntmps14
  go_wp2
  go_ret2
  exact ⟨rfl, rfl⟩
end Go.Proofs.Ytogncnoheodgbaa.NumK
