/- Dues written over and again; what the laws of net wake; dues among the arguments. -/
import Derived.Test.YtlmnbafklefmcaaRG9
import Derived.Test.YtlmnbafklefmcaaRG12
import Derived.Test.YtlmnbafklefmcaaRG2
namespace Go.Proofs.Ytlmnbafklefmcaa.NumK
open Go.RowKit Go.Maps
set_option linter.unusedVariables false

theorem rowE_lit {α : Type} (E : En α) (l : List α) (w : World) (t : TypeId) (cs : Array Value) (hc : cs = (l.flatMap E.cs).toArray) (N n : Nat) (hN : w.heap.size = N) (hn : l.length = n) (hm : n ≤ 1000000) : RowE E (w.alloc (.cells cs t)) (some ⟨N, 0, none⟩) n l := by
  subst hN hc hn
  have h : OwnE E (w.alloc (.cells (l.flatMap E.cs).toArray t)) w.heap.size t (.slice (some ⟨w.heap.size, 0, none⟩) l.length l.length) l :=
    ⟨E.flat_len l, Or.inr ⟨w.heap.size, l.length, (l.flatMap E.cs).toArray, rfl, Nat.le_refl _, World.alloc_heap_new w _, Nat.le_refl _, by unfold maxLen; omega, by rw [List.size_toArray, E.flat_len], List.take_of_length_le (by rw [← E.flat_len]; exact Nat.le_refl _)⟩⟩
  obtain ⟨A, c, he, hr, -⟩ := h.form
  cases he
  exact hr

theorem twinDues_any (A : Option Addr) (n c : Nat) (l : List D3) (w : World) (h : RowE enD3 w A n l) (hc : A = none → c = 0) (hn : n ≤ 1000000) :
    Calls Try.prog 8 #[.slice A n c] w fun e w' => ∃ B d, e = .returned (.slice B n d) ∧ OwnE enD3 w' w.heap.size 42 (.slice B n d) l ∧ Grew w w' := by
  have HI := Lib.hid h
  have HL := Lib.hid h.len
  clear h
  go_enter Try.func8, Try.ntmps8
  go_wp2_with (at_builtin; refine (wpList_append_E rfl _ _ 22 42 (vD3 (0, 0, 0)) 24 rfl Try.underlying22 infoD3 rfl w.heap.size _ [] rfl (OwnE.nil enD3 _ _ _) A n c l rfl hc HI.out (by simp; unfold maxLen; omega) (by simp; omega) (Nat.le_refl _) ?_); intro v' w1 ho hb; rw [List.nil_append] at ho; obtain ⟨B1, d1, rfl, -⟩ := ho.form; have HO := Lib.hid ho; have HG := Lib.hid hb; clear ho hb)
  have e1 := HL.out
  subst e1
  go_ret
  exact ⟨B1, d1, rfl, HO.out, HG.out⟩

def wkN : List D3 := [(1, 0, 5), (2, 0, 3), (1, 0, -7), (2, 0, -3)]
theorem wkN_net : netE wkN = 0 ∧ netL wkN = [(1, 0, -2)] := by decide
set_option maxRecDepth 100000 in
theorem wakes17_any (w : World) : Calls Try.prog 19 #[] w fun e w' => e = .returned (.bool true) ∧ Grew w w' := by
  have C : ∀ (W : World) (N : Nat), W.heap.size = N → Calls Try.prog 9 #[.slice (some ⟨N, 0, none⟩) 4 4] (W.alloc (.cells #[.int .i64 1, .int .i64 0, .int .i64 5, .int .i64 2, .int .i64 0, .int .i64 3, .int .i64 1, .int .i64 0, .int .i64 (-7), .int .i64 2, .int .i64 0, .int .i64 (-3)] 42)) (NetPost wkN (W.alloc (.cells #[.int .i64 1, .int .i64 0, .int .i64 5, .int .i64 2, .int .i64 0, .int .i64 3, .int .i64 1, .int .i64 0, .int .i64 (-7), .int .i64 2, .int .i64 0, .int .i64 (-3)] 42))) :=
    fun W N hN => net_any _ 4 4 wkN _ (rowE_lit enD3 wkN W _ _ rfl N 4 hN rfl (by omega)) (by decide) (by omega)
  unfold NetPost at C
  rw [wkN_net.1, wkN_net.2] at C
  go_enter Try.func19, Try.ntmps19
  go_wp2_with (go_at_call 9; ((with_reducible refine (C _ _ rfl).mono ?_); rintro e w1 ⟨v, rfl, ho, hg⟩; obtain ⟨B, d, rfl, hr, -, -, -⟩ := ho.form; obtain ⟨b, o, rfl, hb, hc⟩ := hr.rD3 (j := 0) (by simp); obtain ⟨a0, a1, a2⟩ := hc 0 (by simp); simp only [List.getD_cons_zero, Nat.zero_mul, Nat.add_zero] at a0 a1 a2))
  go_ret
  exact ⟨rfl, grew_trans (grew_alloc _ _ _) hg⟩

/-! ### among the arguments -/
theorem wf_bd {x : Int} (h : (Lit.int .i64 x).wf = true) : -9223372036854775808 ≤ x ∧ x ≤ 9223372036854775807 := by
  simp [Lit.wf, IntKind.min, IntKind.max, IntKind.signed, IntKind.bits] at h
  omega
theorem due_rd {w : World} {cs : List Value} {a : D3} (h : spDu3.rd w cs a) : cs = enD3.cs a ∧ okDk (keyD a) = true := by
  obtain ⟨c1, d1, rfl, ⟨rfl, h1⟩, c2, d2, rfl, ⟨rfl, h2⟩, rfl, h3⟩ := h
  refine ⟨rfl, (okDk_iff _).2 ⟨wf_bd h1, wf_bd h2⟩⟩
theorem dues_in {w : World} {A : Option Addr} {n : Nat} {l : List D3} (h : Row spDu3 w A n l) : RowE enD3 w A n l ∧ ∀ d ∈ l, okDk (keyD d) = true := by
  refine ⟨rowE_of rfl (fun _ _ _ h => (due_rd h).1) h, fun d hd => ?_⟩
  obtain ⟨h1, h2⟩ := h
  obtain ⟨i, hi, rfl⟩ := List.getElem_of_mem hd
  obtain ⟨b, o, -, -, hc⟩ := h2 (by omega)
  obtain ⟨cs, hr, -⟩ := hc i hi
  exact (due_rd hr).2
end Go.Proofs.Ytlmnbafklefmcaa.NumK
