/- Package wide: Int (Wide3's, over WideS). -/
import Derived.Test.YtafglljfgoeapaaRA2
import Derived.Test.YtafglljfgoeapaaRA
import Derived.Deep.RegionHeld3
import Derived.Deep.RegionWith
import Derived.Laws.Externs
namespace Go.Proofs.Ytafglljfgoeapaa.NumK
open Go.RowKit

theorem right1 (n : Int) (b : Bool) (h : isMoney n = b) (w : World) :
    Calls Try.prog 45 #[.slice (some ⟨w.heap.size, 0, none⟩) 1 1] (w.alloc (.cells #[.int .i64 n] 3)).drew fun e w' => e = .returned (.bool b) ∧ (w.alloc (.cells #[.int .i64 n] 3)).drew = w' := by
  have C := right_any (some ⟨w.heap.size, 0, none⟩) 1 1 [n] _ ((ints1 w n 3).keep (grew_drew (grew_refl _))) (by omega)
  have e : [n].all isMoney = b := by simp [h]
  rw [e] at C
  exact C

set_option maxHeartbeats 1000000 in
theorem wint_money (x : Int) (w : World) (h : isMoney x = true) :
    Calls Try.prog 61 #[(.agg #[.int .i64 (hi64 (x)), .int .u64 (lo64 (x))])] w fun e w' => e = .returned (.tuple #[.int .i64 (capV x), .int .i64 (capE x)]) ∧ Grew w w' := by
  have hx := (isMoney_iff x).1 h
  have b1 := lo_bounds x
  have L : wrap64 (lo64 x) = x := by unfold wrap64 lo64; omega
  have C1 := fun w => sign_any x w (by omega)
  rw [hi_of x (by omega)] at C1
  have C2 := right1 x true h
  have E1 := Lib.hid (capV_in h)
  have E2 := Lib.hid (capE_in h)
  clear h hx b1
  generalize hi64 x = hh at *
  generalize lo64 x = l at *
  go_enter Try.func61, Try.ntmps61
  go_wp2
  have h0 : (w.alloc (.cells #[.int .i64 hh, .int .u64 l] 86)).cell? ⟨w.heap.size, 0, none⟩ = some (.int .i64 hh) ∧ (w.alloc (.cells #[.int .i64 hh, .int .u64 l] 86)).cell? ⟨w.heap.size, 1, none⟩ = some (.int .u64 l) ∧ w.heap.size < (w.alloc (.cells #[.int .i64 hh, .int .u64 l] 86)).heap.size ∧ Grew w (w.alloc (.cells #[.int .i64 hh, .int .u64 l] 86)) := ⟨by simp, by simp, by simp, grew_alloc _ _ _⟩
  generalize w.alloc (.cells #[.int .i64 hh, .int .u64 l] 86) = w0 at h0 ⊢
  obtain ⟨h1, h2, h3, h4⟩ := h0
  go_region_held3 (fun w' => w'.cell? ⟨w.heap.size, 0, none⟩ = some (.int .i64 hh) ∧ w'.cell? ⟨w.heap.size, 1, none⟩ = some (.int .u64 l) ∧ w.heap.size < w'.heap.size ∧ Grew w w')
    (first
      | (exact keep2 (grew_drew (grew_refl _)) h1 h2 h3 h4)
      | (exact keep2 (grew_drew (grew_alloc _ _ _)) h1 h2 h3 h4)
      | (trace_state; fail))
    (first
      | (go_at_call 68; refine (C1 _).mono ?_; rintro e w1 ⟨rfl, rfl⟩)
      | (go_at_call 45; refine (C2 _).mono ?_; rintro e w2 ⟨rfl, rfl⟩))
  rename_i hS
  go_wp2
  go_ret2
  exact ⟨ret2 E1.out.symm E2.out.symm, hS.2.2.2⟩
set_option maxHeartbeats 1000000 in
theorem wint_near (x : Int) (w : World) (h : isMoney x = false) (L : wrap64 (lo64 x) = x) :
    Calls Try.prog 61 #[(.agg #[.int .i64 (hi64 (x)), .int .u64 (lo64 (x))])] w fun e w' => e = .returned (.tuple #[.int .i64 (capV x), .int .i64 (capE x)]) ∧ Grew w w' := by
  have b1 := lo_bounds x
  have bn : -9223372036854775808 ≤ wrap64 (lo64 x) ∧ wrap64 (lo64 x) ≤ 9223372036854775807 := by unfold wrap64; omega
  rw [L] at bn
  have C1 := fun w => sign_any x w bn
  rw [hi_of x bn] at C1
  have C2 := right1 x false h
  have E1 := Lib.hid (capV_out h)
  have E2 := Lib.hid (capE_out h)
  clear h b1
  generalize hi64 x = hh at *
  generalize lo64 x = l at *
  go_enter Try.func61, Try.ntmps61
  go_wp2
  have h0 : (w.alloc (.cells #[.int .i64 hh, .int .u64 l] 86)).cell? ⟨w.heap.size, 0, none⟩ = some (.int .i64 hh) ∧ (w.alloc (.cells #[.int .i64 hh, .int .u64 l] 86)).cell? ⟨w.heap.size, 1, none⟩ = some (.int .u64 l) ∧ w.heap.size < (w.alloc (.cells #[.int .i64 hh, .int .u64 l] 86)).heap.size ∧ Grew w (w.alloc (.cells #[.int .i64 hh, .int .u64 l] 86)) := ⟨by simp, by simp, by simp, grew_alloc _ _ _⟩
  generalize w.alloc (.cells #[.int .i64 hh, .int .u64 l] 86) = w0 at h0 ⊢
  obtain ⟨h1, h2, h3, h4⟩ := h0
  go_region_held3 (fun w' => w'.cell? ⟨w.heap.size, 0, none⟩ = some (.int .i64 hh) ∧ w'.cell? ⟨w.heap.size, 1, none⟩ = some (.int .u64 l) ∧ w.heap.size < w'.heap.size ∧ Grew w w')
    (first
      | (exact keep2 (grew_drew (grew_refl _)) h1 h2 h3 h4)
      | (exact keep2 (grew_drew (grew_alloc _ _ _)) h1 h2 h3 h4)
      | (trace_state; fail))
    (first
      | (go_at_call 68; refine (C1 _).mono ?_; rintro e w1 ⟨rfl, rfl⟩)
      | (go_at_call 45; refine (C2 _).mono ?_; rintro e w2 ⟨rfl, rfl⟩))
  rename_i hS
  go_wp2
  go_ret2
  exact ⟨ret2 E1.out.symm E2.out.symm, hS.2.2.2⟩

set_option maxHeartbeats 1000000 in
theorem wint_far (x : Int) (w : World) (h : isMoney x = false) (hf : hi64 (wrap64 (lo64 x)) ≠ hi64 x) :
    Calls Try.prog 61 #[(.agg #[.int .i64 (hi64 (x)), .int .u64 (lo64 (x))])] w fun e w' => e = .returned (.tuple #[.int .i64 (capV x), .int .i64 (capE x)]) ∧ Grew w w' := by
  have b1 := lo_bounds x
  have bn : -9223372036854775808 ≤ wrap64 (lo64 x) ∧ wrap64 (lo64 x) ≤ 9223372036854775807 := by unfold wrap64; omega
  have C1 := fun w => sign_any (wrap64 (lo64 x)) w bn
  rw [hi_of _ bn] at C1
  have E1 := Lib.hid (capV_out h)
  have E2 := Lib.hid (capE_out h)
  have d1 : (hi64 x == hi64 (wrap64 (lo64 x))) = false := by simpa using (Ne.symm hf)
  have d2 : (hi64 x != hi64 (wrap64 (lo64 x))) = true := by simpa using (Ne.symm hf)
  clear h b1 hf
  generalize hi64 (wrap64 (lo64 x)) = hn at *
  generalize hi64 x = hh at *
  generalize lo64 x = l at *
  go_enter Try.func61, Try.ntmps61
  go_wp2
  first
  | (go_region_with (first
      | (go_at_call 68; refine (C1 _).mono ?_; rintro e w1 ⟨rfl, rfl⟩)))
  | fail
  all_goals
    go_wp2
    go_ret2
    exact ⟨ret2 E1.out.symm E2.out.symm, grew_drew (grew_alloc _ _ _)⟩

theorem wint_any (x : Int) (w : World) :
    Calls Try.prog 61 #[(.agg #[.int .i64 (hi64 (x)), .int .u64 (lo64 (x))])] w fun e w' => e = .returned (.tuple #[.int .i64 (capV x), .int .i64 (capE x)]) ∧ Grew w w' := by
  by_cases h : isMoney x = true
  · exact wint_money x w h
  · simp only [Bool.not_eq_true] at h
    by_cases hf : hi64 (wrap64 (lo64 x)) = hi64 x
    · refine wint_near x w h ?_
      have b1 := lo_bounds x
      have e1 := w_eq x
      have e2 := w_eq (wrap64 (lo64 x))
      have hl : lo64 (wrap64 (lo64 x)) = lo64 x := by unfold wrap64 lo64; omega
      rw [hf, hl] at e2
      omega
    · exact wint_far x w h hf
end Go.Proofs.Ytafglljfgoeapaa.NumK
namespace Go.Proofs.Ytafglljfgoeapaa.NumK
open Go.RowKit

theorem add64 (x y c : Int) (hx : 0 ≤ x) (hy : 0 ≤ y) (hc0 : 0 ≤ c) (hc : c ≤ 1) (w : World) : (callFunc 62 #[.int .u64 x, .int .u64 y, .int .u64 c]).run Try.prog w =
    .ok (.value (.tuple #[.int .u64 ((x + y + c) % 18446744073709551616), .int .u64 ((x + y + c) / 18446744073709551616)])) w := by
  rw [run_callFunc_extern Try.func62 (by kernel_rfl) (by kernel_rfl) (by kernel_rfl) (e := add64Entry) (by kernel_rfl), run_add64 x y c hx hy hc0 hc]
  rfl
theorem add64_0 (x y : Int) (hx : 0 ≤ x) (hy : 0 ≤ y) (w : World) : (callFunc 62 #[.int .u64 x, .int .u64 y, .int .u64 0]).run Try.prog w =
    .ok (.value (.tuple #[.int .u64 ((x + y) % 18446744073709551616), .int .u64 ((x + y) / 18446744073709551616)])) w := by
  simpa using add64 x y 0 hx hy (Int.le_refl 0) (by decide) w
theorem add64_named (x y c s d : Int) (hx : 0 ≤ x) (hy : 0 ≤ y) (hc0 : 0 ≤ c) (hc : c ≤ 1) (hs : s = (x + y + c) % 18446744073709551616) (hd : d = (x + y + c) / 18446744073709551616) (w : World) :
    (callFunc 62 #[.int .u64 x, .int .u64 y, .int .u64 c]).run Try.prog w = .ok (.value (.tuple #[.int .u64 s, .int .u64 d])) w := by
  rw [hs, hd]; exact add64 x y c hx hy hc0 hc w
end Go.Proofs.Ytafglljfgoeapaa.NumK
namespace Go.Proofs.Ytafglljfgoeapaa.NumK
open Go.RowKit

/-! ### a slice of wides -/
def wcells (x : Int) : List Value := [.int .i64 (hi64 x), .int .u64 (lo64 x)]
def Wides (w : World) (A : Option Addr) (n : Nat) (xs : List Int) : Prop :=
  xs.length = n ∧ (0 < n → ∃ b o, A = some ⟨b, o, none⟩ ∧ b < w.heap.size ∧ ∀ j, j < n → w.cell? ⟨b, o + j * 2, none⟩ = some (.int .i64 (hi64 (xs.getD j 0))) ∧ w.cell? ⟨b, o + j * 2 + 1, none⟩ = some (.int .u64 (lo64 (xs.getD j 0))))

theorem sum_take_succ (xs : List Int) (k : Nat) (h : k < xs.length) : (xs.take (k + 1)).sum = (xs.take k).sum + xs.getD k 0 := by
  rw [List.take_succ_eq_append_getElem h, List.sum_append]
  simp [List.getD, List.getElem?_eq_getElem h]

theorem wcells_len (xs : List Int) : (xs.flatMap wcells).length = xs.length * 2 := by
  induction xs with
  | nil => rfl
  | cons x xs ih => rw [List.flatMap_cons, List.length_append, ih]; simp [wcells]; omega
theorem wcells_at (xs : List Int) (j : Nat) (h : j < xs.length) : (xs.flatMap wcells)[j * 2]? = some (.int .i64 (hi64 (xs.getD j 0))) ∧ (xs.flatMap wcells)[j * 2 + 1]? = some (.int .u64 (lo64 (xs.getD j 0))) := by
  induction xs generalizing j with
  | nil => simp at h
  | cons x xs ih =>
    cases j with
    | zero => simp [wcells, List.flatMap_cons]
    | succ j =>
      have := ih j (by simpa using h)
      rw [List.flatMap_cons, show (j + 1) * 2 = j * 2 + 1 + 1 from by omega]
      simpa [wcells] using this

theorem wides_of_own {w : World} {base : Nat} {e : TypeId} {v : Value} {n : Nat} {xs : List Int} (h : w.ownsRow base e 2 v n (xs.flatMap wcells)) :
    ∃ A c, v = .slice A n c ∧ Wides w A n xs := by
  obtain ⟨hl, h⟩ := h
  rw [wcells_len] at hl
  have hl : xs.length = n := by omega
  rcases h with ⟨rfl, rfl⟩ | ⟨g, cap, cur, rfl, _, hh, _, _, _, ht⟩
  · exact ⟨none, 0, rfl, ⟨hl, fun h => absurd h (by omega)⟩⟩
  · refine ⟨some ⟨g, 0, none⟩, cap, rfl, ⟨hl, fun hn => ⟨g, 0, rfl, ?_, fun j hj => ?_⟩⟩⟩
    · rcases Nat.lt_or_ge g w.heap.size with h1 | h1
      · exact h1
      · rw [Array.getElem?_eq_none h1] at hh; cases hh
    · obtain ⟨w1, w2⟩ := wcells_at xs j (by omega)
      rw [cell_of_row w g (0 + j * 2) cur e (0, 0) hh, cell_of_row w g (0 + j * 2 + 1) cur e (0, 0) hh, Nat.zero_add]
      rw [← ht, List.getElem?_take, if_pos (by omega)] at w1 w2
      rw [Array.getElem?_toList] at w1 w2
      exact ⟨w1, w2⟩

theorem own_keep {w w2 : World} {base : Nat} {e : TypeId} {size : Nat} {v : Value} {n : Nat} {xs : List Value} (h : w.ownsRow base e size v n xs) (g : Grew w w2) : w2.ownsRow base e size v n xs := by
  obtain ⟨hl, h⟩ := h
  refine ⟨hl, ?_⟩
  rcases h with h | ⟨b, cap, cur, hv, hb, hh, r⟩
  · exact Or.inl h
  · refine Or.inr ⟨b, cap, cur, hv, hb, ?_, r⟩
    rw [g.block b ?_]
    · exact hh
    · rcases Nat.lt_or_ge b w.heap.size with h1 | h1
      · exact h1
      · rw [Array.getElem?_eq_none h1] at hh; cases hh

theorem info_wide : (Try.prog.info? 86).map (fun i => (i.zero, i.size, i.bytes)) = some (some (.agg #[.int .i64 0, .int .u64 0]), 2, 16) := by kernel_rfl

section
variable {w : World} {ops : Array Oper} {rest : List Oper} {o : Oper} {a : Act} {Q : Exit → Act → World → Prop}
theorem wpList_append_wide (hgd : o.guard = none) (s x : Operand)
    (ho : o.op = .call { callee := .builtin .append, args := #[s, x], argTypes := #[83, 83] })
    (base : Nat) (v : Value) (n : Nat) (xs : List Int) (hs : a.eval s = v) (hown : w.ownsRow base 86 2 v n (xs.flatMap wcells))
    (b c : Nat) (z : Int) (hx : a.eval x = .slice (some ⟨b, 0, none⟩) 1 c) (h0 : w.cell? ⟨b, 0, none⟩ = some (.int .i64 (hi64 z))) (h1 : w.cell? ⟨b, 1, none⟩ = some (.int .u64 (lo64 z)))
    (h63 : n + 1 ≤ 1000000) (hbase : base ≤ w.heap.size)
    (h : ∀ v' w', w'.ownsRow base 86 2 v' (n + 1) ((xs ++ [z]).flatMap wcells) → Below base w w' → wpList Try.prog ops Q rest (a.put o.dst v') w') : wpList Try.prog ops Q (o :: rest) a w := by
  obtain ⟨i, hi, hz0, hz1, hz2⟩ := info_parts info_wide
  refine wpList_append_own w hgd s x 83 ho base 86 i _ 2 16 Try.underlying83 hi hz0 hz1 hz2 rfl (by decide) v n _ hs hown ⟨b, 0, none⟩ 1 c (wcells z) hx
      rfl (fun j u hu => ?_) (fun u hu => ?_) (by unfold maxLen; omega) (by omega) hbase (fun v' w' ho' hg _ => ?_)
  · match j, hu with
    | 0, hu => simp [wcells] at hu; subst hu; simpa [Addr.add] using h0
    | 1, hu => simp [wcells] at hu; subst hu; simpa [Addr.add] using h1
    | j + 2, hu => simp [wcells] at hu
  · simp [wcells] at hu
    rcases hu with rfl | rfl <;> rfl
  · refine h v' w' (by rw [List.flatMap_append]; simpa using ho') ((Below.refl base w).grown hg hbase fun k hk => ?_)
    rcases hown.2 with ⟨rfl, _⟩ | ⟨g, cap, cur, rfl, hg', _⟩
    · simp [Value.ownBlock] at hk
    · simp [Value.ownBlock] at hk; omega
end

theorem take_map_succ (zs : List Int) (k : Nat) (h : k < zs.length) : zs.take k ++ [zs.getD k 0] = zs.take (k + 1) := by
  rw [List.take_succ_eq_append_getElem h]
  simp [List.getD, List.getElem?_eq_getElem h]

theorem sum_wide (zs : List Int) (hb : ∀ z ∈ zs, -9223372036854775808 ≤ z ∧ z ≤ 9223372036854775807) (hn : zs.length ≤ 1000000) : isWide zs.sum = true := by
  have key : ∀ l : List Int, (∀ z ∈ l, -9223372036854775808 ≤ z ∧ z ≤ 9223372036854775807) → -(l.length * 9223372036854775808) ≤ l.sum ∧ l.sum ≤ l.length * 9223372036854775808 := by
    intro l
    induction l with
    | nil => intro _; simp
    | cons z l ih =>
      intro h
      have h1 := h z (by simp)
      have h2 := ih fun y hy => h y (by simp [hy])
      simp only [List.sum_cons, List.length_cons]
      omega
  have := key zs hb
  rw [isWide_iff]
  omega

end Go.Proofs.Ytafglljfgoeapaa.NumK
namespace Go.Proofs.Ytafglljfgoeapaa.NumK
open Go.RowKit

theorem Wides.keep {w w' : World} {A : Option Addr} {n : Nat} {xs : List Int} (h : Wides w A n xs) (g : Grew w w') : Wides w' A n xs :=
  ⟨h.1, fun hn => by
    obtain ⟨b, o, e, hb, hc⟩ := h.2 hn
    exact ⟨b, o, e, Nat.lt_of_lt_of_le hb g.size, fun j hj => ⟨(grew_cell g (p := ⟨b, o + j * 2, none⟩) hb).trans (hc j hj).1, (grew_cell g (p := ⟨b, o + j * 2 + 1, none⟩) hb).trans (hc j hj).2⟩⟩⟩

def wideE (x : Int) : Int := if isWide x then 0 else 1

/-- The block of its own that a call laid first stands as it was. -/
theorem own_first {w w1 : World} {v0 v1 : Value} {t : TypeId} (h : Grew (w.alloc (.cells #[v0, v1] t)) w1) :
    w1.cell? ⟨w.heap.size, 0, none⟩ = some v0 ∧ w1.cell? ⟨w.heap.size, 1, none⟩ = some v1 ∧ w1.frozen? ⟨w.heap.size, 0, none⟩ = false ∧ w1.frozen? ⟨w.heap.size, 1, none⟩ = false ∧ w.heap.size < w1.heap.size := by
  have hs := h.size
  have hl : w.heap.size < (w.alloc (.cells #[v0, v1] t)).heap.size := by simp
  exact ⟨(Below.cell h (p := ⟨w.heap.size, 0, none⟩) hl).trans (by simp), (Below.cell h (p := ⟨w.heap.size, 1, none⟩) hl).trans (by simp),
    (Below.frozen h (p := ⟨w.heap.size, 0, none⟩) hl).trans (by simp), (Below.frozen h (p := ⟨w.heap.size, 1, none⟩) hl).trans (by simp), by omega⟩

theorem ret_we {x a b : Int} {p q : Int} (h1 : a = hi64 x) (h2 : b = lo64 x) (h3 : p = q) : Ending.returned (.tuple #[.agg #[.int .i64 a, .int .u64 b], .int .i64 p]) = .returned (.tuple #[(.agg #[.int .i64 (hi64 (x)), .int .u64 (lo64 (x))]), .int .i64 q]) := by rw [h1, h2, h3]

set_option maxRecDepth 100000 in
set_option maxHeartbeats 2000000 in
theorem wsum_any (A : Option Addr) (n c : Nat) (xs : List Int) (w : World) (hz : Wides w A n xs) (hw : ∀ x ∈ xs, isWide x = true) (hn : n ≤ 1000000) :
    Calls Try.prog 65 #[.slice A n c] w fun e w' => e = .returned (.tuple #[(.agg #[.int .i64 (hi64 (wsV xs.sum)), .int .u64 (lo64 (wsV xs.sum))]), .int .i64 (wideE xs.sum)]) ∧ Grew w w' := by
  have HZ := Lib.hid hz
  have HW := Lib.hid hw
  clear hz hw
  go_enter Try.func65, Try.ntmps65
  go_wp2
  go_loopw [4, 5, 6, 12] (fun t h l i wr => ∃ (k : Nat) (T H L : Int), k ≤ n ∧ i = .int .i64 k ∧ t = .int .i64 T ∧ h = .int .u64 H ∧ l = .int .u64 L ∧ Hid (T * 340282366920938463463374607431768211456 + H * 18446744073709551616 + L = (xs.take k).sum) ∧
      0 ≤ H ∧ H < 18446744073709551616 ∧ 0 ≤ L ∧ L < 18446744073709551616 ∧ -(k : Int) ≤ T ∧ T ≤ k ∧ Hid (Grew (w.alloc (.cells #[.int .i64 0, .int .u64 0] 86)) wr)) (fun _ _ _ i _ => n - (intOf i).toNat)
  case atStart => exact ⟨0, 0, 0, 0, Nat.zero_le _, rfl, rfl, rfl, rfl, rfl, by omega, by omega, by omega, by omega, by omega, by omega, grew_refl _⟩
  case round =>
    obtain ⟨k, T, H, L, hk, rfl, rfl, rfl, rfl, HS, h0, h1, l0, l1, t0, t1, HG⟩ := hrel
    by_cases hlt : k < n
    · obtain ⟨b, o, rfl, hb, hc⟩ := (HZ.out.keep (grew_trans (grew_alloc _ _ _) HG.out)).2 (by omega)
      obtain ⟨hc0, hc1⟩ := hc k hlt
      have hst := sum_take_succ xs k (by have := HZ.out.1; omega)
      have hwx : isWide (xs.getD k 0) = true := HW.out _ (by rw [List.getD_eq_getElem?_getD, List.getElem?_eq_getElem (by have := HZ.out.1; omega)]; exact List.getElem_mem _)
      generalize xs.getD k 0 = x at *
      have bx := lo_bounds x
      have bh := hi_bounds x hwx
      have ex := w_eq x
      have CS := fun w => sign_any (hi64 x) w bh
      have bs : (hi64 x < 0 → sgn (hi64 x) = -1) ∧ (¬ hi64 x < 0 → sgn (hi64 x) = 0) := ⟨sgn_neg, sgn_pos⟩
      generalize sgn (hi64 x) = sg at *
      obtain ⟨s1, hs1⟩ : ∃ s, s = (L + lo64 x + 0) % 18446744073709551616 := ⟨_, rfl⟩
      obtain ⟨d1, hd1⟩ : ∃ s, s = (L + lo64 x + 0) / 18446744073709551616 := ⟨_, rfl⟩
      have A1 := add64_named L (lo64 x) 0 s1 d1 (by omega) (by omega) (by omega) (by omega) hs1 hd1
      have ew : 0 ≤ IntKind.u64.wrap (hi64 x) ∧ IntKind.u64.wrap (hi64 x) < 18446744073709551616 ∧ (hi64 x < 0 → IntKind.u64.wrap (hi64 x) = hi64 x + 18446744073709551616) ∧ (0 ≤ hi64 x → IntKind.u64.wrap (hi64 x) = hi64 x) := by rw [IntKind.wrap_u64]; omega
      obtain ⟨s2, hs2⟩ : ∃ s, s = (H + IntKind.u64.wrap (hi64 x) + d1) % 18446744073709551616 := ⟨_, rfl⟩
      obtain ⟨d2, hd2⟩ : ∃ s, s = (H + IntKind.u64.wrap (hi64 x) + d1) / 18446744073709551616 := ⟨_, rfl⟩
      have A2 := add64_named H (IntKind.u64.wrap (hi64 x)) d1 s2 d2 (by omega) (by omega) (by omega) (by omega) hs2 hd2
      have f1 : 0 ≤ s1 ∧ s1 < 18446744073709551616 := by omega
      have f2 : 0 ≤ s2 ∧ s2 < 18446744073709551616 := by omega
      have f3 : 0 ≤ d2 ∧ d2 ≤ 1 := by omega
      have f4 : -1 ≤ sg ∧ sg ≤ 0 := by omega
      have HN : Hid ((T + (sg + d2)) * 340282366920938463463374607431768211456 + s2 * 18446744073709551616 + s1 = (xs.take (k + 1)).sum) := by
        have := HS.out
        show _ = _
        rw [hst]
        by_cases c : hi64 x < 0
        · have := bs.1 c; have := ew.2.2.1 c; omega
        · have := bs.2 c; have := ew.2.2.2 (by omega); omega
      generalize eh : IntKind.u64.wrap (hi64 x) = hw at *
      clear hst hwx bx bh ex ew hs1 hd1 hs2 hd2 hc bs
      generalize hi64 x = hh at *
      generalize lo64 x = ll at *
      obtain ⟨f1, f2'⟩ := f1
      obtain ⟨f3', f4'⟩ := f2
      obtain ⟨f5, f6⟩ := f3
      obtain ⟨f7, f8⟩ := f4
      go_wp2_with (first | (go_at_call 68; refine (CS _).mono ?_; rintro e w1 ⟨rfl, rfl⟩) | rw [A1] | rw [A2])
      go_roundw
      case rel => exact ⟨k + 1, T + (sg + d2), s2, s1, by omega, by go_num, by go_num, rfl, rfl, HN, by omega, by omega, by omega, by omega, by omega, by omega, grew_trans HG.out (grew_alloc _ _ _)⟩
      case measure => simp [intOf]; omega
    · have hkn : k = n := by omega
      subst hkn
      have ht : xs.take k = xs := List.take_of_length_le (by have := HZ.out.1; omega)
      have hS := HS.out
      rw [ht] at hS
      have hwr : wrap64 H = if H < 9223372036854775808 then H else H - 18446744073709551616 := by unfold wrap64; split <;> omega
      have hwb : -9223372036854775808 ≤ wrap64 H ∧ wrap64 H ≤ 9223372036854775807 := by rw [hwr]; split <;> omega
      have hsg : sgn (wrap64 H) = if H < 9223372036854775808 then 0 else -1 := by rw [hwr]; split <;> (unfold sgn; split <;> omega)
      have hwid : isWide xs.sum = true ↔ T = sgn (wrap64 H) := by rw [hsg, isWide_iff]; split <;> omega
      have hval : T = sgn (wrap64 H) → wrap64 H = hi64 xs.sum ∧ L = lo64 xs.sum := fun h => by
        rw [hsg] at h
        have := w_unique xs.sum (wrap64 H) L (by rw [hwr]; split at h <;> (split <;> omega)) l0 l1
        exact ⟨this.1.symm, this.2.symm⟩
      have hz0 : (0 : Int) = hi64 0 ∧ (0 : Int) = lo64 0 := by decide
      have CS := fun w => sign_any (wrap64 H) w hwb
      have HD := Lib.hid hwid
      have HV := Lib.hid hval
      have HZ0 := Lib.hid hz0
      obtain ⟨o1, o2, o3, o4, o5⟩ := own_first HG.out
      have GF := Lib.hid (grew_trans (grew_alloc _ _ _) HG.out)
      clear ht hS hwr hwid hval hz0 hlt t0 t1 h0 h1 l0 l1 hwb hsg
      generalize eg : wrap64 H = g at *
      generalize sgn g = sg at *
      by_cases c1 : T = sg
      · subst c1
        have Y := Lib.hid (HD.out.2 rfl)
        have V := Lib.hid (HV.out rfl)
        go_wp2_with (go_at_call 68; refine (CS _).mono ?_; rintro e w1 ⟨rfl, rfl⟩)
        exact bodyPost_ret (v := .tuple #[.agg #[.int .i64 g, .int .u64 L], .int .i64 0]) (by simp [results, Try.results65, go_sem, o1, o2]) rfl ⟨ret_we (by rw [wsV, if_pos Y.out]; exact V.out.1) (by rw [wsV, if_pos Y.out]; exact V.out.2) (by rw [wideE, if_pos Y.out]), grew_set (grew_set GF.out _ (Nat.le_refl _)) _ (Nat.le_refl _)⟩
      · have Y : Hid (isWide xs.sum = false) := by show _ = _; rw [← Bool.not_eq_true, HD.out]; exact c1
        have d1 : (T != sg) = true := by simpa using c1
        clear c1
        go_wp2_with (go_at_call 68; refine (CS _).mono ?_; rintro e w1 ⟨rfl, rfl⟩)
        exact bodyPost_ret (v := .tuple #[.agg #[.int .i64 0, .int .u64 0], .int .i64 1]) (by simp [results, Try.results65, go_sem, o1, o2]) rfl ⟨ret_we (by rw [wsV, Y.out]; exact HZ0.out.1) (by rw [wsV, Y.out]; exact HZ0.out.2) (by rw [wideE, Y.out]; rfl), grew_set (grew_set GF.out _ (Nat.le_refl _)) _ (Nat.le_refl _)⟩
end Go.Proofs.Ytafglljfgoeapaa.NumK
