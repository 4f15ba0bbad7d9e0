/- The contract of math/bits.Add64. -/
import Derived.Test.YtlmnbafklefmcaaRG2
import Derived.Laws.Externs
import Derived.Test.YtlmnbafklefmcaaRG1
import Derived.Maps.Own
import Derived.Maps.Views
import Derived.DeepKeys4
import Derived.Deep.QuietTactic
import Derived.Deep.DeepCutAuto
import Derived.Deep.Light
namespace Go.Proofs.Ytlmnbafklefmcaa.NumK
open Go.RowKit

theorem add64 (x y c : Int) (hx : 0 ≤ x) (hy : 0 ≤ y) (hc0 : 0 ≤ c) (hc : c ≤ 1) (w : World) : (callFunc 64 #[.int .u64 x, .int .u64 y, .int .u64 c]).run Try.prog w =
    .ok (.value (.tuple #[.int .u64 ((x + y + c) % 18446744073709551616), .int .u64 ((x + y + c) / 18446744073709551616)])) w := by
  rw [run_callFunc_extern Try.func64 (by kernel_rfl) (by kernel_rfl) (by kernel_rfl) (e := add64Entry) (by kernel_rfl), run_add64 x y c hx hy hc0 hc]
  rfl
theorem add64_named (x y c s d : Int) (hx : 0 ≤ x) (hy : 0 ≤ y) (hc0 : 0 ≤ c) (hc : c ≤ 1) (hs : s = (x + y + c) % 18446744073709551616) (hd : d = (x + y + c) / 18446744073709551616) (w : World) :
    (callFunc 64 #[.int .u64 x, .int .u64 y, .int .u64 c]).run Try.prog w = .ok (.value (.tuple #[.int .u64 s, .int .u64 d])) w := by
  rw [hs, hd]; exact add64 x y c hx hy hc0 hc w
end Go.Proofs.Ytlmnbafklefmcaa.NumK
namespace Go.Proofs.Ytlmnbafklefmcaa.NumK
open Go.RowKit

/-! ### a slice of wides -/
def wcells (x : Int) : List Value := [.int .i64 (hi64 x), .int .u64 (lo64 x)]
def Wides (w : World) (A : Option Addr) (n : Nat) (xs : List Int) : Prop :=
  xs.length = n ∧ (0 < n → ∃ b o, A = some ⟨b, o, none⟩ ∧ b < w.heap.size ∧ ∀ j, j < n → w.cell? ⟨b, o + j * 2, none⟩ = some (.int .i64 (hi64 (xs.getD j 0))) ∧ w.cell? ⟨b, o + j * 2 + 1, none⟩ = some (.int .u64 (lo64 (xs.getD j 0))))

theorem sum_take_succ (xs : List Int) (k : Nat) (h : k < xs.length) : (xs.take (k + 1)).sum = (xs.take k).sum + xs.getD k 0 := by
  rw [List.take_succ_eq_append_getElem h, List.sum_append]
  simp [List.getD, List.getElem?_eq_getElem h]

theorem wcells_len (xs : List Int) : (xs.flatMap wcells).length = xs.length * 2 := by
  induction xs with
  | nil => rfl
  | cons x xs ih => rw [List.flatMap_cons, List.length_append, ih]; simp [wcells]; omega
theorem wcells_at (xs : List Int) (j : Nat) (h : j < xs.length) : (xs.flatMap wcells)[j * 2]? = some (.int .i64 (hi64 (xs.getD j 0))) ∧ (xs.flatMap wcells)[j * 2 + 1]? = some (.int .u64 (lo64 (xs.getD j 0))) := by
  induction xs generalizing j with
  | nil => simp at h
  | cons x xs ih =>
    cases j with
    | zero => simp [wcells, List.flatMap_cons]
    | succ j =>
      have := ih j (by simpa using h)
      rw [List.flatMap_cons, show (j + 1) * 2 = j * 2 + 1 + 1 from by omega]
      simpa [wcells] using this

theorem wides_of_own {w : World} {base : Nat} {e : TypeId} {v : Value} {n : Nat} {xs : List Int} (h : w.ownsRow base e 2 v n (xs.flatMap wcells)) :
    ∃ A c, v = .slice A n c ∧ Wides w A n xs := by
  obtain ⟨hl, h⟩ := h
  rw [wcells_len] at hl
  have hl : xs.length = n := by omega
  rcases h with ⟨rfl, rfl⟩ | ⟨g, cap, cur, rfl, _, hh, _, _, _, ht⟩
  · exact ⟨none, 0, rfl, ⟨hl, fun h => absurd h (by omega)⟩⟩
  · refine ⟨some ⟨g, 0, none⟩, cap, rfl, ⟨hl, fun hn => ⟨g, 0, rfl, ?_, fun j hj => ?_⟩⟩⟩
    · rcases Nat.lt_or_ge g w.heap.size with h1 | h1
      · exact h1
      · rw [Array.getElem?_eq_none h1] at hh; cases hh
    · obtain ⟨w1, w2⟩ := wcells_at xs j (by omega)
      rw [cell_of_row w g (0 + j * 2) cur e (0, 0) hh, cell_of_row w g (0 + j * 2 + 1) cur e (0, 0) hh, Nat.zero_add]
      rw [← ht, List.getElem?_take, if_pos (by omega)] at w1 w2
      rw [Array.getElem?_toList] at w1 w2
      exact ⟨w1, w2⟩

theorem own_keep {w w2 : World} {base : Nat} {e : TypeId} {size : Nat} {v : Value} {n : Nat} {xs : List Value} (h : w.ownsRow base e size v n xs) (g : Grew w w2) : w2.ownsRow base e size v n xs := by
  obtain ⟨hl, h⟩ := h
  refine ⟨hl, ?_⟩
  rcases h with h | ⟨b, cap, cur, hv, hb, hh, r⟩
  · exact Or.inl h
  · refine Or.inr ⟨b, cap, cur, hv, hb, ?_, r⟩
    rw [g.block b ?_]
    · exact hh
    · rcases Nat.lt_or_ge b w.heap.size with h1 | h1
      · exact h1
      · rw [Array.getElem?_eq_none h1] at hh; cases hh

theorem info_wide : (Try.prog.info? 81).map (fun i => (i.zero, i.size, i.bytes)) = some (some (.agg #[.int .i64 0, .int .u64 0]), 2, 16) := by kernel_rfl

section
variable {w : World} {ops : Array Oper} {rest : List Oper} {o : Oper} {a : Act} {Q : Exit → Act → World → Prop}
theorem wpList_append_wide (hgd : o.guard = none) (s x : Operand)
    (ho : o.op = .call { callee := .builtin .append, args := #[s, x], argTypes := #[78, 78] })
    (base : Nat) (v : Value) (n : Nat) (xs : List Int) (hs : a.eval s = v) (hown : w.ownsRow base 81 2 v n (xs.flatMap wcells))
    (b c : Nat) (z : Int) (hx : a.eval x = .slice (some ⟨b, 0, none⟩) 1 c) (h0 : w.cell? ⟨b, 0, none⟩ = some (.int .i64 (hi64 z))) (h1 : w.cell? ⟨b, 1, none⟩ = some (.int .u64 (lo64 z)))
    (h63 : n + 1 ≤ 1000000) (hbase : base ≤ w.heap.size)
    (h : ∀ v' w', w'.ownsRow base 81 2 v' (n + 1) ((xs ++ [z]).flatMap wcells) → Below base w w' → wpList Try.prog ops Q rest (a.put o.dst v') w') : wpList Try.prog ops Q (o :: rest) a w := by
  obtain ⟨i, hi, hz0, hz1, hz2⟩ := info_parts info_wide
  refine wpList_append_own w hgd s x 78 ho base 81 i _ 2 16 Try.underlying78 hi hz0 hz1 hz2 rfl (by decide) v n _ hs hown ⟨b, 0, none⟩ 1 c (wcells z) hx
      rfl (fun j u hu => ?_) (fun u hu => ?_) (by unfold maxLen; omega) (by omega) hbase (fun v' w' ho' hg _ => ?_)
  · match j, hu with
    | 0, hu => simp [wcells] at hu; subst hu; simpa [Addr.add] using h0
    | 1, hu => simp [wcells] at hu; subst hu; simpa [Addr.add] using h1
    | j + 2, hu => simp [wcells] at hu
  · simp [wcells] at hu
    rcases hu with rfl | rfl <;> rfl
  · refine h v' w' (by rw [List.flatMap_append]; simpa using ho') ((Below.refl base w).grown hg hbase fun k hk => ?_)
    rcases hown.2 with ⟨rfl, _⟩ | ⟨g, cap, cur, rfl, hg', _⟩
    · simp [Value.ownBlock] at hk
    · simp [Value.ownBlock] at hk; omega
end

theorem take_map_succ (zs : List Int) (k : Nat) (h : k < zs.length) : zs.take k ++ [zs.getD k 0] = zs.take (k + 1) := by
  rw [List.take_succ_eq_append_getElem h]
  simp [List.getD, List.getElem?_eq_getElem h]

theorem sum_wide (zs : List Int) (hb : ∀ z ∈ zs, -9223372036854775808 ≤ z ∧ z ≤ 9223372036854775807) (hn : zs.length ≤ 1000000) : isWide zs.sum = true := by
  have key : ∀ l : List Int, (∀ z ∈ l, -9223372036854775808 ≤ z ∧ z ≤ 9223372036854775807) → -(l.length * 9223372036854775808) ≤ l.sum ∧ l.sum ≤ l.length * 9223372036854775808 := by
    intro l
    induction l with
    | nil => intro _; simp
    | cons z l ih =>
      intro h
      have h1 := h z (by simp)
      have h2 := ih fun y hy => h y (by simp [hy])
      simp only [List.sum_cons, List.length_cons]
      omega
  have := key zs hb
  rw [isWide_iff]
  omega

theorem wides2 (w : World) (x y : Int) (t : TypeId) (N : Nat) (hN : w.heap.size = N) : Wides (w.alloc (.cells #[.int .i64 (hi64 x), .int .u64 (lo64 x), .int .i64 (hi64 y), .int .u64 (lo64 y)] t)) (some ⟨N, 0, none⟩) 2 [x, y] := by
  subst hN
  refine ⟨rfl, fun _ => ⟨_, _, rfl, by simp, fun j hj => ?_⟩⟩
  match j, hj with
  | 0, _ => exact ⟨(World.cell?_alloc_at _ _ _ _ rfl).trans rfl, (World.cell?_alloc_at _ _ _ _ rfl).trans rfl⟩
  | 1, _ => exact ⟨(World.cell?_alloc_at _ _ _ _ rfl).trans rfl, (World.cell?_alloc_at _ _ _ _ rfl).trans rfl⟩
end Go.Proofs.Ytlmnbafklefmcaa.NumK
namespace Go.Proofs.Ytlmnbafklefmcaa.NumK
open Go.RowKit

theorem Wides.keep {w w' : World} {A : Option Addr} {n : Nat} {xs : List Int} (h : Wides w A n xs) (g : Grew w w') : Wides w' A n xs :=
  ⟨h.1, fun hn => by
    obtain ⟨b, o, e, hb, hc⟩ := h.2 hn
    exact ⟨b, o, e, Nat.lt_of_lt_of_le hb g.size, fun j hj => ⟨(grew_cell g (p := ⟨b, o + j * 2, none⟩) hb).trans (hc j hj).1, (grew_cell g (p := ⟨b, o + j * 2 + 1, none⟩) hb).trans (hc j hj).2⟩⟩⟩

def wideE (x : Int) : Int := if isWide x then 0 else 1

/-- The block of its own that a call laid first stands as it was. -/
theorem own_first {w w1 : World} {v0 v1 : Value} {t : TypeId} (h : Grew (w.alloc (.cells #[v0, v1] t)) w1) :
    w1.cell? ⟨w.heap.size, 0, none⟩ = some v0 ∧ w1.cell? ⟨w.heap.size, 1, none⟩ = some v1 ∧ w1.frozen? ⟨w.heap.size, 0, none⟩ = false ∧ w1.frozen? ⟨w.heap.size, 1, none⟩ = false ∧ w.heap.size < w1.heap.size := by
  have hs := h.size
  have hl : w.heap.size < (w.alloc (.cells #[v0, v1] t)).heap.size := by simp
  exact ⟨(Below.cell h (p := ⟨w.heap.size, 0, none⟩) hl).trans (by simp), (Below.cell h (p := ⟨w.heap.size, 1, none⟩) hl).trans (by simp),
    (Below.frozen h (p := ⟨w.heap.size, 0, none⟩) hl).trans (by simp), (Below.frozen h (p := ⟨w.heap.size, 1, none⟩) hl).trans (by simp), by omega⟩

theorem ret_we {x a b : Int} {p q : Int} (h1 : a = hi64 x) (h2 : b = lo64 x) (h3 : p = q) : Ending.returned (.tuple #[.agg #[.int .i64 a, .int .u64 b], .int .i64 p]) = .returned (.tuple #[(.agg #[.int .i64 (hi64 (x)), .int .u64 (lo64 (x))]), .int .i64 q]) := by rw [h1, h2, h3]

set_option maxRecDepth 100000 in
set_option maxHeartbeats 2000000 in
theorem wsum_any (A : Option Addr) (n c : Nat) (xs : List Int) (w : World) (hz : Wides w A n xs) (hw : ∀ x ∈ xs, isWide x = true) (hn : n ≤ 1000000) :
    Calls Try.prog 66 #[.slice A n c] w fun e w' => e = .returned (.tuple #[(.agg #[.int .i64 (hi64 (wsV xs.sum)), .int .u64 (lo64 (wsV xs.sum))]), .int .i64 (wideE xs.sum)]) ∧ Grew w w' := by
  have HZ := Lib.hid hz
  have HW := Lib.hid hw
  clear hz hw
  go_enter Try.func66, Try.ntmps66
  go_wp2
  go_loopw [4, 5, 6, 12] (fun t h l i wr => ∃ (k : Nat) (T H L : Int), k ≤ n ∧ i = .int .i64 k ∧ t = .int .i64 T ∧ h = .int .u64 H ∧ l = .int .u64 L ∧ Hid (T * 340282366920938463463374607431768211456 + H * 18446744073709551616 + L = (xs.take k).sum) ∧
      0 ≤ H ∧ H < 18446744073709551616 ∧ 0 ≤ L ∧ L < 18446744073709551616 ∧ -(k : Int) ≤ T ∧ T ≤ k ∧ Hid (Grew (w.alloc (.cells #[.int .i64 0, .int .u64 0] 81)) wr)) (fun _ _ _ i _ => n - (intOf i).toNat)
  case atStart => exact ⟨0, 0, 0, 0, Nat.zero_le _, rfl, rfl, rfl, rfl, rfl, by omega, by omega, by omega, by omega, by omega, by omega, grew_refl _⟩
  case round =>
    obtain ⟨k, T, H, L, hk, rfl, rfl, rfl, rfl, HS, h0, h1, l0, l1, t0, t1, HG⟩ := hrel
    by_cases hlt : k < n
    · obtain ⟨b, o, rfl, hb, hc⟩ := (HZ.out.keep (grew_trans (grew_alloc _ _ _) HG.out)).2 (by omega)
      obtain ⟨hc0, hc1⟩ := hc k hlt
      have hst := sum_take_succ xs k (by have := HZ.out.1; omega)
      have hwx : isWide (xs.getD k 0) = true := HW.out _ (by rw [List.getD_eq_getElem?_getD, List.getElem?_eq_getElem (by have := HZ.out.1; omega)]; exact List.getElem_mem _)
      generalize xs.getD k 0 = x at *
      have bx := lo_bounds x
      have bh := hi_bounds x hwx
      have ex := w_eq x
      have CS := fun w => sign_any (hi64 x) w bh
      have bs : (hi64 x < 0 → sgn (hi64 x) = -1) ∧ (¬ hi64 x < 0 → sgn (hi64 x) = 0) := ⟨sgn_neg, sgn_pos⟩
      generalize sgn (hi64 x) = sg at *
      obtain ⟨s1, hs1⟩ : ∃ s, s = (L + lo64 x + 0) % 18446744073709551616 := ⟨_, rfl⟩
      obtain ⟨d1, hd1⟩ : ∃ s, s = (L + lo64 x + 0) / 18446744073709551616 := ⟨_, rfl⟩
      have A1 := add64_named L (lo64 x) 0 s1 d1 (by omega) (by omega) (by omega) (by omega) hs1 hd1
      have ew : 0 ≤ IntKind.u64.wrap (hi64 x) ∧ IntKind.u64.wrap (hi64 x) < 18446744073709551616 ∧ (hi64 x < 0 → IntKind.u64.wrap (hi64 x) = hi64 x + 18446744073709551616) ∧ (0 ≤ hi64 x → IntKind.u64.wrap (hi64 x) = hi64 x) := by rw [IntKind.wrap_u64]; omega
      obtain ⟨s2, hs2⟩ : ∃ s, s = (H + IntKind.u64.wrap (hi64 x) + d1) % 18446744073709551616 := ⟨_, rfl⟩
      obtain ⟨d2, hd2⟩ : ∃ s, s = (H + IntKind.u64.wrap (hi64 x) + d1) / 18446744073709551616 := ⟨_, rfl⟩
      have A2 := add64_named H (IntKind.u64.wrap (hi64 x)) d1 s2 d2 (by omega) (by omega) (by omega) (by omega) hs2 hd2
      have f1 : 0 ≤ s1 ∧ s1 < 18446744073709551616 := by omega
      have f2 : 0 ≤ s2 ∧ s2 < 18446744073709551616 := by omega
      have f3 : 0 ≤ d2 ∧ d2 ≤ 1 := by omega
      have f4 : -1 ≤ sg ∧ sg ≤ 0 := by omega
      have HN : Hid ((T + (sg + d2)) * 340282366920938463463374607431768211456 + s2 * 18446744073709551616 + s1 = (xs.take (k + 1)).sum) := by
        have := HS.out
        show _ = _
        rw [hst]
        by_cases c : hi64 x < 0
        · have := bs.1 c; have := ew.2.2.1 c; omega
        · have := bs.2 c; have := ew.2.2.2 (by omega); omega
      generalize eh : IntKind.u64.wrap (hi64 x) = hw at *
      clear hst hwx bx bh ex ew hs1 hd1 hs2 hd2 hc bs
      generalize hi64 x = hh at *
      generalize lo64 x = ll at *
      obtain ⟨f1, f2'⟩ := f1
      obtain ⟨f3', f4'⟩ := f2
      obtain ⟨f5, f6⟩ := f3
      obtain ⟨f7, f8⟩ := f4
      go_wp2_with (first | (go_at_call 70; refine (CS _).mono ?_; rintro e w1 ⟨rfl, rfl⟩) | rw [A1] | rw [A2])
      go_roundw
      case rel => exact ⟨k + 1, T + (sg + d2), s2, s1, by omega, by go_num, by go_num, rfl, rfl, HN, by omega, by omega, by omega, by omega, by omega, by omega, grew_trans HG.out (grew_alloc _ _ _)⟩
      case measure => simp [intOf]; omega
    · have hkn : k = n := by omega
      subst hkn
      have ht : xs.take k = xs := List.take_of_length_le (by have := HZ.out.1; omega)
      have hS := HS.out
      rw [ht] at hS
      have hwr : wrap64 H = if H < 9223372036854775808 then H else H - 18446744073709551616 := by unfold wrap64; split <;> omega
      have hwb : -9223372036854775808 ≤ wrap64 H ∧ wrap64 H ≤ 9223372036854775807 := by rw [hwr]; split <;> omega
      have hsg : sgn (wrap64 H) = if H < 9223372036854775808 then 0 else -1 := by rw [hwr]; split <;> (unfold sgn; split <;> omega)
      have hwid : isWide xs.sum = true ↔ T = sgn (wrap64 H) := by rw [hsg, isWide_iff]; split <;> omega
      have hval : T = sgn (wrap64 H) → wrap64 H = hi64 xs.sum ∧ L = lo64 xs.sum := fun h => by
        rw [hsg] at h
        have := w_unique xs.sum (wrap64 H) L (by rw [hwr]; split at h <;> (split <;> omega)) l0 l1
        exact ⟨this.1.symm, this.2.symm⟩
      have hz0 : (0 : Int) = hi64 0 ∧ (0 : Int) = lo64 0 := by decide
      have CS := fun w => sign_any (wrap64 H) w hwb
      have HD := Lib.hid hwid
      have HV := Lib.hid hval
      have HZ0 := Lib.hid hz0
      obtain ⟨o1, o2, o3, o4, o5⟩ := own_first HG.out
      have GF := Lib.hid (grew_trans (grew_alloc _ _ _) HG.out)
      clear ht hS hwr hwid hval hz0 hlt t0 t1 h0 h1 l0 l1 hwb hsg
      generalize eg : wrap64 H = g at *
      generalize sgn g = sg at *
      by_cases c1 : T = sg
      · subst c1
        have Y := Lib.hid (HD.out.2 rfl)
        have V := Lib.hid (HV.out rfl)
        go_wp2_with (go_at_call 70; refine (CS _).mono ?_; rintro e w1 ⟨rfl, rfl⟩)
        exact bodyPost_ret (v := .tuple #[.agg #[.int .i64 g, .int .u64 L], .int .i64 0]) (by simp [results, Try.results66, go_sem, o1, o2]) rfl ⟨ret_we (by rw [wsV, if_pos Y.out]; exact V.out.1) (by rw [wsV, if_pos Y.out]; exact V.out.2) (by rw [wideE, if_pos Y.out]), grew_set (grew_set GF.out _ (Nat.le_refl _)) _ (Nat.le_refl _)⟩
      · have Y : Hid (isWide xs.sum = false) := by show _ = _; rw [← Bool.not_eq_true, HD.out]; exact c1
        have d1 : (T != sg) = true := by simpa using c1
        clear c1
        go_wp2_with (go_at_call 70; refine (CS _).mono ?_; rintro e w1 ⟨rfl, rfl⟩)
        exact bodyPost_ret (v := .tuple #[.agg #[.int .i64 0, .int .u64 0], .int .i64 1]) (by simp [results, Try.results66, go_sem, o1, o2]) rfl ⟨ret_we (by rw [wsV, Y.out]; exact HZ0.out.1) (by rw [wsV, Y.out]; exact HZ0.out.2) (by rw [wideE, Y.out]; rfl), grew_set (grew_set GF.out _ (Nat.le_refl _)) _ (Nat.le_refl _)⟩
end Go.Proofs.Ytlmnbafklefmcaa.NumK
namespace Go.Proofs.Ytlmnbafklefmcaa.NumK
open Go.RowKit

end Go.Proofs.Ytlmnbafklefmcaa.NumK
namespace Go.Proofs.Ytlmnbafklefmcaa.NumK
open Go.RowKit

end Go.Proofs.Ytlmnbafklefmcaa.NumK
namespace Go.Proofs.Ytlmnbafklefmcaa.NumK
open Go.RowKit

structure Own2 (w : World) (b : Nat) (v0 v1 : Value) : Prop where
  c0 : w.cell? ⟨b, 0, none⟩ = some v0
  c1 : w.cell? ⟨b, 1, none⟩ = some v1
  f0 : w.frozen? ⟨b, 0, none⟩ = false
  f1 : w.frozen? ⟨b, 1, none⟩ = false
  lt : b < w.heap.size

theorem Own2.keep {w w' : World} {b : Nat} {v0 v1 : Value} (h : Own2 w b v0 v1) (g : Grew w w') : Own2 w' b v0 v1 :=
  ⟨(grew_cell g (p := ⟨b, 0, none⟩) h.lt).trans h.c0, (grew_cell g (p := ⟨b, 1, none⟩) h.lt).trans h.c1, (Below.frozen g (p := ⟨b, 0, none⟩) h.lt).trans h.f0, (Below.frozen g (p := ⟨b, 1, none⟩) h.lt).trans h.f1, Nat.lt_of_lt_of_le h.lt g.size⟩
theorem Own2.new (w : World) (v0 v1 : Value) (t : TypeId) (N : Nat) (hN : w.heap.size = N) : Own2 (w.alloc (.cells #[v0, v1] t)) N v0 v1 := by
  subst hN
  exact ⟨by simp, by simp, by simp, by simp, by simp⟩
theorem Own2.set {w : World} {b : Nat} {v0 v1 : Value} (h : Own2 w b v0 v1) (u0 u1 : Value) : Own2 ((w.setCell ⟨b, 0, none⟩ u0).setCell ⟨b, 1, none⟩ u1) b u0 u1 := by
  have k1 : (w.setCell ⟨b, 0, none⟩ u0).cell? ⟨b, 1, none⟩ = some v1 := (World.cell?_setCell_other _ _ _ _ (by intro e; simp at e)).trans h.c1
  refine ⟨?_, World.cell?_setCell_same _ _ _ k1, by rw [World.frozen?_setCell, World.frozen?_setCell]; exact h.f0, by rw [World.frozen?_setCell, World.frozen?_setCell]; exact h.f1, by simp [World.setCell]; exact h.lt⟩
  rw [World.cell?_setCell_other _ _ _ _ (by intro e; simp at e)]
  exact World.cell?_setCell_same _ _ _ h.c0
theorem Own2.other {w : World} {b : Nat} {v0 v1 : Value} (h : Own2 w b v0 v1) (p : Addr) (u : Value) (hp : p.block ≠ b) : Own2 (w.setCell p u) b v0 v1 :=
  ⟨(World.cell?_setCell_other _ _ _ _ (by intro e; apply hp; rw [e])).trans h.c0, (World.cell?_setCell_other _ _ _ _ (by intro e; apply hp; rw [e])).trans h.c1, by rw [World.frozen?_setCell]; exact h.f0, by rw [World.frozen?_setCell]; exact h.f1, by simp [World.setCell]; exact h.lt⟩
end Go.Proofs.Ytlmnbafklefmcaa.NumK
namespace Go.Proofs.Ytlmnbafklefmcaa.NumK
open Go.RowKit

/-- What stands on an account. -/
def sumA (l : List Lg) (a : Ac) : Int := ((l.filter fun x => decide (x.1 = a)).map (·.2)).sum
def ac0 : Ac := (0, 0, 0)
def joinF (f : Ac → Int) (k : Nat) : List Lg := (allK.take k).filterMap fun a => if f a = 0 then none else some (a, f a)
def joinE (l : List Lg) : Int := if mayL l then (if allK.all (fun a => isMoney (sumA l a)) then 0 else 1) else 3
def joinL (l : List Lg) : List Lg := if joinE l = 0 then joinF (sumA l) 108 else []

theorem sumA_nil (a : Ac) : sumA [] a = 0 := rfl
theorem sumA_append (l m : List Lg) (a : Ac) : sumA (l ++ m) a = sumA l a + sumA m a := by
  unfold sumA
  rw [List.filter_append, List.map_append, List.sum_append]
theorem sumA_one (x : Lg) (a : Ac) : sumA [x] a = if x.1 = a then x.2 else 0 := by
  unfold sumA
  by_cases h : x.1 = a
  · simp [h]
  · simp [h]
theorem sumA_cons (x : Lg) (l : List Lg) (a : Ac) : sumA (x :: l) a = (if x.1 = a then x.2 else 0) + sumA l a := by
  rw [show x :: l = [x] ++ l from rfl, sumA_append, sumA_one]
theorem sumA_snoc (l : List Lg) (j : Nat) (h : j < l.length) (a : Ac) : sumA (l.take (j + 1)) a = sumA (l.take j) a + if (l.getD j lg0).1 = a then (l.getD j lg0).2 else 0 := by
  rw [take_snoc l j lg0 h, sumA_append, sumA_one]
theorem okL_parts {x : Lg} (h : okL x = true) : rightA x.1.1 x.1.2.1 x.1.2.2 = true ∧ -4611686018427387904 ≤ x.2 ∧ x.2 ≤ 4611686018427387904 := by
  unfold okL at h
  simp only [Bool.and_eq_true] at h
  exact ⟨h.1, (isMoney_iff _).1 h.2⟩
theorem may_cons {x : Lg} {l : List Lg} : mayL (x :: l) = true ↔ okL x = true ∧ mayL l = true := by
  unfold mayL; simp
theorem may_take' (l : List Lg) (j : Nat) (h : mayL l = true) : mayL (l.take j) = true := by
  unfold mayL at *
  rw [List.all_eq_true] at *
  exact fun x hx => h x (List.mem_of_mem_take hx)
theorem may_at' (l : List Lg) (j : Nat) (hj : j < l.length) (h : mayL l = true) : okL (l.getD j lg0) = true := by
  unfold mayL at h
  rw [List.all_eq_true] at h
  exact h _ (by rw [show l.getD j lg0 = l[j] by simp [List.getD, hj]]; exact List.getElem_mem hj)
theorem sumA_bd (l : List Lg) (a : Ac) (h : mayL l = true) : -(l.length * 4611686018427387904) ≤ sumA l a ∧ sumA l a ≤ l.length * 4611686018427387904 := by
  induction l with
  | nil => simp [sumA_nil]
  | cons x l ih =>
    rw [may_cons] at h
    have h1 := ih h.2
    have h2 := (okL_parts h.1).2
    rw [sumA_cons, List.length_cons]
    split <;> omega
theorem sumA_wide (l : List Lg) (a : Ac) (h : mayL l = true) (hn : l.length ≤ 1000000) : isWide (sumA l a) = true := by
  have := sumA_bd l a h
  rw [isWide_iff]; omega

theorem allK_getD (k : Nat) (h : k < 108) : allK.getD k ac0 ∈ allK := by
  have h' : k < allK.length := by rw [allK_len]; exact h
  rw [show allK.getD k ac0 = allK[k] by simp [List.getD, h']]
  exact List.getElem_mem h'
theorem joinF_succ (f : Ac → Int) (k : Nat) (h : k < 108) : joinF f (k + 1) = joinF f k ++ if f (allK.getD k ac0) = 0 then [] else [(allK.getD k ac0, f (allK.getD k ac0))] := by
  unfold joinF
  rw [take_snoc allK k ac0 (by rw [allK_len]; exact h), List.filterMap_append]
  congr 1
  by_cases h0 : f (allK.getD k ac0) = 0
  · rw [List.filterMap_cons, if_pos h0, if_pos h0]; rfl
  · rw [List.filterMap_cons, if_neg h0, if_neg h0]; rfl
theorem joinF_len (f : Ac → Int) (k : Nat) : (joinF f k).length ≤ 108 := by
  unfold joinF
  refine Nat.le_trans (List.length_filterMap_le _ _) ?_
  rw [List.length_take, allK_len]; omega
theorem joinL_len (l : List Lg) : (joinL l).length ≤ 108 := by
  unfold joinL
  split
  · exact joinF_len _ _
  · simp
theorem join_no {l : List Lg} (hm : mayL l = true) (k : Nat) (hk : k < 108) (h : isMoney (sumA l (allK.getD k ac0)) = false) : joinE l = 1 := by
  unfold joinE
  rw [if_pos hm, if_neg]
  intro h2
  rw [List.all_eq_true] at h2
  have := h2 _ (allK_getD k hk)
  simp only [h] at this
  cases this
theorem join_yes {l : List Lg} (hm : mayL l = true) (h : ∀ k, k < 108 → isMoney (sumA l (allK.getD k ac0)) = true) : joinE l = 0 := by
  unfold joinE
  rw [if_pos hm, if_pos]
  rw [List.all_eq_true]
  intro a ha
  obtain ⟨i, hi, rfl⟩ := List.getElem_of_mem ha
  have := h i (by rw [allK_len] at hi; exact hi)
  rwa [show allK.getD i ac0 = allK[i] by simp [List.getD, hi]] at this
end Go.Proofs.Ytlmnbafklefmcaa.NumK
namespace Go.Proofs.Ytlmnbafklefmcaa.NumK
open Go.RowKit Go.Maps

def inInt (n : Int) : Prop := -9223372036854775808 ≤ n ∧ n ≤ 9223372036854775807
def inAc (a : Ac) : Prop := inInt a.1 ∧ inInt a.2.1 ∧ inInt a.2.2
theorem right_inAc {k m c : Int} (h : rightA k m c = true) : inAc (k, m, c) := by
  have := right_in h
  unfold inAc inInt
  dsimp only
  omega

def readW (v : Value) : Option (DataW Unit × List MemPlace) :=
  match v with
  | .agg cs => match cs.toList with
    | [.int .i64 a, .int .u64 b] => some (.agg [.lit (.int .i64 a), .lit (.int .u64 b)], [])
    | _ => none
  | _ => none
def wD (s : Int) : DataW Unit := .agg [.lit (.int .i64 (hi64 s)), .lit (.int .u64 (lo64 s))]
theorem readW_mk (s : Int) : readW (.agg #[.int .i64 (hi64 s), .int .u64 (lo64 s)]) = some (wD s, []) := rfl
theorem readW_inv {v : Value} {s : Int} {ps : List MemPlace} (h : readW v = some (wD s, ps)) : v = .agg #[.int .i64 (hi64 s), .int .u64 (lo64 s)] := by
  unfold readW at h
  split at h
  · split at h
    · rename_i cs a b e
      simp only [wD, Option.some.injEq, Prod.mk.injEq, DataW.agg.injEq, List.cons.injEq, DataW.lit.injEq, Lit.int.injEq] at h
      obtain ⟨⟨⟨_, rfl⟩, ⟨_, rfl⟩, _⟩, _⟩ := h
      congr 1
      exact Array.toList_inj.1 (by rw [e])
    · cases h
  · cases h

theorem laidAc : laidOutB Try.prog = true := by kernel_rfl
theorem keyedAc : Keyed Try.prog 48 := Keyed.of_law (deep_law_laid laidAc (m := 4) (by decide) (by decide +kernel) (by kernel_rfl) (by kernel_rfl))
theorem cellsAc : Try.prog.cellsOf 48 = 3 := by kernel_rfl
theorem cellsInt : Try.prog.cellsOf 3 = 1 := by kernel_rfl
theorem keyTypeAc : Try.prog.keyType 48 = true := by decide +kernel
theorem sizeTypes : 1 ≤ Try.prog.types.size := by decide +kernel
theorem lits_ac (d : Nat) (a : Ac) (h : inAc a) : Try.prog.keyLits (d + 2) 48 [.int .i64 a.1, .int .i64 a.2.1, .int .i64 a.2.2] = some [.int .i64 a.1, .int .i64 a.2.1, .int .i64 a.2.2] := by
  have w1 : (Lit.int .i64 a.1).wf = true := WalkArith.wf_i64 h.1
  have w2 : (Lit.int .i64 a.2.1).wf = true := WalkArith.wf_i64 h.2.1
  have w3 : (Lit.int .i64 a.2.2).wf = true := WalkArith.wf_i64 h.2.2
  simp [Program.keyLits, Try.underlying48, Try.underlying3, cellsAc, cellsInt, w1, w2, w3]
theorem key_ac (a : Ac) (h : inAc a) : ∃ kl, keyOf Try.prog 48 (acV a.1 a.2.1 a.2.2) = some kl := by
  have h9 := sizeTypes
  obtain ⟨d, hd⟩ : ∃ d, Try.prog.types.size + 1 = d + 2 := ⟨Try.prog.types.size - 1, by omega⟩
  have hf : (acV a.1 a.2.1 a.2.2).formed Try.prog 48 = true := by simp [acV, Value.formed, Try.underlying48, cellsAc]
  have hc : (acV a.1 a.2.1 a.2.2).cells.toList = [.int .i64 a.1, .int .i64 a.2.1, .int .i64 a.2.2] := rfl
  unfold keyOf
  simp only [Try.underlying48, keyTypeAc, hf, Bool.and_self, if_true]
  rw [hc, hd, lits_ac d a h]
  exact ⟨_, rfl⟩

/-- A block is a map of at most n entries that holds at each account what g says. -/
def MapS (w : World) (b n : Nat) (g : Ac → Int) : Prop :=
  ∃ D : DataW Unit, w.ownsMap Try.prog 48 readW b n D ∧ IsMap D ∧ ∀ a, inAc a → ∀ kl, keyOf Try.prog 48 (acV a.1 a.2.1 a.2.2) = some kl → D.atKey kl (wD 0) = wD (g a)

theorem zeroW (w : World) : (zeroValue 81).run Try.prog w = .ok (.agg #[.int .i64 0, .int .u64 0]) w := by kernel_rfl

theorem MapS.keep {w w' : World} {b n : Nat} {g : Ac → Int} (h : MapS w b n g) (hg : Grew w w') : MapS w' b n g := by
  obtain ⟨D, h1, h2, h3⟩ := h
  refine ⟨D, ?_, h2, h3⟩
  have hlt := h1.lt
  obtain ⟨es, clock, hb, F, hs, hD⟩ := h1
  exact ⟨es, clock, (hg.block b hlt).trans hb, F, hs, hD⟩
theorem MapS.lt {w : World} {b n : Nat} {g : Ac → Int} (h : MapS w b n g) : b < w.heap.size := by
  obtain ⟨D, h1, _⟩ := h
  exact h1.lt
theorem MapS.new (w : World) : MapS (w.alloc (.map #[] 0)) w.heap.size 0 (fun _ => 0) := by
  refine ⟨.map [], World.ownsMap_made _ _ _ _, isMap_empty, fun a _ kl _ => ?_⟩
  simp [DataW.atKey]
theorem MapS.congr {w : World} {b n : Nat} {g g' : Ac → Int} (h : MapS w b n g) (e : ∀ a, g a = g' a) : MapS w b n g' := by
  have : g = g' := funext e
  exact this ▸ h

/-- 'm[a]'. -/
theorem MapS.look {w : World} {b n : Nat} {g : Ac → Int} (h : MapS w b n g) (a : Ac) (ha : inAc a) :
    (Instr.lookup 88 (.map (some b)) (acV a.1 a.2.1 a.2.2) false).run Try.prog w = .ok (.agg #[.int .i64 (hi64 (g a)), .int .u64 (lo64 (g a))]) w := by
  obtain ⟨D, h1, h2, h3⟩ := h
  obtain ⟨kl, hk⟩ := key_ac a ha
  obtain ⟨v, ps, hrun, hv⟩ := h1.lookup keyedAc Try.underlying88 (zeroW w) (readW_mk 0) hk
  rw [h3 a ha kl hk] at hv
  rw [hrun, readW_inv hv]
/-- 'm[a] = s'. -/
theorem MapS.put {w : World} {b n : Nat} {g g' : Ac → Int} (h : MapS w b n g) (a : Ac) (ha : inAc a) (s : Int) (hn : n < maxLen) (h1 : g' a = s) (h2 : ∀ a', a' ≠ a → g' a' = g a') :
    ∃ w', (Instr.mapUpdate 88 (.map (some b)) (acV a.1 a.2.1 a.2.2) (.agg #[.int .i64 (hi64 s), .int .u64 (lo64 s)])).run Try.prog w = .ok () w' ∧ MapS w' b (n + 1) g' ∧ w.grownBy w' (some b) := by
  obtain ⟨D, k1, k2, k3⟩ := h
  obtain ⟨kl, hk⟩ := key_ac a ha
  obtain ⟨w', hrun, ho, hg⟩ := k1.update keyedAc Try.underlying88 hn hk (readW_mk s)
  refine ⟨w', hrun, ⟨_, ho, k2.put _ _, fun a' ha' kl' hk' => ?_⟩, hg⟩
  by_cases e : a' = a
  · subst e
    rw [hk] at hk'
    cases hk'
    rw [atKey_put_same k2 (keyedAc.key hk), h1]
  · have hne : kl' ≠ kl := fun e2 => by
      subst e2
      have := keyedAc.inj hk' hk
      simp only [acV, Value.agg.injEq] at this
      have t := congrArg Array.toList this
      simp at t
      exact e (Prod.ext t.1 (Prod.ext t.2.1 t.2.2))
    rw [atKey_put_other hne, k3 a' ha' kl' hk', h2 a' e]
end Go.Proofs.Ytlmnbafklefmcaa.NumK
namespace Go.Proofs.Ytlmnbafklefmcaa.NumK
open Go.RowKit

theorem contains_snoc' (l : List Int) (y k : Int) : (l ++ [y]).contains k = (l.contains k || decide (y = k)) := by
  rw [Bool.eq_iff_iff]
  simp only [List.contains_iff_mem, List.mem_append, List.mem_singleton, Bool.or_eq_true, decide_eq_true_eq]
  constructor
  · rintro (h | h)
    · exact Or.inl h
    · exact Or.inr h.symm
  · rintro (h | h)
    · exact Or.inl h
    · exact Or.inr h.symm

theorem indexI_any (A : Option Addr) (n c : Nat) (zs : List Int) (x : Int) (w : World) (h : Ints w A n zs) (hn : n ≤ 9223372036854775807) :
    Calls Try.prog 82 #[.slice A n c, .int .i64 x] w fun e w' => (∃ r : Int, e = .returned (.int .i64 r) ∧ decide (0 ≤ r) = zs.contains x) ∧ w = w' := by
  have HZ := Lib.hid h
  clear h
  go_enter Try.func82, Try.ntmps82
  go_wp2
  go_loop [8] (fun i => ∃ k : Nat, k ≤ n ∧ i = .int .i64 k ∧ Hid ((zs.take k).contains x = false)) (fun i => n - (intOf i).toNat)
  case atStart => exact ⟨0, Nat.zero_le _, rfl, by simp [Hid]⟩
  case round =>
    obtain ⟨k, hk, rfl, HK⟩ := hrel
    by_cases hlt : k < n
    · obtain ⟨b, o, rfl, _, hc⟩ := HZ.out.2 (by omega)
      have hcell := hc k hlt
      have hl := HZ.out.1
      have hs : zs.take (k + 1) = zs.take k ++ [zs.getD k 0] := by rw [List.take_succ_eq_append_getElem (by omega)]; simp [List.getD, show k < zs.length by omega]
      have HS : Hid ((zs.take (k + 1)).contains x = decide (zs.getD k 0 = x)) := by show _ = _; rw [hs, contains_snoc', HK.out]; simp
      have HY : Hid (zs.getD k 0 = x → zs.contains x = true) := fun h => by
        rw [List.contains_iff_mem, ← h, show zs.getD k 0 = zs[k]'(by omega) by simp [List.getD, show k < zs.length by omega]]
        exact List.getElem_mem _
      clear hs hc hl
      generalize zs.getD k 0 = y at *
      by_cases hxy : x = y
      · subst hxy
        have HY2 := Lib.hid (HY.out rfl)
        clear HY HS
        go_wp2
        go_ret
        exact ⟨⟨_, rfl, by have := HY2.out; simp at this; simp [this]⟩, rfl⟩
      · have d1 : (x == y) = false := by simpa using hxy
        have HS2 : Hid ((zs.take (k + 1)).contains x = false) := by show _ = _; rw [HS.out]; simp; exact fun h => hxy h.symm
        clear HY HS hxy
        go_wp2
        go_round
        case rel => exact ⟨k + 1, by omega, by go_num, HS2⟩
        case measure => simp [intOf]; omega
    · have : k = n := by omega
      subst this
      have h1 := HK.out
      rw [List.take_of_length_le (by have := HZ.out.1; omega)] at h1
      have HE := Lib.hid h1
      clear h1
      go_wp2
      go_ret
      exact ⟨⟨_, rfl, by have := HE.out; simp at this; simp [this]⟩, rfl⟩

theorem contains_any (A : Option Addr) (n c : Nat) (zs : List Int) (x : Int) (w : World) (h : Ints w A n zs) (hn : n ≤ 9223372036854775807) :
    Calls Try.prog 68 #[.slice A n c, .int .i64 x] w fun e w' => e = .returned (.bool (zs.contains x)) ∧ w = w' := by
  have C := indexI_any A n c zs x w h hn
  clear h
  generalize zs.contains x = B at *
  go_enter Try.func68, Try.ntmps68
  go_wp2_with (go_at_call 82; ((with_reducible refine C.mono ?_); rintro e w' ⟨⟨r, rfl, hr⟩, rfl⟩; have HR := Lib.hid hr; clear hr))
  go_ret
  exact ⟨ret_b HR.out, rfl⟩
end Go.Proofs.Ytlmnbafklefmcaa.NumK
namespace Go.Proofs.Ytlmnbafklefmcaa.NumK
open Go.RowKit

set_option maxRecDepth 100000 in
theorem appendKind_any (base : Nat) (v : Value) (l : List Ac) (k : Int) (w : World) (hO : OwnE enAc w base 48 v l) (hb : base ≤ w.heap.size) (hl : l.length ≤ 1000000) :
    Calls Try.prog 69 #[v, .int .i64 k] w fun e w' => ∃ v', e = .returned v' ∧ OwnE enAc w' base 48 v' (l ++ kindL k) ∧ Below base w w' := by
  have C := whos_any k
  have HK : Hid (kindL k = if ownedK k then whosAcs k 1 16 else whosAcs k 0 1) := rfl
  obtain ⟨f, n, hf, hn, hkl, hn16⟩ : ∃ (f : Int) (n : Nat), (if ownedK k then (1 : Int) else 0) = f ∧ (if ownedK k then (16 : Int) else 0) = f + n - 1 ∧ kindL k = whosAcs k f n ∧ (n ≤ 16 ∧ 0 ≤ f ∧ f ≤ 1) := by
    cases ho : ownedK k
    · exact ⟨0, 1, by simp, by simp, by rw [HK.out, ho]; simp, by omega⟩
    · exact ⟨1, 16, by simp, by simp, by rw [HK.out, ho]; simp, by omega⟩
  rw [hf, hn] at C
  obtain ⟨hn1, hn2, hn3⟩ := hn16
  have HKL := Lib.hid hkl
  have HO := Lib.hid hO
  clear HK hf hn hkl hO
  obtain ⟨g, hg⟩ : ∃ g : Int, f + n - 1 = g := ⟨_, rfl⟩
  rw [hg] at C
  have HG := Lib.hid hg
  have hg' : g ≤ 16 := by omega
  clear hg
  go_enter Try.func69, Try.ntmps69
  go_wp2_with (go_at_call 65; ((with_reducible refine (C _).mono ?_); rintro e w' ⟨rfl, rfl⟩))
  go_loopw [0, 7] (fun v0 v7 wr => ∃ (i : Nat) (m : Int), v7 = .int .i64 m ∧ Hid (m = f + i) ∧ m ≤ 17 ∧ i ≤ n ∧ Hid (OwnE enAc wr base 48 v0 (l ++ whosAcs k f i)) ∧ Hid (Below base w wr)) (fun _ v7 _ => (17 - intOf v7).toNat)
  case atStart => exact ⟨0, f, rfl, Lib.hid (by simp), by omega, by omega, by show OwnE _ _ _ _ _ _; simpa [whosAcs] using HO.out, Below.refl _ _⟩
  case round =>
    obtain ⟨i, m, rfl, HM, hm17, hi, HO1, HB1⟩ := hrel
    have m0 : (0 : Int) ≤ m := by have := HM.out; omega
    by_cases hlt : m ≤ g
    · have hi' : i < n := by have := HM.out; have := HG.out; omega
      have HWB := Lib.hid (Nat.le_trans hb HB1.out.size)
      go_wp2
      go_loopw [0, 20] (fun v0 v20 wr2 => ∃ (j : Nat), v20 = .int .i64 j ∧ j ≤ 3 ∧ Hid (OwnE enAc wr2 base 48 v0 (l ++ whosAcs k f i ++ (whoAcs k m).take j)) ∧ Hid (Below base w wr2)) (fun _ v20 _ => 3 - (intOf v20).toNat)
      case atStart => exact ⟨0, rfl, by omega, by show OwnE _ _ _ _ _ _; simpa using HO1.out, HB1.out⟩
      case round =>
        obtain ⟨j, rfl, hj, HO2, HB2⟩ := hrel
        have HBS := Lib.hid (Nat.le_trans hb HB2.out.size)
        by_cases hjl : j < 3
        · have HLL : Hid ((l ++ whosAcs k f i ++ (whoAcs k m).take j).length ≤ 1000100) := by
            show _ ≤ _
            rw [List.length_append, List.length_append, whosAcs_len, List.length_take]; omega
          have HT : Hid (l ++ whosAcs k f i ++ (whoAcs k m).take (j + 1) = l ++ whosAcs k f i ++ (whoAcs k m).take j ++ [(k, m, (j : Int))]) := by
            show _ = _
            rw [List.append_assoc _ _ [_]]
            congr 1
            match j, hjl with
            | 0, _ => rfl
            | 1, _ => rfl
            | 2, _ => rfl
          go_wp2_with (at_builtin; refine (wpList_append_E rfl _ _ 90 48 (acV 0 0 0) 24 rfl Try.underlying90 info_ac rfl base _ _ rfl (HO2.out.keep (grew_alloc _ _ _)) _ 1 1 [(k, m, (j : Int))] rfl (by intro h; cases h) (rowE_one _ _ _ _ _ _ (by simp)) (by have := HLL.out; unfold maxLen; omega) (by have := HLL.out; omega) (by have := HBS.out; simp; omega) ?_); intro v5 w5 hv hb5; rw [← HT.out] at hv; have HV5 := Lib.hid hv; have HB5 := Lib.hid (HB2.out.trans ((Below.mono (grew_alloc _ _ _) HBS.out).trans hb5)); clear hv hb5)
          go_roundw
          case rel => exact ⟨j + 1, by go_num, by omega, HV5, HB5⟩
          case measure => simp only [intOf]; omega
        · obtain rfl : j = 3 := by omega
          have HE : Hid (l ++ whosAcs k f (i + 1) = l ++ whosAcs k f i ++ (whoAcs k m).take 3) := by
            show _ = _
            rw [whosAcs_succ, ← HM.out, List.append_assoc]; rfl
          rw [← HE.out] at HO2
          clear HE
          go_wp2
          go_roundw
          case rel => exact ⟨i + 1, m + 1, by go_num, by have := HM.out; show _ = _; omega, by omega, by omega, HO2, HB2⟩
          case measure => simp only [intOf]; omega
    · have hi' : i = n := by have := HM.out; have := HG.out; omega
      subst hi'
      rw [← HKL.out] at HO1
      go_wp2
      go_ret
      exact ⟨_, rfl, HO1.out, HB1.out⟩

set_option maxRecDepth 100000 in
theorem aall_any (A : Option Addr) (n c : Nat) (kinds : List Int) (w : World) (h : Ints w A n kinds) (hn : n ≤ 9223372036854775807) :
    Calls Try.prog 56 #[.slice A n c] w fun e w' => ∃ v', e = .returned v' ∧ OwnE enAc w' w.heap.size 48 v' (allL kinds) ∧ Grew w w' := by
  have HI := Lib.hid h
  clear h
  go_enter Try.func56, Try.ntmps56
  go_wp2
  go_loopw [3, 4] (fun v3 v4 wr => ∃ j : Nat, v4 = .int .i64 ((j : Int) + 1) ∧ j ≤ 6 ∧ Hid (OwnE enAc wr w.heap.size 48 v3 (allTo kinds j)) ∧ Hid (Grew w wr)) (fun _ v4 _ => 7 - (intOf v4).toNat)
  case atStart => exact ⟨0, rfl, by omega, OwnE.nil enAc _ _ _, grew_refl _⟩
  case round =>
    obtain ⟨j, rfl, hj, HO, HG⟩ := hrel
    by_cases hlt : j < 6
    · have CC := contains_any A n c kinds ((j : Int) + 1) wr (HI.out.keep HG.out) hn
      have HT : Hid (allTo kinds (j + 1) = allTo kinds j ++ (if kinds.contains ((j : Int) + 1) then kindL ((j : Int) + 1) else [])) := allTo_succ kinds j
      have HL : Hid ((allTo kinds j).length ≤ 1000000) := by show _ ≤ _; have := allTo_len kinds j; omega
      have CA := fun v (h : OwnE enAc wr w.heap.size 48 v (allTo kinds j)) => appendKind_any w.heap.size v (allTo kinds j) ((j : Int) + 1) wr h HG.out.size HL.out
      clear HL
      cases hb : kinds.contains ((j : Int) + 1)
      · rw [hb] at CC HT
        have he : allTo kinds (j + 1) = allTo kinds j := by rw [HT.out]; simp
        rw [← he] at HO
        clear HT he hb CA
        go_wp2_with (go_at_call 68; ((with_reducible refine CC.mono ?_); rintro e w' ⟨rfl, rfl⟩))
        go_roundw
        case rel => exact ⟨j + 1, by go_num, by omega, HO, HG⟩
        case measure => simp only [intOf]; omega
      · rw [hb, if_pos rfl] at HT
        rw [hb] at CC
        clear hb
        go_wp2_with (first
          | (go_at_call 68; ((with_reducible refine CC.mono ?_); rintro e w' ⟨rfl, rfl⟩))
          | (go_at_call 69; ((with_reducible refine (CA _ HO.out).mono ?_); rintro e w1 ⟨v5, rfl, hv, hb5⟩; rw [← HT.out] at hv; have HV5 := Lib.hid hv; have HG5 : Hid (Grew w w1) := Below.trans HG.out hb5; clear hv hb5)))
        go_roundw
        case rel => exact ⟨j + 1, by go_num, by omega, HV5, HG5⟩
        case measure => simp only [intOf]; omega
    · obtain rfl : j = 6 := by omega
      go_wp2
      go_ret
      exact ⟨_, rfl, HO.out, HG.out⟩
end Go.Proofs.Ytlmnbafklefmcaa.NumK
namespace Go.Proofs.Ytlmnbafklefmcaa.NumK
open Go.RowKit

def floorA (k m c : Int) : Int := if rightA k m c && (decide (k = 3) || decide (k = 4)) then 0 else -4611686018427387904
def lessA (k m c k' m' c' : Int) : Bool := if k = k' then if m = m' then decide (c < c') else decide (m < m') else decide (k < k')

end Go.Proofs.Ytlmnbafklefmcaa.NumK
namespace Go.Proofs.Ytlmnbafklefmcaa.NumK

/-- The number, the state, the need. -/
abbrev Mb := Int × Int × Int
/-- The number, the currency, the price, the cut. -/
abbrev As := Int × Int × Int × Int
/-- The number, the currency, the multiplier, the add-on, the price that was told, the last one; the shifts. -/
abbrev In := (Int × Int × Int × Int × Int × Int) × (Int × Int × Int × Int × Int × Int)
abbrev Rl := List Mb × List In × List As
abbrev mb0 : Mb := (0, 0, 0)
abbrev as0 : As := (0, 0, 0, 0)
abbrev in0 : In := ((0, 0, 0, 0, 0, 0), (0, 0, 0, 0, 0, 0))

def noMb (x : Mb) : Int := x.1
def noIn (x : In) : Int := x.1.1
def noAs (x : As) : Int := x.1

def wi (n lo hi : Int) : Bool := decide (lo ≤ n) && decide (n ≤ hi)
def okMb (x : Mb) : Bool := wi x.1 1 16 && wi x.2.1 1 3 && wi x.2.2 0 4611686018427387904
def okAs (x : As) : Bool := wi x.1 1 6 && wi x.2.1 0 2 && wi x.2.2.1 1 1073741824 && wi x.2.2.2 0 10000
def okSh (n : Int) : Bool := wi n (-1073741824) 1073741824
def shIn (x : In) : List Int := [x.2.1, x.2.2.1, x.2.2.2.1, x.2.2.2.2.1, x.2.2.2.2.2.1, x.2.2.2.2.2.2]
def okIn6 (x : In) : Bool := wi x.1.1 1 8 && wi x.1.2.1 0 2 && wi x.1.2.2.1 1 1024 && wi x.1.2.2.2.1 0 1073741824 && wi x.1.2.2.2.2.1 0 1073741824 && wi x.1.2.2.2.2.2 0 1073741824
def okIn (x : In) : Bool := (shIn x).all okSh && okIn6 x

section
variable {α : Type}

/-! ### lists that rise -/
def Rise (no : α → Int) (l : List α) : Prop := l.Pairwise fun x y => no x < no y

def stepOK (ok : α → Bool) (no : α → Int) (d : α) (l : List α) (j : Nat) : Bool := ok (l.getD j d) && (decide (j = 0) || decide (no (l.getD (j - 1) d) < no (l.getD j d)))
def rightL (ok : α → Bool) (no : α → Int) (d : α) (l : List α) : Bool := (List.range l.length).all (stepOK ok no d l)

theorem getD_mem (l : List α) (d : α) (j : Nat) (h : j < l.length) : l.getD j d ∈ l := by
  rw [show l.getD j d = l[j] by simp [List.getD, h]]; exact List.getElem_mem h
theorem getD_at (l : List α) (d : α) (j : Nat) (h : j < l.length) : l.getD j d = l[j] := by simp [List.getD, h]

/-- Two lists that rise, and have the same in them, are one. -/
theorem rise_ext (no : α → Int) : ∀ (l m : List α), Rise no l → Rise no m → (∀ y, y ∈ l ↔ y ∈ m) → l = m
  | [], [], _, _, _ => rfl
  | [], y :: m, _, _, h => by have := (h y).2 (by simp); simp at this
  | x :: l, [], _, _, h => by have := (h x).1 (by simp); simp at this
  | x :: l, y :: m, hl, hm, h => by
    have h1 := List.pairwise_cons.1 hl
    have h2 := List.pairwise_cons.1 hm
    have hxy : x = y := by
      have a1 : x ∈ y :: m := (h x).1 (by simp)
      have a2 : y ∈ x :: l := (h y).2 (by simp)
      rcases List.mem_cons.1 a1 with e | a1
      · exact e
      · rcases List.mem_cons.1 a2 with e | a2
        · exact e.symm
        · have := h2.1 x a1
          have := h1.1 y a2
          omega
    subst hxy
    congr 1
    refine rise_ext no l m h1.2 h2.2 fun z => ⟨fun hz => ?_, fun hz => ?_⟩
    · rcases List.mem_cons.1 ((h z).1 (List.mem_cons_of_mem _ hz)) with e | e
      · have := h1.1 z hz; rw [e] at this; omega
      · exact e
    · rcases List.mem_cons.1 ((h z).2 (List.mem_cons_of_mem _ hz)) with e | e
      · have := h2.1 z hz; rw [e] at this; omega
      · exact e

theorem rise_one {no : α → Int} {l : List α} (h : Rise no l) {x y : α} (hx : x ∈ l) (hy : y ∈ l) (he : no x = no y) : x = y := by
  obtain ⟨i, hi, rfl⟩ := List.getElem_of_mem hx
  obtain ⟨j, hj, rfl⟩ := List.getElem_of_mem hy
  have hp := List.pairwise_iff_getElem.1 h
  rcases Nat.lt_trichotomy i j with h1 | h1 | h1
  · have := hp i j hi hj h1; omega
  · subst h1; rfl
  · have := hp j i hj hi h1; omega

/-! ### who is found -/
def hasL (no : α → Int) (l : List α) (n : Int) : Bool := l.any fun x => decide (no x = n)
def findL (no : α → Int) (d : α) (l : List α) (n : Int) : α := (l.find? fun x => decide (no x = n)).getD d

/-! ### what is put -/
def putL (no : α → Int) (l : List α) (x : α) : List α := l.filter (fun y => decide (no y < no x)) ++ x :: l.filter (fun y => decide (no x < no y))

/-! ### how long a list may be -/
/-! ### as the document collects them -/
def collL (no : α → Int) (d : α) (l : List α) (x : α) (k : Nat) : List α :=
  (List.range k).flatMap fun i : Nat => if (i : Int) + 1 = no x then [x] else if hasL no l ((i : Int) + 1) = true then [findL no d l ((i : Int) + 1)] else []
end
end Go.Proofs.Ytlmnbafklefmcaa.NumK
namespace Go.Proofs.Ytlmnbafklefmcaa.NumK
set_option linter.unusedVariables false
section
variable {α : Type}

def setL (no : α → Int) (l : List α) (k : Int) (o : Option α) : List α := l.filter (fun y => decide (no y < k)) ++ (o.toList ++ l.filter (fun y => decide (k < no y)))
theorem mem_setL (no : α → Int) (l : List α) (k : Int) (o : Option α) (y : α) : y ∈ setL no l k o ↔ o = some y ∨ (y ∈ l ∧ no y ≠ k) := by
  unfold setL
  rw [List.mem_append, List.mem_append, List.mem_filter, List.mem_filter, Option.mem_toList]
  simp only [decide_eq_true_eq]
  constructor
  · rintro (⟨h1, h2⟩ | h | ⟨h1, h2⟩)
    · exact Or.inr ⟨h1, by omega⟩
    · exact Or.inl h
    · exact Or.inr ⟨h1, by omega⟩
  · rintro (h | ⟨h1, h2⟩)
    · exact Or.inr (Or.inl h)
    · rcases Int.lt_or_gt_of_ne h2 with h3 | h3
      · exact Or.inl ⟨h1, h3⟩
      · exact Or.inr (Or.inr ⟨h1, h3⟩)
theorem rise_setL {no : α → Int} {l : List α} (h : Rise no l) (k : Int) (o : Option α) (ho : ∀ x, o = some x → no x = k) : Rise no (setL no l k o) := by
  unfold Rise setL
  rw [List.pairwise_append, List.pairwise_append]
  refine ⟨List.Pairwise.filter _ h, ⟨by cases o <;> simp, List.Pairwise.filter _ h, fun y hy z hz => ?_⟩, fun y hy z hz => ?_⟩
  · rw [Option.mem_toList] at hy
    rw [List.mem_filter, decide_eq_true_eq] at hz
    rw [ho y hy]; exact hz.2
  · rw [List.mem_filter, decide_eq_true_eq] at hy
    rcases List.mem_append.1 hz with hz | hz
    · rw [Option.mem_toList] at hz
      rw [ho z hz]; exact hy.2
    · rw [List.mem_filter, decide_eq_true_eq] at hz
      omega
/-- What is put stands there. -/
def getL (no : α → Int) (l : List α) (k : Int) : Option α := l.find? fun x => decide (no x = k)
theorem getL_iff {no : α → Int} {l : List α} (h : Rise no l) (k : Int) (x : α) : getL no l k = some x ↔ x ∈ l ∧ no x = k := by
  unfold getL
  constructor
  · intro e
    exact ⟨List.mem_of_find?_eq_some e, by simpa using List.find?_some e⟩
  · rintro ⟨h1, h2⟩
    cases e : l.find? (fun x => decide (no x = k)) with
    | none => rw [List.find?_eq_none] at e; have := e x h1; simp [h2] at this
    | some y =>
      have e1 : y ∈ l := List.mem_of_find?_eq_some e
      have e2 : no y = k := by simpa using List.find?_some e
      rw [rise_one h e1 h1 (by omega)]
theorem getL_none {no : α → Int} {l : List α} (k : Int) : getL no l k = none ↔ ∀ x ∈ l, no x ≠ k := by
  unfold getL; rw [List.find?_eq_none]; simp
theorem getL_ext {no : α → Int} {l m : List α} (hl : Rise no l) (hm : Rise no m) (h : ∀ k, getL no l k = getL no m k) : l = m :=
  rise_ext no l m hl hm fun y => by
    have h1 := getL_iff hl (no y) y
    have h2 := getL_iff hm (no y) y
    rw [h] at h1
    constructor
    · intro hy; exact (h2.1 (h1.2 ⟨hy, rfl⟩)).1
    · intro hy; exact (h1.1 (h2.2 ⟨hy, rfl⟩)).1
theorem getL_set {no : α → Int} {l : List α} (h : Rise no l) (k : Int) (o : Option α) (ho : ∀ x, o = some x → no x = k) (n : Int) : getL no (setL no l k o) n = if n = k then o else getL no l n := by
  have hr := rise_setL h k o ho
  by_cases hc : n = k
  · subst hc
    rw [if_pos rfl]
    cases o with
    | none => rw [getL_none]; intro x hx; rcases (mem_setL no l n none x).1 hx with h1 | ⟨_, h1⟩
              · cases h1
              · exact h1
    | some x => exact (getL_iff hr n x).2 ⟨(mem_setL no l n _ x).2 (Or.inl rfl), ho x rfl⟩
  · rw [if_neg hc]
    cases e : getL no l n with
    | none =>
      rw [getL_none] at e ⊢
      intro x hx
      rcases (mem_setL no l k o x).1 hx with h1 | ⟨h1, _⟩
      · rw [ho x h1]; omega
      · exact e x h1
    | some x =>
      obtain ⟨h1, h2⟩ := (getL_iff h n x).1 e
      exact (getL_iff hr n x).2 ⟨(mem_setL no l k o x).2 (Or.inr ⟨h1, by omega⟩), h2⟩
theorem set_self {no : α → Int} {l : List α} (h : Rise no l) (k : Int) : setL no l k (getL no l k) = l := by
  have ho : ∀ x, getL no l k = some x → no x = k := fun x hx => ((getL_iff h k x).1 hx).2
  refine getL_ext (rise_setL h k _ ho) h fun n => ?_
  rw [getL_set h k _ ho]
  split
  · next e => rw [e]
  · rfl
/-! ### out of keys that rise -/
end
end Go.Proofs.Ytlmnbafklefmcaa.NumK
namespace Go.Proofs.Ytlmnbafklefmcaa.NumK
set_option linter.unusedVariables false

/-- Who, the asset, the units. -/
abbrev Pg := Int × Int × Int
abbrev pg0 : Pg := (0, 0, 0)
def noPg (x : Pg) : Int := x.1 * 8 + x.2.1
def okPK (w a : Int) : Bool := wi w 1 16 && wi a 1 6
def okPg (x : Pg) : Bool := okPK x.1 x.2.1 && wi x.2.2 1 1099511627776
def rightPg (l : List Pg) : Bool := rightL okPg noPg pg0 l
def isPg (w a : Int) (x : Pg) : Bool := decide (x.1 = w) && decide (x.2.1 = a)
def findPg (l : List Pg) (w a : Int) : Option Pg := l.find? (isPg w a)
def unP (o : Option Pg) : Int := match o with | some x => x.2.2 | none => 0
def unitsL (l : List Pg) (w a : Int) : Int := unP (findPg l w a)
def changeO (w a n : Int) : Option Pg := if n ≤ 0 then none else some (w, a, n)
def changeE (l : List Pg) (w a u : Int) : Int :=
  if rightPg l then (if okPK w a && wi u (-1099511627776) 1099511627776 then (if unitsL l w a + u < 0 then 13 else (if 1099511627776 < unitsL l w a + u then 1 else 0)) else 3) else 14
def changeL (l : List Pg) (w a u : Int) : List Pg := if changeE l w a u = 0 then setL noPg l (w * 8 + a) (changeO w a (unitsL l w a + u)) else []
/-! ### the worth of collateral -/
def valueV (x : As) (u : Int) : Int := (u * (x.2.2.1 * (10000 - x.2.2.2))).fdiv 10000
def valueE (x : As) (u : Int) : Int := if okAs x && wi u 0 1099511627776 then (if valueV x u ≤ 4611686018427387904 then 0 else 1) else 3
def valueN (x : As) (u : Int) : Int := if valueE x u = 0 then valueV x u else 0
/-- The net worth of one unit, 10000 times. -/
def unitW (x : As) : Int := x.2.2.1 * (10000 - x.2.2.2)
end Go.Proofs.Ytlmnbafklefmcaa.NumK
namespace Go.Proofs.Ytlmnbafklefmcaa.NumK
open Go.RowKit
set_option linter.unusedVariables false

/-- Who, the instrument, the quantity, the cost. -/
abbrev Po := Int × Int × Int × Int
abbrev Ky := Int × Int
abbrev po0 : Po := (0, 0, 0, 0)
/-- The number, the buyer, the seller, the instrument, the quantity, the price; off? -/
abbrev Tr := (Int × Int × Int × Int × Int × Int) × Bool
abbrev tr0 : Tr := ((0, 0, 0, 0, 0, 0), false)
def noTr (t : Tr) : Int := t.1.1

def sizedB (q p : Int) : Bool := wi q 1 1048576 && wi p 1 1073741824
def sizedT (t : Tr) : Bool := sizedB t.1.2.2.2.2.1 t.1.2.2.2.2.2
/-- Both legs, n pieces. -/
def twoL (t : Tr) (n : Int) : List Po := [(t.1.2.1, t.1.2.2.2.1, n, n * t.1.2.2.2.2.2), (t.1.2.2.1, t.1.2.2.2.1, -n, -n * t.1.2.2.2.2.2)]
def legsT (t : Tr) (back : Bool) : List Po := if sizedT t then twoL t (if back then -t.1.2.2.2.2.1 else t.1.2.2.2.2.1) else []

/-! ### the sums of legs -/
def qty (l : List Po) : Int := (l.map (·.2.2.1)).sum
def cst (l : List Po) : Int := (l.map (·.2.2.2)).sum
def okAm (x : Po) : Bool := isMoney x.2.2.1 && isMoney x.2.2.2
def sumPE (l : List Po) : Int := if l.all okAm then (if isMoney (qty l) && isMoney (cst l) then 0 else 1) else 3
def sumPQ (l : List Po) : Int := if sumPE l = 0 then qty l else 0
def sumPC (l : List Po) : Int := if sumPE l = 0 then cst l else 0

/-! ### keys -/
def keyP (x : Po) : Ky := (x.1, x.2.1)
def noK (k : Ky) : Int := k.1 * 8 + k.2
def noPo (x : Po) : Int := x.1 * 8 + x.2.1
def okK (k : Ky) : Bool := wi k.1 1 16 && wi k.2 1 8
/-- The order of keys. -/
def kltB (a b : Ky) : Bool := decide (a.1 < b.1) || (decide (a.1 = b.1) && decide (a.2 < b.2))
/-- The keys, in their order. -/
def gridK : List Ky := (List.range 128).map fun i : Nat => (((i / 8 : Nat) : Int) + 1, ((i % 8 : Nat) : Int) + 1)
/-! ### what lists have of a key, of an instrument -/
def isK (k : Ky) (x : Po) : Bool := decide (x.1 = k.1) && decide (x.2.1 = k.2)
def qK (l : List Po) (k : Ky) : Int := qty (l.filter (isK k))
def cK (l : List Po) (k : Ky) : Int := cst (l.filter (isK k))
def isI (n : Int) (x : Po) : Bool := decide (x.2.1 = n)
def qI (l : List Po) (n : Int) : Int := qty (l.filter (isI n))
def cI (l : List Po) (n : Int) : Int := cst (l.filter (isI n))

/-- An instrument's sum by members. -/
def byW (f : Ky → Int) (n : Int) : Int := ((List.range 16).map fun i : Nat => f ((i : Int) + 1, n)).sum
/-! ### positions out of a function of keys -/
def plOf (f : Ky → Int × Int) (k : Ky) : Option Po := if (f k).1 = 0 ∧ (f k).2 = 0 then none else some (k.1, k.2, (f k).1, (f k).2)
def plF (f : Ky → Int × Int) (m : Nat) : List Po := (gridK.take m).filterMap (plOf f)
def plA (f : Ky → Int × Int) : List Po := gridK.filterMap (plOf f)
/-! ### positions that rise have one of each key -/
def sumK2 (l : List Po) (k : Ky) : Int × Int := (qK l k, cK l k)
/-- The first position of a key. -/
def ofP (l : List Po) (k : Ky) : Po := (l.find? (isK k)).getD (k.1, k.2, 0, 0)
end Go.Proofs.Ytlmnbafklefmcaa.NumK
namespace Go.Proofs.Ytlmnbafklefmcaa.NumK
open Go.RowKit
set_option linter.unusedVariables false

/-- The last number, the trades, the positions. -/
abbrev Bk := Int × List Tr × List Po
abbrev bk0 : Bk := (0, [], [])

def okQ (q : Int) : Bool := wi q (-1099511627776) 1099511627776
def okPo (x : Po) : Bool := okK (keyP x) && okQ x.2.2.1 && isMoney x.2.2.2 && !(decide (x.2.2.1 = 0) && decide (x.2.2.2 = 0))
/-- Of each instrument they add up to 0. -/
def flatI (l : List Po) : Bool := (List.range 8).all fun i : Nat => decide (qI l ((i : Int) + 1) = 0)
def numsT (t : Tr) : Bool := sizedT t && wi t.1.2.1 1 16 && wi t.1.2.2.1 1 16 && !(decide (t.1.2.1 = t.1.2.2.1)) && wi t.1.2.2.2.1 1 8
def okTr (next : Int) (t : Tr) : Bool := numsT t && wi t.1.1 1 next
def rightPs (l : List Po) : Bool := rightL okPo noPo po0 l && flatI l
def rightTs (next : Int) (l : List Tr) : Bool := rightL (okTr next) noTr tr0 l && decide (l.length ≤ 128)
def rightB (b : Bk) : Bool := wi b.1 0 1099511627776 && rightTs b.1 b.2.1 && rightPs b.2.2

/-! ### adding -/
def okLeg (x : Po) : Bool := okK (keyP x) && okAm x
def addF (l legs : List Po) (k : Ky) : Int × Int := (qK l k + qK legs k, cK l k + cK legs k)
def fits (f : Ky → Int × Int) : Bool := gridK.all fun k => okQ (f k).1 && isMoney (f k).2
def addE (b : Bk) (legs : List Po) : Int := if rightB b then (if legs.all okLeg then (if flatI legs then (if fits (addF b.2.2 legs) then 0 else 1) else 12) else 3) else 14
def addB (b : Bk) (legs : List Po) : Bk := if addE b legs = 0 then (b.1, b.2.1, plA (addF b.2.2 legs)) else bk0
/-! ### the legs of a trade -/
/-- Within so much. -/
def wm (n m : Int) : Prop := -m ≤ n ∧ n ≤ m
def sideB (t : Tr) (k : Ky) : Bool := isK k (t.1.2.1, t.1.2.2.2.1, 0, 0)
def sideS (t : Tr) (k : Ky) : Bool := isK k (t.1.2.2.1, t.1.2.2.2.1, 0, 0)
/-- Only what a trade says beside its number counts. -/
def bare (t : Tr) : Int × Int × Int × Int × Int := t.1.2
end Go.Proofs.Ytlmnbafklefmcaa.NumK
namespace Go.Proofs.Ytlmnbafklefmcaa.NumK
open Go.RowKit
set_option linter.unusedVariables false

def worthV (p : Po) (mult price : Int) : Int := mult * (p.2.2.1 * price - p.2.2.2)
def mayW (p : Po) (mult price : Int) : Bool := okQ p.2.2.1 && isMoney p.2.2.2 && wi mult 1 1024 && wi price 0 1073741824
def worthE (p : Po) (mult price : Int) : Int := if mayW p mult price then (if isMoney (worthV p mult price) then 0 else 1) else 3
def worthN (p : Po) (mult price : Int) : Int := if worthE p mult price = 0 then worthV p mult price else 0
/-- The price that was told, or the last one; none: 0. -/
def priceI (i : In) : Int := if i.1.2.2.2.2.1 = 0 then i.1.2.2.2.2.2 else i.1.2.2.2.2.1
def priceE (i : In) : Int := if i.1.2.2.2.2.1 = 0 ∧ i.1.2.2.2.2.2 = 0 then 20 else 0
def instOf (r : Rl) (p : Po) : In := findL noIn in0 r.2.1 p.2.1
def hasI (r : Rl) (p : Po) : Bool := hasL noIn r.2.1 p.2.1
def wonP (r : Rl) (p : Po) : Int := worthV p (instOf r p).1.2.2.1 (priceI (instOf r p))
def costP (r : Rl) (p : Po) : Int := p.2.2.1 * priceI (instOf r p)
/-- What is amiss with a position. -/
def stepM (r : Rl) (p : Po) : Int :=
  if hasI r p then (if priceI (instOf r p) = 0 ∧ p.2.2.1 ≠ 0 then 20 else (if isMoney (wonP r p) && isMoney (costP r p) then 0 else 1)) else 10
/-- The first thing that is amiss. -/
def firstM (r : Rl) : List Po → Int
  | [] => 0
  | p :: l => if stepM r p = 0 then firstM r l else stepM r p
/-- Marked. -/
def markP (r : Rl) (p : Po) : Option Po := if p.2.2.1 = 0 ∧ costP r p = 0 then none else some (p.1, p.2.1, p.2.2.1, costP r p)
def markL (r : Rl) (l : List Po) : List Po := l.filterMap (markP r)
def dueP (r : Rl) (p : Po) : Int × Int × Int := (p.1, (instOf r p).1.2.1, wonP r p)
def duesM (r : Rl) (l : List Po) : List (Int × Int × Int) := l.map (dueP r)
/-! ### what all win -/
/-! ### from price to price -/
end Go.Proofs.Ytlmnbafklefmcaa.NumK
namespace Go.Proofs.Ytlmnbafklefmcaa.NumK
open Go.RowKit
set_option linter.unusedVariables false

/-- Does a position count? -/
def cntG (r : Rl) (who cur : Int) (p : Po) : Bool := hasI r p && (decide (p.1 = who) && decide ((instOf r p).1.2.1 = cur))
def shJ (i : In) (j : Nat) : Int := (shIn i).getD j 0
def lossP (r : Rl) (j : Nat) (p : Po) : Int := -p.2.2.1 * ((instOf r p).1.2.2.1 * shJ (instOf r p) j)
def lossV (r : Rl) (who cur : Int) (l : List Po) (j : Nat) : Int := ((l.filter (cntG r who cur)).map (lossP r j)).sum
def absI (q : Int) : Int := if -q < q then q else -q
def addP (r : Rl) (p : Po) : Int := absI p.2.2.1 * (instOf r p).1.2.2.2.1
def addG (r : Rl) (who cur : Int) (l : List Po) : Int := ((l.filter (cntG r who cur)).map (addP r)).sum
/-- The greatest of the first m losses, or 0. -/
def mostV (f : Nat → Int) : Nat → Int
  | 0 => 0
  | j + 1 => if mostV f j < f j then f j else mostV f j
def margV (r : Rl) (who cur : Int) (l : List Po) : Int := mostV (lossV r who cur l) 6 + addG r who cur l

/-! ### add-ons are not below 0 -/
/-! ### what follows -/
def turnP (p : Po) : Po := (p.1, p.2.1, -p.2.2.1, p.2.2.2)
end Go.Proofs.Ytlmnbafklefmcaa.NumK
namespace Go.Proofs.Ytlmnbafklefmcaa.NumK
open Go.RowKit

end Go.Proofs.Ytlmnbafklefmcaa.NumK
namespace Go.Proofs.Ytlmnbafklefmcaa.NumK
open Go.RowKit
set_option linter.unusedVariables false

end Go.Proofs.Ytlmnbafklefmcaa.NumK
namespace Go.Proofs.Ytlmnbafklefmcaa.NumK
open Go.RowKit
set_option linter.unusedVariables false

theorem own_form {α : Type} {E : En α} {w : World} {base : Nat} {t : TypeId} {A : Option Addr} {n c : Nat} {l : List α} (h : OwnE E w base t (.slice A n c) l) : RowE E w A l.length l ∧ (A = none → c = 0) ∧ l.length ≤ c ∧ c ≤ 9223372036854775807 := by
  obtain ⟨A', c', e, hr, hn, h1, h2⟩ := h.form
  cases e
  exact ⟨hr, hn, h1, by unfold maxLen at h2; omega⟩
theorem OwnE.block {α : Type} {E : En α} {w : World} {base : Nat} {t : TypeId} {A : Option Addr} {n c : Nat} {l : List α} (h : OwnE E w base t (.slice A n c) l) : ∀ x, A = some x → base ≤ x.block ∧ x.block < w.heap.size := by
  intro x hx
  subst hx
  exact World.ownsRow.lt h x.block rfl
/-- Not in one block. -/
def Apart (A B : Option Addr) : Prop := ∀ x y, A = some x → B = some y → x.block ≠ y.block
end Go.Proofs.Ytlmnbafklefmcaa.NumK
namespace Go.Proofs.Ytlmnbafklefmcaa.NumK
open Go.RowKit
set_option linter.unusedVariables false

end Go.Proofs.Ytlmnbafklefmcaa.NumK
namespace Go.Proofs.Ytlmnbafklefmcaa.NumK
open Go.RowKit

end Go.Proofs.Ytlmnbafklefmcaa.NumK
