/- Contracts of the reference's Add, Mul, Floor. -/
import Derived.Test.YtfmhphojnokhdaaRef01C
namespace Go.Proofs.Ytfmhphojnokhdaa.NumK
open Go.RowKit

theorem wcells_len (xs : List Int) : (xs.flatMap wcells).length = xs.length * 2 := by
  induction xs with
  | nil => rfl
  | cons x xs ih => rw [List.flatMap_cons, List.length_append, ih]; simp [wcells]; omega
theorem wcells_at (xs : List Int) (j : Nat) (h : j < xs.length) : (xs.flatMap wcells)[j * 2]? = some (.int .i64 (hi64 (xs.getD j 0))) ∧ (xs.flatMap wcells)[j * 2 + 1]? = some (.int .u64 (lo64 (xs.getD j 0))) := by
  induction xs generalizing j with
  | nil => simp at h
  | cons x xs ih =>
    cases j with
    | zero => simp [wcells, List.flatMap_cons]
    | succ j =>
      have := ih j (by simpa using h)
      rw [List.flatMap_cons, show (j + 1) * 2 = j * 2 + 1 + 1 from by omega]
      simpa [wcells] using this

theorem wides_of_own {w : World} {base : Nat} {e : TypeId} {v : Value} {n : Nat} {xs : List Int} (h : w.ownsRow base e 2 v n (xs.flatMap wcells)) :
    ∃ A c, v = .slice A n c ∧ Wides w A n xs := by
  obtain ⟨hl, h⟩ := h
  rw [wcells_len] at hl
  have hl : xs.length = n := by omega
  rcases h with ⟨rfl, rfl⟩ | ⟨g, cap, cur, rfl, _, hh, _, _, _, ht⟩
  · exact ⟨none, 0, rfl, ⟨hl, fun h => absurd h (by omega)⟩⟩
  · refine ⟨some ⟨g, 0, none⟩, cap, rfl, ⟨hl, fun hn => ⟨g, 0, rfl, ?_, fun j hj => ?_⟩⟩⟩
    · rcases Nat.lt_or_ge g w.heap.size with h1 | h1
      · exact h1
      · rw [Array.getElem?_eq_none h1] at hh; cases hh
    · obtain ⟨w1, w2⟩ := wcells_at xs j (by omega)
      rw [cell_of_row w g (0 + j * 2) cur e (0, 0) hh, cell_of_row w g (0 + j * 2 + 1) cur e (0, 0) hh, Nat.zero_add]
      rw [← ht, List.getElem?_take, if_pos (by omega)] at w1 w2
      rw [Array.getElem?_toList] at w1 w2
      exact ⟨w1, w2⟩

theorem own_keep {w w2 : World} {base : Nat} {e : TypeId} {size : Nat} {v : Value} {n : Nat} {xs : List Value} (h : w.ownsRow base e size v n xs) (g : Grew w w2) : w2.ownsRow base e size v n xs := by
  obtain ⟨hl, h⟩ := h
  refine ⟨hl, ?_⟩
  rcases h with h | ⟨b, cap, cur, hv, hb, hh, r⟩
  · exact Or.inl h
  · refine Or.inr ⟨b, cap, cur, hv, hb, ?_, r⟩
    rw [g.block b ?_]
    · exact hh
    · rcases Nat.lt_or_ge b w.heap.size with h1 | h1
      · exact h1
      · rw [Array.getElem?_eq_none h1] at hh; cases hh

theorem info_wide : (Try.prog.info? 48).map (fun i => (i.zero, i.size, i.bytes)) = some (some (.agg #[.int .i64 0, .int .u64 0]), 2, 16) := by kernel_rfl

section
variable {w : World} {ops : Array Oper} {rest : List Oper} {o : Oper} {a : Act} {Q : Exit → Act → World → Prop}
theorem wpList_append_wide (hgd : o.guard = none) (s x : Operand)
    (ho : o.op = .call { callee := .builtin .append, args := #[s, x], argTypes := #[45, 45] })
    (base : Nat) (v : Value) (n : Nat) (xs : List Int) (hs : a.eval s = v) (hown : w.ownsRow base 48 2 v n (xs.flatMap wcells))
    (b c : Nat) (z : Int) (hx : a.eval x = .slice (some ⟨b, 0, none⟩) 1 c) (h0 : w.cell? ⟨b, 0, none⟩ = some (.int .i64 (hi64 z))) (h1 : w.cell? ⟨b, 1, none⟩ = some (.int .u64 (lo64 z)))
    (h63 : n + 1 ≤ 1000000) (hbase : base ≤ w.heap.size)
    (h : ∀ v' w', w'.ownsRow base 48 2 v' (n + 1) ((xs ++ [z]).flatMap wcells) → Below base w w' → wpList Try.prog ops Q rest (a.put o.dst v') w') : wpList Try.prog ops Q (o :: rest) a w := by
  obtain ⟨i, hi, hz0, hz1, hz2⟩ := info_parts info_wide
  refine wpList_append_own w hgd s x 45 ho base 48 i _ 2 16 Try.underlying45 hi hz0 hz1 hz2 rfl (by decide) v n _ hs hown ⟨b, 0, none⟩ 1 c (wcells z) hx
      rfl (fun j u hu => ?_) (fun u hu => ?_) (by unfold maxLen; omega) (by omega) hbase (fun v' w' ho' hg _ => ?_)
  · match j, hu with
    | 0, hu => simp [wcells] at hu; subst hu; simpa [Addr.add] using h0
    | 1, hu => simp [wcells] at hu; subst hu; simpa [Addr.add] using h1
    | j + 2, hu => simp [wcells] at hu
  · simp [wcells] at hu
    rcases hu with rfl | rfl <;> rfl
  · refine h v' w' (by rw [List.flatMap_append]; simpa using ho') ((Below.refl base w).grown hg hbase fun k hk => ?_)
    rcases hown.2 with ⟨rfl, _⟩ | ⟨g, cap, cur, rfl, hg', _⟩
    · simp [Value.ownBlock] at hk
    · simp [Value.ownBlock] at hk; omega
end

theorem take_map_succ (zs : List Int) (k : Nat) (h : k < zs.length) : zs.take k ++ [zs.getD k 0] = zs.take (k + 1) := by
  rw [List.take_succ_eq_append_getElem h]
  simp [List.getD, List.getElem?_eq_getElem h]

theorem sum_wide (zs : List Int) (hb : ∀ z ∈ zs, -9223372036854775808 ≤ z ∧ z ≤ 9223372036854775807) (hn : zs.length ≤ 1000000) : isWide zs.sum = true := by
  have key : ∀ l : List Int, (∀ z ∈ l, -9223372036854775808 ≤ z ∧ z ≤ 9223372036854775807) → -(l.length * 9223372036854775808) ≤ l.sum ∧ l.sum ≤ l.length * 9223372036854775808 := by
    intro l
    induction l with
    | nil => intro _; simp
    | cons z l ih =>
      intro h
      have h1 := h z (by simp)
      have h2 := ih fun y hy => h y (by simp [hy])
      simp only [List.sum_cons, List.length_cons]
      omega
  have := key zs hb
  rw [isWide_iff]
  omega

set_option maxRecDepth 100000 in
set_option maxHeartbeats 2000000 in
theorem add_any (A : Option Addr) (n c : Nat) (zs : List Int) (w : World) (hz : Ints w A n zs) (hb : ∀ z ∈ zs, -9223372036854775808 ≤ z ∧ z ≤ 9223372036854775807) (hn : n ≤ 100000) :
    Calls Try.prog 11 #[.slice A n c] w fun e w' => e = .returned (.tuple #[.int .i64 (intV zs.sum), .bool (isMoney zs.sum)]) ∧ Grew w w' := by
  have HZ := Lib.hid hz
  have HB := Lib.hid hb
  clear hz hb
  go_enter Try.func11, Try.ntmps11
  go_wp2
  go_loopw [4, 5] (fun v i wr => ∃ k : Nat, k ≤ n ∧ i = .int .i64 k ∧ wr.ownsRow w.heap.size 48 2 v k ((zs.take k).flatMap wcells) ∧ Below w.heap.size w wr) (fun _ i _ => n - (intOf i).toNat)
  case atStart => exact ⟨0, Nat.zero_le _, rfl, by simpa using World.ownsRow_nil _ _ _ _, Below.refl _ _⟩
  case round =>
    obtain ⟨k, hk, rfl, hown, hbel⟩ := hrel
    by_cases hlt : k < n
    · obtain ⟨b0, o0, rfl, hb0, hc⟩ := HZ.out.2 (by omega)
      have hcell : wr.cell? ⟨b0, o0 + k, none⟩ = some (.int .i64 (zs.getD k 0)) := by
        rw [← hc k (by omega)]
        exact hbel.cell (p := ⟨b0, o0 + k, none⟩) hb0
      have hzb := HB.out (zs.getD k 0) (by rw [List.getD_eq_getElem?_getD, List.getElem?_eq_getElem (by have := HZ.out.1; omega)]; exact List.getElem_mem _)
      have HX := Lib.hid (take_map_succ zs k (by have := HZ.out.1; omega))
      have HO := Lib.hid hown
      have HBW := Lib.hid hbel
      clear hc hown hbel
      generalize zs.getD k 0 = y at *
      have C := fun w => of_any y w hzb
      obtain ⟨y1, y2⟩ := hzb
      go_wp2_with (first
        | (go_at_call 21; ((with_reducible refine (C _).mono ?_); rintro e w2 ⟨rfl, hg2⟩; have HG2 := Lib.hid hg2; clear hg2))
        | (at_builtin; refine wpList_append_wide rfl _ _ rfl w.heap.size _ k _ rfl ((own_keep HO.out HG2.out).alloc _) w2.heap.size 1 y rfl (by simp) (by simp) (by omega) (Nat.le_trans HBW.out.size (Nat.le_trans HG2.out.size (by simp))) ?_; intro v' w' hv hb'; have HV := Lib.hid hv; have HB' := Lib.hid hb'; clear hv hb'))
      go_roundw
      case rel =>
        refine ⟨k + 1, by omega, by go_num, ?_, ?_⟩
        · rw [← HX.out]; exact HV.out
        · exact ((HBW.out.trans (HG2.out.mono HBW.out.size)).alloc (Nat.le_trans HBW.out.size HG2.out.size) _).trans HB'.out
      case measure => simp [intOf]; omega
    · have hkn : k = n := by omega
      subst hkn
      have ht : zs.take k = zs := List.take_of_length_le (by have := HZ.out.1; omega)
      rw [ht] at hown
      obtain ⟨A3, c3, rfl, hW⟩ := wides_of_own hown
      have hs := sum_wide zs HB.out (by have := HZ.out.1; omega)
      have C := refSum_any A3 k c3 zs wr hW (fun x hx => by have := HB.out x hx; rw [isWide_iff]; omega) (by omega)
      rw [wsV, if_pos hs, hs] at C
      have D := fun w => refInt_any zs.sum w
      have HBW := Lib.hid hbel
      clear ht hown hW hs hbel hlt
      go_wp2_with (first
        | (go_at_call 22; ((with_reducible refine C.mono ?_); rintro e w2 ⟨rfl, hg2⟩; have HG2 := Lib.hid hg2; clear hg2))
        | (go_at_call 23; ((with_reducible refine (D _).mono ?_); rintro e w3 ⟨rfl, hg3⟩; have HG3 := Lib.hid hg3; clear hg3)))
      go_ret2
      exact ⟨rfl, Below.trans (HBW.out.trans (HG2.out.mono HBW.out.size)) (Below.mono (grew_trans (grew_alloc _ _ _) HG3.out) (Nat.le_trans HBW.out.size HG2.out.size))⟩

set_option maxHeartbeats 1000000 in
theorem floor_any (a b : Int) (w : World) (ha : isMoney a = true) (hb : isMoney b = true) (h0 : b ≠ 0) :
    Calls Try.prog 17 #[.int .i64 a, .int .i64 b] w fun e w' => e = .returned (.tuple #[.int .i64 (a.fdiv b), .int .i64 (a.fmod b)]) ∧ Grew w w' := by
  rw [isMoney_iff] at ha hb
  obtain ⟨h1, h2, h3, h4, h5, h6, h7⟩ := tdiv_facts a b h0
  have hq : IntKind.i64.wrap (a.tdiv b) = a.tdiv b := IntWalk.i64_in _ (by omega)
  have hb0 : (b == 0) = false := by simpa using h0
  obtain ⟨b1, b2⟩ := hb
  obtain ⟨a1, a2⟩ := ha
  have FU := Lib.hid (fun x y => floor_up a b h0 x y)
  have FS := Lib.hid (fun x => floor_same a b h0 x)
  have HF := Lib.hid h1
  clear h1 h2 h3
  by_cases hr0 : a.tmod b = 0
  · go_enter Try.func17, Try.ntmps17
    go_wp2
    go_quiet (fail)
    go_wp2
    go_ret2
    have f := FS.out (Or.inl hr0)
    exact ⟨ret2 f.1.symm (by omega), grew_drewN (grew_refl _) _⟩
  · have hr1 : (a.tmod b == 0) = false := by simpa using hr0
    have hr2 : (a.tmod b != 0) = true := by simpa using hr0
    by_cases c1 : a.tmod b < 0 <;> by_cases c2 : b < 0
    · have d1 : decide (a.tmod b < 0) = true := by simpa using c1
      have d2 : decide (b < 0) = true := by simpa using c2
      go_enter Try.func17, Try.ntmps17
      go_wp2
      go_quiet (fail)
      go_wp2
      go_ret2
      have f := FS.out (Or.inr (by omega))
      exact ⟨ret2 f.1.symm f.2.symm, grew_drewN (grew_refl _) _⟩
    · have d1 : decide (a.tmod b < 0) = true := by simpa using c1
      have d2 : decide (b < 0) = false := by simpa using c2
      go_enter Try.func17, Try.ntmps17
      go_wp2
      go_quiet (fail)
      go_wp2
      go_ret2
      have f := FU.out hr0 (by omega)
      exact ⟨ret2 f.1.symm f.2.symm, grew_drewN (grew_refl _) _⟩
    · have d1 : decide (a.tmod b < 0) = false := by simpa using c1
      have d2 : decide (b < 0) = true := by simpa using c2
      go_enter Try.func17, Try.ntmps17
      go_wp2
      go_quiet (fail)
      go_wp2
      go_ret2
      have f := FU.out hr0 (by omega)
      exact ⟨ret2 f.1.symm f.2.symm, grew_drewN (grew_refl _) _⟩
    · have d1 : decide (a.tmod b < 0) = false := by simpa using c1
      have d2 : decide (b < 0) = false := by simpa using c2
      go_enter Try.func17, Try.ntmps17
      go_wp2
      go_quiet (fail)
      go_wp2
      go_ret2
      have f := FS.out (Or.inr (by omega))
      exact ⟨ret2 f.1.symm f.2.symm, grew_drewN (grew_refl _) _⟩


theorem mul_any (a b : Int) (w : World) (ha : isMoney a = true) (hb : isMoney b = true) :
    Calls Try.prog 15 #[.int .i64 a, .int .i64 b] w fun e w' => e = .returned (.tuple #[.int .i64 (intV (a * b)), .bool (isMoney (a * b))]) ∧ Grew w w' := by
  rw [isMoney_iff] at ha hb
  have C := refTimes_any a b w (by omega) (by omega)
  have D := fun w => refInt_any (a * b) w
  clear ha hb
  generalize a * b = p at *
  go_enter Try.func15, Try.ntmps15
  go_wp2_with (first
    | (go_at_call 26; ((with_reducible refine C.mono ?_); rintro e w2 ⟨rfl, hg2⟩))
    | (go_at_call 23; ((with_reducible refine (D _).mono ?_); rintro e w3 ⟨rfl, hg3⟩)))
  go_ret2
  exact ⟨rfl, grew_trans hg2 hg3⟩
end Go.Proofs.Ytfmhphojnokhdaa.NumK
