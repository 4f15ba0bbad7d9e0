/- The contract of math/bits.Div64. -/
import Derived.Test.YtodnllopokoicaaGreatRH4
import Derived.Deep.CutBlock
import Derived.Test.YtodnllopokoicaaGreatRH1
import Derived.Test.YtodnllopokoicaaGreatRH2
import Derived.Deep.AppendLies
import Derived.Test.YtodnllopokoicaaGreatRH3
namespace Go.Proofs.YtodnllopokoicaaGreat.NumK
open Go.RowKit

set_option maxHeartbeats 1000000 in
set_option maxRecDepth 100000 in
theorem div64_zero (lo y : Int) (w : World) (h1 : 0 < y) (h2 : y ≤ 18446744073709551615) (l0 : 0 ≤ lo) (l1 : lo ≤ 18446744073709551615) :
    Calls Tryz.prog 123 #[.int .u64 0, .int .u64 lo, .int .u64 y] w fun e w' => e = .returned (.tuple #[.int .u64 (lo / y), .int .u64 (lo % y)]) ∧ Grew w w' := by
  have e1 : lo.tdiv y = lo / y := Int.tdiv_eq_ediv_of_nonneg l0
  have e2 : lo.tmod y = lo % y := Int.tmod_eq_emod_of_nonneg l0
  have b1 : 0 ≤ lo / y := Int.ediv_nonneg l0 (by omega)
  have b2 : lo / y ≤ lo := Int.ediv_le_self y l0
  have b3 : 0 ≤ lo % y := Int.emod_nonneg lo (by omega)
  have b4 : lo % y < y := Int.emod_lt_of_pos lo h1
  have y0 : (y == 0) = false := by simp; omega
  have e3 : IntKind.u64.wrap (lo.tdiv y) = lo / y := by rw [e1, IntKind.wrap_u64]; omega
  go_enter Tryz.func123, Tryz.ntmps123
  go_wp2
  go_quiet (fail)
  go_wp2
  exact bodyPost_ret (v := .tuple #[.int .u64 (lo / y), .int .u64 (lo % y)]) (by simp [results, Tryz.results123, go_sem]) rfl ⟨rfl, grew_drewN (grew_refl _) _⟩

set_option maxHeartbeats 2000000 in
set_option maxRecDepth 100000 in
theorem div64_far (hi lo y s : Int) (w : World) (h0 : 0 < hi) (h1 : hi < y) (l0 : 0 ≤ lo) (l1 : lo ≤ 18446744073709551615) (s0 : 0 ≤ s) (s1 : s ≤ 63) (p0 : 2 ^ (63 - s).toNat ≤ y) (p1 : y < 2 ^ (64 - s).toNat)
   (C : ∀ w, Calls Tryz.prog 142 #[.int .u64 y] w fun e w' => e = .returned (.int .i64 s) ∧ w = w') :
    Calls Tryz.prog 123 #[.int .u64 hi, .int .u64 lo, .int .u64 y] w fun e w' => e = .returned (.tuple #[.int .u64 ((hi * 18446744073709551616 + lo) / y), .int .u64 ((hi * 18446744073709551616 + lo) % y)]) ∧ Grew w w' := by
  obtain ⟨Y, H, B, U, L, y1, y0, d1, d0, eY, eH, eB, eO, eL, eY1, eY0, eL1, eL0, f1, f2, f3, f4, f5, f6, f7, f8, f9, f10, f11, ⟨g1, g2⟩, ⟨g3, g4⟩, ⟨g5, g6⟩, f12, f13⟩ := scaled hi lo y s (by omega) h1 l0 l1 s0 s1 p0 p1
  clear p0 p1
  obtain ⟨q, m, q2, V, a1, a2, a3, k1, k2, k3, k4, k5, k6, k7, k8, k9, k10, k11, k12, k13, k14, k15, k16, k17, k18⟩ := digit Y y1 y0 U d1 f1 f2 f3 f4 f5 f6 f7 f10 f11
  obtain ⟨q', m', q3, R, b1, b2, b3, j1, j2, j3, j4, j5, j6, j7, j8, j9, j10, j11, j12, j13, j14, j15, j16, j17, j18⟩ := digit Y y1 y0 V d0 f1 f2 f3 f4 f5 f8 f9 k16 k17
  have fin := scaled_quo (hi * 18446744073709551616 + lo) y (2 ^ s.toNat) (q2 * 4294967296 + q3) R (Int.pow_pos (by omega)) (by
    rw [← f12, ← f13, Int.add_mul]
    have : q2 * 4294967296 * Y = q2 * Y * 4294967296 := by grind
    rw [this]
    generalize q2 * Y = X1 at *
    generalize q3 * Y = X2 at *
    omega) j16 (by rw [← f13]; exact j17) (by omega)
  have FIN := Lib.hid fin
  have huA : U < y1 * 4294967296 + y0 := by omega
  have huB : V < y1 * 4294967296 + y0 := by omega
  have gU : U < 18446744073709551616 := by omega
  have gV : V < 18446744073709551616 := by omega
  have gR : R < 18446744073709551616 := by omega
  have K3 := Lib.hid k3
  have J3 := Lib.hid j3
  clear f12 f13 fin k3 j3 k18 j18 f11 f1
  go_enter Tryz.func123, Tryz.ntmps123
  go_upto_block 0 with (first | (go_at_call 142; ((with_reducible refine (C _).mono ?_); rintro e w' ⟨rfl, rfl⟩)))
  go_cut [15] (fun s15 wx => s15 = .int .u64 q2 ∧ w = wx)
  case first =>
    go_wp2_with fail
    go_loop [15, 16] (fun a b => ∃ g r : Int, a = .int .u64 g ∧ b = .int .u64 r ∧ Hid (Dig y1 y0 U d1 g r) ∧ 0 ≤ r ∧ r < 4294967296 ∧ 0 ≤ g ∧ g ≤ 4294967297) (fun a _ => (intOf a).toNat)
    case atStart => exact ⟨q, U - m, rfl, rfl, K3, by omega, by omega, by omega, by omega⟩
    case round =>
      obtain ⟨g, r, rfl, rfl, DD, r0, r1, g0, g1⟩ := hrel
      obtain ⟨p, hp⟩ : ∃ p, p = g * y0 := ⟨_, rfl⟩
      have ln := fun h => dig_next y1 y0 U d1 g r p (by omega) (by omega) huA (by omega) (by omega) DD.out hp h
      have lp := dig_pos y1 y0 U d1 g r p (by omega) DD.out hp
      have lx := dig_exit y1 y0 U d1 g r p (by omega) huA DD.out hp
      rw [k9] at lx
      have lb := dig_break y1 y0 U d1 (g - 1) (r + y1) (by omega) f4 f5 (by omega) huA
      rw [k9] at lb
      by_cases c1 : 4294967296 ≤ g
      · have hg := lp (Or.inl c1)
        have DN := Lib.hid (ln (Or.inl c1))
        clear ln lp lx hp
        by_cases c3 : 4294967296 ≤ r + y1
        · have E := Lib.hid (lb DN.out (by omega) c3)
          clear lb
          go_wp2_with fail
          go_meet
          case rel => exact ⟨by rw [E.out.1], rfl⟩
        · clear lb
          go_wp2_with fail
          go_round
          case rel => exact ⟨g - 1, r + y1, rfl, rfl, DN, by omega, by omega, by omega, by omega⟩
          case measure => simp [intOf]; omega
      · have ep : IntKind.u64.wrap (g * y0) = p := by
          have e1 : g * y0 ≤ 4294967295 * 4294967295 := Int.mul_le_mul (by omega) (by omega) f4 (by omega)
          have e2 : 0 ≤ g * y0 := Int.mul_nonneg g0 f4
          rw [hp, IntKind.wrap_u64]; omega
        by_cases c2 : 4294967296 * r + d1 < p
        · have hg := lp (Or.inr c2)
          have DN := Lib.hid (ln (Or.inr c2))
          clear ln lp lx hp
          by_cases c3 : 4294967296 ≤ r + y1
          · have E := Lib.hid (lb DN.out (by omega) c3)
            clear lb
            go_wp2_with fail
            go_meet
            case rel => exact ⟨by rw [E.out.1], rfl⟩
          · clear lb
            go_wp2_with fail
            go_round
            case rel => exact ⟨g - 1, r + y1, rfl, rfl, DN, by omega, by omega, by omega, by omega⟩
            case measure => simp [intOf]; omega
        · have E := Lib.hid (lx (by omega))
          clear ln lp lx hp lb
          go_wp2_with fail
          go_meet
          case rel => exact ⟨by rw [E.out.1], rfl⟩
  case rest =>
    obtain ⟨rfl, rfl⟩ := hcut
    go_upto_block 2 with fail
    go_cut [18] (fun s18 wx => s18 = .int .u64 q3 ∧ w = wx)
    case first =>
      go_wp2_with fail
      go_loop [18, 16] (fun a b => ∃ g r : Int, a = .int .u64 g ∧ b = .int .u64 r ∧ Hid (Dig y1 y0 V d0 g r) ∧ 0 ≤ r ∧ r < 4294967296 ∧ 0 ≤ g ∧ g ≤ 4294967297) (fun a _ => (intOf a).toNat)
      case atStart => exact ⟨q', V - m', rfl, rfl, J3, by omega, by omega, by omega, by omega⟩
      case round =>
        obtain ⟨g, r, rfl, rfl, DD, r0, r1, g0, g1⟩ := hrel
        obtain ⟨p, hp⟩ : ∃ p, p = g * y0 := ⟨_, rfl⟩
        have ln := fun h => dig_next y1 y0 V d0 g r p (by omega) (by omega) huB (by omega) (by omega) DD.out hp h
        have lp := dig_pos y1 y0 V d0 g r p (by omega) DD.out hp
        have lx := dig_exit y1 y0 V d0 g r p (by omega) huB DD.out hp
        rw [j9] at lx
        have lb := dig_break y1 y0 V d0 (g - 1) (r + y1) (by omega) f4 f5 (by omega) huB
        rw [j9] at lb
        by_cases c1 : 4294967296 ≤ g
        · have hg := lp (Or.inl c1)
          have DN := Lib.hid (ln (Or.inl c1))
          clear ln lp lx hp
          by_cases c3 : 4294967296 ≤ r + y1
          · have E := Lib.hid (lb DN.out (by omega) c3)
            clear lb
            go_wp2_with fail
            go_meet
            case rel => exact ⟨by rw [E.out.1], rfl⟩
          · clear lb
            go_wp2_with fail
            go_round
            case rel => exact ⟨g - 1, r + y1, rfl, rfl, DN, by omega, by omega, by omega, by omega⟩
            case measure => simp [intOf]; omega
        · have ep : IntKind.u64.wrap (g * y0) = p := by
            have e1 : g * y0 ≤ 4294967295 * 4294967295 := Int.mul_le_mul (by omega) (by omega) f4 (by omega)
            have e2 : 0 ≤ g * y0 := Int.mul_nonneg g0 f4
            rw [hp, IntKind.wrap_u64]; omega
          by_cases c2 : 4294967296 * r + d0 < p
          · have hg := lp (Or.inr c2)
            have DN := Lib.hid (ln (Or.inr c2))
            clear ln lp lx hp
            by_cases c3 : 4294967296 ≤ r + y1
            · have E := Lib.hid (lb DN.out (by omega) c3)
              clear lb
              go_wp2_with fail
              go_meet
              case rel => exact ⟨by rw [E.out.1], rfl⟩
            · clear lb
              go_wp2_with fail
              go_round
              case rel => exact ⟨g - 1, r + y1, rfl, rfl, DN, by omega, by omega, by omega, by omega⟩
              case measure => simp [intOf]; omega
          · have E := Lib.hid (lx (by omega))
            clear ln lp lx hp lb
            go_wp2_with fail
            go_meet
            case rel => exact ⟨by rw [E.out.1], rfl⟩
    case rest =>
      obtain ⟨rfl, rfl⟩ := hcut
      go_wp2_with fail
      exact bodyPost_ret (v := .tuple #[.int .u64 (q2 * 4294967296 + q3), .int .u64 (R / 2 ^ s.toNat)]) (by simp [results, Tryz.results123, go_sem]) rfl ⟨by rw [FIN.out.1, FIN.out.2], grew_refl _⟩

theorem bitLen_both (x : Nat) (h0 : 0 < x) (h1 : x < 18446744073709551616) : 1 ≤ Lib.bitLen x ∧ Lib.bitLen x ≤ 64 ∧ 2 ^ (Lib.bitLen x - 1) ≤ x ∧ x < 2 ^ Lib.bitLen x := by
  have a := Lib.bitLen_le x 64 (by omega) h1
  have b := Lib.bitLen_half x (by omega) h1
  refine ⟨by omega, a, ?_, ?_⟩
  · rcases Nat.lt_or_ge x (2 ^ (Lib.bitLen x - 1)) with c | c
    · have := Lib.bitLen_le x (Lib.bitLen x - 1) (by omega) c
      omega
    · exact c
  · rcases Nat.lt_or_ge x (2 ^ Lib.bitLen x) with c | c
    · exact c
    · have e := Lib.bitLen_shift (Lib.bitLen x) x c h1
      have p : 0 < x / 2 ^ Lib.bitLen x := Nat.div_pos c (Nat.two_pow_pos _)
      have q : x / 2 ^ Lib.bitLen x < 2 ^ 64 := Nat.lt_of_le_of_lt (Nat.div_le_self _ _) h1
      have := Lib.bitLen_half (x / 2 ^ Lib.bitLen x) (by omega) q
      omega

theorem div64_any (hi lo y : Int) (w : World) (h0 : 0 ≤ hi) (h1 : hi < y) (h2 : y ≤ 18446744073709551615) (l0 : 0 ≤ lo) (l1 : lo ≤ 18446744073709551615) :
    Calls Tryz.prog 123 #[.int .u64 hi, .int .u64 lo, .int .u64 y] w fun e w' => e = .returned (.tuple #[.int .u64 ((hi * 18446744073709551616 + lo) / y), .int .u64 ((hi * 18446744073709551616 + lo) % y)]) ∧ Grew w w' := by
  by_cases c : hi = 0
  · subst c
    have e : (0 * 18446744073709551616 + lo : Int) = lo := by omega
    rw [e]
    exact div64_zero lo y w h1 h2 l0 l1
  · obtain ⟨a1, a2, a3, a4⟩ := bitLen_both y.toNat (by omega) (by omega)
    have C := fun w => lz64_any y w (by omega) h2
    have e1 : (63 - (64 - (Lib.bitLen y.toNat : Int))).toNat = Lib.bitLen y.toNat - 1 := by omega
    have e2 : (64 - (64 - (Lib.bitLen y.toNat : Int))).toNat = Lib.bitLen y.toNat := by omega
    exact div64_far hi lo y (64 - (Lib.bitLen y.toNat : Int)) w (by omega) h1 l0 l1 (by omega) (by omega) (by rw [e1, pow_nat]; omega) (by rw [e2, pow_nat]; omega) C
end Go.Proofs.YtodnllopokoicaaGreat.NumK
namespace Go.Proofs.YtodnllopokoicaaGreat.NumK
open Go.RowKit
theorem grew_every {w : World} {S : World → Prop} (h : ∀ w', Grew w w' → S w') : ∀ p : GrewTo w, S p.to := fun p => h p.to p.h
theorem calls_every {P : Program} {f : FuncId} {args : Array Value} {w : World} {p : GrewTo w} {v : Value}
    (h : ∀ w', Grew w w' → Calls P f args w' fun e w'' => e = .returned v ∧ Grew w' w'') : Calls P f args p.to fun e w'' => e = .returned v ∧ ∃ q : GrewTo w, w'' = q.to := calls_grew (h p.to p.h)
end Go.Proofs.YtodnllopokoicaaGreat.NumK
namespace Go.Proofs.YtodnllopokoicaaGreat.NumK
open Go.RowKit
set_option linter.unusedVariables false

structure Two {α β : Type} (E : En α) (F : En β) (w : World) (base : Nat) (s t : TypeId) (va vb : Value) (la : List α) (lb : List β) : Prop where
  a : OwnE E w base s va la
  b : OwnE F w base t vb lb
  ne : ∀ g, va.ownBlock = some g → vb.ownBlock ≠ some g

section
variable {α β : Type} {E : En α} {F : En β} {w w' : World} {base : Nat} {s t : TypeId} {va vb : Value} {la : List α} {lb : List β}
theorem Two.nil (E : En α) (F : En β) (w : World) (base : Nat) (s t : TypeId) : Two E F w base s t (.slice none 0 0) (.slice none 0 0) [] [] := ⟨OwnE.nil _ _ _ _, OwnE.nil _ _ _ _, fun g h => by cases h⟩
theorem Two.keep (h : Two E F w base s t va vb la lb) (g : Grew w w') : Two E F w' base s t va vb la lb := ⟨h.a.keep g, h.b.keep g, h.ne⟩
theorem Two.grown (h : Two E F w base s t va vb la lb) {x : List α} {v' : Value} (ho : OwnE E w' base s v' x) (hg : w.grownBy w' va.ownBlock) (hat : ∀ g, v'.ownBlock = some g → va.ownBlock = some g ∨ g = w.heap.size) : Two E F w' base s t v' vb x lb := by
  refine ⟨ho, World.ownsRow.kept h.b hg ?_, fun g h1 h2 => ?_⟩
  · cases hv : vb.ownBlock with
    | none => exact Or.inl rfl
    | some g => exact Or.inr fun e => h.ne g e.symm hv
  · rcases hat g h1 with h3 | h3
    · exact h.ne g h3 h2
    · have := (World.ownsRow.lt h.b g h2).2
      omega
theorem Two.below (h : Two E F w base s t va vb la lb) (hg : w.grownBy w' va.ownBlock) (hb : base ≤ w.heap.size) : Below base w w' := (Below.refl base w).grown hg hb fun k hk => (World.ownsRow.lt h.a k hk).1

/-- What one element in a block gives an append. -/
theorem news_one {N : Nat} {x : α} (h : RowE E w (some ⟨N, 0, none⟩) 1 [x]) : ∀ j u, (E.cs x)[j]? = some u → w.cell? ((⟨N, 0, none⟩ : Addr).add j) = some u := by
  intro j u hu
  obtain ⟨b, o, he, hb, hc⟩ := h.at (by omega)
  cases he
  have hj : j < E.size := by
    rw [← E.len x]
    rcases Nat.lt_or_ge j (E.cs x).length with h1 | h1
    · exact h1
    · rw [List.getElem?_eq_none h1] at hu; cases hu
  have := hc 0 (by simp) j hj
  rw [addr_add, ← hu]
  simpa using this
end

section
variable {α β : Type} {E : En α} {F : En β} {w : World} {base : Nat} {s t : TypeId} {va vb : Value} {la : List α} {lb : List β} {ops : Array Oper} {rest : List Oper} {o : Oper} {a : Act} {Q : Exit → Act → World → Prop} {K : Act → World → Prop} {X : Prop}
end
/-- A row in another block than the one that was appended to. -/
theorem RowE.grown {α : Type} {E : En α} {w w' : World} {N n : Nat} {l : List α} {row : Option Nat} (h : RowE E w (some ⟨N, 0, none⟩) n l) (g : w.grownBy w' row) (hne : some N ≠ row) : RowE E w' (some ⟨N, 0, none⟩) n l := by
  refine ⟨h.len, fun hn => ?_⟩
  obtain ⟨b, o, e, hb, hc⟩ := h.at hn
  cases e
  exact ⟨N, 0, rfl, Nat.lt_of_lt_of_le hb g.size, fun j hj => ⟨_, rfl, fun i hi => (g.cell_far ⟨N, _, none⟩ hb hne).trans (hc j hj i hi)⟩⟩
theorem Two.far {α β : Type} {E : En α} {F : En β} {w : World} {base : Nat} {s t : TypeId} {va vb : Value} {la : List α} {lb : List β} (h : Two E F w base s t va vb la lb) {N : Nat} (hN : w.heap.size ≤ N) : some N ≠ va.ownBlock ∧ some N ≠ vb.ownBlock :=
  ⟨fun e => by have := (World.ownsRow.lt h.a N e.symm).2; omega, fun e => by have := (World.ownsRow.lt h.b N e.symm).2; omega⟩
/-- One element in a block made now. -/
theorem RowE.one1 {α : Type} (E : En α) (w : World) (x : α) (t : TypeId) (cs : Array Value) (N : Nat) (hN : N = w.heap.size) (hc : cs = (E.cs x).toArray) : RowE E (w.alloc (.cells cs t)) (some ⟨N, 0, none⟩) 1 [x] := by
  subst hN; subst hc
  refine ⟨rfl, fun _ => ⟨_, _, rfl, by simp, fun j hj => ⟨_, rfl, fun i hi => ?_⟩⟩⟩
  have hj : j < 1 := hj
  obtain rfl : j = 0 := by omega
  show World.cell? _ ⟨_, 0 + 0 * E.size + i, none⟩ = _
  rw [Nat.zero_mul, Nat.zero_add, World.cell?_alloc_at _ _ _ _ rfl]
  simp
end Go.Proofs.YtodnllopokoicaaGreat.NumK
namespace Go.Proofs.YtodnllopokoicaaGreat.NumK
open Go.RowKit
set_option linter.unusedVariables false

theorem OwnE.setO {α : Type} {E : En α} {w : World} {base : Nat} {t : TypeId} {v : Value} {l : List α} (h : OwnE E w base t v l) (b i : Nat) (u : Value) (hne : ∀ g, v.ownBlock = some g → g ≠ b) : OwnE E (w.setCell ⟨b, i, none⟩ u) base t v l := by
  obtain ⟨hl, h⟩ := h
  refine ⟨hl, ?_⟩
  rcases h with h | ⟨g, cap, cur, hv, hb, hh, r⟩
  · exact Or.inl h
  · refine Or.inr ⟨g, cap, cur, hv, hb, ?_, r⟩
    rw [Below.heap_setCell _ _ _ _ (hne g (by rw [hv]; rfl))]
    exact hh
theorem OwnC.same {w w' : World} {b : Nat} {cs : List Value} (h : OwnC w b cs) (hs : w'.heap[b]? = w.heap[b]?) (hz : w.heap.size ≤ w'.heap.size) : OwnC w' b cs :=
  ⟨Nat.lt_of_lt_of_le h.lt hz, fun i hi => (World.cell?_of_block (w := w) (a := ⟨b, i, none⟩) hs).trans (h.c i hi), fun i hi => (World.frozen?_of_block (w := w) (a := ⟨b, i, none⟩) hs).trans (h.f i hi)⟩
theorem OwnC.grown {w w' : World} {b : Nat} {cs : List Value} {row : Option Nat} (h : OwnC w b cs) (hg : w.grownBy w' row) (hne : some b ≠ row) : OwnC w' b cs :=
  h.same (hg.block b h.lt hne) hg.size

theorem OwnE.putN {α : Type} {E : En α} {base b : Nat} {t : TypeId} {v : Value} {l : List α} (hne : ∀ g, v.ownBlock = some g → g ≠ b) : ∀ (vs : List Value) (o : Nat) (w : World), OwnE E w base t v l → OwnE E (putC w b o vs) base t v l
  | [], _, _, h => h
  | u :: vs, o, w, h => OwnE.putN hne vs (o + 1) _ (h.setO b o u hne)

section
variable {α β : Type} {E : En α} {F : En β} {w w' : World} {base : Nat} {s t : TypeId} {va vb : Value} {la : List α} {lb : List β} {ops : Array Oper} {rest : List Oper} {o : Oper} {a : Act} {Q : Exit → Act → World → Prop}
theorem Two.setO (h : Two E F w base s t va vb la lb) (b i : Nat) (u : Value) (h1 : ∀ g, va.ownBlock = some g → g ≠ b) (h2 : ∀ g, vb.ownBlock = some g → g ≠ b) : Two E F (w.setCell ⟨b, i, none⟩ u) base s t va vb la lb := ⟨h.a.setO b i u h1, h.b.setO b i u h2, h.ne⟩
theorem Two.putN (h : Two E F w base s t va vb la lb) (b : Nat) (vs : List Value) (o : Nat) (h1 : ∀ g, va.ownBlock = some g → g ≠ b) (h2 : ∀ g, vb.ownBlock = some g → g ≠ b) : Two E F (putC w b o vs) base s t va vb la lb := ⟨h.a.putN h1 vs o w, h.b.putN h2 vs o w, h.ne⟩
end
end Go.Proofs.YtodnllopokoicaaGreat.NumK
namespace Go.Proofs.YtodnllopokoicaaGreat.NumK
open Go.RowKit
set_option linter.unusedVariables false

structure Fam {κ α : Type} (E : En α) (w : World) (base : Nat) (t : TypeId) (v : κ → Value) (rows : κ → List α) : Prop where
  own : ∀ k, OwnE E w base t (v k) (rows k)
  ne : ∀ k k', k ≠ k' → ∀ g, (v k).ownBlock = some g → (v k').ownBlock ≠ some g

def upd {κ β : Type} [DecidableEq κ] (f : κ → β) (k : κ) (x : β) : κ → β := fun i => if i = k then x else f i
theorem upd_at {κ β : Type} [DecidableEq κ] (f : κ → β) (k : κ) (x : β) : upd f k x k = x := if_pos rfl
theorem upd_ne {κ β : Type} [DecidableEq κ] (f : κ → β) {k i : κ} (x : β) (h : i ≠ k) : upd f k x i = f i := if_neg h

section
variable {κ α : Type} {E : En α} {w w' : World} {base : Nat} {t : TypeId} {v : κ → Value} {rows : κ → List α}
theorem Fam.nil (E : En α) (w : World) (base : Nat) (t : TypeId) : Fam (κ := κ) E w base t (fun _ => .slice none 0 0) (fun _ => []) := ⟨fun _ => OwnE.nil _ _ _ _, fun _ _ _ g h => by cases h⟩
theorem Fam.keep (h : Fam E w base t v rows) (g : Grew w w') : Fam E w' base t v rows := ⟨fun k => (h.own k).keep g, h.ne⟩
theorem Fam.mono {b2 : Nat} (h : Fam E w base t v rows) (hb : b2 ≤ base) : Fam E w b2 t v rows := ⟨fun k => (h.own k).mono hb, h.ne⟩
theorem Fam.congr {r2 : κ → List α} (h : Fam E w base t v rows) (e : ∀ k, rows k = r2 k) : Fam E w base t v r2 := ⟨fun k => e k ▸ h.own k, h.ne⟩
theorem Fam.kept (h : Fam E w base t v rows) {b : Nat} (hg : w.grownBy w' (some b)) (hb : ∀ k, (v k).ownBlock ≠ some b) : Fam E w' base t v rows :=
  ⟨fun k => World.ownsRow.kept (h.own k) hg (Or.inr (hb k)), h.ne⟩
theorem Fam.below (h : Fam E w base t v rows) (k : κ) (hg : w.grownBy w' (v k).ownBlock) (hb : base ≤ w.heap.size) : Below base w w' := (Below.refl base w).grown hg hb fun i hi => (World.ownsRow.lt (h.own k) i hi).1
theorem Fam.lt (h : Fam E w base t v rows) (k : κ) {g : Nat} (hg : (v k).ownBlock = some g) : base ≤ g ∧ g < w.heap.size := World.ownsRow.lt (h.own k) g hg
end
section
variable {κ α : Type} [DecidableEq κ] {E : En α} {w w' : World} {base : Nat} {t : TypeId} {v : κ → Value} {rows : κ → List α}
theorem Fam.grown (h : Fam E w base t v rows) (k : κ) {x : List α} {v' : Value} (ho : OwnE E w' base t v' x) (hg : w.grownBy w' (v k).ownBlock) (hat : ∀ g, v'.ownBlock = some g → (v k).ownBlock = some g ∨ g = w.heap.size) :
    Fam E w' base t (upd v k v') (upd rows k x) := by
  have hk : ∀ i, i ≠ k → ∀ g, v'.ownBlock = some g → (v i).ownBlock ≠ some g := fun i hi g h1 h2 => by
    rcases hat g h1 with h3 | h3
    · exact h.ne i k hi g h2 h3
    · have := (World.ownsRow.lt (h.own i) g h2).2; omega
  refine ⟨fun i => ?_, fun i j hij g h1 h2 => ?_⟩
  · by_cases e : i = k
    · subst e; rw [upd_at, upd_at]; exact ho
    · rw [upd_ne _ _ e, upd_ne _ _ e]
      refine World.ownsRow.kept (h.own i) hg ?_
      cases hv : (v i).ownBlock with
      | none => exact Or.inl rfl
      | some g => exact Or.inr fun e2 => h.ne i k e g hv e2.symm
  · by_cases e1 : i = k
    · subst e1
      rw [upd_at] at h1
      rw [upd_ne _ _ (Ne.symm hij)] at h2
      exact hk j (Ne.symm hij) g h1 h2
    · rw [upd_ne _ _ e1] at h1
      by_cases e2 : j = k
      · subst e2
        rw [upd_at] at h2
        exact hk i e1 g h2 h1
      · rw [upd_ne _ _ e2] at h2
        exact h.ne i j hij g h1 h2
end

section
variable {κ α : Type} [DecidableEq κ] {E : En α} {w : World} {base : Nat} {t : TypeId} {v : κ → Value} {rows : κ → List α} {ops : Array Oper} {rest : List Oper} {o : Oper} {a : Act} {Q : Exit → Act → World → Prop} {K : Act → World → Prop} {X : Prop}
/-- One more in the row of a key: a step of a region that draws. -/
theorem step_fam (key : κ) (hgd : o.guard = none) (p q : Operand) (T : TypeId) (z : Value) (by' : Nat)
    (ho : o.op = .call { callee := .builtin .append, args := #[p, q], argTypes := #[T, T] })
    (hT : Tryz.prog.underlying T = some (.slice t)) (hi : (Tryz.prog.info? t).map (fun i => (i.zero, i.size, i.bytes)) = some (some z, E.size, by')) (hz : z.cells.size = E.size)
    (h : Fam E w base t v rows) (hs : a.eval p = v key) (N : Nat) (x : α) (hx : a.eval q = .slice (some ⟨N, 0, none⟩) 1 1) (hR : RowE E w (some ⟨N, 0, none⟩) 1 [x])
    (hm : (rows key).length + 1 ≤ maxLen) (hlim : ((rows key).length + 1) * by' ≤ 140737488355328) (hbase : base ≤ w.heap.size)
    (k : ∀ v' w', Fam E w' base t (upd v key v') (upd rows key (rows key ++ [x])) → Below base w w' → w.grownBy w' (v key).ownBlock → K (a.put o.dst v') w') : if Region.wanted o (yielded ops a.tmps) = true then Oper.wp Tryz.prog o a w K Q else X := by
  obtain ⟨i, hi, hz0, hz1, hz2⟩ := info_parts hi
  refine step_append_lies w hgd p q T ho base t i z E.size by' hT hi hz0 hz1 hz2 hz E.pos (v key) (rows key).length _ hs (h.own key) ⟨N, 0, none⟩ 1 1 (E.cs x) hx (by rw [E.len, Nat.one_mul]) (news_one hR) (E.one x) (by omega) hm hlim hbase _ rfl fun g cap w' h2 h3 h4 h5 => k _ w' (h.grown key ?_ h3 fun g' hg' => ?_) (h.below key h3 hbase) h3
  · show w'.ownsRow base t E.size _ (rows key ++ [x]).length ((rows key ++ [x]).flatMap E.cs)
    rw [List.length_append, List.flatMap_append]
    simpa using h2
  · have : g = g' := by simpa [Value.ownBlock] using hg'
    subst this
    exact h4
end
/-- A cell of a block that no row of the family lies in. -/
theorem Fam.far {κ α : Type} {E : En α} {w w' : World} {base : Nat} {t : TypeId} {v : κ → Value} {rows : κ → List α} (h : Fam E w base t v rows) {k : κ} (hg : w.grownBy w' (v k).ownBlock) {b : Nat} (hb : b < w.heap.size) (hne : b < base) (i : Nat) :
    w'.cell? ⟨b, i, none⟩ = w.cell? ⟨b, i, none⟩ ∧ w'.frozen? ⟨b, i, none⟩ = w.frozen? ⟨b, i, none⟩ := by
  have hn : some b ≠ (v k).ownBlock := fun e => by have := (World.ownsRow.lt (h.own k) b e.symm).1; omega
  exact ⟨hg.cell_far ⟨b, i, none⟩ hb hn, hg.frozen_far ⟨b, i, none⟩ hb hn⟩
end Go.Proofs.YtodnllopokoicaaGreat.NumK
namespace Go.Proofs.YtodnllopokoicaaGreat.NumK
open Go.RowKit
set_option linter.unusedVariables false

def enInt : En Int := ⟨1, fun n => [.int .i64 n], fun _ => rfl, fun n v hv => by simp at hv; rw [hv]; rfl, by decide⟩
theorem info_int1 : (Tryz.prog.info? 3).map (fun i => (i.zero, i.size, i.bytes)) = some (some (.int .i64 0), 1, 8) := by kernel_rfl
theorem ints_of_E {w : World} {A : Option Addr} {n : Nat} {l : List Int} (h : RowE enInt w A n l) : Ints w A n l := by
  refine ⟨h.len, fun hn => ?_⟩
  obtain ⟨b, o, e, hb, hc⟩ := h.at hn
  refine ⟨b, o, e, hb, fun j hj => ?_⟩
  have hj2 : j < l.length := by rw [h.len]; exact hj
  have := hc j hj2 0 (by decide)
  rw [show o + j * enInt.size + 0 = o + j by show o + j * 1 + 0 = _; omega] at this
  rw [this]
  simp [enInt, List.getD, hj2]

end Go.Proofs.YtodnllopokoicaaGreat.NumK
namespace Go.Proofs.YtodnllopokoicaaGreat.NumK
open Go.RowKit

theorem money_any (n : Int) (w : World) :
    Calls Tryz.prog 72 #[.int .i64 n] w fun e w' => e = .returned (.tuple #[.int .i64 (capV n), .int .i64 (capE n)]) ∧ Grew w w' := by
  by_cases h : isMoney n = true
  · have hr : [n].all isMoney = true := by simp [h]
    have H := Lib.hid h
    have C := (right_any (some ⟨w.heap.size, 0, none⟩) 1 1 [n] _ (ints1 w n 3) (by omega))
    rw [hr] at C
    clear hr h
    go_enter Tryz.func72, Tryz.ntmps72
    go_wp2_with (go_at_call 71; refine C.mono ?_; rintro e w' ⟨rfl, rfl⟩)
    go_ret2
    exact ⟨ret2 (capV_in H.out).symm (capE_in H.out).symm, grew_alloc _ _ _⟩
  · simp only [Bool.not_eq_true] at h
    have hr : [n].all isMoney = false := by simp [h]
    have H := Lib.hid h
    have C := (right_any (some ⟨w.heap.size, 0, none⟩) 1 1 [n] _ (ints1 w n 3) (by omega))
    rw [hr] at C
    clear hr h
    go_enter Tryz.func72, Tryz.ntmps72
    go_wp2_with (go_at_call 71; refine C.mono ?_; rintro e w' ⟨rfl, rfl⟩)
    go_ret2
    exact ⟨ret2 (capV_out H.out).symm (capE_out H.out).symm, grew_alloc _ _ _⟩

/-! ### Sum -/
def up (zs : List Int) : Int := (zs.map (· / 2147483648)).sum
def lo (zs : List Int) : Int := (zs.map (· % 2147483648)).sum

theorem up_succ (zs : List Int) (k : Nat) (h : k < zs.length) : up (zs.take (k + 1)) = up (zs.take k) + zs.getD k 0 / 2147483648 := by
  unfold up
  rw [List.take_succ_eq_append_getElem h, List.map_append, List.sum_append]
  simp [List.getD, List.getElem?_eq_getElem h]
theorem lo_succ (zs : List Int) (k : Nat) (h : k < zs.length) : lo (zs.take (k + 1)) = lo (zs.take k) + zs.getD k 0 % 2147483648 := by
  unfold lo
  rw [List.take_succ_eq_append_getElem h, List.map_append, List.sum_append]
  simp [List.getD, List.getElem?_eq_getElem h]
theorem up_lo (zs : List Int) : up zs * 2147483648 + lo zs = zs.sum := by
  induction zs with
  | nil => rfl
  | cons z zs ih => simp only [up, lo, List.map_cons, List.sum_cons] at *; omega
theorem lo_bd (zs : List Int) : 0 ≤ lo zs ∧ lo zs ≤ zs.length * 2147483648 := by
  induction zs with
  | nil => simp [lo]
  | cons z zs ih => simp only [lo, List.map_cons, List.sum_cons, List.length_cons] at *; omega
theorem up_bd (zs : List Int) (h : zs.all isMoney = true) : -(zs.length * 2147483648) ≤ up zs ∧ up zs ≤ zs.length * 2147483648 := by
  induction zs with
  | nil => simp [up]
  | cons z zs ih =>
    simp only [List.all_cons, Bool.and_eq_true, isMoney_iff] at h
    have := ih h.2
    simp only [up, List.map_cons, List.sum_cons, List.length_cons] at *; omega

def sumV (zs : List Int) : Int := if zs.all isMoney then capV zs.sum else 0
def sumE (zs : List Int) : Int := if zs.all isMoney then capE zs.sum else 3
theorem sumV_in {zs : List Int} (h : zs.all isMoney = true) : sumV zs = capV zs.sum := by simp only [sumV, h, if_true]
theorem sumE_in {zs : List Int} (h : zs.all isMoney = true) : sumE zs = capE zs.sum := by simp only [sumE, h, if_true]
theorem sumV_out {zs : List Int} (h : zs.all isMoney = false) : sumV zs = 0 := by simp [sumV, h]
theorem sumE_out {zs : List Int} (h : zs.all isMoney = false) : sumE zs = 3 := by simp [sumE, h]

theorem sum_wrong (A : Option Addr) (n c : Nat) (zs : List Int) (w : World) (hz : Ints w A n zs) (hn : n ≤ 9223372036854775807) (h : zs.all isMoney = false) :
    Calls Tryz.prog 27 #[.slice A n c] w fun e w' => e = .returned (.tuple #[.int .i64 (sumV zs), .int .i64 (sumE zs)]) ∧ Grew w w' := by
  have C := right_any A n c zs w hz hn
  rw [h] at C
  have H := Lib.hid h
  clear h hz
  go_enter Tryz.func27, Tryz.ntmps27
  go_wp2_with (go_at_call 71; refine C.mono ?_; rintro e w' ⟨rfl, rfl⟩)
  go_ret2
  exact ⟨ret2 (sumV_out H.out).symm (sumE_out H.out).symm, grew_refl _⟩

set_option maxHeartbeats 1000000 in
theorem sum_right (A : Option Addr) (n c : Nat) (zs : List Int) (w : World) (hz : Ints w A n zs) (hn : n ≤ 1000000) (h : zs.all isMoney = true) :
    Calls Tryz.prog 27 #[.slice A n c] w fun e w' => e = .returned (.tuple #[.int .i64 (sumV zs), .int .i64 (sumE zs)]) ∧ Grew w w' := by
  have C := right_any A n c zs w hz (by omega)
  rw [h] at C
  have H := Lib.hid h
  have HZ : Hid (Ints w A n zs) := hz
  clear h hz
  go_enter Tryz.func27, Tryz.ntmps27
  go_wp2_with (go_at_call 71; refine C.mono ?_; rintro e w' ⟨rfl, rfl⟩)
  go_loop [4, 5, 13] (fun u l i => ∃ k : Nat, k ≤ n ∧ i = .int .i64 k ∧ u = .int .i64 (up (zs.take k)) ∧ l = .int .i64 (lo (zs.take k))) (fun _ _ i => n - (intOf i).toNat)
  case atStart => exact ⟨0, Nat.zero_le _, rfl, rfl, rfl⟩
  case round =>
    obtain ⟨k, hk, rfl, rfl, rfl⟩ := hrel
    have hlen := HZ.out.1
    have b1 := up_bd (zs.take k) (by rw [List.all_eq_true]; intro x hx; exact (List.all_eq_true.1 H.out) x (List.mem_of_mem_take hx))
    have b2 := lo_bd (zs.take k)
    have hlk : (zs.take k).length = k := by simp; omega
    rw [hlk] at b1 b2
    by_cases hlt : k < n
    · obtain ⟨b, o, rfl, _, hc⟩ := HZ.out.2 (by omega)
      have hcell := hc k hlt
      have hu := up_succ zs k (by omega)
      have hl := lo_succ zs k (by omega)
      have hm : isMoney (zs.getD k 0) = true := (List.all_eq_true.1 H.out) _ (by rw [List.getD_eq_getElem?_getD, List.getElem?_eq_getElem (by omega)]; exact List.getElem_mem _)
      rw [isMoney_iff] at hm
      obtain ⟨hm1, hm2⟩ := hm
      obtain ⟨b3, b4⟩ := b1
      obtain ⟨b5, b6⟩ := b2
      generalize zs.getD k 0 = y at *
      generalize up (zs.take k) = U at *
      generalize lo (zs.take k) = L at *
      have HU := Lib.hid hu
      have HL := Lib.hid hl
      have k31 := mask31 y
      clear hu hl hc hlen hlk
      go_wp2
      go_round
      case rel => exact ⟨k + 1, by omega, by go_num, by rw [HU.out], by rw [HL.out]⟩
      case measure => simp [intOf]; omega
    · have : k = n := by omega
      subst this
      have ht : zs.take k = zs := List.take_of_length_le (by omega)
      rw [ht] at b1 b2 ⊢
      have hs := up_lo zs
      have HS : Hid (zs.sum = (up zs + lo zs / 2147483648) * 2147483648 + lo zs % 2147483648) := by show zs.sum = _; omega
      clear hs ht hlk hlen hlt
      have e1 : sumV zs = capV zs.sum := sumV_in H.out
      have e2 : sumE zs = capE zs.sum := sumE_in H.out
      have E1 := Lib.hid e1
      have E2 := Lib.hid e2
      clear e1 e2
      generalize up zs = U at *
      generalize lo zs = L at *
      obtain ⟨b3, b4⟩ := b1
      obtain ⟨b5, b6⟩ := b2
      have m31 := mask31 L
      have q0 : 0 ≤ L / 2147483648 := by omega
      have q1 : L / 2147483648 ≤ 1000000 := by omega
      have r0 : 0 ≤ L % 2147483648 := by omega
      have r1 : L % 2147483648 < 2147483648 := by omega
      by_cases c1 : U + L / 2147483648 < -2147483648
      · have hf : isMoney zs.sum = false := by rw [← Bool.not_eq_true, isMoney_iff]; have := HS.out; omega
        have HF := Lib.hid hf
        clear hf
        go_wp2
        go_ret2
        exact ⟨ret2 (E1.out.trans (capV_out HF.out)).symm (E2.out.trans (capE_out HF.out)).symm, grew_refl _⟩
      · by_cases c2 : 2147483648 < U + L / 2147483648
        · have hf : isMoney zs.sum = false := by rw [← Bool.not_eq_true, isMoney_iff]; have := HS.out; omega
          have HF := Lib.hid hf
          clear hf
          go_wp2
          go_ret2
          exact ⟨ret2 (E1.out.trans (capV_out HF.out)).symm (E2.out.trans (capE_out HF.out)).symm, grew_refl _⟩
        · go_wp2_with (go_at_call 72; refine (money_any _ _).mono ?_; rintro e w' ⟨rfl, hg⟩)
          go_ret2
          have hs := HS.out
          exact ⟨ret2 (by rw [E1.out, hs]) (by rw [E2.out, hs]), hg⟩

theorem sum_any (A : Option Addr) (n c : Nat) (zs : List Int) (w : World) (hz : Ints w A n zs) (hn : n ≤ 1000000) :
    Calls Tryz.prog 27 #[.slice A n c] w fun e w' => e = .returned (.tuple #[.int .i64 (sumV zs), .int .i64 (sumE zs)]) ∧ Grew w w' := by
  by_cases h : zs.all isMoney = true
  · exact sum_right A n c zs w hz hn h
  · exact sum_wrong A n c zs w hz (by omega) (by simpa using h)

end Go.Proofs.YtodnllopokoicaaGreat.NumK
