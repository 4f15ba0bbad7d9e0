/- Stage 4's items among the arguments; heavy, write. -/
import Derived.Test.YtfhfgninjelfbaaPackG
namespace Go.Proofs.Ytfhfgninjelfbaa.NumK
open Go.RowKit

structure It where
  K : Int
  L : List Int
  B : Bool
  T : List UInt8
  n1 : Nat
  n2 : Nat
instance : Inhabited It := ⟨⟨0, [], false, [], 0, 0⟩⟩

abbrev ItV := Int × (List Int × (Bool × List Int))
def spItem : Sp ItV := spPair (spInt .i64) (spPair (spSlice (spInt .i64)) (spPair spBool (spSlice (spInt .u8))))
theorem opens_item : Opens Try.prog 33 spItem :=
  opens_struct Try.underlying33 (by kernel_rfl)
    (.cons _ _ _ rfl (opens_int Try.underlying3 (by kernel_rfl))
      (.cons _ _ _ rfl (opens_slice Try.underlying30 (by kernel_rfl) (opens_int Try.underlying3 (by kernel_rfl)) (by decide))
        (.cons _ _ _ rfl (opens_bool Try.underlying4 (by kernel_rfl))
          (.last _ _ rfl (opens_slice Try.underlying31 (by kernel_rfl) (opens_int Try.underlying5 (by kernel_rfl)) (by decide))))))
theorem opens_items : Opens Try.prog 22 (spSlice spItem) := opens_slice Try.underlying22 (by kernel_rfl) opens_item (by decide)
theorem opens_bytes : Opens Try.prog 31 (spSlice (spInt .u8)) := opens_slice Try.underlying31 (by kernel_rfl) (opens_int Try.underlying5 (by kernel_rfl)) (by decide)
theorem opens_ints : Opens Try.prog 30 (spSlice (spInt .i64)) := opens_slice Try.underlying30 (by kernel_rfl) (opens_int Try.underlying3 (by kernel_rfl)) (by decide)

theorem ints_of_spec {w : World} {A : Option Addr} {n : Nat} {l : List Int} (h : Row (spInt .i64) w A n l) : Ints w A n l ∧ IntsIn l := by
  refine ⟨⟨h.1, fun hn => ?_⟩, fun z hz => ?_⟩
  · obtain ⟨b, o, e, hb, hc⟩ := h.2 hn
    refine ⟨b, o, e, hb, fun j hj => ?_⟩
    have hj2 : j < l.length := by rw [h.1]; exact hj
    obtain ⟨cs, ⟨h1, h2⟩, h3⟩ := hc j hj2
    have h4 := h3 0 (by show 0 < 1; omega)
    rw [h1] at h4
    have e1 : o + j * (spInt IntKind.i64).size + 0 = o + j := by show o + j * 1 + 0 = _; omega
    rw [e1] at h4
    rw [h4]
    simp [List.getD, hj2]
  · obtain ⟨j, hj, rfl⟩ := List.getElem_of_mem hz
    obtain ⟨b, o, e, hb, hc⟩ := h.2 (by rw [← h.1]; omega)
    obtain ⟨cs, ⟨h1, h2⟩, _⟩ := hc j hj
    exact Go.bounds_i64 h2

/-- The parts of an item: its slices, wherever they lie. -/
structure Parts (w : World) (x : It) (A1 : Option Addr) (c1 : Nat) (A2 : Option Addr) (c2 : Nat) : Prop where
  ints : Ints w A1 x.n1 x.L
  intsIn : IntsIn x.L
  nil1 : A1 = none → c1 = 0
  bys : Bys w A2 x.n2 x.T
  nil2 : A2 = none → c2 = 0
  lo : -9223372036854775808 ≤ x.K
  hi : x.K ≤ 9223372036854775807
  le1 : x.n1 ≤ 9223372036854775807
  le2 : x.n2 ≤ 9223372036854775807
  old1 : ∀ a, A1 = some a → 0 < x.n1 → a.block < w.heap.size
  old2 : ∀ a, A2 = some a → 0 < x.n2 → a.block < w.heap.size
def itCells (x : It) (A1 : Option Addr) (c1 : Nat) (A2 : Option Addr) (c2 : Nat) : Array Value := #[.int .i64 x.K, .slice A1 x.n1 c1, .bool x.B, .slice A2 x.n2 c2]
theorem Parts.keep {w w' : World} {x : It} {A1 A2 : Option Addr} {c1 c2 : Nat} (h : Parts w x A1 c1 A2 c2) (g : Grew w w') : Parts w' x A1 c1 A2 c2 :=
  ⟨h.ints.keep g, h.intsIn, h.nil1, h.bys.keep g, h.nil2, h.lo, h.hi, h.le1, h.le2, fun a e hn => Nat.lt_of_lt_of_le (h.old1 a e hn) g.size, fun a e hn => Nat.lt_of_lt_of_le (h.old2 a e hn) g.size⟩

def ItAt (w : World) (b o j : Nat) (x : It) : Prop := ∃ A1 c1 A2 c2, Parts w x A1 c1 A2 c2 ∧ w.cell? ⟨b, o + j * 4, none⟩ = some (.int .i64 x.K) ∧ w.cell? ⟨b, o + j * 4 + 1, none⟩ = some (.slice A1 x.n1 c1) ∧ w.cell? ⟨b, o + j * 4 + 2, none⟩ = some (.bool x.B) ∧ w.cell? ⟨b, o + j * 4 + 3, none⟩ = some (.slice A2 x.n2 c2)
def Items (w : World) (A : Option Addr) (n : Nat) (l : List It) : Prop :=
  l.length = n ∧ (0 < n → ∃ b o, A = some ⟨b, o, none⟩ ∧ b < w.heap.size ∧ ∀ j, j < n → ItAt w b o j (l.getD j default))
theorem ItAt.keep {w w' : World} {b o j : Nat} {x : It} (h : ItAt w b o j x) (g : Grew w w') (hb : b < w.heap.size) : ItAt w' b o j x := by
  obtain ⟨A1, c1, A2, c2, hp, h0, h1, h2, h3⟩ := h
  exact ⟨A1, c1, A2, c2, hp.keep g, (grew_cell g (p := ⟨b, o + j * 4, none⟩) hb).trans h0, (grew_cell g (p := ⟨b, o + j * 4 + 1, none⟩) hb).trans h1, (grew_cell g (p := ⟨b, o + j * 4 + 2, none⟩) hb).trans h2, (grew_cell g (p := ⟨b, o + j * 4 + 3, none⟩) hb).trans h3⟩
theorem Items.keep {w w' : World} {A : Option Addr} {n : Nat} {l : List It} (h : Items w A n l) (g : Grew w w') : Items w' A n l :=
  ⟨h.1, fun hn => by
    obtain ⟨b, o, e, hb, hc⟩ := h.2 hn
    exact ⟨b, o, e, Nat.lt_of_lt_of_le hb g.size, fun j hj => (hc j hj).keep g hb⟩⟩

theorem old_of_ints {w : World} {A : Option Addr} {n : Nat} {l : List Int} (h : Ints w A n l) : ∀ a, A = some a → 0 < n → a.block < w.heap.size := by
  intro a e hn
  obtain ⟨b, o, e2, hb, _⟩ := h.2 hn
  rw [e] at e2; cases e2; exact hb
theorem old_of_bys {w : World} {A : Option Addr} {n : Nat} {l : List UInt8} (h : Bys w A n l) : ∀ a, A = some a → 0 < n → a.block < w.heap.size := by
  intro a e hn
  obtain ⟨b, o, e2, hb, _⟩ := h.2 hn
  rw [e] at e2; cases e2; exact hb

theorem item_at {w : World} {cs : List Value} {v : ItV} (h : spItem.rd w cs v) : ∃ (x : It) (A1 : Option Addr) (c1 : Nat) (A2 : Option Addr) (c2 : Nat), cs = (itCells x A1 c1 A2 c2).toList ∧ Parts w x A1 c1 A2 c2 := by
  obtain ⟨k, l, b, t⟩ := v
  obtain ⟨x1, y1, rfl, ⟨rfl, hk⟩, x2, y2, rfl, ⟨A1, n1, c1, rfl, hr1, h01, hl1, hm1⟩, x3, y3, rfl, rfl, ⟨A2, n2, c2, rfl, hr2, h02, hl2, hm2⟩⟩ := h
  obtain ⟨i1, i2⟩ := ints_of_spec hr1
  obtain ⟨bs, hbs⟩ := bys_of_row hr2
  have hkb := Go.bounds_i64 hk
  unfold maxLen at hm1 hm2
  exact ⟨⟨k, l, b, bs, n1, n2⟩, A1, c1, A2, c2, rfl, i1, i2, h01, hbs, h02, hkb.1, hkb.2, by show n1 ≤ _; omega, by show n2 ≤ _; omega, old_of_ints i1, old_of_bys hbs⟩

theorem items_of_row {w : World} {A : Option Addr} {n : Nat} {l : List ItV} (h : Row spItem w A n l) : ∃ xs, Items w A n xs := by
  rcases Nat.eq_zero_or_pos n with h0 | h0
  · exact ⟨[], by rw [h0]; rfl, fun hn => by omega⟩
  · obtain ⟨b, o, e, hb, hc⟩ := h.2 h0
    have each : ∀ j, j < n → ∃ x, ItAt w b o j x := by
      intro j hj
      obtain ⟨cs, h1, h2⟩ := hc j (by rw [h.1]; exact hj)
      obtain ⟨x, A1, c1, A2, c2, rfl, hp⟩ := item_at h1
      have g0 := h2 0 (by decide)
      have g1 := h2 1 (by decide)
      have g2 := h2 2 (by decide)
      have g3 := h2 3 (by decide)
      exact ⟨x, A1, c1, A2, c2, hp, g0, g1, g2, g3⟩
    obtain ⟨f, hf⟩ := Go.Deep.choose_lt each
    refine ⟨(List.range n).map f, by simp, fun _ => ⟨b, o, e, hb, fun j hj => ?_⟩⟩
    have : ((List.range n).map f).getD j default = f j := by simp [List.getD, hj]
    rw [this]; exact hf j hj

/-! ### heavy -/
def LightIt (x : It) : Prop := x.n1 ≤ 200 ∧ x.n2 ≤ 131072
def HeavyPost (l : List It) (w : World) (e : Ending) (w' : World) : Prop :=
  w = w' ∧ ((e = .returned (.bool true)) ∨ (e = .returned (.bool false) ∧ l.length ≤ 200 ∧ ∀ j, j < l.length → LightIt (l.getD j default)))

set_option maxHeartbeats 1000000 in
theorem heavy_any (A : Option Addr) (n c : Nat) (l : List It) (w : World) (h : Items w A n l) (hn : n ≤ 9223372036854775807) :
    Calls Try.prog 10 #[.slice A n c] w (HeavyPost l w) := by
  have HI := Lib.hid h
  have HL := Lib.hid h.1
  clear h
  by_cases h2 : 200 < n
  · have d : (200 : Int) < (n : Int) := by omega
    go_enter Try.func10, Try.ntmps10
    go_wp2
    go_ret
    exact ⟨rfl, Or.inl rfl⟩
  · have d : ¬ (200 : Int) < (n : Int) := by omega
    go_enter Try.func10, Try.ntmps10
    go_wp2
    go_loop [3] (fun v3 => ∃ k : Nat, v3 = .int .i64 k ∧ k ≤ n ∧ Hid (∀ j, j < k → LightIt (l.getD j default))) (fun v3 => n - (intOf v3).toNat)
    case atStart => exact ⟨0, rfl, Nat.zero_le _, fun j hj => by omega⟩
    case round =>
      obtain ⟨k, rfl, hk, HK⟩ := hrel
      by_cases hlt : k < n
      · obtain ⟨b, o, rfl, hb, hc⟩ := HI.out.2 (by omega)
        obtain ⟨A1, c1, A2, c2, hp, g0, g1, g2, g3⟩ := hc k hlt
        have HN : Hid (LightIt (l.getD k default) → ∀ j, j < k + 1 → LightIt (l.getD j default)) := fun hx j hj => by
          by_cases e : j = k
          · subst e; exact hx
          · exact HK.out j (by omega)
        have m1 := hp.le1
        have m2 := hp.le2
        have HLI : Hid ((l.getD k default).n1 ≤ 200 → (l.getD k default).n2 ≤ 131072 → LightIt (l.getD k default)) := fun a b => ⟨a, b⟩
        clear hc hp HK
        generalize (l.getD k default).n1 = n1 at *
        generalize (l.getD k default).n2 = n2 at *
        by_cases q2 : 131072 < n2
        · have d2 : (131072 : Int) < (n2 : Int) := by omega
          go_wp2
          go_ret
          exact ⟨rfl, Or.inl rfl⟩
        · have d2 : ¬ (131072 : Int) < (n2 : Int) := by omega
          by_cases q1 : 200 < n1
          · have d1 : (200 : Int) < (n1 : Int) := by omega
            go_wp2
            go_ret
            exact ⟨rfl, Or.inl rfl⟩
          · have d1 : ¬ (200 : Int) < (n1 : Int) := by omega
            have HX := Lib.hid (HN.out (HLI.out (by omega) (by omega)))
            go_wp2
            go_round
            case rel => exact ⟨k + 1, by go_num, by omega, HX⟩
            case measure => simp only [intOf]; omega
      · obtain rfl : k = n := by omega
        go_wp2
        go_ret
        exact ⟨rfl, Or.inr ⟨rfl, by rw [HL.out]; omega, by rw [HL.out]; exact HK.out⟩⟩

/-! ### write -/
def kd (K : Int) : Int := IntKind.u64.wrap K % 3
theorem kd_bd (K : Int) : 0 ≤ kd K ∧ kd K < 3 := by unfold kd; omega
def wItem (st : Option (List UInt8)) (x : It) : Option (List UInt8) :=
  if kd x.K = 0 then st.map (· ++ encL x.L) else if kd x.K = 1 then st.map (· ++ encM x.B) else if x.T.length ≤ 65536 then st.map (· ++ encT x.T) else none
def WItPost (q : Nat) (st : Option (List UInt8)) (x : It) (w : World) (e : Ending) (w' : World) : Prop := e = .returned (.tuple #[]) ∧ WR w' q (wItem st x) ∧ Turn q w w'

set_option maxHeartbeats 1000000 in
theorem write_any (q : Nat) (st : Option (List UInt8)) (x : It) (A1 : Option Addr) (c1 : Nat) (A2 : Option Addr) (c2 : Nat) (w : World) (hW : WR w q st) (hp : Parts w x A1 c1 A2 c2) (h1 : x.n1 ≤ 200) (hq : 0 < x.n2 → ∀ a, A2 = some a → a.block ≠ q) (hl : wLen st ≤ 900000000) :
    Calls Try.prog 11 #[.pointer (some ⟨q, 0, none⟩), .agg (itCells x A1 c1 A2 c2)] w (WItPost q st x w) := by
  have hU : ∃ U : Int, U = IntKind.u64.wrap x.K := ⟨_, rfl⟩
  obtain ⟨U, hU⟩ := hU
  have hU0 : 0 ≤ U := by rw [hU, IntKind.wrap_u64]; omega
  have HK : Hid (kd x.K = U % 3) := by show _ = _; rw [hU]; rfl
  have hw : ∀ w' : World, Grew w w' → WR w' q st := fun w' g => hW.keep g
  unfold itCells
  by_cases k0 : U % 3 = 0
  · have C := fun w' (g : Grew w w') => wInt_any q st A1 x.n1 c1 x.L w' (hw w' g) (hp.ints.keep g) hp.intsIn (by omega) (by omega)
    have HX : Hid (wItem st x = st.map (· ++ encL x.L)) := by show _ = _; unfold wItem; rw [if_pos (by rw [HK.out]; exact k0)]
    have hK := hU.symm
    clear hw hW hp hq hl HK hU
    generalize x.K = K at *
    generalize x.n1 = n1 at *
    go_enter Try.func11, Try.ntmps11
    go_wp2_with (go_at_call 28; ((with_reducible refine (C _ (grew_alloc _ _ _)).mono ?_); rintro e w1 ⟨rfl, hr, ht⟩; have HR := Lib.hid hr; have HT := Lib.hid ht; clear hr ht C))
    go_end0
    exact ⟨rfl, by rw [HX.out]; exact HR.out, ((Turn.refl q w).grew (grew_alloc _ _ _)).trans HT.out⟩
  · by_cases k1 : U % 3 = 1
    · have C := fun w' (g : Grew w w') => wMark_any q st x.B w' (hw w' g) (by omega)
      have HX : Hid (wItem st x = st.map (· ++ encM x.B)) := by show _ = _; unfold wItem; rw [if_neg (by rw [HK.out]; exact k0), if_pos (by rw [HK.out]; exact k1)]
      have hK := hU.symm
      clear hw hW hp hq hl HK hU
      generalize x.K = K at *
      generalize x.n1 = n1 at *
      generalize x.B = B at *
      go_enter Try.func11, Try.ntmps11
      go_wp2_with (go_at_call 29; ((with_reducible refine (C _ (grew_alloc _ _ _)).mono ?_); rintro e w1 ⟨rfl, hr, ht⟩; have HR := Lib.hid hr; have HT := Lib.hid ht; clear hr ht C))
      go_end0
      exact ⟨rfl, by rw [HX.out]; exact HR.out, ((Turn.refl q w).grew (grew_alloc _ _ _)).trans HT.out⟩
    · have C := fun w' (g : Grew w w') => wText_any q st A2 x.n2 c2 x.T w' (hw w' g) (hp.bys.keep g) hp.nil2 hq hp.le2 hl
      have HX : Hid (wItem st x = if x.T.length ≤ 65536 then st.map (· ++ encT x.T) else none) := by show _ = _; unfold wItem; rw [if_neg (by rw [HK.out]; exact k0), if_neg (by rw [HK.out]; exact k1)]
      have hK := hU.symm
      clear hw hW hp hq hl HK hU
      generalize x.K = K at *
      generalize x.n1 = n1 at *
      generalize x.n2 = n2 at *
      go_enter Try.func11, Try.ntmps11
      go_wp2_with (go_at_call 30; ((with_reducible refine (C _ (grew_alloc _ _ _)).mono ?_); rintro e w1 ⟨rfl, hr, ht⟩; have HR := Lib.hid hr; have HT := Lib.hid ht; clear hr ht C))
      go_end0
      exact ⟨rfl, by rw [HX.out]; exact HR.out, ((Turn.refl q w).grew (grew_alloc _ _ _)).trans HT.out⟩
end Go.Proofs.Ytfhfgninjelfbaa.NumK
