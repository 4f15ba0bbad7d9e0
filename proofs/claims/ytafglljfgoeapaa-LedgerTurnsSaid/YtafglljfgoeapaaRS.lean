/- Stage 10's law functions: wakes, heavy, grown; posts among the arguments. -/
import Derived.Test.YtafglljfgoeapaaRQ
import Derived.Test.YtafglljfgoeapaaRK
import Derived.Test.YtafglljfgoeapaaRR
namespace Go.Proofs.Ytafglljfgoeapaa.NumK
open Go.RowKit Go.ChangeShapes Go.WideShapes

/-! ### ledgers and posts among the arguments -/
abbrev spLgs : Sp (List Lg) := spSlice (spPair spAc (spInt .i64))
abbrev spLd : Sp (Int × List Lg) := spPair (spInt .i64) spLgs
theorem opens_bals : Opens Try.prog 22 spLgs :=
  opens_slice Try.underlying22 (by kernel_rfl) (opens_struct Try.underlying64 (by kernel_rfl) (Fs.cons _ _ 0 rfl opens_acct (Fs.last _ 3 rfl (opens_int Try.underlying3 (by kernel_rfl))))) (by decide)
theorem opens_ledger : Opens Try.prog 24 spLd :=
  opens_struct Try.underlying24 (by kernel_rfl) (Fs.cons _ _ 0 rfl (opens_int Try.underlying3 (by kernel_rfl)) (Fs.last _ 1 rfl opens_bals))
theorem opens_post : Opens Try.prog 50 spLd :=
  opens_struct Try.underlying50 (by kernel_rfl) (Fs.cons _ _ 0 rfl (opens_int Try.underlying3 (by kernel_rfl)) (Fs.last _ 1 rfl opens_legs))
theorem opens_posts : Opens Try.prog 45 (spSlice spLd) := opens_slice Try.underlying45 (by kernel_rfl) opens_post (by decide)

/-- A number and a list of legs: a ledger or a post. -/
abbrev Ld := Int × List Lg
structure LdIn (w : World) (x : Ld) (A : Option Addr) (n c : Nat) : Prop where
  row : RowE enLg w A n x.2
  nil : A = none → c = 0
  max : n ≤ 9223372036854775807
  rng : -9223372036854775808 ≤ x.1 ∧ x.1 ≤ 9223372036854775807
theorem LdIn.keep {w w' : World} {x : Ld} {A : Option Addr} {n c : Nat} (h : LdIn w x A n c) (g : Grew w w') : LdIn w' x A n c := ⟨h.row.keep g, h.nil, h.max, h.rng⟩
theorem ld_of {w : World} {cs : Array Value} {a : Int × List Lg} (h : spLd.rd w cs.toList a) : ∃ A n c, Value.agg cs = ldV a.1 A n c ∧ LdIn w a A n c := by
  obtain ⟨c1, c2, e, ⟨rfl, k0⟩, A2, n2, c2', rfl, hr2, hn2, hm2, hk2⟩ := h
  unfold maxLen at hk2
  refine ⟨A2, n2, c2', ?_, legs_of_row hr2, hn2, by omega, Go.bounds_i64 k0⟩
  unfold ldV
  congr 1
  exact Array.toList_inj.1 (by rw [e]; rfl)

def PostAt (w : World) (b p : Nat) (x : Ld) : Prop := ∃ A n c, LdIn w x A n c ∧ w.cell? ⟨b, p, none⟩ = some (.int .i64 x.1) ∧ w.cell? ⟨b, p + 1, none⟩ = some (.slice A n c)
def Posts (w : World) (A : Option Addr) (n : Nat) (l : List Ld) : Prop := l.length = n ∧ (0 < n → ∃ b o, A = some ⟨b, o, none⟩ ∧ b < w.heap.size ∧ ∀ j, j < n → PostAt w b (o + j * 2) (l.getD j default))
theorem Posts.keep {w w' : World} {A : Option Addr} {n : Nat} {l : List Ld} (h : Posts w A n l) (g : Grew w w') : Posts w' A n l := by
  refine ⟨h.1, fun hn => ?_⟩
  obtain ⟨b, o, e, hb, hc⟩ := h.2 hn
  refine ⟨b, o, e, Nat.lt_of_lt_of_le hb g.size, fun j hj => ?_⟩
  obtain ⟨A', n', c', hi, h1, h2⟩ := hc j hj
  exact ⟨A', n', c', hi.keep g, (grew_cell g (p := ⟨b, _, none⟩) hb).trans h1, (grew_cell g (p := ⟨b, _, none⟩) hb).trans h2⟩
theorem posts_of_row {w : World} {A : Option Addr} {n : Nat} {l : List (Int × List Lg)} (h : Row spLd w A n l) : Posts w A n l := by
  refine ⟨h.1, fun h0 => ?_⟩
  obtain ⟨b, o, e, hb, hc⟩ := h.2 h0
  refine ⟨b, o, e, hb, fun j hj => ?_⟩
  have hj2 : j < l.length := by rw [h.1]; exact hj
  obtain ⟨cs, hr, h3⟩ := hc j hj2
  rw [show l.getD j default = l[j] by simp [List.getD, hj2]]
  obtain ⟨q1, q2, rfl, ⟨rfl, k0⟩, A2, n2, c2, rfl, hr2, hn2, hm2, hk2⟩ := hr
  have e2 : spLd.size = 2 := rfl
  have g0 : w.cell? ⟨b, o + j * 2 + 0, none⟩ = _ := h3 0 (by rw [e2]; omega)
  have g1 : w.cell? ⟨b, o + j * 2 + 1, none⟩ = _ := h3 1 (by rw [e2]; omega)
  unfold maxLen at hk2
  exact ⟨A2, n2, c2, ⟨legs_of_row hr2, hn2, by omega, Go.bounds_i64 k0⟩, g0, g1⟩

/-! ### wakes -/
def wkL : List Lg := [((1, 0, 0), -5), ((2, 1, 0), 5)]
theorem wk_1 : moveL (1, 0, 0) (2, 1, 0) 5 = wkL := by decide +kernel
theorem wk_2 : postE 0 [] 1 wkL = 0 ∧ postN 0 [] 1 wkL = 1 ∧ postL 0 [] 1 wkL = wkL := by decide +kernel
theorem wk_3 : postE 1 wkL 1 wkL = 18 ∧ postN 1 wkL 1 wkL = 0 ∧ postL 1 wkL 1 wkL = [] := by decide +kernel
theorem wk_4 : ofL wkL (2, 1, 0) = 5 := by decide +kernel
theorem rowE_ne {w : World} {A : Option Addr} {n c : Nat} {l : List Lg} (h : RowE enLg w A n l) (hn : 0 < n) : A = none → c = 0 := by
  obtain ⟨b, o, e, _⟩ := h.at hn
  intro h2; rw [e] at h2; cases h2

set_option maxRecDepth 100000 in
theorem wakes10_any (w : World) : Calls Try.prog 21 #[] w fun e w' => e = .returned (.bool true) ∧ Grew w w' := by
  have CM : ∀ w, Calls Try.prog 28 #[.agg #[.int .i64 1, .int .i64 0, .int .i64 0], .agg #[.int .i64 2, .int .i64 1, .int .i64 0], .int .i64 5] w fun e w' => ∃ A, e = .returned (.slice A 2 2) ∧ RowE enLg w' A 2 wkL ∧ Grew w w' := fun w => by
    rw [← wk_1]; exact refMove_any 1 0 0 2 1 0 5 w
  have CP1 : ∀ w A, RowE enLg w A 2 wkL → Calls Try.prog 15 #[.agg #[.int .i64 0, .slice none 0 0], .int .i64 1, .slice A 2 2] w fun e w' => ∃ A' c', e = .returned (.tuple #[.agg #[.int .i64 1, .slice A' 2 c'], .int .i64 0]) ∧ RowE enLg w' A' 2 wkL ∧ Grew w w' := fun w A h => by
    refine (lpost_any 0 1 none A 0 0 2 2 [] wkL w (RowE.nil _ _ _) h (rowE_ne h (by omega)) (by omega) (by omega)).mono ?_
    rintro e w' ⟨A', c', rfl, ho, hg⟩
    rw [wk_2.2.2] at ho ⊢
    rw [wk_2.1, wk_2.2.1]
    obtain ⟨A2, c2, e2, hr, _⟩ := ho.form
    cases e2
    exact ⟨A', c', rfl, hr, hg⟩
  have CP2 : ∀ w A' c' A, RowE enLg w A' 2 wkL → RowE enLg w A 2 wkL → Calls Try.prog 15 #[.agg #[.int .i64 1, .slice A' 2 c'], .int .i64 1, .slice A 2 2] w fun e w' => ∃ A2 c2, e = .returned (.tuple #[.agg #[.int .i64 0, .slice A2 0 c2], .int .i64 18]) ∧ Grew w w' := fun w A' c' A h1 h => by
    refine (lpost_any 1 1 A' A 2 c' 2 2 wkL wkL w h1 h (rowE_ne h (by omega)) (by omega) (by omega)).mono ?_
    rintro e w' ⟨A2, c2, rfl, ho, hg⟩
    rw [wk_3.1, wk_3.2.1, wk_3.2.2]
    exact ⟨A2, c2, rfl, hg⟩
  have CO : ∀ w A' c', RowE enLg w A' 2 wkL → Calls Try.prog 13 #[.agg #[.int .i64 1, .slice A' 2 c'], .agg #[.int .i64 2, .int .i64 1, .int .i64 0]] w fun e w' => e = .returned (.int .i64 5) ∧ Grew w w' := fun w A' c' h => by
    have := lof_any 1 A' 2 c' wkL 2 1 0 w h (by omega)
    rwa [wk_4] at this
  go_enter Try.func21, Try.ntmps21
  go_wp2_with (first
    | (go_at_call 28; ((with_reducible refine (CM _).mono ?_); rintro e w1 ⟨A1, rfl, hr, hg⟩; have HR1 := Lib.hid hr; have HG1 := Lib.hid hg; clear hr hg CM))
    | (go_at_call 15; ((with_reducible refine (CP1 _ _ HR1.out).mono ?_); rintro e w2 ⟨A2, c2, rfl, hr, hg⟩; have HR2 := Lib.hid hr; have HR12 := Lib.hid (HR1.out.keep hg); have HG2 := Lib.hid (grew_trans HG1.out hg); clear hr hg CP1))
    | (go_at_call 15; ((with_reducible refine (CP2 _ _ _ _ (HR2.out.keep (grew_alloc _ _ _)) (HR12.out.keep (grew_alloc _ _ _))).mono ?_); rintro e w3 ⟨A3, c3, rfl, hg⟩; have b0 : w3.cell? ⟨w2.heap.size, 0, none⟩ = some (.int .i64 1) := own_cell hg 0; have b1 : w3.cell? ⟨w2.heap.size, 1, none⟩ = some (.slice A2 2 c2) := own_cell hg 1; have hb2 := own_lt hg; have HG3 := Lib.hid (own_back hg); clear hg CP2))
    | (go_at_call 13; ((with_reducible refine (CO _ _ _ (HR2.out.keep (grew_trans HG3.out (grew_alloc _ _ _)))).mono ?_); rintro e w4 ⟨rfl, hg⟩; have HG4 := Lib.hid (grew_trans HG2.out (grew_trans HG3.out (grew_trans (grew_alloc _ _ _) hg))); clear hg CO)))
  go_ret
  exact ⟨rfl, HG4.out⟩

/-! ### heavy -/
def Few (n : Nat) (l : List Ld) : Prop := n ≤ 200 ∧ ∀ k, k < n → (l.getD k default).2.length ≤ 200
def HeavyP (n : Nat) (l : List Ld) (w : World) (e : Ending) (w' : World) : Prop := w = w' ∧ ((e = .returned (.bool true) ∧ ¬ Few n l) ∨ (e = .returned (.bool false) ∧ Few n l))

set_option maxRecDepth 100000 in
theorem heavy10_any (A : Option Addr) (n c : Nat) (l : List Ld) (w : World) (h : Posts w A n l) : Calls Try.prog 22 #[.slice A n c] w (HeavyP n l w) := by
  have HA := Lib.hid h
  clear h
  have HT : Hid (¬ Few n l → HeavyP n l w (.returned (.bool true)) w) := fun h => ⟨rfl, Or.inl ⟨rfl, h⟩⟩
  by_cases h1 : 200 < n
  · have d1 : (200 : Int) < (n : Int) := by omega
    go_enter Try.func22, Try.ntmps22
    go_wp2
    go_ret
    exact HT.out fun h => absurd h.1 (by omega)
  · have d1 : ¬ (200 : Int) < (n : Int) := by omega
    go_enter Try.func22, Try.ntmps22
    go_wp2
    go_loop [3] (fun v3 => ∃ k : Nat, v3 = .int .i64 k ∧ k ≤ n ∧ Hid (∀ i, i < k → (l.getD i default).2.length ≤ 200)) (fun v3 => n - (intOf v3).toNat)
    case atStart => exact ⟨0, rfl, Nat.zero_le _, fun i hi => absurd hi (by omega)⟩
    case round =>
      obtain ⟨k, rfl, hk, HL⟩ := hrel
      by_cases hlt : k < n
      · have j1 : (k : Int) < (n : Int) := by omega
        have j0 : (0 : Int) ≤ (k : Int) := by omega
        obtain ⟨b, o, rfl, hb, hc⟩ := HA.out.2 (by omega)
        obtain ⟨A2, n2, c2, HI, -, g2⟩ := hc k hlt
        have HI := Lib.hid HI
        clear hc
        by_cases h4 : 200 < n2
        · have j4 : (200 : Int) < (n2 : Int) := by omega
          go_wp2
          go_ret
          exact HT.out fun h => by have := h.2 k hlt; rw [HI.out.row.len] at this; omega
        · have j4 : ¬ (200 : Int) < (n2 : Int) := by omega
          have HL2 : Hid (∀ i, i < k + 1 → (l.getD i default).2.length ≤ 200) := fun i hi => by
            rcases Nat.lt_or_ge i k with h1 | h1
            · exact HL.out i h1
            · obtain rfl : i = k := by omega
              rw [HI.out.row.len]; omega
          go_wp2
          go_round
          case rel => exact ⟨k + 1, by go_num, by omega, HL2.out⟩
          case measure => simp only [intOf]; omega
      · obtain rfl : k = n := by omega
        have HF : Hid (HeavyP k l w (.returned (.bool false)) w) := ⟨rfl, Or.inr ⟨rfl, by omega, HL.out⟩⟩
        go_wp2
        go_ret
        exact HF.out
theorem heavy_few {A : Option Addr} {n c : Nat} {l : List Ld} {w : World} (h : Posts w A n l) (hf : Few n l) : Calls Try.prog 22 #[.slice A n c] w fun e w' => e = .returned (.bool false) ∧ w = w' :=
  (heavy10_any A n c l w h).mono fun e w' hh => by
    obtain ⟨h1, ⟨_, h2⟩ | ⟨h2, _⟩⟩ := hh
    · exact absurd hf h2
    · exact ⟨h2, h1⟩
theorem heavy_not {A : Option Addr} {n c : Nat} {l : List Ld} {w : World} (h : Posts w A n l) (hf : ¬ Few n l) : Calls Try.prog 22 #[.slice A n c] w fun e w' => e = .returned (.bool true) ∧ w = w' :=
  (heavy10_any A n c l w h).mono fun e w' hh => by
    obtain ⟨h1, ⟨h2, _⟩ | ⟨_, h2⟩⟩ := hh
    · exact ⟨h2, h1⟩
    · exact absurd h2 hf
end Go.Proofs.Ytafglljfgoeapaa.NumK
namespace Go.Proofs.Ytafglljfgoeapaa.NumK
open Go.RowKit Go.ChangeShapes Go.WideShapes

theorem opens_ints : Opens Try.prog 28 (spSlice (spInt .i64)) := opens_slice Try.underlying28 (by kernel_rfl) (opens_int Try.underlying3 (by kernel_rfl)) (by decide)
theorem ints_of_spec {w : World} {A : Option Addr} {n : Nat} {l : List Int} (h : Row (spInt .i64) w A n l) : Ints w A n l ∧ ∀ z ∈ l, -9223372036854775808 ≤ z ∧ z ≤ 9223372036854775807 := by
  refine ⟨⟨h.1, fun hn => ?_⟩, fun z hz => ?_⟩
  · obtain ⟨b, o, e, hb, hc⟩ := h.2 hn
    refine ⟨b, o, e, hb, fun j hj => ?_⟩
    have hj2 : j < l.length := by rw [h.1]; exact hj
    obtain ⟨cs, ⟨h1, h2⟩, h3⟩ := hc j hj2
    have h4 := h3 0 (by show 0 < 1; omega)
    rw [h1] at h4
    have e1 : o + j * (spInt IntKind.i64).size + 0 = o + j := by show o + j * 1 + 0 = _; omega
    rw [e1] at h4
    rw [h4]
    simp [List.getD, hj2]
  · obtain ⟨j, hj, rfl⟩ := List.getElem_of_mem hz
    obtain ⟨b, o, e, hb, hc⟩ := h.2 (by rw [← h.1]; omega)
    obtain ⟨cs, ⟨h1, h2⟩, _⟩ := hc j hj
    exact Go.bounds_i64 h2
end Go.Proofs.Ytafglljfgoeapaa.NumK
namespace Go.Proofs.Ytafglljfgoeapaa.NumK
open Go.RowKit
set_option linter.unusedVariables false

/-- A ledger that is right, in memory of its own. -/
structure Led (w : World) (base : Nat) (last : Int) (bl : List Lg) (A : Option Addr) (c : Nat) : Prop where
  own : OwnE enLg w base 64 (.slice A bl.length c) bl
  ok : ledgerB last bl = true
  lim : last ≤ 1099511627776
theorem Led.row {w : World} {base : Nat} {last : Int} {bl : List Lg} {A : Option Addr} {c : Nat} (h : Led w base last bl A c) : RowE enLg w A bl.length bl := by
  obtain ⟨A', c', e, hr, _⟩ := h.own.form
  cases e; exact hr
theorem Led.nil {w : World} {base : Nat} {last : Int} {bl : List Lg} {A : Option Addr} {c : Nat} (h : Led w base last bl A c) : A = none → c = 0 := by
  obtain ⟨A', c', e, _, hn, _⟩ := h.own.form
  cases e; exact hn
theorem Led.len {w : World} {base : Nat} {last : Int} {bl : List Lg} {A : Option Addr} {c : Nat} (h : Led w base last bl A c) : bl.length ≤ 108 := right_len (ledger_parts h.ok).2.1
theorem Led.keep {w w' : World} {base : Nat} {last : Int} {bl : List Lg} {A : Option Addr} {c : Nat} (h : Led w base last bl A c) (g : Grew w w') : Led w' base last bl A c := ⟨h.own.keep g, h.ok, h.lim⟩
theorem Led.mono {w : World} {base b2 : Nat} {last : Int} {bl : List Lg} {A : Option Addr} {c : Nat} (h : Led w base last bl A c) (hb : b2 ≤ base) : Led w b2 last bl A c := ⟨h.own.mono hb, h.ok, h.lim⟩
theorem Led.set {w : World} {base : Nat} {last : Int} {bl : List Lg} {A : Option Addr} {c : Nat} (h : Led w base last bl A c) (b i : Nat) (u : Value) (hb : b < base) : Led (w.setCell ⟨b, i, none⟩ u) base last bl A c := ⟨h.own.set b i u hb, h.ok, h.lim⟩
theorem Led.empty (w : World) (base : Nat) : Led w base 0 [] none 0 := ⟨OwnE.nil enLg _ _ _, ledger_nil, by decide⟩

/-- Post of such a ledger. -/
def PostR (base : Nat) (last : Int) (bl : List Lg) (id : Int) (m : List Lg) (w : World) (e : Ending) (w' : World) : Prop :=
  ∃ A c, Grew w w' ∧ ((postE last bl id m = 0 ∧ e = .returned (.tuple #[ldV id A (postL last bl id m).length c, .int .i64 0]) ∧ Led w' base id (postL last bl id m) A c) ∨
    (postE last bl id m ≠ 0 ∧ e = .returned (.tuple #[ldV 0 A 0 c, .int .i64 (postE last bl id m)]) ∧ (A = none → c = 0)))
theorem postR_any (base : Nat) (last id : Int) (A B : Option Addr) (c m d : Nat) (bl ls : List Lg) (w : World) (h : RowE enLg w A bl.length bl) (hl : bl.length ≤ 90000) (h2 : RowE enLg w B m ls) (hB : B = none → d = 0) (hm : m ≤ 90000) (hb : base ≤ w.heap.size) :
    Calls Try.prog 15 #[ldV last A bl.length c, .int .i64 id, .slice B m d] w (PostR base last bl id ls w) := by
  refine (lpost_any last id A B bl.length c m d bl ls w h h2 hB hl hm).mono ?_
  rintro e w' ⟨A', c', rfl, ho, hg⟩
  by_cases h0 : postE last bl id ls = 0
  · obtain ⟨h1, h2, _⟩ := posted h0
    refine ⟨A', c', hg, Or.inl ⟨h0, by rw [h1, h0], ho.mono hb, h2, (postE_zero.1 h0).2.2.1⟩⟩
  · obtain ⟨h1, h2⟩ := post_no rfl h0
    rw [h2] at ho
    obtain ⟨A2, c2, e2, _, hn, _⟩ := ho.form
    cases e2
    exact ⟨A', c', hg, Or.inr ⟨h0, by rw [h1, h2]; rfl, hn⟩⟩

theorem postR_yes {base : Nat} {last : Int} {bl : List Lg} {id : Int} {m : List Lg} {w w' : World} {e : Ending} (h0 : postE last bl id m = 0) (h : PostR base last bl id m w e w') : ∃ A c, e = .returned (.tuple #[ldV id A (postL last bl id m).length c, .int .i64 0]) ∧ Led w' base id (postL last bl id m) A c ∧ Grew w w' := by
  obtain ⟨A, c, hg, ⟨_, he, hl⟩ | ⟨h1, _⟩⟩ := h
  · exact ⟨A, c, he, hl, hg⟩
  · exact absurd h0 h1
theorem postR_no {base : Nat} {last : Int} {bl : List Lg} {id : Int} {m : List Lg} {w w' : World} {e : Ending} (h0 : postE last bl id m ≠ 0) (h : PostR base last bl id m w e w') : ∃ A c, e = .returned (.tuple #[ldV 0 A 0 c, .int .i64 (postE last bl id m)]) ∧ (A = none → c = 0) ∧ Grew w w' := by
  obtain ⟨A, c, hg, ⟨h1, _⟩ | ⟨_, he, hn⟩⟩ := h
  · exact absurd h1 h0
  · exact ⟨A, c, he, hn, hg⟩

set_option maxRecDepth 100000 in
set_option maxHeartbeats 4000000 in
theorem grown_any (A : Option Addr) (n c : Nat) (l : List Ld) (w : World) (h : Posts w A n l) (hf : Few n l) :
    Calls Try.prog 23 #[.slice A n c] w fun e w' => ∃ last bl A' c' q, e = .returned (.tuple #[ldV last A' bl.length c', .int .i64 q]) ∧ Led w' w.heap.size last bl A' c' ∧ Grew w w' := by
  have HA := Lib.hid h
  have HF := Lib.hid hf
  clear h hf
  go_enter Try.func23, Try.ntmps23
  go_wp2
  have HG00 : Hid (Grew w ((w.alloc (.cells #[.int .i64 0, .slice none 0 0] 24)).alloc (.cells #[.int .i64 0, .slice none 0 0] 24))) := grew_trans (grew_alloc _ _ _) (grew_alloc _ _ _)
  have HR0 : Hid (Own2 ((w.alloc (.cells #[.int .i64 0, .slice none 0 0] 24)).alloc (.cells #[.int .i64 0, .slice none 0 0] 24)) w.heap.size (.int .i64 0) (.slice none 0 0)) := (Own2.new w _ _ _ _ rfl).keep (grew_alloc _ _ _)
  have HM0 : Hid (Own2 ((w.alloc (.cells #[.int .i64 0, .slice none 0 0] 24)).alloc (.cells #[.int .i64 0, .slice none 0 0] 24)) (w.heap.size + 1) (.int .i64 0) (.slice none 0 0)) := Own2.new _ _ _ _ _ (by simp)
  have HS0 : Hid (w.heap.size + 2 = ((w.alloc (.cells #[.int .i64 0, .slice none 0 0] 24)).alloc (.cells #[.int .i64 0, .slice none 0 0] 24)).heap.size) := by show _ = _; simp
  generalize (w.alloc (.cells #[.int .i64 0, .slice none 0 0] 24)).alloc (.cells #[.int .i64 0, .slice none 0 0] 24) = W0 at *
  go_loopw [5, 6] (fun v5 v6 wr => ∃ (k : Nat) (q last : Int) (bl : List Lg) (A' : Option Addr) (c' : Nat), v5 = .int .i64 q ∧ v6 = .int .i64 k ∧ k ≤ n ∧ k ≤ 40 ∧ Hid (Own2 wr (w.heap.size + 1) (.int .i64 last) (.slice A' bl.length c')) ∧ Hid (Led wr (w.heap.size + 2) last bl A' c') ∧ Hid (Turn (w.heap.size + 1) W0 wr)) (fun _ v6 _ => 40 - (intOf v6).toNat)
  case atStart => exact ⟨0, 0, 0, [], none, 0, rfl, rfl, by omega, by omega, HM0.out, Led.empty _ _, Turn.refl _ _⟩
  case round =>
    obtain ⟨k, q, last, bl, A', c', rfl, rfl, hk, hk40, HM, HL, HT⟩ := hrel
    have HG := Lib.hid (Turn.new HG00.out HT.out (by omega))
    obtain ⟨s0, s1, f0, f1, hsl⟩ := HM.out
    have i0 : (0 : Int) ≤ (k : Int) := by omega
    by_cases hlt : k < n ∧ k < 40
    · have i1 : (k : Int) < (n : Int) := by omega
      have i2 : (k : Int) < 40 := by omega
      obtain ⟨b, o, rfl, hb, hc⟩ := (HA.out.keep HG.out).2 (by omega)
      obtain ⟨B2, n2, c2, hi, g0, g1⟩ := hc k hlt.1
      have hn2 : n2 ≤ 200 := by rw [← hi.row.len]; exact HF.out.2 k hlt.1
      clear hc
      generalize l.getD k default = x at *
      have HI := Lib.hid hi
      have HS : Hid (∀ w', Grew wr w' → w'.cell? ⟨w.heap.size + 1, 0, none⟩ = some (.int .i64 last) ∧ w'.cell? ⟨w.heap.size + 1, 1, none⟩ = some (.slice A' bl.length c') ∧ w'.cell? ⟨b, o + k * 2, none⟩ = some (.int .i64 x.1) ∧ w'.cell? ⟨b, o + k * 2 + 1, none⟩ = some (.slice B2 n2 c2)) := fun w' g =>
        ⟨(grew_cell g (p := ⟨w.heap.size + 1, 0, none⟩) hsl).trans s0, (grew_cell g (p := ⟨w.heap.size + 1, 1, none⟩) hsl).trans s1, (grew_cell g (p := ⟨b, _, none⟩) hb).trans g0, (grew_cell g (p := ⟨b, _, none⟩) hb).trans g1⟩
      have HZ0 : Hid (w.heap.size + 2 ≤ wr.heap.size) := by have := HT.out.size; have := HS0.out; show _ ≤ _; omega
      have CP := fun w' (g : Grew wr w') => postR_any w'.heap.size last x.1 A' B2 c' n2 c2 bl x.2 w' (HL.out.row.keep g) (by have := HL.out.len; omega) (HI.out.row.keep g) HI.out.nil (by omega) (Nat.le_refl _)
      unfold ldV at CP
      clear s0 s1 g0 g1 hi hb f0 f1 hsl
      by_cases h0 : postE last bl x.1 x.2 = 0
      · have CPy := fun w' g => (CP w' g).mono fun e w'' h => postR_yes h0 h
        clear CP
        unfold ldV at CPy
        go_upto_region 6 with fail
        refine wp_region_held_drew (S := (fun w' => w'.cell? ⟨w.heap.size + 1, 0, none⟩ = some (.int .i64 last) ∧ w'.cell? ⟨w.heap.size + 1, 1, none⟩ = some (.slice A' bl.length c') ∧ w'.cell? ⟨b, o + k * 2, none⟩ = some (.int .i64 x.1) ∧ w'.cell? ⟨b, o + k * 2 + 1, none⟩ = some (.slice B2 n2 c2))) (by kernel_rfl) (HS.out _ (grew_drew (grew_refl _))) (fun hHeld => ?_)
        (refine wpAnyH_take (i := 0) (oi := { dst := some 21, op := Op.load 24 (Operand.tmp 4), type := 24, pos := "law.go:56", after := #[], guard := none }) (v := ?_) rfl (by kernel_rfl) (by kernel_rfl) (by kernel_rfl) (fun _ _ _ h => h) (Or.inl ⟨by rfl, ?_⟩) (by assumption) ?_; rotate_left; · (intro w hSw; (try dsimp only at hSw); go_simp; (first | done | with_reducible rfl)))
        try simp only [Act.put, List.setIfInBounds_toArray, List.set_cons_zero, List.set_cons_succ]
        (refine wpAnyH_take (i := 1) (oi := { dst := some 22, op := Op.move (Operand.tmp 0), type := 45, pos := "law.go:56", after := #[], guard := none }) (v := ?_) rfl (by kernel_rfl) (by kernel_rfl) (by kernel_rfl) (fun _ _ _ h => h) (Or.inl ⟨by rfl, ?_⟩) (by assumption) ?_; rotate_left; · (intro w hSw; (try dsimp only at hSw); go_simp; (first | done | with_reducible rfl)))
        try simp only [Act.put, List.setIfInBounds_toArray, List.set_cons_zero, List.set_cons_succ]
        (refine wpAnyH_take (i := 2) (oi := { dst := some 23, op := Op.move (Operand.tmp 6), type := 3, pos := "law.go:56", after := #[], guard := none }) (v := ?_) rfl (by kernel_rfl) (by kernel_rfl) (by kernel_rfl) (fun _ _ _ h => h) (Or.inl ⟨by rfl, ?_⟩) (by assumption) ?_; rotate_left; · (intro w hSw; (try dsimp only at hSw); go_simp; (first | done | with_reducible rfl)))
        try simp only [Act.put, List.setIfInBounds_toArray, List.set_cons_zero, List.set_cons_succ]
        (refine wpAnyH_take (i := 3) (oi := { dst := some 24, op := Op.indexAddr 45 (Operand.tmp 22) (Operand.tmp 23), type := 0, pos := "law.go:56", after := #[{ on := 1, ground := Ground.data }, { on := 2, ground := Ground.data }], guard := none }) (v := ?_) rfl (by kernel_rfl) (by kernel_rfl) (by kernel_rfl) (fun _ _ _ h => h) (Or.inl ⟨by rfl, ?_⟩) (by assumption) ?_; rotate_left; · (intro w hSw; (try dsimp only at hSw); go_simp; (first | done | with_reducible rfl)))
        try simp only [Act.put, List.setIfInBounds_toArray, List.set_cons_zero, List.set_cons_succ]
        (refine wpAnyH_take (i := 4) (oi := { dst := some 25, op := Op.fieldAddr 50 (Operand.tmp 24) 0, type := 0, pos := "law.go:56", after := #[{ on := 3, ground := Ground.data }], guard := none }) (v := ?_) rfl (by kernel_rfl) (by kernel_rfl) (by kernel_rfl) (fun _ _ _ h => h) (Or.inl ⟨by rfl, ?_⟩) (by assumption) ?_; rotate_left; · (intro w hSw; (try dsimp only at hSw); go_simp; (first | done | with_reducible rfl)))
        try simp only [Act.put, List.setIfInBounds_toArray, List.set_cons_zero, List.set_cons_succ]
        (refine wpAnyH_take (i := 5) (oi := { dst := some 26, op := Op.load 3 (Operand.tmp 25), type := 3, pos := "law.go:56", after := #[{ on := 4, ground := Ground.data }], guard := none }) (v := ?_) rfl (by kernel_rfl) (by kernel_rfl) (by kernel_rfl) (fun _ _ _ h => h) (Or.inl ⟨by rfl, ?_⟩) (by assumption) ?_; rotate_left; · (intro w hSw; (try dsimp only at hSw); go_simp; (first | done | with_reducible rfl)))
        try simp only [Act.put, List.setIfInBounds_toArray, List.set_cons_zero, List.set_cons_succ]
        (refine wpAnyH_take (i := 6) (oi := { dst := some 27, op := Op.move (Operand.tmp 0), type := 45, pos := "law.go:56", after := #[], guard := none }) (v := ?_) rfl (by kernel_rfl) (by kernel_rfl) (by kernel_rfl) (fun _ _ _ h => h) (Or.inl ⟨by rfl, ?_⟩) (by assumption) ?_; rotate_left; · (intro w hSw; (try dsimp only at hSw); go_simp; (first | done | with_reducible rfl)))
        try simp only [Act.put, List.setIfInBounds_toArray, List.set_cons_zero, List.set_cons_succ]
        (refine wpAnyH_take (i := 7) (oi := { dst := some 28, op := Op.move (Operand.tmp 6), type := 3, pos := "law.go:56", after := #[], guard := none }) (v := ?_) rfl (by kernel_rfl) (by kernel_rfl) (by kernel_rfl) (fun _ _ _ h => h) (Or.inl ⟨by rfl, ?_⟩) (by assumption) ?_; rotate_left; · (intro w hSw; (try dsimp only at hSw); go_simp; (first | done | with_reducible rfl)))
        try simp only [Act.put, List.setIfInBounds_toArray, List.set_cons_zero, List.set_cons_succ]
        (refine wpAnyH_take (i := 8) (oi := { dst := some 29, op := Op.indexAddr 45 (Operand.tmp 27) (Operand.tmp 28), type := 0, pos := "law.go:56", after := #[{ on := 6, ground := Ground.data }, { on := 7, ground := Ground.data }], guard := none }) (v := ?_) rfl (by kernel_rfl) (by kernel_rfl) (by kernel_rfl) (fun _ _ _ h => h) (Or.inl ⟨by rfl, ?_⟩) (by assumption) ?_; rotate_left; · (intro w hSw; (try dsimp only at hSw); go_simp; (first | done | with_reducible rfl)))
        try simp only [Act.put, List.setIfInBounds_toArray, List.set_cons_zero, List.set_cons_succ]
        (refine wpAnyH_take (i := 9) (oi := { dst := some 30, op := Op.fieldAddr 50 (Operand.tmp 29) 1, type := 0, pos := "law.go:56", after := #[{ on := 8, ground := Ground.data }], guard := none }) (v := ?_) rfl (by kernel_rfl) (by kernel_rfl) (by kernel_rfl) (fun _ _ _ h => h) (Or.inl ⟨by rfl, ?_⟩) (by assumption) ?_; rotate_left; · (intro w hSw; (try dsimp only at hSw); go_simp; (first | done | with_reducible rfl)))
        try simp only [Act.put, List.setIfInBounds_toArray, List.set_cons_zero, List.set_cons_succ]
        (refine wpAnyH_take (i := 10) (oi := { dst := some 31, op := Op.load 25 (Operand.tmp 30), type := 25, pos := "law.go:56", after := #[{ on := 9, ground := Ground.data }], guard := none }) (v := ?_) rfl (by kernel_rfl) (by kernel_rfl) (by kernel_rfl) (fun _ _ _ h => h) (Or.inl ⟨by rfl, ?_⟩) (by assumption) ?_; rotate_left; · (intro w hSw; (try dsimp only at hSw); go_simp; (first | done | with_reducible rfl)))
        try simp only [Act.put, List.setIfInBounds_toArray, List.set_cons_zero, List.set_cons_succ]
        refine wpAnyH_ready (rs := [11, 15]) (by kernel_rfl) (by simp) ?_
        refine (AllReadyH.cons (o := { dst := some 32, op := Op.call { callee := Callee.value (Operand.func 15), args := #[Operand.tmp 21, Operand.tmp 26, Operand.tmp 31], argTypes := #[24, 3, 25] }, type := 34, pos := "law.go:56", after := #[{ on := 0, ground := Ground.data }, { on := 5, ground := Ground.data }, { on := 10, ground := Ground.data }], guard := none }) rfl (fun K hK => ?_) (AllReadyH.cons (o := { dst := some 7, op := Op.alloc 24, type := 0, pos := "law.go:56", after := #[], guard := none }) rfl (fun K hK => ?_) AllReadyH.nil))
        · go_simp
          (go_at_call 15; (first | (with_reducible refine (CPy _ (grew_drew (grew_refl _))).mono ?_) | (with_reducible refine (CPy _ (grew_drew (grew_alloc _ _ _))).mono ?_) | (with_reducible refine (CPy _ (grew_drew (grew_drew (grew_alloc _ _ _)))).mono ?_)); rintro e w5 ⟨A5, c5, rfl, hl5, hg5⟩)
          have HG5 : Hid (Grew wr w5) := (by first | exact grew_trans (grew_drew (grew_refl _)) hg5 | exact grew_trans (grew_drew (grew_alloc _ _ _)) hg5 | exact grew_trans (grew_drew (grew_drew (grew_alloc _ _ _))) hg5)
          (try have HT5 := Lib.hid (((Own2.new wr (.int .i64 0) (.slice none 0 0) 24 _ rfl).keep (grew_drew (grew_refl _))).keep hg5))
          (try have HT5 := Lib.hid (((Own2.new wr (.int .i64 0) (.slice none 0 0) 24 _ rfl).keep (grew_drew (grew_drew (grew_refl _)))).keep hg5))
          (try obtain ⟨t0, t1, t2, t3, t4⟩ := HT5.out)
          refine hK.out _ _ ?_ (fun hHeld => ?_)
          · first
            | exact HS.out _ HG5.out
          clear hK K
          try simp only [Act.put, List.setIfInBounds_toArray, List.set_cons_zero, List.set_cons_succ]
          (refine wpAnyH_take (i := 12) (oi := { dst := some 20, op := Op.move (Operand.tmp 32), type := 34, pos := "law.go:56", after := #[{ on := 11, ground := Ground.data }], guard := none }) (v := ?_) rfl (by kernel_rfl) (by kernel_rfl) (by kernel_rfl) (fun _ _ _ h => h) (Or.inl ⟨by rfl, ?_⟩) (by assumption) ?_; rotate_left; · (intro w hSw; (try dsimp only at hSw); go_simp; (first | done | with_reducible rfl)))
          try simp only [Act.put, List.setIfInBounds_toArray, List.set_cons_zero, List.set_cons_succ]
          (refine wpAnyH_take (i := 13) (oi := { dst := some 33, op := Op.extract (Operand.tmp 20) 0, type := 24, pos := "law.go:56", after := #[{ on := 12, ground := Ground.data }], guard := none }) (v := ?_) rfl (by kernel_rfl) (by kernel_rfl) (by kernel_rfl) (fun _ _ _ h => h) (Or.inl ⟨by rfl, ?_⟩) (by assumption) ?_; rotate_left; · (intro w hSw; (try dsimp only at hSw); go_simp; (first | done | with_reducible rfl)))
          try simp only [Act.put, List.setIfInBounds_toArray, List.set_cons_zero, List.set_cons_succ]
          (refine wpAnyH_take (i := 14) (oi := { dst := some 34, op := Op.extract (Operand.tmp 20) 1, type := 31, pos := "law.go:56", after := #[{ on := 12, ground := Ground.data }, { on := 16, ground := Ground.gcOnly Departure.lateStores }], guard := none }) (v := ?_) rfl (by kernel_rfl) (by kernel_rfl) (by kernel_rfl) (fun _ _ _ h => h) (Or.inl ⟨by rfl, ?_⟩) (by assumption) ?_; rotate_left; · (intro w hSw; (try dsimp only at hSw); go_simp; (first | done | with_reducible rfl)))
          try simp only [Act.put, List.setIfInBounds_toArray, List.set_cons_zero, List.set_cons_succ]
          refine wpAnyH_ready (rs := [15]) (by kernel_rfl) (by simp) ?_
          refine (AllReadyH.cons (o := { dst := some 7, op := Op.alloc 24, type := 0, pos := "law.go:56", after := #[], guard := none }) rfl (fun K hK => ?_) AllReadyH.nil)
          go_simp
          refine hK.out _ _ ?_ (fun hHeld => ?_)
          · first
            | exact HS.out _ (grew_alloc _ _ _)
            | exact HS.out _ (grew_drew (grew_alloc _ _ _))
            | exact HS.out _ (grew_trans HG5.out (grew_alloc _ _ _))
            | exact HS.out _ (grew_trans HG5.out (grew_drew (grew_alloc _ _ _)))
            | (trace_state; fail)
          clear hK K
          try simp only [Act.put, List.setIfInBounds_toArray, List.set_cons_zero, List.set_cons_succ]
          refine wpAnyH_ready (rs := [16]) (by kernel_rfl) (by simp) ?_
          refine (AllReadyH.cons (o := { dst := none, op := Op.store 24 (Operand.tmp 7) (Operand.tmp 33), type := 0, pos := "law.go:56", after := #[{ on := 15, ground := Ground.data }, { on := 13, ground := Ground.data }, { on := 11, ground := Ground.chain }, { on := 0, ground := Ground.phase }, { on := 1, ground := Ground.phase }, { on := 2, ground := Ground.phase }, { on := 3, ground := Ground.phase }, { on := 4, ground := Ground.phase }, { on := 5, ground := Ground.phase }, { on := 6, ground := Ground.phase }, { on := 7, ground := Ground.phase }, { on := 8, ground := Ground.phase }, { on := 9, ground := Ground.phase }, { on := 10, ground := Ground.phase }, { on := 11, ground := Ground.phase }, { on := 12, ground := Ground.phase }, { on := 13, ground := Ground.phase }, { on := 14, ground := Ground.textOnly Departure.lateStores }, { on := 15, ground := Ground.phase }], guard := none }) rfl (fun K hK => ?_) AllReadyH.nil)
          go_simp
          refine hK.out _ _ ?_ (fun hHeld => ?_)
          · first
            | exact HS.out _ (grew_set (grew_set HG5.out _ (Nat.le_refl _)) _ (Nat.le_refl _))
            | exact HS.out _ (grew_drew (grew_set (grew_set HG5.out _ (Nat.le_refl _)) _ (Nat.le_refl _)))
            | exact HS.out _ (grew_set (grew_set (grew_trans HG5.out (grew_alloc _ _ _)) _ HG5.out.size) _ HG5.out.size)
            | exact HS.out _ (grew_drew (grew_set (grew_set (grew_trans HG5.out (grew_alloc _ _ _)) _ HG5.out.size) _ HG5.out.size))
            | exact HS.out _ (grew_set (grew_set (grew_trans HG5.out (grew_drew (grew_alloc _ _ _))) _ HG5.out.size) _ HG5.out.size)
            | exact HS.out _ (grew_trans HG5.out (grew_alloc _ _ _))
            | exact HS.out _ (grew_trans HG5.out (grew_drew (grew_alloc _ _ _)))
            | (trace_state; fail)
          clear hK K
          try simp only [Act.put, List.setIfInBounds_toArray, List.set_cons_zero, List.set_cons_succ]
          (refine wpAnyH_take (i := 17) (oi := { dst := some 8, op := Op.assign (Operand.tmp 34), type := 31, pos := "law.go:56", after := #[{ on := 14, ground := Ground.data }, { on := 16, ground := Ground.chain }, { on := 0, ground := Ground.phase }, { on := 1, ground := Ground.phase }, { on := 2, ground := Ground.phase }, { on := 3, ground := Ground.phase }, { on := 4, ground := Ground.phase }, { on := 5, ground := Ground.phase }, { on := 6, ground := Ground.phase }, { on := 7, ground := Ground.phase }, { on := 8, ground := Ground.phase }, { on := 9, ground := Ground.phase }, { on := 10, ground := Ground.phase }, { on := 11, ground := Ground.phase }, { on := 12, ground := Ground.phase }, { on := 13, ground := Ground.phase }, { on := 14, ground := Ground.phase }, { on := 15, ground := Ground.phase }, { on := 16, ground := Ground.phase }], guard := none }) (v := ?_) rfl (by kernel_rfl) (by kernel_rfl) (by kernel_rfl) (fun _ _ _ h => h) (Or.inl ⟨by rfl, ?_⟩) (by assumption) ?_; rotate_left; · (intro w hSw; (try dsimp only at hSw); go_simp; (first | done | with_reducible rfl)))
          try simp only [Act.put, List.setIfInBounds_toArray, List.set_cons_zero, List.set_cons_succ]
          refine wpAnyH_done (by kernel_rfl) ?_ _
          clear hHeld
          first
            | (have hX : Own2 ((w5.setCell ⟨wr.heap.size, 0, none⟩ (.int .i64 x.1)).setCell ⟨wr.heap.size, 1, none⟩ (.slice A5 (postL last bl x.1 x.2).length c5)) wr.heap.size (.int .i64 x.1) (.slice A5 (postL last bl x.1 x.2).length c5) ∧ Led ((w5.setCell ⟨wr.heap.size, 0, none⟩ (.int .i64 x.1)).setCell ⟨wr.heap.size, 1, none⟩ (.slice A5 (postL last bl x.1 x.2).length c5)) (w.heap.size + 2) x.1 (postL last bl x.1 x.2) A5 c5 ∧ Grew wr ((w5.setCell ⟨wr.heap.size, 0, none⟩ (.int .i64 x.1)).setCell ⟨wr.heap.size, 1, none⟩ (.slice A5 (postL last bl x.1 x.2).length c5)) := ⟨HT5.out.set _ _, ((hl5.set wr.heap.size 0 _ (by simp)).set wr.heap.size 1 _ (by simp)).mono (by have := HZ0.out; simp; omega), grew_set (grew_set HG5.out _ (Nat.le_refl _)) _ (Nat.le_refl _)⟩; clear t0 t1 t2 t3 t4; generalize ((w5.setCell ⟨wr.heap.size, 0, none⟩ (.int .i64 x.1)).setCell ⟨wr.heap.size, 1, none⟩ (.slice A5 (postL last bl x.1 x.2).length c5)) = wF at *)
            | (have hX : Own2 (w5.alloc (.cells #[.int .i64 x.1, .slice A5 (postL last bl x.1 x.2).length c5] 24)) w5.heap.size (.int .i64 x.1) (.slice A5 (postL last bl x.1 x.2).length c5) ∧ Led (w5.alloc (.cells #[.int .i64 x.1, .slice A5 (postL last bl x.1 x.2).length c5] 24)) (w.heap.size + 2) x.1 (postL last bl x.1 x.2) A5 c5 ∧ Grew wr (w5.alloc (.cells #[.int .i64 x.1, .slice A5 (postL last bl x.1 x.2).length c5] 24)) := ⟨Own2.new _ _ _ _ _ rfl, (hl5.keep (grew_alloc _ _ _)).mono (by have := HZ0.out; simp; omega), grew_trans HG5.out (grew_alloc _ _ _)⟩; generalize (w5.alloc (.cells #[.int .i64 x.1, .slice A5 (postL last bl x.1 x.2).length c5] 24)) = wF at *)
          have HX := Lib.hid hX
          obtain ⟨⟨u0, u1, uf0, uf1, ul⟩, -, hgX⟩ := hX
          obtain ⟨s0, s1, f0, f1, hsl⟩ := HM.out.keep hgX
          clear hgX hl5
          go_wp2
          go_roundw
          case rel => exact ⟨k + 1, _, x.1, postL last bl x.1 x.2, A5, c5, rfl, by go_num, by omega, by omega, (HM.out.keep HX.out.2.2).set _ _, (HX.out.2.1.set _ _ _ (by omega)).set _ _ _ (by omega), ((HT.out.grew HX.out.2.2).setCell _ _).setCell _ _⟩
          case measure => simp only [intOf]; omega
        · go_simp
          refine hK.out _ _ ?_ (fun hHeld => ?_)
          · first
            | exact HS.out _ (grew_alloc _ _ _)
            | exact HS.out _ (grew_drew (grew_alloc _ _ _))
            | exact HS.out _ (grew_trans HG5.out (grew_alloc _ _ _))
            | exact HS.out _ (grew_trans HG5.out (grew_drew (grew_alloc _ _ _)))
            | (trace_state; fail)
          clear hK K
          try simp only [Act.put, List.setIfInBounds_toArray, List.set_cons_zero, List.set_cons_succ]
          refine wpAnyH_ready (rs := [11]) (by kernel_rfl) (by simp) ?_
          refine (AllReadyH.cons (o := { dst := some 32, op := Op.call { callee := Callee.value (Operand.func 15), args := #[Operand.tmp 21, Operand.tmp 26, Operand.tmp 31], argTypes := #[24, 3, 25] }, type := 34, pos := "law.go:56", after := #[{ on := 0, ground := Ground.data }, { on := 5, ground := Ground.data }, { on := 10, ground := Ground.data }], guard := none }) rfl (fun K hK => ?_) AllReadyH.nil)
          go_simp
          (go_at_call 15; (first | (with_reducible refine (CPy _ (grew_drew (grew_refl _))).mono ?_) | (with_reducible refine (CPy _ (grew_drew (grew_alloc _ _ _))).mono ?_) | (with_reducible refine (CPy _ (grew_drew (grew_drew (grew_alloc _ _ _)))).mono ?_)); rintro e w5 ⟨A5, c5, rfl, hl5, hg5⟩)
          have HG5 : Hid (Grew wr w5) := (by first | exact grew_trans (grew_drew (grew_refl _)) hg5 | exact grew_trans (grew_drew (grew_alloc _ _ _)) hg5 | exact grew_trans (grew_drew (grew_drew (grew_alloc _ _ _))) hg5)
          (try have HT5 := Lib.hid (((Own2.new wr (.int .i64 0) (.slice none 0 0) 24 _ rfl).keep (grew_drew (grew_refl _))).keep hg5))
          (try have HT5 := Lib.hid (((Own2.new wr (.int .i64 0) (.slice none 0 0) 24 _ rfl).keep (grew_drew (grew_drew (grew_refl _)))).keep hg5))
          (try obtain ⟨t0, t1, t2, t3, t4⟩ := HT5.out)
          refine hK.out _ _ ?_ (fun hHeld => ?_)
          · first
            | exact HS.out _ HG5.out
          clear hK K
          try simp only [Act.put, List.setIfInBounds_toArray, List.set_cons_zero, List.set_cons_succ]
          (refine wpAnyH_take (i := 12) (oi := { dst := some 20, op := Op.move (Operand.tmp 32), type := 34, pos := "law.go:56", after := #[{ on := 11, ground := Ground.data }], guard := none }) (v := ?_) rfl (by kernel_rfl) (by kernel_rfl) (by kernel_rfl) (fun _ _ _ h => h) (Or.inl ⟨by rfl, ?_⟩) (by assumption) ?_; rotate_left; · (intro w hSw; (try dsimp only at hSw); go_simp; (first | done | with_reducible rfl)))
          try simp only [Act.put, List.setIfInBounds_toArray, List.set_cons_zero, List.set_cons_succ]
          (refine wpAnyH_take (i := 13) (oi := { dst := some 33, op := Op.extract (Operand.tmp 20) 0, type := 24, pos := "law.go:56", after := #[{ on := 12, ground := Ground.data }], guard := none }) (v := ?_) rfl (by kernel_rfl) (by kernel_rfl) (by kernel_rfl) (fun _ _ _ h => h) (Or.inl ⟨by rfl, ?_⟩) (by assumption) ?_; rotate_left; · (intro w hSw; (try dsimp only at hSw); go_simp; (first | done | with_reducible rfl)))
          try simp only [Act.put, List.setIfInBounds_toArray, List.set_cons_zero, List.set_cons_succ]
          (refine wpAnyH_take (i := 14) (oi := { dst := some 34, op := Op.extract (Operand.tmp 20) 1, type := 31, pos := "law.go:56", after := #[{ on := 12, ground := Ground.data }, { on := 16, ground := Ground.gcOnly Departure.lateStores }], guard := none }) (v := ?_) rfl (by kernel_rfl) (by kernel_rfl) (by kernel_rfl) (fun _ _ _ h => h) (Or.inl ⟨by rfl, ?_⟩) (by assumption) ?_; rotate_left; · (intro w hSw; (try dsimp only at hSw); go_simp; (first | done | with_reducible rfl)))
          try simp only [Act.put, List.setIfInBounds_toArray, List.set_cons_zero, List.set_cons_succ]
          refine wpAnyH_ready (rs := [16]) (by kernel_rfl) (by simp) ?_
          refine (AllReadyH.cons (o := { dst := none, op := Op.store 24 (Operand.tmp 7) (Operand.tmp 33), type := 0, pos := "law.go:56", after := #[{ on := 15, ground := Ground.data }, { on := 13, ground := Ground.data }, { on := 11, ground := Ground.chain }, { on := 0, ground := Ground.phase }, { on := 1, ground := Ground.phase }, { on := 2, ground := Ground.phase }, { on := 3, ground := Ground.phase }, { on := 4, ground := Ground.phase }, { on := 5, ground := Ground.phase }, { on := 6, ground := Ground.phase }, { on := 7, ground := Ground.phase }, { on := 8, ground := Ground.phase }, { on := 9, ground := Ground.phase }, { on := 10, ground := Ground.phase }, { on := 11, ground := Ground.phase }, { on := 12, ground := Ground.phase }, { on := 13, ground := Ground.phase }, { on := 14, ground := Ground.textOnly Departure.lateStores }, { on := 15, ground := Ground.phase }], guard := none }) rfl (fun K hK => ?_) AllReadyH.nil)
          go_simp
          refine hK.out _ _ ?_ (fun hHeld => ?_)
          · first
            | exact HS.out _ (grew_set (grew_set HG5.out _ (Nat.le_refl _)) _ (Nat.le_refl _))
            | exact HS.out _ (grew_drew (grew_set (grew_set HG5.out _ (Nat.le_refl _)) _ (Nat.le_refl _)))
            | exact HS.out _ (grew_set (grew_set (grew_trans HG5.out (grew_alloc _ _ _)) _ HG5.out.size) _ HG5.out.size)
            | exact HS.out _ (grew_drew (grew_set (grew_set (grew_trans HG5.out (grew_alloc _ _ _)) _ HG5.out.size) _ HG5.out.size))
            | exact HS.out _ (grew_set (grew_set (grew_trans HG5.out (grew_drew (grew_alloc _ _ _))) _ HG5.out.size) _ HG5.out.size)
            | exact HS.out _ (grew_trans HG5.out (grew_alloc _ _ _))
            | exact HS.out _ (grew_trans HG5.out (grew_drew (grew_alloc _ _ _)))
            | (trace_state; fail)
          clear hK K
          try simp only [Act.put, List.setIfInBounds_toArray, List.set_cons_zero, List.set_cons_succ]
          (refine wpAnyH_take (i := 17) (oi := { dst := some 8, op := Op.assign (Operand.tmp 34), type := 31, pos := "law.go:56", after := #[{ on := 14, ground := Ground.data }, { on := 16, ground := Ground.chain }, { on := 0, ground := Ground.phase }, { on := 1, ground := Ground.phase }, { on := 2, ground := Ground.phase }, { on := 3, ground := Ground.phase }, { on := 4, ground := Ground.phase }, { on := 5, ground := Ground.phase }, { on := 6, ground := Ground.phase }, { on := 7, ground := Ground.phase }, { on := 8, ground := Ground.phase }, { on := 9, ground := Ground.phase }, { on := 10, ground := Ground.phase }, { on := 11, ground := Ground.phase }, { on := 12, ground := Ground.phase }, { on := 13, ground := Ground.phase }, { on := 14, ground := Ground.phase }, { on := 15, ground := Ground.phase }, { on := 16, ground := Ground.phase }], guard := none }) (v := ?_) rfl (by kernel_rfl) (by kernel_rfl) (by kernel_rfl) (fun _ _ _ h => h) (Or.inl ⟨by rfl, ?_⟩) (by assumption) ?_; rotate_left; · (intro w hSw; (try dsimp only at hSw); go_simp; (first | done | with_reducible rfl)))
          try simp only [Act.put, List.setIfInBounds_toArray, List.set_cons_zero, List.set_cons_succ]
          refine wpAnyH_done (by kernel_rfl) ?_ _
          clear hHeld
          first
            | (have hX : Own2 ((w5.setCell ⟨wr.heap.size, 0, none⟩ (.int .i64 x.1)).setCell ⟨wr.heap.size, 1, none⟩ (.slice A5 (postL last bl x.1 x.2).length c5)) wr.heap.size (.int .i64 x.1) (.slice A5 (postL last bl x.1 x.2).length c5) ∧ Led ((w5.setCell ⟨wr.heap.size, 0, none⟩ (.int .i64 x.1)).setCell ⟨wr.heap.size, 1, none⟩ (.slice A5 (postL last bl x.1 x.2).length c5)) (w.heap.size + 2) x.1 (postL last bl x.1 x.2) A5 c5 ∧ Grew wr ((w5.setCell ⟨wr.heap.size, 0, none⟩ (.int .i64 x.1)).setCell ⟨wr.heap.size, 1, none⟩ (.slice A5 (postL last bl x.1 x.2).length c5)) := ⟨HT5.out.set _ _, ((hl5.set wr.heap.size 0 _ (by simp)).set wr.heap.size 1 _ (by simp)).mono (by have := HZ0.out; simp; omega), grew_set (grew_set HG5.out _ (Nat.le_refl _)) _ (Nat.le_refl _)⟩; clear t0 t1 t2 t3 t4; generalize ((w5.setCell ⟨wr.heap.size, 0, none⟩ (.int .i64 x.1)).setCell ⟨wr.heap.size, 1, none⟩ (.slice A5 (postL last bl x.1 x.2).length c5)) = wF at *)
            | (have hX : Own2 (w5.alloc (.cells #[.int .i64 x.1, .slice A5 (postL last bl x.1 x.2).length c5] 24)) w5.heap.size (.int .i64 x.1) (.slice A5 (postL last bl x.1 x.2).length c5) ∧ Led (w5.alloc (.cells #[.int .i64 x.1, .slice A5 (postL last bl x.1 x.2).length c5] 24)) (w.heap.size + 2) x.1 (postL last bl x.1 x.2) A5 c5 ∧ Grew wr (w5.alloc (.cells #[.int .i64 x.1, .slice A5 (postL last bl x.1 x.2).length c5] 24)) := ⟨Own2.new _ _ _ _ _ rfl, (hl5.keep (grew_alloc _ _ _)).mono (by have := HZ0.out; simp; omega), grew_trans HG5.out (grew_alloc _ _ _)⟩; generalize (w5.alloc (.cells #[.int .i64 x.1, .slice A5 (postL last bl x.1 x.2).length c5] 24)) = wF at *)
          have HX := Lib.hid hX
          obtain ⟨⟨u0, u1, uf0, uf1, ul⟩, -, hgX⟩ := hX
          obtain ⟨s0, s1, f0, f1, hsl⟩ := HM.out.keep hgX
          clear hgX hl5
          go_wp2
          go_roundw
          case rel => exact ⟨k + 1, _, x.1, postL last bl x.1 x.2, A5, c5, rfl, by go_num, by omega, by omega, (HM.out.keep HX.out.2.2).set _ _, (HX.out.2.1.set _ _ _ (by omega)).set _ _ _ (by omega), ((HT.out.grew HX.out.2.2).setCell _ _).setCell _ _⟩
          case measure => simp only [intOf]; omega
      · have CPy := fun w' g => (CP w' g).mono fun e w'' h => postR_no h0 h
        clear CP
        unfold ldV at CPy
        have hE : (postE last bl x.1 x.2 == 0) = false := by simpa using h0
        go_upto_region 6 with fail
        refine wp_region_held_drew (S := (fun w' => w'.cell? ⟨w.heap.size + 1, 0, none⟩ = some (.int .i64 last) ∧ w'.cell? ⟨w.heap.size + 1, 1, none⟩ = some (.slice A' bl.length c') ∧ w'.cell? ⟨b, o + k * 2, none⟩ = some (.int .i64 x.1) ∧ w'.cell? ⟨b, o + k * 2 + 1, none⟩ = some (.slice B2 n2 c2))) (by kernel_rfl) (HS.out _ (grew_drew (grew_refl _))) (fun hHeld => ?_)
        (refine wpAnyH_take (i := 0) (oi := { dst := some 21, op := Op.load 24 (Operand.tmp 4), type := 24, pos := "law.go:56", after := #[], guard := none }) (v := ?_) rfl (by kernel_rfl) (by kernel_rfl) (by kernel_rfl) (fun _ _ _ h => h) (Or.inl ⟨by rfl, ?_⟩) (by assumption) ?_; rotate_left; · (intro w hSw; (try dsimp only at hSw); go_simp; (first | done | with_reducible rfl)))
        try simp only [Act.put, List.setIfInBounds_toArray, List.set_cons_zero, List.set_cons_succ]
        (refine wpAnyH_take (i := 1) (oi := { dst := some 22, op := Op.move (Operand.tmp 0), type := 45, pos := "law.go:56", after := #[], guard := none }) (v := ?_) rfl (by kernel_rfl) (by kernel_rfl) (by kernel_rfl) (fun _ _ _ h => h) (Or.inl ⟨by rfl, ?_⟩) (by assumption) ?_; rotate_left; · (intro w hSw; (try dsimp only at hSw); go_simp; (first | done | with_reducible rfl)))
        try simp only [Act.put, List.setIfInBounds_toArray, List.set_cons_zero, List.set_cons_succ]
        (refine wpAnyH_take (i := 2) (oi := { dst := some 23, op := Op.move (Operand.tmp 6), type := 3, pos := "law.go:56", after := #[], guard := none }) (v := ?_) rfl (by kernel_rfl) (by kernel_rfl) (by kernel_rfl) (fun _ _ _ h => h) (Or.inl ⟨by rfl, ?_⟩) (by assumption) ?_; rotate_left; · (intro w hSw; (try dsimp only at hSw); go_simp; (first | done | with_reducible rfl)))
        try simp only [Act.put, List.setIfInBounds_toArray, List.set_cons_zero, List.set_cons_succ]
        (refine wpAnyH_take (i := 3) (oi := { dst := some 24, op := Op.indexAddr 45 (Operand.tmp 22) (Operand.tmp 23), type := 0, pos := "law.go:56", after := #[{ on := 1, ground := Ground.data }, { on := 2, ground := Ground.data }], guard := none }) (v := ?_) rfl (by kernel_rfl) (by kernel_rfl) (by kernel_rfl) (fun _ _ _ h => h) (Or.inl ⟨by rfl, ?_⟩) (by assumption) ?_; rotate_left; · (intro w hSw; (try dsimp only at hSw); go_simp; (first | done | with_reducible rfl)))
        try simp only [Act.put, List.setIfInBounds_toArray, List.set_cons_zero, List.set_cons_succ]
        (refine wpAnyH_take (i := 4) (oi := { dst := some 25, op := Op.fieldAddr 50 (Operand.tmp 24) 0, type := 0, pos := "law.go:56", after := #[{ on := 3, ground := Ground.data }], guard := none }) (v := ?_) rfl (by kernel_rfl) (by kernel_rfl) (by kernel_rfl) (fun _ _ _ h => h) (Or.inl ⟨by rfl, ?_⟩) (by assumption) ?_; rotate_left; · (intro w hSw; (try dsimp only at hSw); go_simp; (first | done | with_reducible rfl)))
        try simp only [Act.put, List.setIfInBounds_toArray, List.set_cons_zero, List.set_cons_succ]
        (refine wpAnyH_take (i := 5) (oi := { dst := some 26, op := Op.load 3 (Operand.tmp 25), type := 3, pos := "law.go:56", after := #[{ on := 4, ground := Ground.data }], guard := none }) (v := ?_) rfl (by kernel_rfl) (by kernel_rfl) (by kernel_rfl) (fun _ _ _ h => h) (Or.inl ⟨by rfl, ?_⟩) (by assumption) ?_; rotate_left; · (intro w hSw; (try dsimp only at hSw); go_simp; (first | done | with_reducible rfl)))
        try simp only [Act.put, List.setIfInBounds_toArray, List.set_cons_zero, List.set_cons_succ]
        (refine wpAnyH_take (i := 6) (oi := { dst := some 27, op := Op.move (Operand.tmp 0), type := 45, pos := "law.go:56", after := #[], guard := none }) (v := ?_) rfl (by kernel_rfl) (by kernel_rfl) (by kernel_rfl) (fun _ _ _ h => h) (Or.inl ⟨by rfl, ?_⟩) (by assumption) ?_; rotate_left; · (intro w hSw; (try dsimp only at hSw); go_simp; (first | done | with_reducible rfl)))
        try simp only [Act.put, List.setIfInBounds_toArray, List.set_cons_zero, List.set_cons_succ]
        (refine wpAnyH_take (i := 7) (oi := { dst := some 28, op := Op.move (Operand.tmp 6), type := 3, pos := "law.go:56", after := #[], guard := none }) (v := ?_) rfl (by kernel_rfl) (by kernel_rfl) (by kernel_rfl) (fun _ _ _ h => h) (Or.inl ⟨by rfl, ?_⟩) (by assumption) ?_; rotate_left; · (intro w hSw; (try dsimp only at hSw); go_simp; (first | done | with_reducible rfl)))
        try simp only [Act.put, List.setIfInBounds_toArray, List.set_cons_zero, List.set_cons_succ]
        (refine wpAnyH_take (i := 8) (oi := { dst := some 29, op := Op.indexAddr 45 (Operand.tmp 27) (Operand.tmp 28), type := 0, pos := "law.go:56", after := #[{ on := 6, ground := Ground.data }, { on := 7, ground := Ground.data }], guard := none }) (v := ?_) rfl (by kernel_rfl) (by kernel_rfl) (by kernel_rfl) (fun _ _ _ h => h) (Or.inl ⟨by rfl, ?_⟩) (by assumption) ?_; rotate_left; · (intro w hSw; (try dsimp only at hSw); go_simp; (first | done | with_reducible rfl)))
        try simp only [Act.put, List.setIfInBounds_toArray, List.set_cons_zero, List.set_cons_succ]
        (refine wpAnyH_take (i := 9) (oi := { dst := some 30, op := Op.fieldAddr 50 (Operand.tmp 29) 1, type := 0, pos := "law.go:56", after := #[{ on := 8, ground := Ground.data }], guard := none }) (v := ?_) rfl (by kernel_rfl) (by kernel_rfl) (by kernel_rfl) (fun _ _ _ h => h) (Or.inl ⟨by rfl, ?_⟩) (by assumption) ?_; rotate_left; · (intro w hSw; (try dsimp only at hSw); go_simp; (first | done | with_reducible rfl)))
        try simp only [Act.put, List.setIfInBounds_toArray, List.set_cons_zero, List.set_cons_succ]
        (refine wpAnyH_take (i := 10) (oi := { dst := some 31, op := Op.load 25 (Operand.tmp 30), type := 25, pos := "law.go:56", after := #[{ on := 9, ground := Ground.data }], guard := none }) (v := ?_) rfl (by kernel_rfl) (by kernel_rfl) (by kernel_rfl) (fun _ _ _ h => h) (Or.inl ⟨by rfl, ?_⟩) (by assumption) ?_; rotate_left; · (intro w hSw; (try dsimp only at hSw); go_simp; (first | done | with_reducible rfl)))
        try simp only [Act.put, List.setIfInBounds_toArray, List.set_cons_zero, List.set_cons_succ]
        refine wpAnyH_ready (rs := [11, 15]) (by kernel_rfl) (by simp) ?_
        refine (AllReadyH.cons (o := { dst := some 32, op := Op.call { callee := Callee.value (Operand.func 15), args := #[Operand.tmp 21, Operand.tmp 26, Operand.tmp 31], argTypes := #[24, 3, 25] }, type := 34, pos := "law.go:56", after := #[{ on := 0, ground := Ground.data }, { on := 5, ground := Ground.data }, { on := 10, ground := Ground.data }], guard := none }) rfl (fun K hK => ?_) (AllReadyH.cons (o := { dst := some 7, op := Op.alloc 24, type := 0, pos := "law.go:56", after := #[], guard := none }) rfl (fun K hK => ?_) AllReadyH.nil))
        · go_simp
          (go_at_call 15; (first | (with_reducible refine (CPy _ (grew_drew (grew_refl _))).mono ?_) | (with_reducible refine (CPy _ (grew_drew (grew_alloc _ _ _))).mono ?_) | (with_reducible refine (CPy _ (grew_drew (grew_drew (grew_alloc _ _ _)))).mono ?_)); rintro e w5 ⟨A5, c5, rfl, hn5, hg5⟩)
          have HG5 : Hid (Grew wr w5) := (by first | exact grew_trans (grew_drew (grew_refl _)) hg5 | exact grew_trans (grew_drew (grew_alloc _ _ _)) hg5 | exact grew_trans (grew_drew (grew_drew (grew_alloc _ _ _))) hg5)
          (try have HT5 := Lib.hid (((Own2.new wr (.int .i64 0) (.slice none 0 0) 24 _ rfl).keep (grew_drew (grew_refl _))).keep hg5))
          (try have HT5 := Lib.hid (((Own2.new wr (.int .i64 0) (.slice none 0 0) 24 _ rfl).keep (grew_drew (grew_drew (grew_refl _)))).keep hg5))
          (try obtain ⟨t0, t1, t2, t3, t4⟩ := HT5.out)
          refine hK.out _ _ ?_ (fun hHeld => ?_)
          · first
            | exact HS.out _ HG5.out
          clear hK K
          try simp only [Act.put, List.setIfInBounds_toArray, List.set_cons_zero, List.set_cons_succ]
          (refine wpAnyH_take (i := 12) (oi := { dst := some 20, op := Op.move (Operand.tmp 32), type := 34, pos := "law.go:56", after := #[{ on := 11, ground := Ground.data }], guard := none }) (v := ?_) rfl (by kernel_rfl) (by kernel_rfl) (by kernel_rfl) (fun _ _ _ h => h) (Or.inl ⟨by rfl, ?_⟩) (by assumption) ?_; rotate_left; · (intro w hSw; (try dsimp only at hSw); go_simp; (first | done | with_reducible rfl)))
          try simp only [Act.put, List.setIfInBounds_toArray, List.set_cons_zero, List.set_cons_succ]
          (refine wpAnyH_take (i := 13) (oi := { dst := some 33, op := Op.extract (Operand.tmp 20) 0, type := 24, pos := "law.go:56", after := #[{ on := 12, ground := Ground.data }], guard := none }) (v := ?_) rfl (by kernel_rfl) (by kernel_rfl) (by kernel_rfl) (fun _ _ _ h => h) (Or.inl ⟨by rfl, ?_⟩) (by assumption) ?_; rotate_left; · (intro w hSw; (try dsimp only at hSw); go_simp; (first | done | with_reducible rfl)))
          try simp only [Act.put, List.setIfInBounds_toArray, List.set_cons_zero, List.set_cons_succ]
          (refine wpAnyH_take (i := 14) (oi := { dst := some 34, op := Op.extract (Operand.tmp 20) 1, type := 31, pos := "law.go:56", after := #[{ on := 12, ground := Ground.data }, { on := 16, ground := Ground.gcOnly Departure.lateStores }], guard := none }) (v := ?_) rfl (by kernel_rfl) (by kernel_rfl) (by kernel_rfl) (fun _ _ _ h => h) (Or.inl ⟨by rfl, ?_⟩) (by assumption) ?_; rotate_left; · (intro w hSw; (try dsimp only at hSw); go_simp; (first | done | with_reducible rfl)))
          try simp only [Act.put, List.setIfInBounds_toArray, List.set_cons_zero, List.set_cons_succ]
          refine wpAnyH_ready (rs := [15]) (by kernel_rfl) (by simp) ?_
          refine (AllReadyH.cons (o := { dst := some 7, op := Op.alloc 24, type := 0, pos := "law.go:56", after := #[], guard := none }) rfl (fun K hK => ?_) AllReadyH.nil)
          go_simp
          refine hK.out _ _ ?_ (fun hHeld => ?_)
          · first
            | exact HS.out _ (grew_alloc _ _ _)
            | exact HS.out _ (grew_drew (grew_alloc _ _ _))
            | exact HS.out _ (grew_trans HG5.out (grew_alloc _ _ _))
            | exact HS.out _ (grew_trans HG5.out (grew_drew (grew_alloc _ _ _)))
            | (trace_state; fail)
          clear hK K
          try simp only [Act.put, List.setIfInBounds_toArray, List.set_cons_zero, List.set_cons_succ]
          refine wpAnyH_ready (rs := [16]) (by kernel_rfl) (by simp) ?_
          refine (AllReadyH.cons (o := { dst := none, op := Op.store 24 (Operand.tmp 7) (Operand.tmp 33), type := 0, pos := "law.go:56", after := #[{ on := 15, ground := Ground.data }, { on := 13, ground := Ground.data }, { on := 11, ground := Ground.chain }, { on := 0, ground := Ground.phase }, { on := 1, ground := Ground.phase }, { on := 2, ground := Ground.phase }, { on := 3, ground := Ground.phase }, { on := 4, ground := Ground.phase }, { on := 5, ground := Ground.phase }, { on := 6, ground := Ground.phase }, { on := 7, ground := Ground.phase }, { on := 8, ground := Ground.phase }, { on := 9, ground := Ground.phase }, { on := 10, ground := Ground.phase }, { on := 11, ground := Ground.phase }, { on := 12, ground := Ground.phase }, { on := 13, ground := Ground.phase }, { on := 14, ground := Ground.textOnly Departure.lateStores }, { on := 15, ground := Ground.phase }], guard := none }) rfl (fun K hK => ?_) AllReadyH.nil)
          go_simp
          refine hK.out _ _ ?_ (fun hHeld => ?_)
          · first
            | exact HS.out _ (grew_set (grew_set HG5.out _ (Nat.le_refl _)) _ (Nat.le_refl _))
            | exact HS.out _ (grew_drew (grew_set (grew_set HG5.out _ (Nat.le_refl _)) _ (Nat.le_refl _)))
            | exact HS.out _ (grew_set (grew_set (grew_trans HG5.out (grew_alloc _ _ _)) _ HG5.out.size) _ HG5.out.size)
            | exact HS.out _ (grew_drew (grew_set (grew_set (grew_trans HG5.out (grew_alloc _ _ _)) _ HG5.out.size) _ HG5.out.size))
            | exact HS.out _ (grew_set (grew_set (grew_trans HG5.out (grew_drew (grew_alloc _ _ _))) _ HG5.out.size) _ HG5.out.size)
            | exact HS.out _ (grew_trans HG5.out (grew_alloc _ _ _))
            | exact HS.out _ (grew_trans HG5.out (grew_drew (grew_alloc _ _ _)))
            | (trace_state; fail)
          clear hK K
          try simp only [Act.put, List.setIfInBounds_toArray, List.set_cons_zero, List.set_cons_succ]
          (refine wpAnyH_take (i := 17) (oi := { dst := some 8, op := Op.assign (Operand.tmp 34), type := 31, pos := "law.go:56", after := #[{ on := 14, ground := Ground.data }, { on := 16, ground := Ground.chain }, { on := 0, ground := Ground.phase }, { on := 1, ground := Ground.phase }, { on := 2, ground := Ground.phase }, { on := 3, ground := Ground.phase }, { on := 4, ground := Ground.phase }, { on := 5, ground := Ground.phase }, { on := 6, ground := Ground.phase }, { on := 7, ground := Ground.phase }, { on := 8, ground := Ground.phase }, { on := 9, ground := Ground.phase }, { on := 10, ground := Ground.phase }, { on := 11, ground := Ground.phase }, { on := 12, ground := Ground.phase }, { on := 13, ground := Ground.phase }, { on := 14, ground := Ground.phase }, { on := 15, ground := Ground.phase }, { on := 16, ground := Ground.phase }], guard := none }) (v := ?_) rfl (by kernel_rfl) (by kernel_rfl) (by kernel_rfl) (fun _ _ _ h => h) (Or.inl ⟨by rfl, ?_⟩) (by assumption) ?_; rotate_left; · (intro w hSw; (try dsimp only at hSw); go_simp; (first | done | with_reducible rfl)))
          try simp only [Act.put, List.setIfInBounds_toArray, List.set_cons_zero, List.set_cons_succ]
          refine wpAnyH_done (by kernel_rfl) ?_ _
          clear hHeld
          first
            | (have hX : Own2 ((w5.setCell ⟨wr.heap.size, 0, none⟩ (.int .i64 0)).setCell ⟨wr.heap.size, 1, none⟩ (.slice A5 0 c5)) wr.heap.size (.int .i64 0) (.slice A5 0 c5) ∧ True ∧ Grew wr ((w5.setCell ⟨wr.heap.size, 0, none⟩ (.int .i64 0)).setCell ⟨wr.heap.size, 1, none⟩ (.slice A5 0 c5)) := ⟨HT5.out.set _ _, trivial, grew_set (grew_set HG5.out _ (Nat.le_refl _)) _ (Nat.le_refl _)⟩; clear t0 t1 t2 t3 t4; generalize ((w5.setCell ⟨wr.heap.size, 0, none⟩ (.int .i64 0)).setCell ⟨wr.heap.size, 1, none⟩ (.slice A5 0 c5)) = wF at *)
            | (have hX : Own2 (w5.alloc (.cells #[.int .i64 0, .slice A5 0 c5] 24)) w5.heap.size (.int .i64 0) (.slice A5 0 c5) ∧ True ∧ Grew wr (w5.alloc (.cells #[.int .i64 0, .slice A5 0 c5] 24)) := ⟨Own2.new _ _ _ _ _ rfl, trivial, grew_trans HG5.out (grew_alloc _ _ _)⟩; generalize (w5.alloc (.cells #[.int .i64 0, .slice A5 0 c5] 24)) = wF at *)
          have HX := Lib.hid hX
          obtain ⟨⟨u0, u1, uf0, uf1, ul⟩, -, hgX⟩ := hX
          obtain ⟨s0, s1, f0, f1, hsl⟩ := HM.out.keep hgX
          clear hgX
          go_wp2
          go_roundw
          case rel => exact ⟨k + 1, q, last, bl, A', c', rfl, by go_num, by omega, by omega, HM.out.keep HX.out.2.2, HL.out.keep HX.out.2.2, HT.out.grew HX.out.2.2⟩
          case measure => simp only [intOf]; omega
        · go_simp
          refine hK.out _ _ ?_ (fun hHeld => ?_)
          · first
            | exact HS.out _ (grew_alloc _ _ _)
            | exact HS.out _ (grew_drew (grew_alloc _ _ _))
            | exact HS.out _ (grew_trans HG5.out (grew_alloc _ _ _))
            | exact HS.out _ (grew_trans HG5.out (grew_drew (grew_alloc _ _ _)))
            | (trace_state; fail)
          clear hK K
          try simp only [Act.put, List.setIfInBounds_toArray, List.set_cons_zero, List.set_cons_succ]
          refine wpAnyH_ready (rs := [11]) (by kernel_rfl) (by simp) ?_
          refine (AllReadyH.cons (o := { dst := some 32, op := Op.call { callee := Callee.value (Operand.func 15), args := #[Operand.tmp 21, Operand.tmp 26, Operand.tmp 31], argTypes := #[24, 3, 25] }, type := 34, pos := "law.go:56", after := #[{ on := 0, ground := Ground.data }, { on := 5, ground := Ground.data }, { on := 10, ground := Ground.data }], guard := none }) rfl (fun K hK => ?_) AllReadyH.nil)
          go_simp
          (go_at_call 15; (first | (with_reducible refine (CPy _ (grew_drew (grew_refl _))).mono ?_) | (with_reducible refine (CPy _ (grew_drew (grew_alloc _ _ _))).mono ?_) | (with_reducible refine (CPy _ (grew_drew (grew_drew (grew_alloc _ _ _)))).mono ?_)); rintro e w5 ⟨A5, c5, rfl, hn5, hg5⟩)
          have HG5 : Hid (Grew wr w5) := (by first | exact grew_trans (grew_drew (grew_refl _)) hg5 | exact grew_trans (grew_drew (grew_alloc _ _ _)) hg5 | exact grew_trans (grew_drew (grew_drew (grew_alloc _ _ _))) hg5)
          (try have HT5 := Lib.hid (((Own2.new wr (.int .i64 0) (.slice none 0 0) 24 _ rfl).keep (grew_drew (grew_refl _))).keep hg5))
          (try have HT5 := Lib.hid (((Own2.new wr (.int .i64 0) (.slice none 0 0) 24 _ rfl).keep (grew_drew (grew_drew (grew_refl _)))).keep hg5))
          (try obtain ⟨t0, t1, t2, t3, t4⟩ := HT5.out)
          refine hK.out _ _ ?_ (fun hHeld => ?_)
          · first
            | exact HS.out _ HG5.out
          clear hK K
          try simp only [Act.put, List.setIfInBounds_toArray, List.set_cons_zero, List.set_cons_succ]
          (refine wpAnyH_take (i := 12) (oi := { dst := some 20, op := Op.move (Operand.tmp 32), type := 34, pos := "law.go:56", after := #[{ on := 11, ground := Ground.data }], guard := none }) (v := ?_) rfl (by kernel_rfl) (by kernel_rfl) (by kernel_rfl) (fun _ _ _ h => h) (Or.inl ⟨by rfl, ?_⟩) (by assumption) ?_; rotate_left; · (intro w hSw; (try dsimp only at hSw); go_simp; (first | done | with_reducible rfl)))
          try simp only [Act.put, List.setIfInBounds_toArray, List.set_cons_zero, List.set_cons_succ]
          (refine wpAnyH_take (i := 13) (oi := { dst := some 33, op := Op.extract (Operand.tmp 20) 0, type := 24, pos := "law.go:56", after := #[{ on := 12, ground := Ground.data }], guard := none }) (v := ?_) rfl (by kernel_rfl) (by kernel_rfl) (by kernel_rfl) (fun _ _ _ h => h) (Or.inl ⟨by rfl, ?_⟩) (by assumption) ?_; rotate_left; · (intro w hSw; (try dsimp only at hSw); go_simp; (first | done | with_reducible rfl)))
          try simp only [Act.put, List.setIfInBounds_toArray, List.set_cons_zero, List.set_cons_succ]
          (refine wpAnyH_take (i := 14) (oi := { dst := some 34, op := Op.extract (Operand.tmp 20) 1, type := 31, pos := "law.go:56", after := #[{ on := 12, ground := Ground.data }, { on := 16, ground := Ground.gcOnly Departure.lateStores }], guard := none }) (v := ?_) rfl (by kernel_rfl) (by kernel_rfl) (by kernel_rfl) (fun _ _ _ h => h) (Or.inl ⟨by rfl, ?_⟩) (by assumption) ?_; rotate_left; · (intro w hSw; (try dsimp only at hSw); go_simp; (first | done | with_reducible rfl)))
          try simp only [Act.put, List.setIfInBounds_toArray, List.set_cons_zero, List.set_cons_succ]
          refine wpAnyH_ready (rs := [16]) (by kernel_rfl) (by simp) ?_
          refine (AllReadyH.cons (o := { dst := none, op := Op.store 24 (Operand.tmp 7) (Operand.tmp 33), type := 0, pos := "law.go:56", after := #[{ on := 15, ground := Ground.data }, { on := 13, ground := Ground.data }, { on := 11, ground := Ground.chain }, { on := 0, ground := Ground.phase }, { on := 1, ground := Ground.phase }, { on := 2, ground := Ground.phase }, { on := 3, ground := Ground.phase }, { on := 4, ground := Ground.phase }, { on := 5, ground := Ground.phase }, { on := 6, ground := Ground.phase }, { on := 7, ground := Ground.phase }, { on := 8, ground := Ground.phase }, { on := 9, ground := Ground.phase }, { on := 10, ground := Ground.phase }, { on := 11, ground := Ground.phase }, { on := 12, ground := Ground.phase }, { on := 13, ground := Ground.phase }, { on := 14, ground := Ground.textOnly Departure.lateStores }, { on := 15, ground := Ground.phase }], guard := none }) rfl (fun K hK => ?_) AllReadyH.nil)
          go_simp
          refine hK.out _ _ ?_ (fun hHeld => ?_)
          · first
            | exact HS.out _ (grew_set (grew_set HG5.out _ (Nat.le_refl _)) _ (Nat.le_refl _))
            | exact HS.out _ (grew_drew (grew_set (grew_set HG5.out _ (Nat.le_refl _)) _ (Nat.le_refl _)))
            | exact HS.out _ (grew_set (grew_set (grew_trans HG5.out (grew_alloc _ _ _)) _ HG5.out.size) _ HG5.out.size)
            | exact HS.out _ (grew_drew (grew_set (grew_set (grew_trans HG5.out (grew_alloc _ _ _)) _ HG5.out.size) _ HG5.out.size))
            | exact HS.out _ (grew_set (grew_set (grew_trans HG5.out (grew_drew (grew_alloc _ _ _))) _ HG5.out.size) _ HG5.out.size)
            | exact HS.out _ (grew_trans HG5.out (grew_alloc _ _ _))
            | exact HS.out _ (grew_trans HG5.out (grew_drew (grew_alloc _ _ _)))
            | (trace_state; fail)
          clear hK K
          try simp only [Act.put, List.setIfInBounds_toArray, List.set_cons_zero, List.set_cons_succ]
          (refine wpAnyH_take (i := 17) (oi := { dst := some 8, op := Op.assign (Operand.tmp 34), type := 31, pos := "law.go:56", after := #[{ on := 14, ground := Ground.data }, { on := 16, ground := Ground.chain }, { on := 0, ground := Ground.phase }, { on := 1, ground := Ground.phase }, { on := 2, ground := Ground.phase }, { on := 3, ground := Ground.phase }, { on := 4, ground := Ground.phase }, { on := 5, ground := Ground.phase }, { on := 6, ground := Ground.phase }, { on := 7, ground := Ground.phase }, { on := 8, ground := Ground.phase }, { on := 9, ground := Ground.phase }, { on := 10, ground := Ground.phase }, { on := 11, ground := Ground.phase }, { on := 12, ground := Ground.phase }, { on := 13, ground := Ground.phase }, { on := 14, ground := Ground.phase }, { on := 15, ground := Ground.phase }, { on := 16, ground := Ground.phase }], guard := none }) (v := ?_) rfl (by kernel_rfl) (by kernel_rfl) (by kernel_rfl) (fun _ _ _ h => h) (Or.inl ⟨by rfl, ?_⟩) (by assumption) ?_; rotate_left; · (intro w hSw; (try dsimp only at hSw); go_simp; (first | done | with_reducible rfl)))
          try simp only [Act.put, List.setIfInBounds_toArray, List.set_cons_zero, List.set_cons_succ]
          refine wpAnyH_done (by kernel_rfl) ?_ _
          clear hHeld
          first
            | (have hX : Own2 ((w5.setCell ⟨wr.heap.size, 0, none⟩ (.int .i64 0)).setCell ⟨wr.heap.size, 1, none⟩ (.slice A5 0 c5)) wr.heap.size (.int .i64 0) (.slice A5 0 c5) ∧ True ∧ Grew wr ((w5.setCell ⟨wr.heap.size, 0, none⟩ (.int .i64 0)).setCell ⟨wr.heap.size, 1, none⟩ (.slice A5 0 c5)) := ⟨HT5.out.set _ _, trivial, grew_set (grew_set HG5.out _ (Nat.le_refl _)) _ (Nat.le_refl _)⟩; clear t0 t1 t2 t3 t4; generalize ((w5.setCell ⟨wr.heap.size, 0, none⟩ (.int .i64 0)).setCell ⟨wr.heap.size, 1, none⟩ (.slice A5 0 c5)) = wF at *)
            | (have hX : Own2 (w5.alloc (.cells #[.int .i64 0, .slice A5 0 c5] 24)) w5.heap.size (.int .i64 0) (.slice A5 0 c5) ∧ True ∧ Grew wr (w5.alloc (.cells #[.int .i64 0, .slice A5 0 c5] 24)) := ⟨Own2.new _ _ _ _ _ rfl, trivial, grew_trans HG5.out (grew_alloc _ _ _)⟩; generalize (w5.alloc (.cells #[.int .i64 0, .slice A5 0 c5] 24)) = wF at *)
          have HX := Lib.hid hX
          obtain ⟨⟨u0, u1, uf0, uf1, ul⟩, -, hgX⟩ := hX
          obtain ⟨s0, s1, f0, f1, hsl⟩ := HM.out.keep hgX
          clear hgX
          go_wp2
          go_roundw
          case rel => exact ⟨k + 1, q, last, bl, A', c', rfl, by go_num, by omega, by omega, HM.out.keep HX.out.2.2, HL.out.keep HX.out.2.2, HT.out.grew HX.out.2.2⟩
          case measure => simp only [intOf]; omega
    · have hr := HR0.out.turn HT.out (by omega)
      have HRR := Lib.hid hr
      obtain ⟨r0, r1, rf0, rf1, rl⟩ := hr
      have HEND : Hid (∀ wZ, wZ = (wr.setCell ⟨w.heap.size, 0, none⟩ (.int .i64 last)).setCell ⟨w.heap.size, 1, none⟩ (.slice A' bl.length c') → Led wZ w.heap.size last bl A' c' ∧ Grew w wZ) := by
        rintro wZ rfl
        exact ⟨((HL.out.set _ _ _ (by omega)).set _ _ _ (by omega)).mono (by omega), grew_set (grew_set HG.out _ (Nat.le_refl _)) _ (Nat.le_refl _)⟩
      have K := HRR.out.set (.int .i64 last) (.slice A' bl.length c')
      have k0 := K.c0
      have k1 := K.c1
      by_cases h1 : k < n
      · have i1 : (k : Int) < (n : Int) := by omega
        have i2 : ¬ (k : Int) < 40 := by omega
        go_wp2
        refine bodyPost_ret (v := .tuple #[.agg #[.int .i64 last, .slice A' bl.length c'], .int .i64 q]) (by simp [results, Try.results23, go_sem, k0, k1]) rfl ?_
        exact ⟨last, bl, A', c', ⟨q, rfl⟩, HEND.out _ rfl⟩
      · have i1 : ¬ (k : Int) < (n : Int) := by omega
        go_wp2
        refine bodyPost_ret (v := .tuple #[.agg #[.int .i64 last, .slice A' bl.length c'], .int .i64 q]) (by simp [results, Try.results23, go_sem, k0, k1]) rfl ?_
        exact ⟨last, bl, A', c', ⟨q, rfl⟩, HEND.out _ rfl⟩
end Go.Proofs.Ytafglljfgoeapaa.NumK
namespace Go.Proofs.Ytafglljfgoeapaa.NumK
open Go.RowKit
set_option linter.unusedVariables false

/-- Of each currency all adds up to 0. -/
theorem led_sum {w : World} {base : Nat} {last : Int} {bl : List Lg} {A : Option Addr} {c : Nat} (h : Led w base last bl A c) (q : Nat) (hq : q < 3) : sumK bl q [1, 2, 3, 4, 5, 6] = 0 := by
  obtain ⟨_, hr, he⟩ := ledger_parts h.ok
  have : sumK bl q [1, 2, 3, 4, 5, 6] = sumC bl q := by
    unfold sumK sumC
    rw [sumK_all bl q [1, 2, 3, 4, 5, 6] (rightB_may hr)]
    intro k h1 h2
    have : k = 1 ∨ k = 2 ∨ k = 3 ∨ k = 4 ∨ k = 5 ∨ k = 6 := by omega
    rcases this with rfl | rfl | rfl | rfl | rfl | rfl <;> decide
  rw [this]
  unfold evenL at he
  simp only [Bool.and_eq_true, decide_eq_true_eq] at he
  have : q = 0 ∨ q = 1 ∨ q = 2 := by omega
  rcases this with rfl | rfl | rfl
  · exact he.1.1
  · exact he.1.2
  · exact he.2

theorem keep_yes (last : Int) (A B : Option Addr) (n c d : Nat) (l : List Lg) (w : World) (h : RowE enLg w A n l) (h2 : RowE enLg w B n l) (hn : n ≤ 1000000) :
    Calls Try.prog 17 #[.agg #[.int .i64 last, .slice A n c], .agg #[.int .i64 last, .slice B n d]] w fun e w' => e = .returned (.bool true) ∧ Grew w w' := ledger_yes last A B n c d l w h h2 hn
section
variable {w w' : World} {base : Nat} {last : Int} {bl : List Lg} {A : Option Addr} {c : Nat}
theorem led_ref (h : Led w base last bl A c) (g : Grew w w') : Calls Try.prog 11 #[.agg #[.int .i64 last, .slice A bl.length c]] w' fun e w'' => e = .returned (.bool true) ∧ Grew w' w'' := by
  have := rledger_any last A bl.length c bl w' (h.row.keep g) (by have := h.len; omega)
  rwa [h.ok] at this
theorem led_check (h : Led w base last bl A c) (g : Grew w w') : Calls Try.prog 12 #[.agg #[.int .i64 last, .slice A bl.length c]] w' fun e w'' => e = .returned (.int .i64 0) ∧ Grew w' w'' := by
  have := lcheck_any last A bl.length c bl w' (h.row.keep g) (by have := h.len; omega)
  rwa [if_pos h.ok] at this
theorem led_total (h : Led w base last bl A c) (g : Grew w w') (cur : Int) (K : Option Addr) (kn kc : Nat) (ks : List Int) (hk : Ints w' K kn ks) (hn : kn ≤ 90000) :
    Calls Try.prog 19 #[.agg #[.int .i64 last, .slice A bl.length c], .int .i64 cur, .slice K kn kc] w' fun e w'' => e = .returned (.tuple #[.int .i64 (capV (sumK bl cur ks)), .int .i64 (capE (sumK bl cur ks))]) ∧ Grew w' w'' := by
  have := ltotal_any last cur A K bl.length c kn kc bl ks w' (h.row.keep g) hk (by have := h.len; omega) hn
  unfold totV totE at this
  rwa [if_pos h.ok, if_pos h.ok] at this
theorem led_of (h : Led w base last bl A c) (g : Grew w w') (k m r : Int) : Calls Try.prog 13 #[.agg #[.int .i64 last, .slice A bl.length c], .agg #[.int .i64 k, .int .i64 m, .int .i64 r]] w' fun e w'' => e = .returned (.int .i64 (sumA bl (k, m, r))) ∧ Grew w' w'' := by
  have := lof_any last A bl.length c bl k m r w' (h.row.keep g) (by have := h.len; omega)
  rwa [ofL_sum (rightB_parts (ledger_parts h.ok).2.1).2] at this
theorem led_post (h : Led w base last bl A c) (g : Grew w w') (id : Int) (B : Option Addr) (m d : Nat) (ls : List Lg) (h2 : RowE enLg w' B m ls) (hB : B = none → d = 0) (hm : m ≤ 90000) :
    Calls Try.prog 15 #[.agg #[.int .i64 last, .slice A bl.length c], .int .i64 id, .slice B m d] w' (PostR w'.heap.size last bl id ls w') :=
  postR_any w'.heap.size last id A B c m d bl ls w' (h.row.keep g) (by have := h.len; omega) h2 hB hm (Nat.le_refl _)
theorem led_yes (h : Led w base last bl A c) (g : Grew w w') {b2 : Nat} {A2 : Option Addr} {c2 : Nat} (h2 : Led w' b2 last bl A2 c2) : Calls Try.prog 17 #[.agg #[.int .i64 last, .slice A bl.length c], .agg #[.int .i64 last, .slice A2 bl.length c2]] w' fun e w'' => e = .returned (.bool true) ∧ Grew w' w'' :=
  ledger_yes last A A2 bl.length c c2 bl w' (h.row.keep g) h2.row (by have := h.len; omega)
end
end Go.Proofs.Ytafglljfgoeapaa.NumK
namespace Go.Proofs.Ytafglljfgoeapaa.NumK
open Go.RowKit
set_option linter.unusedVariables false

theorem sumC_turn (l : List Lg) (h : mayL l = true) (c : Int) : sumC (turnL l) c = -sumC l c := by
  rw [turnL_may l h]
  clear h
  induction l with
  | nil => rfl
  | cons x l ih =>
    rw [List.map_cons, sumC_cons, sumC_cons, ih]
    dsimp only
    split <;> omega
theorem even_turn {l : List Lg} (h : mayL l = true) (he : evenL l = true) : evenL (turnL l) = true := by
  unfold evenL at *
  simp only [Bool.and_eq_true, decide_eq_true_eq] at *
  rw [sumC_turn l h, sumC_turn l h, sumC_turn l h]; omega
theorem check_turn {l : List Lg} (h : checkE l = 0) : checkE (turnL l) = 0 := by
  rw [check_zero] at *
  obtain ⟨h1, h2, h3, h4⟩ := h
  have hl : (turnL l).length = l.length := by unfold turnL; simp
  exact ⟨by omega, by omega, may_turn l h3, even_turn h3 h4⟩
/-- A posting, and then the same turned round. -/
theorem turn_back {last : Int} {bl m : List Lg} (hlast : last < 549755813888) (h : postE last bl (last + 1) m = 0) :
    postE (last + 1) (postL last bl (last + 1) m) (last + 2) (turnL m) = 0 ∧ postL (last + 1) (postL last bl (last + 1) m) (last + 2) (turnL m) = bl := by
  obtain ⟨_, hL, hm, hml, hs⟩ := posted h
  obtain ⟨hb, _, _, _, hc, _⟩ := postE_zero.1 h
  obtain ⟨h0, hr, _⟩ := ledger_parts hb
  have hsum : ∀ a, sumA (postL last bl (last + 1) m ++ turnL m) a = sumA bl a := fun a => by rw [sumA_append, hs, sumA_turn m hm]; omega
  have e : postE (last + 1) (postL last bl (last + 1) m) (last + 2) (turnL m) = 0 := by
    rw [postE_zero]
    refine ⟨hL, by omega, by omega, by omega, check_turn hc, ?_⟩
    rw [addE_zero]
    exact ⟨fun a _ => by rw [hsum]; exact (sumA_money hr a).1, fun a ha => by rw [hsum]; exact (sumA_money hr a).2 ha⟩
  refine ⟨e, ?_⟩
  unfold postL at *
  rw [if_pos h] at *
  rw [if_pos e, show sumA (joinF (sumA (bl ++ m)) 108 ++ turnL m) = sumA bl from funext hsum, right_self hr]
theorem postL_yes {last : Int} {l : List Lg} {id : Int} {m : List Lg} (h : postE last l id m = 0) : postL last l id m = joinF (sumA (l ++ m)) 108 := by unfold postL; rw [if_pos h]
/-- Two postings lead where both at once do. -/
theorem parts_both {last : Int} {bl a b : List Lg} (hlast : last < 549755813888) (ha : a.length ≤ 30) (hb : b.length ≤ 30) (h1 : postE last bl (last + 1) a = 0) (h2 : postE (last + 1) (postL last bl (last + 1) a) (last + 2) b = 0) :
    postE last bl (last + 2) (a ++ b) = 0 ∧ postL last bl (last + 2) (a ++ b) = postL (last + 1) (postL last bl (last + 1) a) (last + 2) b := by
  obtain ⟨_, _, _, _, hs⟩ := posted h1
  obtain ⟨hbl, _, _, _, hc1, _⟩ := postE_zero.1 h1
  obtain ⟨_, _, _, _, hc2, ha2⟩ := postE_zero.1 h2
  obtain ⟨h0, hr, _⟩ := ledger_parts hbl
  have hsum : ∀ x, sumA (bl ++ (a ++ b)) x = sumA (postL last bl (last + 1) a ++ b) x := fun x => by rw [sumA_append, sumA_append, sumA_append, hs]; omega
  have hf : sumA (bl ++ (a ++ b)) = sumA (postL last bl (last + 1) a ++ b) := funext hsum
  have e : postE last bl (last + 2) (a ++ b) = 0 := by
    rw [postE_zero]
    refine ⟨hbl, by omega, by omega, by omega, check_append hc1 hc2 (by rw [List.length_append]; omega), ?_⟩
    rw [addE_zero] at *
    rw [hf]; exact ha2
  exact ⟨e, by rw [postL_yes e, hf, postL_yes h2]⟩

/-! ### floors -/
def bankA (c : Int) : Ac := (1, 0, c)
theorem sumA_move (a b : Ac) (n : Int) (hn : isMoney n = true) (hab : a ≠ b) (x : Ac) : sumA (moveL a b n) x = (if a = x then -n else 0) + (if b = x then n else 0) := by
  unfold moveL
  rw [capV_in hn, sumA_cons, sumA_cons, sumA_nil]; dsimp only; omega
theorem floors_math {last : Int} {bl : List Lg} (hb : ledgerB last bl = true) (hlast : last < 549755813888) (a : Ac) (n : Int) (hr : rightA a.1 a.2.1 a.2.2 = true) (hk : a.1 ≠ 1) (hn : 1 ≤ n ∧ n ≤ 1125899906842624)
    (h1 : sumA bl a ≤ 1152921504606846976 ∧ -1152921504606846976 ≤ sumA bl a) (h2 : sumA bl (bankA a.2.2) ≤ 1152921504606846976 ∧ -1152921504606846976 ≤ sumA bl (bankA a.2.2)) :
    ((a.1 = 3 ∨ a.1 = 4) ∧ sumA bl a < n → postE last bl (last + 1) (moveL a (bankA a.2.2) n) = 13) ∧
    (¬ ((a.1 = 3 ∨ a.1 = 4) ∧ sumA bl a < n) → postE last bl (last + 1) (moveL a (bankA a.2.2) n) = 0 ∧ sumA (postL last bl (last + 1) (moveL a (bankA a.2.2) n)) a = sumA bl a - n) := by
  obtain ⟨h0, hrb, _⟩ := ledger_parts hb
  have hm : isMoney n = true := by rw [isMoney_iff]; omega
  have hab : a ≠ bankA a.2.2 := fun e => hk (by rw [e]; rfl)
  have hcur : 0 ≤ a.2.2 ∧ a.2.2 < 3 := by unfold rightA at hr; simp only [Bool.and_eq_true, decide_eq_true_eq] at hr; exact hr.1.2
  have hbk : rightA (bankA a.2.2).1 (bankA a.2.2).2.1 (bankA a.2.2).2.2 = true := by
    unfold bankA rightA ownedK
    simp only [Bool.and_eq_true, decide_eq_true_eq]
    exact ⟨⟨by omega, hcur⟩, by simp⟩
  have hck : checkE (moveL a (bankA a.2.2) n) = 0 := by rw [check_move a (bankA a.2.2) n hr hbk, if_pos (Or.inl (show a.2.2 = (bankA a.2.2).2.2 from rfl))]
  have hS : ∀ x, sumA (bl ++ moveL a (bankA a.2.2) n) x = sumA bl x + ((if a = x then -n else 0) + (if bankA a.2.2 = x then n else 0)) := fun x => by rw [sumA_append, sumA_move a _ n hm hab]
  have hSa : sumA (bl ++ moveL a (bankA a.2.2) n) a = sumA bl a - n := by rw [hS, if_pos rfl, if_neg (Ne.symm hab)]; omega
  have hSb : sumA (bl ++ moveL a (bankA a.2.2) n) (bankA a.2.2) = sumA bl (bankA a.2.2) + n := by rw [hS, if_neg hab, if_pos rfl]; omega
  have hSx : ∀ x, x ≠ a → x ≠ bankA a.2.2 → sumA (bl ++ moveL a (bankA a.2.2) n) x = sumA bl x := fun x e1 e2 => by rw [hS, if_neg (Ne.symm e1), if_neg (Ne.symm e2)]; omega
  have hmon : ∀ x ∈ allK, isMoney (sumA (bl ++ moveL a (bankA a.2.2) n) x) = true := fun x _ => by
    by_cases e1 : x = a
    · rw [e1, hSa, isMoney_iff]; omega
    · by_cases e2 : x = bankA a.2.2
      · rw [e2, hSb, isMoney_iff]; omega
      · rw [hSx x e1 e2]; exact (sumA_money hrb x).1
  have hall : allK.all (fun x => isMoney (sumA (bl ++ moveL a (bankA a.2.2) n) x)) = true := List.all_eq_true.2 hmon
  have hE : postE last bl (last + 1) (moveL a (bankA a.2.2) n) = addE bl (moveL a (bankA a.2.2) n) := by
    unfold postE
    rw [if_pos hb, if_neg (by omega), if_neg (by omega), if_pos hck]
  have hfl : floorB a = if a.1 = 3 ∨ a.1 = 4 then 0 else -4611686018427387904 := by
    unfold floorB floorA
    rw [hr]
    by_cases h : a.1 = 3 ∨ a.1 = 4
    · rw [if_pos h, if_pos]; simpa using h
    · rw [if_neg h, if_neg]; simpa using h
  constructor
  · rintro ⟨hf, hlt⟩
    rw [hE]
    unfold addE
    rw [if_pos hall, if_neg]
    intro hh
    have := List.all_eq_true.1 hh a (mem_allK a hr)
    rw [hSa, hfl, if_pos hf] at this
    simp only [decide_eq_true_eq] at this
    omega
  · intro hno
    have e : postE last bl (last + 1) (moveL a (bankA a.2.2) n) = 0 := by
      rw [hE, addE_zero]
      refine ⟨hmon, fun x hx => ?_⟩
      by_cases e1 : x = a
      · rw [e1, hSa, hfl]
        split
        · rename_i hf
          have : ¬ sumA bl a < n := fun h => hno ⟨hf, h⟩
          omega
        · omega
      · by_cases e2 : x = bankA a.2.2
        · rw [e2, hSb]
          have : floorB (bankA a.2.2) = -4611686018427387904 := by unfold floorB floorA bankA; simp
          omega
        · rw [hSx x e1 e2]; exact (sumA_money hrb x).2 hx
    exact ⟨e, by rw [(posted e).2.2.2.2, ← sumA_append]; exact hSa⟩

/-! ### totals of kinds -/
theorem sumK_cons (x : Lg) (l : List Lg) (cur : Int) (ks : List Int) : sumK (x :: l) cur ks = (if inK cur ks x then x.2 else 0) + sumK l cur ks := by
  unfold sumK
  by_cases h : inK cur ks x = true
  · simp [h]
  · simp [h]
theorem sumK_snoc (l : List Lg) (cur : Int) (ks : List Int) (k : Int) : sumK l cur (ks ++ [k]) = sumK l cur ks + if ks.contains k then 0 else sumK l cur [k] := by
  induction l with
  | nil => simp [sumK]
  | cons x l ih =>
    rw [sumK_cons, sumK_cons, sumK_cons, ih]
    have e1 : (ks ++ [k]).contains x.1.1 = (ks.contains x.1.1 || decide (x.1.1 = k)) := by rw [Bool.eq_iff_iff]; simp
    have e2 : [k].contains x.1.1 = decide (x.1.1 = k) := by rw [Bool.eq_iff_iff]; simp
    unfold inK
    rw [e1, e2]
    by_cases hk : x.1.1 = k
    · rw [hk]
      cases ks.contains k <;> cases decide (x.1.2.2 = cur) <;> simp <;> omega
    · rw [decide_eq_false hk]
      cases ks.contains x.1.1 <;> cases ks.contains k <;> cases decide (x.1.2.2 = cur) <;> simp <;> omega
theorem sumK_nil (l : List Lg) (cur : Int) : sumK l cur [] = 0 := by
  induction l with
  | nil => rfl
  | cons x l ih => rw [sumK_cons, ih]; simp [inK]
theorem sumK_out {l : List Lg} (h : mayL l = true) (cur k : Int) (hk : k < 1 ∨ 6 < k) : sumK l cur [k] = 0 := by
  induction l with
  | nil => rfl
  | cons x l ih =>
    rw [may_cons] at h
    rw [sumK_cons, ih h.2, if_neg]
    · rfl
    · unfold inK
      have h2 := (okL_parts h.1).1
      unfold rightA at h2
      simp only [Bool.and_eq_true, decide_eq_true_eq] at h2
      have : x.1.1 ≠ k := by omega
      simp [this]
/-- How many of the six kinds are among them. -/
def cntK (ks : List Int) : Nat := ((List.range 6).filter fun i : Nat => ks.contains ((i : Int) + 1)).length
theorem cntK_le (ks : List Int) : cntK ks ≤ 6 := by
  unfold cntK
  exact Nat.le_trans (List.length_filter_le _ _) (by simp)
theorem cnt_two (L : List Nat) (p q : Nat → Bool) (i : Nat) (hi : i ∈ L) (hd : L.Nodup) (h : ∀ j, j ≠ i → q j = p j) (hp : p i = false) (hq : q i = true) : (L.filter q).length = (L.filter p).length + 1 := by
  induction L with
  | nil => cases hi
  | cons x L ih =>
    rw [List.nodup_cons] at hd
    by_cases e : x = i
    · subst e
      rw [List.filter_cons, if_pos hq, List.filter_cons, if_neg (by rw [hp]; decide), List.length_cons]
      congr 1
      rw [List.filter_congr (q := p)]
      intro y hy
      exact h y (fun e => hd.1 (e ▸ hy))
    · have hi2 : i ∈ L := by rcases List.mem_cons.1 hi with h1 | h1; exact absurd h1.symm e; exact h1
      have := ih hi2 hd.2
      rw [List.filter_cons, List.filter_cons, h x e]
      split
      · rw [List.length_cons, List.length_cons, this]
      · exact this
theorem cntK_snoc (ks : List Int) (k : Int) (h1 : 1 ≤ k) (h2 : k ≤ 6) (h3 : ks.contains k = false) : cntK (ks ++ [k]) = cntK ks + 1 := by
  unfold cntK
  refine cnt_two _ _ _ (k - 1).toNat (List.mem_range.2 (by omega)) (List.nodup_range) (fun j hj => ?_) ?_ ?_
  · rw [Bool.eq_iff_iff]
    simp only [List.contains_iff_mem, List.mem_append, List.mem_singleton]
    constructor
    · rintro (h | h)
      · exact h
      · omega
    · exact Or.inl
  · rw [show (((k - 1).toNat : Nat) : Int) + 1 = k by omega]; exact h3
  · rw [show (((k - 1).toNat : Nat) : Int) + 1 = k by omega]; simp
theorem filter_more (L : List Nat) (p q : Nat → Bool) (h : ∀ j, p j = true → q j = true) : (L.filter p).length ≤ (L.filter q).length := by
  induction L with
  | nil => exact Nat.le_refl _
  | cons x L ih =>
    rw [List.filter_cons, List.filter_cons]
    cases hp : p x
    · rw [if_neg (by decide)]
      split
      · rw [List.length_cons]; omega
      · exact ih
    · rw [if_pos rfl, if_pos (h x hp), List.length_cons, List.length_cons]; omega
theorem cntK_same (ks : List Int) (k : Int) : cntK ks ≤ cntK (ks ++ [k]) := by
  unfold cntK
  refine filter_more _ _ _ fun i hi => ?_
  simp only [List.contains_iff_mem, List.mem_append] at *
  exact Or.inl hi
end Go.Proofs.Ytafglljfgoeapaa.NumK
