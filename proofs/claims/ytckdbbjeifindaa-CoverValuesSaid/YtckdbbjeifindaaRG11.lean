/- Losses and margins as calls tell them; what the laws of stage 15 ask of them. -/
import Derived.Test.YtckdbbjeifindaaRG2
import Derived.Test.YtckdbbjeifindaaRG10
import Derived.Test.YtckdbbjeifindaaRG7
import Derived.Deep.RegionHeld3
import Derived.Test.YtckdbbjeifindaaRG3
import Derived.Test.YtckdbbjeifindaaRG1
import Derived.Deep.RegionWith
import Derived.BigQuiet
namespace Go.Proofs.Ytckdbbjeifindaa.NumK
open Go.RowKit
set_option linter.unusedVariables false

def qsOK (l : List Po) : Bool := l.all fun p => okQ p.2.2.1
def lossOK (r : Rl) (who cur : Int) (l : List Po) : Bool := (List.range 6).all fun j => isMoney (lossV r who cur l j)
def lossE (r : Rl) (who cur : Int) (l : List Po) : Int := if rightR r = true then (if qsOK l = true then (if lossOK r who cur l = true then 0 else 1) else 3) else 14
/-- What a scenario tells: nothing beside an error. -/
def lossA (r : Rl) (who cur : Int) (l : List Po) (j : Nat) : Int := if lossE r who cur l = 0 then lossV r who cur l j else 0
def margE (r : Rl) (who cur : Int) (l : List Po) : Int := if lossE r who cur l = 0 then (if isMoney (margV r who cur l) = true then 0 else 1) else lossE r who cur l
def margN (r : Rl) (who cur : Int) (l : List Po) : Int := if margE r who cur l = 0 then margV r who cur l else 0

/-! ### the laws -/
end Go.Proofs.Ytckdbbjeifindaa.NumK
namespace Go.Proofs.Ytckdbbjeifindaa.NumK
open Go.RowKit
set_option linter.unusedVariables false

def assetOf (r : Rl) (x : Pg) : As := findL noAs as0 r.2.2 x.2.1
def hasA (r : Rl) (x : Pg) : Bool := hasL noAs r.2.2 x.2.1
/-- Does a pledge count? -/
def cntV (r : Rl) (who cur : Int) (x : Pg) : Bool := hasA r x && (decide (x.1 = who) && decide ((assetOf r x).2.1 = cur))
def valP (r : Rl) (x : Pg) : Int := valueV (assetOf r x) x.2.2
def covG (r : Rl) (who cur : Int) (x : Pg) : Int := if cntV r who cur x = true then valP r x else 0
def covS (r : Rl) (who cur : Int) (l : List Pg) : Int := (l.map (covG r who cur)).sum
def valsOK (r : Rl) (who cur : Int) (l : List Pg) : Bool := l.all fun x => !(cntV r who cur x) || decide (valP r x ≤ 4611686018427387904)
/-- Beside a ledger (ok: is it right?) in which the cash is b. -/
def covE (ok : Bool) (b : Int) (r : Rl) (who cur : Int) (l : List Pg) : Int :=
  if ok = true ∧ rightR r = true ∧ rightPg l = true then (if valsOK r who cur l = true ∧ isMoney (b + covS r who cur l) = true then 0 else 1) else 14
def covN (ok : Bool) (b : Int) (r : Rl) (who cur : Int) (l : List Pg) : Int := if covE ok b r who cur l = 0 then b + covS r who cur l else 0
theorem covE_iff {ok : Bool} {b : Int} {r : Rl} {who cur : Int} {l : List Pg} : covE ok b r who cur l = 0 ↔ ok = true ∧ rightR r = true ∧ rightPg l = true ∧ valsOK r who cur l = true ∧ isMoney (b + covS r who cur l) = true := by
  unfold covE
  by_cases h1 : ok = true ∧ rightR r = true ∧ rightPg l = true
  · rw [if_pos h1]
    by_cases h2 : valsOK r who cur l = true ∧ isMoney (b + covS r who cur l) = true
    · rw [if_pos h2]; exact ⟨fun _ => ⟨h1.1, h1.2.1, h1.2.2, h2⟩, fun _ => rfl⟩
    · rw [if_neg h2]; exact ⟨fun h => absurd h (by decide), fun h => absurd h.2.2.2 h2⟩
  · rw [if_neg h1]; exact ⟨fun h => absurd h (by decide), fun h => absurd ⟨h.1, h.2.1, h.2.2.1⟩ h1⟩
theorem covS_nil (r : Rl) (who cur : Int) : covS r who cur [] = 0 := rfl
theorem covS_app (r : Rl) (who cur : Int) (l k : List Pg) : covS r who cur (l ++ k) = covS r who cur l + covS r who cur k := by
  unfold covS; rw [List.map_append, sum_app]
theorem covS_cons (r : Rl) (who cur : Int) (x : Pg) (l : List Pg) : covS r who cur (x :: l) = covG r who cur x + covS r who cur l := by
  unfold covS; rw [List.map_cons, List.sum_cons]
theorem covS_one (r : Rl) (who cur : Int) (x : Pg) : covS r who cur [x] = covG r who cur x := by rw [covS_cons, covS_nil]; omega
theorem right_a {r : Rl} (h : rightR r = true) : rightL okAs noAs as0 r.2.2 = true := by
  unfold rightR at h
  rw [Bool.and_eq_true, Bool.and_eq_true] at h
  exact h.2.2
theorem asset_ok {r : Rl} (h : rightR r = true) {x : Pg} (hx : hasA r x = true) : okAs (assetOf r x) = true :=
  ((rightL_iff okAs noAs as0 r.2.2).1 (right_a h)).1 _ (find_mem noAs as0 r.2.2 x.2.1 hx).1
theorem cntV_has {r : Rl} {who cur : Int} {x : Pg} (h : cntV r who cur x = true) : hasA r x = true := by
  unfold cntV at h; rw [Bool.and_eq_true] at h; exact h.1
/-- How far a value goes: for sums that wides hold. -/
theorem valP_in {r : Rl} (h : rightR r = true) {x : Pg} (hx : hasA r x = true) (hu : 0 ≤ x.2.2 ∧ x.2.2 ≤ 1099511627776) : 0 ≤ valP r x ∧ valP r x ≤ 1099511627776 * 1073741824 := by
  have h1 := asset_ok h hx
  obtain ⟨_, _, h3, _⟩ := (okAs_iff _).1 h1
  refine ⟨value_nonneg h1 hu.1, Int.le_trans (value_le h1 hu.1) ?_⟩
  exact Int.le_trans (Int.mul_le_mul_of_nonneg_right hu.2 (by omega)) (Int.mul_le_mul_of_nonneg_left h3.2 (by omega))
/-! ### one is put in, or taken out -/
def covO (r : Rl) (who cur : Int) (o : Option Pg) : Int := match o with | some x => covG r who cur x | none => 0
theorem covS_opt (r : Rl) (who cur : Int) (o : Option Pg) : covS r who cur o.toList = covO r who cur o := by
  cases o with
  | none => rfl
  | some x => exact covS_one r who cur x
theorem covS_set {l : List Pg} (h : Rise noPg l) (r : Rl) (who cur k : Int) (o : Option Pg) : covS r who cur (setL noPg l k o) = covS r who cur l - covO r who cur (getL noPg l k) + covO r who cur o := by
  have e := congrArg (covS r who cur) (set_self h k)
  unfold setL at e ⊢
  rw [covS_app, covS_app, covS_opt] at e ⊢
  omega
/-- A pledge of so many units, or of none. -/
theorem covO_change {r : Rl} (who cur w a n : Int) (hn : 0 ≤ n) : covO r who cur (changeO w a n) = if cntV r who cur (w, a, n) = true then valueV (assetOf r (w, a, n)) n else 0 := by
  unfold changeO
  by_cases hc : n ≤ 0
  · have e : n = 0 := by omega
    subst e
    rw [if_pos hc]
    show (0 : Int) = _
    have : valueV (assetOf r (w, a, 0)) 0 = 0 := by
      show (0 * unitW _ : Int).fdiv 10000 = 0
      rw [Int.zero_mul]; rfl
    rw [this]; split <;> rfl
  · rw [if_neg hc]; rfl
theorem get_units {l : List Pg} (h : rightPg l = true) {w a : Int} (hk : okPK w a = true) (r : Rl) (who cur : Int) : covO r who cur (getL noPg l (w * 8 + a)) = if cntV r who cur (w, a, unitsL l w a) = true then valueV (assetOf r (w, a, unitsL l w a)) (unitsL l w a) else 0 := by
  have hu := units_in h w a
  rw [← covO_change who cur w a _ hu.1, ← findPg_get h hk]
  unfold changeO unitsL
  cases e : findPg l w a with
  | none => rfl
  | some x =>
    obtain ⟨h1, rfl, rfl⟩ := findPg_in e
    have := ((okPg_iff x).1 (((rightPg_iff l).1 h).1 x h1)).2
    show covO r who cur (some x) = covO r who cur (if x.2.2 ≤ 0 then none else some (x.1, x.2.1, x.2.2))
    rw [if_neg (by omega)]
/-- Collateral that comes. -/
theorem cover_more {l : List Pg} {who a u : Int} (hc : changeE l who a u = 0) {r : Rl} (hr : rightR r = true) {x : As} (hx : x ∈ r.2.2) (ha : noAs x = a) (w c : Int) :
    covS r w c (changeL l who a u) - covS r w c l = if w = who ∧ c = x.2.1 then valueV x (unitsL l who a + u) - valueV x (unitsL l who a) else 0 := by
  obtain ⟨h1, h2, h3, h4, h5⟩ := changeE_ok.1 hc
  have hri := ((rightPg_iff l).1 h1).2
  have hs : changeL l who a u = setL noPg l (who * 8 + a) (changeO who a (unitsL l who a + u)) := by unfold changeL; rw [if_pos hc]
  rw [hs, covS_set hri, covO_change w c who a _ h4, get_units h1 h2]
  have hf : hasL noAs r.2.2 a = true := (hasL_iff _ _ _).2 ⟨x, hx, ha⟩
  have hra := ((rightL_iff okAs noAs as0 r.2.2).1 (right_a hr)).2
  have he : findL noAs as0 r.2.2 a = x := by
    obtain ⟨m1, m2⟩ := find_mem noAs as0 r.2.2 a hf
    exact rise_one hra m1 hx (by rw [m2, ha])
  have ea : ∀ n, assetOf r (who, a, n) = x := fun _ => he
  have eh : ∀ n, cntV r w c (who, a, n) = decide (w = who ∧ c = x.2.1) := fun n => by
    unfold cntV
    rw [ea, show hasA r (who, a, n) = true from hf, Bool.true_and, Bool.eq_iff_iff]
    simp only [Bool.and_eq_true, decide_eq_true_eq]
    exact ⟨fun h => ⟨h.1.symm, h.2.symm⟩, fun h => ⟨h.1.symm, h.2.symm⟩⟩
  rw [ea, ea, eh, eh]
  by_cases hq : w = who ∧ c = x.2.1
  · rw [if_pos (by simpa using hq), if_pos (by simpa using hq), if_pos hq]; omega
  · rw [if_neg (by simpa using hq), if_neg (by simpa using hq), if_neg hq]; omega
/-- As the law asks: the value, or one more. -/
theorem cover_more_law {l : List Pg} {who a u : Int} (hc : changeE l who a u = 0) (hu : 1 ≤ u ∧ u ≤ 1048576) {r : Rl} (hr : rightR r = true) {x : As} (hx : x ∈ r.2.2) (ha : noAs x = a) (w c : Int) :
    valueE x u = 0 ∧ (0 ≤ valueV x u ∧ valueV x u ≤ 1125899906842624) ∧ (w = who ∧ c = x.2.1 → covS r w c (changeL l who a u) - covS r w c l = valueV x u ∨ covS r w c (changeL l who a u) - covS r w c l = valueV x u + 1) ∧
    (¬ (w = who ∧ c = x.2.1) → covS r w c (changeL l who a u) - covS r w c l = 0) := by
  have ho : okAs x = true := ((rightL_iff okAs noAs as0 r.2.2).1 (right_a hr)).1 x hx
  obtain ⟨_, _, h3, _⟩ := (okAs_iff x).1 ho
  have hv0 := value_nonneg ho (u := u) (by omega)
  have hv1 : valueV x u ≤ 1125899906842624 := Int.le_trans (value_le ho (by omega)) (by
    have h1 : u * x.2.2.1 ≤ 1048576 * 1073741824 := Int.le_trans (Int.mul_le_mul_of_nonneg_right hu.2 (by omega)) (Int.mul_le_mul_of_nonneg_left h3.2 (by omega))
    omega)
  have hm := cover_more hc hr hx ha w c
  refine ⟨valueE_ok.2 ⟨ho, by omega, by omega⟩, ⟨hv0, hv1⟩, fun hq => ?_, fun hq => by rw [hm, if_neg hq]⟩
  rw [hm, if_pos hq]
  have := value_parts x (unitsL l who a) u
  omega

/-! ### what a member lacks -/
/-- Beside a cover (its error, its number), a book (ok: is it right?) and a margin (its error, its number). -/
def shortE (ce c : Int) (ok : Bool) (me m : Int) : Int := if ce = 0 then (if ok = true then (if me = 0 then (if 4611686018427387904 < m - c then 1 else 0) else me) else 14) else ce
def shortN (ce c : Int) (ok : Bool) (me m : Int) : Int := if shortE ce c ok me m = 0 then (if m - c < 0 then 0 else m - c) else 0
end Go.Proofs.Ytckdbbjeifindaa.NumK
namespace Go.Proofs.Ytckdbbjeifindaa.NumK
open Go.RowKit
set_option linter.unusedVariables false

def cmpI (x y : Int) : Int := if x < y then -1 else if x > y then 1 else 0
theorem isNaN_any (x : Int) (w : World) : Calls Try.prog 69 #[.int .i64 x] w fun e w' => e = .returned (.bool false) ∧ w = w' := by
  go_enter Try.func69, Try.ntmps69
  go_wp2
  go_ret
  exact ⟨rfl, rfl⟩
theorem compare_any (x y : Int) (w : World) : Calls Try.prog 57 #[.int .i64 x, .int .i64 y] w fun e w' => e = .returned (.int .i64 (cmpI x y)) ∧ w = w' := by
  have C1 := fun w => isNaN_any x w
  have C2 := fun w => isNaN_any y w
  have HC : Hid (cmpI x y = if x < y then -1 else if x > y then 1 else 0) := rfl
  generalize cmpI x y = R at *
  by_cases h1 : x < y
  · have HR : Hid (R = -1) := by show _ = _; rw [HC.out, if_pos h1]
    clear HC
    go_enter Try.func57, Try.ntmps57
    go_wp2_with (first
      | (go_at_call 69; ((with_reducible refine (C1 _).mono ?_); rintro e w1 ⟨rfl, rfl⟩))
      | (go_at_call 69; ((with_reducible refine (C2 _).mono ?_); rintro e w1 ⟨rfl, rfl⟩)))
    go_ret
    exact ⟨ret_i HR.out.symm, rfl⟩
  · by_cases h2 : x > y
    · have HR : Hid (R = 1) := by show _ = _; rw [HC.out, if_neg h1, if_pos h2]
      clear HC
      go_enter Try.func57, Try.ntmps57
      go_wp2_with (first
        | (go_at_call 69; ((with_reducible refine (C1 _).mono ?_); rintro e w1 ⟨rfl, rfl⟩))
        | (go_at_call 69; ((with_reducible refine (C2 _).mono ?_); rintro e w1 ⟨rfl, rfl⟩)))
      go_ret
      exact ⟨ret_i HR.out.symm, rfl⟩
    · have HR : Hid (R = 0) := by show _ = _; rw [HC.out, if_neg h1, if_neg h2]
      clear HC
      go_enter Try.func57, Try.ntmps57
      go_wp2_with (first
        | (go_at_call 69; ((with_reducible refine (C1 _).mono ?_); rintro e w1 ⟨rfl, rfl⟩))
        | (go_at_call 69; ((with_reducible refine (C2 _).mono ?_); rintro e w1 ⟨rfl, rfl⟩)))
      go_ret
      exact ⟨ret_i HR.out.symm, rfl⟩
theorem RowE.one {α : Type} (E : En α) (w : World) (x : α) (t : TypeId) (N : Nat) (hN : N = w.heap.size) : RowE E (w.alloc (.cells (E.cs x).toArray t)) (some ⟨N, 0, none⟩) 1 [x] := by
  subst hN
  refine ⟨rfl, fun _ => ⟨_, _, rfl, by simp, fun j hj => ⟨_, rfl, fun i hi => ?_⟩⟩⟩
  have hj : j < 1 := hj
  obtain rfl : j = 0 := by omega
  rw [Nat.zero_mul, Nat.zero_add, World.cell?_alloc_at _ _ _ _ rfl]
  simp
theorem RowE.dropO {α : Type} {E : En α} {w : World} {ad : Option Addr} {n k : Nat} {l : List α} (h : RowE E w ad n l) (hk : k ≤ n) : RowE E w (Option.map (fun x => x.add (k * E.size)) ad) (n - k) (l.drop k) := by
  cases ad with
  | none =>
    have h0 : n = 0 := by
      rcases Nat.eq_zero_or_pos n with h1 | h1
      · exact h1
      · obtain ⟨b, o, e, _⟩ := h.2 h1; cases e
    subst h0
    have hl := List.eq_nil_of_length_eq_zero h.len
    rw [hl, List.drop_nil, Nat.zero_sub]
    exact RowE.nil _ _ _
  | some a => exact Row.drop h hk
end Go.Proofs.Ytckdbbjeifindaa.NumK
namespace Go.Proofs.Ytckdbbjeifindaa.NumK
open Go.RowKit
set_option linter.unusedVariables false

def enPo : En Po := ⟨4, fun x => [.int .i64 x.1, .int .i64 x.2.1, .int .i64 x.2.2.1, .int .i64 x.2.2.2], fun _ => rfl, fun a v hv => by
  simp at hv; rcases hv with rfl | rfl | rfl | rfl <;> rfl, by decide⟩
def enTr : En Tr := ⟨7, fun t => [.int .i64 t.1.1, .int .i64 t.1.2.1, .int .i64 t.1.2.2.1, .int .i64 t.1.2.2.2.1, .int .i64 t.1.2.2.2.2.1, .int .i64 t.1.2.2.2.2.2, .bool t.2], fun _ => rfl, fun a v hv => by
  simp at hv; rcases hv with rfl | rfl | rfl | rfl | rfl | rfl | rfl <;> rfl, by decide⟩
abbrev vPo (x : Po) : Value := .agg #[.int .i64 x.1, .int .i64 x.2.1, .int .i64 x.2.2.1, .int .i64 x.2.2.2]
abbrev vTr (t : Tr) : Value := .agg #[.int .i64 t.1.1, .int .i64 t.1.2.1, .int .i64 t.1.2.2.1, .int .i64 t.1.2.2.2.1, .int .i64 t.1.2.2.2.2.1, .int .i64 t.1.2.2.2.2.2, .bool t.2]
def CPo (w : World) (b p : Nat) (x : Po) : Prop :=
  w.cell? ⟨b, p, none⟩ = some (.int .i64 x.1) ∧ w.cell? ⟨b, p + 1, none⟩ = some (.int .i64 x.2.1) ∧ w.cell? ⟨b, p + 2, none⟩ = some (.int .i64 x.2.2.1) ∧ w.cell? ⟨b, p + 3, none⟩ = some (.int .i64 x.2.2.2)
theorem CPo.keep {w w' : World} {b p : Nat} {x : Po} (h : CPo w b p x) (g : Grew w w') (hb : b < w.heap.size) : CPo w' b p x :=
  ⟨(grew_cell g (p := ⟨b, _, none⟩) hb).trans h.1, (grew_cell g (p := ⟨b, _, none⟩) hb).trans h.2.1, (grew_cell g (p := ⟨b, _, none⟩) hb).trans h.2.2.1, (grew_cell g (p := ⟨b, _, none⟩) hb).trans h.2.2.2⟩
def CTr (w : World) (b p : Nat) (t : Tr) : Prop :=
  w.cell? ⟨b, p, none⟩ = some (.int .i64 t.1.1) ∧ w.cell? ⟨b, p + 1, none⟩ = some (.int .i64 t.1.2.1) ∧ w.cell? ⟨b, p + 2, none⟩ = some (.int .i64 t.1.2.2.1) ∧ w.cell? ⟨b, p + 3, none⟩ = some (.int .i64 t.1.2.2.2.1)
  ∧ w.cell? ⟨b, p + 4, none⟩ = some (.int .i64 t.1.2.2.2.2.1) ∧ w.cell? ⟨b, p + 5, none⟩ = some (.int .i64 t.1.2.2.2.2.2) ∧ w.cell? ⟨b, p + 6, none⟩ = some (.bool t.2)
theorem CTr.keep {w w' : World} {b p : Nat} {t : Tr} (h : CTr w b p t) (g : Grew w w') (hb : b < w.heap.size) : CTr w' b p t := by
  obtain ⟨h0, h1, h2, h3, h4, h5, h6⟩ := h
  exact ⟨(grew_cell g (p := ⟨b, _, none⟩) hb).trans h0, (grew_cell g (p := ⟨b, _, none⟩) hb).trans h1, (grew_cell g (p := ⟨b, _, none⟩) hb).trans h2, (grew_cell g (p := ⟨b, _, none⟩) hb).trans h3,
    (grew_cell g (p := ⟨b, _, none⟩) hb).trans h4, (grew_cell g (p := ⟨b, _, none⟩) hb).trans h5, (grew_cell g (p := ⟨b, _, none⟩) hb).trans h6⟩
/-- A slice literal is a row of the call's own. -/
theorem OwnE.lit {α : Type} (E : En α) (w : World) (l : List α) (t : TypeId) (cs : Array Value) (N : Nat) (hN : N = w.heap.size) (hc : cs.toList = l.flatMap E.cs) (hm : l.length * E.size ≤ maxLen) :
    OwnE E (w.alloc (.cells cs t)) w.heap.size t (.slice (some ⟨N, 0, none⟩) l.length l.length) l := by
  subst hN
  have hs : cs.size = l.length * E.size := by rw [← Array.length_toList, hc, E.flat_len]
  have hp : l.length ≤ l.length * E.size := Nat.le_mul_of_pos_right _ E.pos
  exact ⟨by rw [E.flat_len], .inr ⟨w.heap.size, l.length, cs, rfl, Nat.le_refl _, heap_alloc_new w _, Nat.le_refl _, by omega, hs, by rw [hc, List.take_of_length_le (by rw [E.flat_len]; exact Nat.le_refl _)]⟩⟩

end Go.Proofs.Ytckdbbjeifindaa.NumK
namespace Go.Proofs.Ytckdbbjeifindaa.NumK
open Go.RowKit
set_option linter.unusedVariables false

abbrev vKy (k : Ky) : Value := .agg #[.int .i64 k.1, .int .i64 k.2]

/-- Neither quantity nor cost. -/
def noneP (q c : Int) : Bool := decide (q = 0) && decide (c = 0)
end Go.Proofs.Ytckdbbjeifindaa.NumK
namespace Go.Proofs.Ytckdbbjeifindaa.NumK
open Go.RowKit

theorem right1 (n : Int) (b : Bool) (h : isMoney n = b) (w : World) :
    Calls Try.prog 63 #[.slice (some ⟨w.heap.size, 0, none⟩) 1 1] (w.alloc (.cells #[.int .i64 n] 3)).drew fun e w' => e = .returned (.bool b) ∧ (w.alloc (.cells #[.int .i64 n] 3)).drew = w' := by
  have C := right_any (some ⟨w.heap.size, 0, none⟩) 1 1 [n] _ ((ints1 w n 3).keep (grew_drew (grew_refl _))) (by omega)
  have e : [n].all isMoney = b := by simp [h]
  rw [e] at C
  exact C

set_option maxHeartbeats 1000000 in
theorem wint_money (x : Int) (w : World) (h : isMoney x = true) :
    Calls Try.prog 66 #[(.agg #[.int .i64 (hi64 (x)), .int .u64 (lo64 (x))])] w fun e w' => e = .returned (.tuple #[.int .i64 (capV x), .int .i64 (capE x)]) ∧ Grew w w' := by
  have hx := (isMoney_iff x).1 h
  have b1 := lo_bounds x
  have L : wrap64 (lo64 x) = x := by unfold wrap64 lo64; omega
  have C1 := fun w => sign_any x w (by omega)
  rw [hi_of x (by omega)] at C1
  have C2 := right1 x true h
  have E1 := Lib.hid (capV_in h)
  have E2 := Lib.hid (capE_in h)
  clear h hx b1
  generalize hi64 x = hh at *
  generalize lo64 x = l at *
  go_enter Try.func66, Try.ntmps66
  go_wp2
  have h0 : (w.alloc (.cells #[.int .i64 hh, .int .u64 l] 72)).cell? ⟨w.heap.size, 0, none⟩ = some (.int .i64 hh) ∧ (w.alloc (.cells #[.int .i64 hh, .int .u64 l] 72)).cell? ⟨w.heap.size, 1, none⟩ = some (.int .u64 l) ∧ w.heap.size < (w.alloc (.cells #[.int .i64 hh, .int .u64 l] 72)).heap.size ∧ Grew w (w.alloc (.cells #[.int .i64 hh, .int .u64 l] 72)) := ⟨by simp, by simp, by simp, grew_alloc _ _ _⟩
  generalize w.alloc (.cells #[.int .i64 hh, .int .u64 l] 72) = w0 at h0 ⊢
  obtain ⟨h1, h2, h3, h4⟩ := h0
  go_region_held3 (fun w' => w'.cell? ⟨w.heap.size, 0, none⟩ = some (.int .i64 hh) ∧ w'.cell? ⟨w.heap.size, 1, none⟩ = some (.int .u64 l) ∧ w.heap.size < w'.heap.size ∧ Grew w w')
    (first
      | (exact keep2 (grew_drew (grew_refl _)) h1 h2 h3 h4)
      | (exact keep2 (grew_drew (grew_alloc _ _ _)) h1 h2 h3 h4)
      | (trace_state; fail))
    (first
      | (go_at_call 67; refine (C1 _).mono ?_; rintro e w1 ⟨rfl, rfl⟩)
      | (go_at_call 63; refine (C2 _).mono ?_; rintro e w2 ⟨rfl, rfl⟩))
  rename_i hS
  go_wp2
  go_ret2
  exact ⟨ret2 E1.out.symm E2.out.symm, hS.2.2.2⟩
set_option maxHeartbeats 1000000 in
theorem wint_near (x : Int) (w : World) (h : isMoney x = false) (L : wrap64 (lo64 x) = x) :
    Calls Try.prog 66 #[(.agg #[.int .i64 (hi64 (x)), .int .u64 (lo64 (x))])] w fun e w' => e = .returned (.tuple #[.int .i64 (capV x), .int .i64 (capE x)]) ∧ Grew w w' := by
  have b1 := lo_bounds x
  have bn : -9223372036854775808 ≤ wrap64 (lo64 x) ∧ wrap64 (lo64 x) ≤ 9223372036854775807 := by unfold wrap64; omega
  rw [L] at bn
  have C1 := fun w => sign_any x w bn
  rw [hi_of x bn] at C1
  have C2 := right1 x false h
  have E1 := Lib.hid (capV_out h)
  have E2 := Lib.hid (capE_out h)
  clear h b1
  generalize hi64 x = hh at *
  generalize lo64 x = l at *
  go_enter Try.func66, Try.ntmps66
  go_wp2
  have h0 : (w.alloc (.cells #[.int .i64 hh, .int .u64 l] 72)).cell? ⟨w.heap.size, 0, none⟩ = some (.int .i64 hh) ∧ (w.alloc (.cells #[.int .i64 hh, .int .u64 l] 72)).cell? ⟨w.heap.size, 1, none⟩ = some (.int .u64 l) ∧ w.heap.size < (w.alloc (.cells #[.int .i64 hh, .int .u64 l] 72)).heap.size ∧ Grew w (w.alloc (.cells #[.int .i64 hh, .int .u64 l] 72)) := ⟨by simp, by simp, by simp, grew_alloc _ _ _⟩
  generalize w.alloc (.cells #[.int .i64 hh, .int .u64 l] 72) = w0 at h0 ⊢
  obtain ⟨h1, h2, h3, h4⟩ := h0
  go_region_held3 (fun w' => w'.cell? ⟨w.heap.size, 0, none⟩ = some (.int .i64 hh) ∧ w'.cell? ⟨w.heap.size, 1, none⟩ = some (.int .u64 l) ∧ w.heap.size < w'.heap.size ∧ Grew w w')
    (first
      | (exact keep2 (grew_drew (grew_refl _)) h1 h2 h3 h4)
      | (exact keep2 (grew_drew (grew_alloc _ _ _)) h1 h2 h3 h4)
      | (trace_state; fail))
    (first
      | (go_at_call 67; refine (C1 _).mono ?_; rintro e w1 ⟨rfl, rfl⟩)
      | (go_at_call 63; refine (C2 _).mono ?_; rintro e w2 ⟨rfl, rfl⟩))
  rename_i hS
  go_wp2
  go_ret2
  exact ⟨ret2 E1.out.symm E2.out.symm, hS.2.2.2⟩

set_option maxHeartbeats 1000000 in
theorem wint_far (x : Int) (w : World) (h : isMoney x = false) (hf : hi64 (wrap64 (lo64 x)) ≠ hi64 x) :
    Calls Try.prog 66 #[(.agg #[.int .i64 (hi64 (x)), .int .u64 (lo64 (x))])] w fun e w' => e = .returned (.tuple #[.int .i64 (capV x), .int .i64 (capE x)]) ∧ Grew w w' := by
  have b1 := lo_bounds x
  have bn : -9223372036854775808 ≤ wrap64 (lo64 x) ∧ wrap64 (lo64 x) ≤ 9223372036854775807 := by unfold wrap64; omega
  have C1 := fun w => sign_any (wrap64 (lo64 x)) w bn
  rw [hi_of _ bn] at C1
  have E1 := Lib.hid (capV_out h)
  have E2 := Lib.hid (capE_out h)
  have d1 : (hi64 x == hi64 (wrap64 (lo64 x))) = false := by simpa using (Ne.symm hf)
  have d2 : (hi64 x != hi64 (wrap64 (lo64 x))) = true := by simpa using (Ne.symm hf)
  clear h b1 hf
  generalize hi64 (wrap64 (lo64 x)) = hn at *
  generalize hi64 x = hh at *
  generalize lo64 x = l at *
  go_enter Try.func66, Try.ntmps66
  go_wp2
  first
  | (go_region_with (first
      | (go_at_call 67; refine (C1 _).mono ?_; rintro e w1 ⟨rfl, rfl⟩)))
  | fail
  all_goals
    go_wp2
    go_ret2
    exact ⟨ret2 E1.out.symm E2.out.symm, grew_drew (grew_alloc _ _ _)⟩

theorem wint_any (x : Int) (w : World) :
    Calls Try.prog 66 #[(.agg #[.int .i64 (hi64 (x)), .int .u64 (lo64 (x))])] w fun e w' => e = .returned (.tuple #[.int .i64 (capV x), .int .i64 (capE x)]) ∧ Grew w w' := by
  by_cases h : isMoney x = true
  · exact wint_money x w h
  · simp only [Bool.not_eq_true] at h
    by_cases hf : hi64 (wrap64 (lo64 x)) = hi64 x
    · refine wint_near x w h ?_
      have b1 := lo_bounds x
      have e1 := w_eq x
      have e2 := w_eq (wrap64 (lo64 x))
      have hl : lo64 (wrap64 (lo64 x)) = lo64 x := by unfold wrap64 lo64; omega
      rw [hf, hl] at e2
      omega
    · exact wint_far x w h hf
end Go.Proofs.Ytckdbbjeifindaa.NumK
namespace Go.Proofs.Ytckdbbjeifindaa.NumK
open Go.RowKit
set_option linter.unusedVariables false


end Go.Proofs.Ytckdbbjeifindaa.NumK
namespace Go.Proofs.Ytckdbbjeifindaa.NumK
open Go.RowKit
set_option linter.unusedVariables false

def LegsPost (t : Tr) (back : Bool) (w : World) (e : Ending) (w' : World) : Prop :=
  ∃ A c, e = .returned (.slice A (legsT t back).length c) ∧ OwnE enPo w' w.heap.size 157 (.slice A (legsT t back).length c) (legsT t back) ∧ Grew w w'
end Go.Proofs.Ytckdbbjeifindaa.NumK
namespace Go.Proofs.Ytckdbbjeifindaa.NumK
open Go.RowKit
set_option linter.unusedVariables false

end Go.Proofs.Ytckdbbjeifindaa.NumK
namespace Go.Proofs.Ytckdbbjeifindaa.NumK
open Go.RowKit
set_option linter.unusedVariables false

theorem gwithin_any (n lo hi : Int) (w : World) : Calls Try.prog 24 #[.int .i64 n, .int .i64 lo, .int .i64 hi] w fun e w' => e = .returned (.bool (wi n lo hi)) ∧ w = w' := by
  have HV : Hid (wi n lo hi = (decide (lo ≤ n) && decide (n ≤ hi))) := rfl
  generalize wi n lo hi = V at *
  by_cases h1 : lo ≤ n
  · by_cases h2 : n ≤ hi
    · have HF : Hid (V = true) := by show _ = _; rw [HV.out, decide_eq_true h1, decide_eq_true h2]; rfl
      clear HV
      go_enter Try.func24, Try.ntmps24
      go_wp2
      go_ret
      exact ⟨by rw [HF.out]; try rfl, rfl⟩
    · have HF : Hid (V = false) := by show _ = _; rw [HV.out, decide_eq_false h2]; exact Bool.and_false _
      clear HV
      go_enter Try.func24, Try.ntmps24
      go_wp2
      go_ret
      exact ⟨by rw [HF.out]; try rfl, rfl⟩
  · have HF : Hid (V = false) := by show _ = _; rw [HV.out, decide_eq_false h1]; rfl
    clear HV
    go_enter Try.func24, Try.ntmps24
    go_wp2
    go_ret
    exact ⟨by rw [HF.out]; try rfl, rfl⟩

def AtQ (l : List Po) (w : World) (e : Ending) (w' : World) : Prop := ∃ r : Int, (0 ≤ r ↔ qsOK l = false) ∧ -1 ≤ r ∧ e = .returned (.int .i64 r) ∧ Grew w w'

end Go.Proofs.Ytckdbbjeifindaa.NumK
