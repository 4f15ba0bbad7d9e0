/- cover.Of: what stands for a member. -/
import Derived.Test.YtodnllopokoicaaGreatRH30
import Derived.Test.YtodnllopokoicaaGreatRH19
import Derived.Test.YtodnllopokoicaaGreatRH27
import Derived.Test.YtodnllopokoicaaGreatRH33
import Derived.Test.YtodnllopokoicaaGreatRH5
import Derived.Test.YtodnllopokoicaaGreatRH14
import Derived.Deep.CutBlock
namespace Go.Proofs.YtodnllopokoicaaGreat.NumK
open Go.RowKit
set_option linter.unusedVariables false

/-! ### the sum, part by part -/
def partsL (r : Rl) (who cur b : Int) (l : List Pg) : List Int := b :: (l.filter (cntV r who cur)).map (valP r)
theorem parts_snoc (r : Rl) (who cur b : Int) (l : List Pg) (x : Pg) : partsL r who cur b (l ++ [x]) = partsL r who cur b l ++ (if cntV r who cur x = true then [valP r x] else []) := by
  unfold partsL
  rw [List.filter_append, List.map_append, List.cons_append]
  by_cases h : cntV r who cur x = true
  · rw [if_pos h, List.filter_cons_of_pos h]; rfl
  · rw [if_neg h, List.filter_cons_of_neg h]; rfl
theorem parts_step (r : Rl) (who cur b : Int) (l : List Pg) (j : Nat) (h : j < l.length) : partsL r who cur b (l.take (j + 1)) = partsL r who cur b (l.take j) ++ (if cntV r who cur (l.getD j pg0) = true then [valP r (l.getD j pg0)] else []) := by
  rw [List.take_succ_eq_append_getElem h, parts_snoc, getD_at l pg0 j h]
theorem parts_len (r : Rl) (who cur b : Int) (l : List Pg) (j : Nat) : (partsL r who cur b (l.take j)).length ≤ j + 1 := by
  unfold partsL
  rw [List.length_cons, List.length_map]
  have h1 := List.length_filter_le (cntV r who cur) (l.take j)
  have h2 := List.length_take_le j l
  omega
theorem parts_sum (r : Rl) (who cur b : Int) (l : List Pg) : (partsL r who cur b l).sum = b + covS r who cur l := by
  unfold partsL covS
  rw [List.sum_cons]
  congr 1
  induction l with
  | nil => rfl
  | cons x l ih =>
    rw [List.map_cons, List.sum_cons]
    by_cases h : cntV r who cur x = true
    · rw [List.filter_cons_of_pos h, List.map_cons, List.sum_cons, ih]; unfold covG; rw [if_pos h]
    · rw [List.filter_cons_of_neg h, ih]; unfold covG; rw [if_neg h]; omega
theorem vals_iff (r : Rl) (who cur : Int) (l : List Pg) : valsOK r who cur l = true ↔ ∀ x ∈ l, cntV r who cur x = true → valP r x ≤ 4611686018427387904 := by
  unfold valsOK
  rw [List.all_eq_true]
  constructor
  · intro h x hx hc
    have := h x hx
    rw [hc] at this
    simpa using this
  · intro h x hx
    cases hc : cntV r who cur x
    · rfl
    · simpa using h x hx hc
theorem vals_step (r : Rl) (who cur : Int) (l : List Pg) (j : Nat) (h : j < l.length) (h1 : valsOK r who cur (l.take j) = true) (h2 : cntV r who cur (l.getD j pg0) = true → valP r (l.getD j pg0) ≤ 4611686018427387904) : valsOK r who cur (l.take (j + 1)) = true := by
  rw [vals_iff] at h1 ⊢
  intro x hx hc
  rw [List.take_succ_eq_append_getElem h, List.mem_append, List.mem_singleton] at hx
  rcases hx with hx | rfl
  · exact h1 x hx hc
  · rw [getD_at l pg0 j h] at h2; exact h2 hc
theorem vals_no (r : Rl) (who cur : Int) (l : List Pg) (j : Nat) (h : j < l.length) (h1 : cntV r who cur (l.getD j pg0) = true) (h2 : ¬ valP r (l.getD j pg0) ≤ 4611686018427387904) : valsOK r who cur l = false := by
  rw [← Bool.not_eq_true, vals_iff]
  intro hc
  exact h2 (hc _ (by rw [getD_at l pg0 j h]; exact List.getElem_mem _) h1)
theorem parts_money {r : Rl} (hr : rightR r = true) {who cur b : Int} (hb : isMoney b = true) {l : List Pg} (hl : ∀ x ∈ l, okPg x = true) (hv : valsOK r who cur l = true) : (partsL r who cur b l).all isMoney = true := by
  rw [List.all_eq_true]
  intro z hz
  rcases List.mem_cons.1 hz with rfl | hz
  · exact hb
  · obtain ⟨x, hx, rfl⟩ := List.mem_map.1 hz
    obtain ⟨h1, h2⟩ := List.mem_filter.1 hx
    have h3 := (vals_iff r who cur l).1 hv x h1 h2
    have h4 := (valP_in hr (cntV_has h2) (by have := (okPg_iff x).1 (hl x h1); omega)).1
    rw [isMoney_iff]; omega
theorem cov_14 {ok : Bool} {b : Int} {r : Rl} {who cur : Int} {l : List Pg} (h : ok = false ∨ rightR r = false ∨ rightPg l = false) : covN ok b r who cur l = 0 ∧ covE ok b r who cur l = 14 := by
  have h1 : covE ok b r who cur l = 14 := by
    unfold covE; rw [if_neg]
    rintro ⟨h1, h2, h3⟩
    rcases h with h | h | h
    · rw [h] at h1; cases h1
    · rw [h] at h2; cases h2
    · rw [h] at h3; cases h3
  exact ⟨by unfold covN; rw [if_neg (by rw [h1]; decide)], h1⟩
theorem cov_1 {b : Int} {r : Rl} {who cur : Int} {l : List Pg} (h2 : rightR r = true) (h3 : rightPg l = true) (h4 : valsOK r who cur l = false) : covN true b r who cur l = 0 ∧ covE true b r who cur l = 1 := by
  have h1 : covE true b r who cur l = 1 := by
    unfold covE; rw [if_pos ⟨rfl, h2, h3⟩, if_neg]
    rintro ⟨h5, _⟩; rw [h4] at h5; cases h5
  exact ⟨by unfold covN; rw [if_neg (by rw [h1]; decide)], h1⟩
theorem cov_end {b : Int} {r : Rl} {who cur : Int} {l : List Pg} (h2 : rightR r = true) (h3 : rightPg l = true) (h4 : valsOK r who cur l = true) : covN true b r who cur l = capV (b + covS r who cur l) ∧ covE true b r who cur l = capE (b + covS r who cur l) := by
  have h1 : covE true b r who cur l = capE (b + covS r who cur l) := by
    unfold covE capE; rw [if_pos ⟨rfl, h2, h3⟩]
    by_cases h : isMoney (b + covS r who cur l) = true
    · rw [if_pos ⟨h4, h⟩, if_pos h]
    · rw [if_neg (fun hc => h hc.2), if_neg h]
  refine ⟨?_, h1⟩
  unfold covN; rw [h1]
  unfold capE capV
  by_cases h : isMoney (b + covS r who cur l) = true
  · rw [if_pos h, if_pos h, if_pos rfl]
  · rw [if_neg h, if_neg h, if_neg (by decide)]
theorem val_cnt {r : Rl} (hr : rightR r = true) {who cur : Int} {x : Pg} (hx : okPg x = true) (hc : cntV r who cur x = true) :
    (valP r x ≤ 4611686018427387904 → valueN (assetOf r x) x.2.2 = valP r x ∧ valueE (assetOf r x) x.2.2 = 0) ∧ (¬ valP r x ≤ 4611686018427387904 → valueN (assetOf r x) x.2.2 = 0 ∧ valueE (assetOf r x) x.2.2 = 1) := by
  have h1 := asset_ok hr (cntV_has hc)
  have h2 := ((okPg_iff x).1 hx).2
  have hE : valueE (assetOf r x) x.2.2 = if valP r x ≤ 4611686018427387904 then 0 else 1 := by
    unfold valueE; rw [if_pos]; · rfl
    rw [h1, (wi_iff _ _ _).2 (by omega)]; rfl
  constructor
  · intro h
    rw [if_pos h] at hE
    exact ⟨by unfold valueN; rw [if_pos hE]; rfl, hE⟩
  · intro h
    rw [if_neg h] at hE
    exact ⟨by unfold valueN; rw [if_neg (by rw [hE]; decide)], hE⟩
theorem of_money {last : Int} {lg : List Lg} (h : ledgerB last lg = true) (a : Ac) : isMoney (ofL lg a) = true := by
  unfold ledgerB at h
  rw [Bool.and_eq_true, Bool.and_eq_true] at h
  rw [ofL_sum (rightB_parts h.1.2).2]
  exact (sumA_money h.1.2 a).1
theorem idx3 (e0 e1 e2 : Int) (w : World) : (Instr.index 70 (.agg #[.int .i64 e0, .int .i64 e1, .int .i64 e2]) (.int .i64 0)).run Tryz.prog w = .ok (.int .i64 e0) w ∧ (Instr.index 70 (.agg #[.int .i64 e0, .int .i64 e1, .int .i64 e2]) (.int .i64 1)).run Tryz.prog w = .ok (.int .i64 e1) w ∧ (Instr.index 70 (.agg #[.int .i64 e0, .int .i64 e1, .int .i64 e2]) (.int .i64 2)).run Tryz.prog w = .ok (.int .i64 e2) w := ⟨by kernel_rfl, by kernel_rfl, by kernel_rfl⟩
theorem passet_any (r : Rl) (A1 A2 A3 : Option Addr) (n1 n2 n3 c1 c2 c3 : Nat) (m : Int) (w : World) (h3 : Rows3 w r A1 A2 A3 n1 n2 n3) (hn3 : n3 ≤ 1000000) :
    Calls Tryz.prog 25 #[rlV A1 A2 A3 n1 n2 n3 c1 c2 c3, .int .i64 m] w fun e w' => e = .returned (.tuple #[vAs (findL noAs as0 r.2.2 m), .bool (hasL noAs r.2.2 m)]) ∧ Grew w w' :=
  pfindAs_any A1 A2 A3 n1 n2 n3 c1 c2 c3 r.2.2 m w h3.h hn3 fun w' h => firstAs_any A3 n3 c3 r.2.2 m w' h hn3

set_option maxRecDepth 100000 in
set_option maxHeartbeats 8000000 in
theorem cof_any (last : Int) (A B A1 A2 A3 : Option Addr) (n c nb cb n1 n2 n3 c1 c2 c3 : Nat) (lg : List Lg) (r : Rl) (l : List Pg) (who cur : Int) (w : World) (h : RowE enLg w A n lg) (hn : n ≤ 90000)
    (h3 : Rows3 w r A1 A2 A3 n1 n2 n3) (hn3 : n1 ≤ 1000000 ∧ n2 ≤ 1000000 ∧ n3 ≤ 1000000) (hp : RowE enPg w B nb l) (hnb : nb ≤ 100000) :
    Calls Tryz.prog 7 #[ldV last A n c, rlV A1 A2 A3 n1 n2 n3 c1 c2 c3, .slice B nb cb, .int .i64 who, .int .i64 cur] w fun e w' =>
      e = .returned (.tuple #[.int .i64 (covN (ledgerB last lg) (ofL lg (2, who, cur)) r who cur l), .int .i64 (covE (ledgerB last lg) (ofL lg (2, who, cur)) r who cur l)]) ∧ Grew w w' := by
  have C1 := fun w' (g : Grew w w') => lcheck_any last A n c lg w' (h.keep g) hn
  have C2 := fun w' (g : Grew w w') => check_any r A1 A2 A3 n1 n2 n3 c1 c2 c3 w' (h3.keep g) hn3
  have C3 := fun w' (g : Grew w w') => pcheck_any B nb cb l w' (hp.keep g) (by omega)
  have CO := fun w' (g : Grew w w') => lof_any last A n c lg 2 who cur w' (h.keep g) (by omega)
  have HAS := Lib.hid (fun (m : Int) w' (g : Grew w w') => passet_any r A1 A2 A3 n1 n2 n3 c1 c2 c3 m w' (h3.keep g) hn3.2.2)
  have HI := Lib.hid hp
  have HL := Lib.hid hp.len
  have HBM := Lib.hid (fun (h : ledgerB last lg = true) => of_money h (2, who, cur))
  have H14 := Lib.hid (@cov_14 (ledgerB last lg) (ofL lg (2, who, cur)) r who cur l)
  have H1 := Lib.hid (@cov_1 (ofL lg (2, who, cur)) r who cur l)
  have HE := Lib.hid (@cov_end (ofL lg (2, who, cur)) r who cur l)
  have HT : Hid (∀ h : ledgerB last lg = true, covN (ledgerB last lg) (ofL lg (2, who, cur)) r who cur l = covN true (ofL lg (2, who, cur)) r who cur l ∧ covE (ledgerB last lg) (ofL lg (2, who, cur)) r who cur l = covE true (ofL lg (2, who, cur)) r who cur l) := fun h => by rw [h]; exact ⟨rfl, rfl⟩
  generalize covN (ledgerB last lg) (ofL lg (2, who, cur)) r who cur l = CN at *
  generalize covE (ledgerB last lg) (ofL lg (2, who, cur)) r who cur l = CE at *
  have HE0 : Hid ((if ledgerB last lg = true then (0 : Int) else 14) = 0 → ledgerB last lg = true) := fun h => by
    by_cases h1 : ledgerB last lg = true
    · exact h1
    · rw [if_neg h1] at h; cases h
  have HE1 : Hid (chkV r = 0 → rightR r = true) := fun h => by
    by_cases h1 : rightR r = true
    · exact h1
    · unfold chkV at h; rw [if_neg h1] at h; cases h
  have HE2 : Hid (chkP l = 0 → rightPg l = true) := fun h => by
    by_cases h1 : rightPg l = true
    · exact h1
    · unfold chkP at h; rw [if_neg h1] at h; cases h
  have HN0 : Hid ((if ledgerB last lg = true then (0 : Int) else 14) ≠ 0 → CN = 0 ∧ CE = if ledgerB last lg = true then (0 : Int) else 14) := fun h => by
    by_cases h1 : ledgerB last lg = true
    · rw [if_pos h1] at h; exact absurd rfl h
    · rw [if_neg h1]; exact H14.out (.inl (by simpa using h1))
  have HN1 : Hid (chkV r ≠ 0 → CN = 0 ∧ CE = chkV r) := fun h => by
    unfold chkV at h ⊢
    by_cases h1 : rightR r = true
    · rw [if_pos h1] at h; exact absurd rfl h
    · rw [if_neg h1]; exact H14.out (.inr (.inl (by simpa using h1)))
  have HN2 : Hid (chkP l ≠ 0 → CN = 0 ∧ CE = chkP l) := fun h => by
    unfold chkP at h ⊢
    by_cases h1 : rightPg l = true
    · rw [if_pos h1] at h; exact absurd rfl h
    · rw [if_neg h1]; exact H14.out (.inr (.inr (by simpa using h1)))
  generalize (if ledgerB last lg = true then (0 : Int) else 14) = e0 at *
  generalize chkV r = e1 at *
  generalize chkP l = e2 at *
  have HLG : Hid (ledgerB last lg = ledgerB last lg) := rfl
  generalize hlb : ledgerB last lg = LB at *
  clear hlb HLG H14 h h3 hp
  dsimp only [ldV, rlV, acV] at *
  have HA0 : Hid (OwnC ((w.alloc (.cells #[.int .i64 last, .slice A n c] 35)).alloc (.cells #[.slice A1 n1 c1, .slice A2 n2 c2, .slice A3 n3 c3] 28)) w.heap.size [.int .i64 last, .slice A n c]) := (OwnC.new w [.int .i64 last, .slice A n c] _ _ rfl).keep (grew_alloc _ _ _)
  have HR0 : Hid (OwnC ((w.alloc (.cells #[.int .i64 last, .slice A n c] 35)).alloc (.cells #[.slice A1 n1 c1, .slice A2 n2 c2, .slice A3 n3 c3] 28)) (w.heap.size + 1) [.slice A1 n1 c1, .slice A2 n2 c2, .slice A3 n3 c3]) := OwnC.new _ [.slice A1 n1 c1, .slice A2 n2 c2, .slice A3 n3 c3] _ _ (by simp)
  have HG0 : Hid (Grew w ((w.alloc (.cells #[.int .i64 last, .slice A n c] 35)).alloc (.cells #[.slice A1 n1 c1, .slice A2 n2 c2, .slice A3 n3 c3] 28))) := grew_trans (grew_alloc _ _ _) (grew_alloc _ _ _)
  go_enter Tryz.func7, Tryz.ntmps7
  go_upto_region 1 with (fail)
  generalize ((w.alloc (.cells #[.int .i64 last, .slice A n c] 35)).alloc (.cells #[.slice A1 n1 c1, .slice A2 n2 c2, .slice A3 n3 c3] 28)) = w0 at *
  have HWS : Hid (w.heap.size ≤ w.heap.size) := Nat.le_refl _
  have x0 := grew_every (w := w0) (S := fun w' => w'.cell? ⟨w.heap.size, 0, none⟩ = some (.int .i64 last)) (fun w' g => (HA0.out.keep g).at 0 _ rfl)
  have x1 := grew_every (w := w0) (S := fun w' => w'.cell? ⟨w.heap.size, 1, none⟩ = some (.slice A n c)) (fun w' g => (HA0.out.keep g).at 1 _ rfl)
  have y0 := grew_every (w := w0) (S := fun w' => w'.cell? ⟨w.heap.size + 1, 0, none⟩ = some (.slice A1 n1 c1)) (fun w' g => (HR0.out.keep g).at 0 _ rfl)
  have y1 := grew_every (w := w0) (S := fun w' => w'.cell? ⟨w.heap.size + 1, 1, none⟩ = some (.slice A2 n2 c2)) (fun w' g => (HR0.out.keep g).at 1 _ rfl)
  have y2 := grew_every (w := w0) (S := fun w' => w'.cell? ⟨w.heap.size + 1, 2, none⟩ = some (.slice A3 n3 c3)) (fun w' g => (HR0.out.keep g).at 2 _ rfl)
  have D1 := fun w' (g : Grew w0 w') => C1 w' (grew_trans HG0.out g)
  have D2 := fun w' (g : Grew w0 w') => C2 w' (grew_trans HG0.out g)
  have D3 := fun w' (g : Grew w0 w') => C3 w' (grew_trans HG0.out g)
  clear C1 C2 C3
  refine wp_region_grew (by kernel_rfl) (by kernel_rfl) ?_
  repeat (go_big_quiet_step (first | (with_reducible exact calls_every D1) | (with_reducible exact calls_every D2) | (with_reducible exact calls_every D3)))
  refine wpQuiet_nil ?_
  intro w2 hw'
  have HG2 := Lib.hid (grew_of hw')
  have HA2 := Lib.hid (HA0.out.keep HG2.out)
  have HR2 := Lib.hid (HR0.out.keep HG2.out)
  have HGW := Lib.hid (grew_trans HG0.out HG2.out)
  clear hw' x0 x1 y0 y1 y2 D1 D2 D3 HA0 HR0 HG0 HG2 HWS
  go_wp2
  go_loop [13, 28] (fun v13 v28 => ∃ j : Nat, v28 = .int .i64 j ∧ Hid (j = 0 ∨ (j = 1 ∧ e0 = 0) ∨ (j = 2 ∧ e0 = 0 ∧ e1 = 0) ∨ (j = 3 ∧ e0 = 0 ∧ e1 = 0 ∧ e2 = 0))) (fun _ v28 => 3 - (intOf v28).toNat)
  case atStart => exact ⟨0, rfl, .inl rfl⟩
  case round =>
    obtain ⟨j, rfl, HS⟩ := hrel
    rcases HS.out with rfl | ⟨rfl, rfl⟩ | ⟨rfl, rfl, rfl⟩ | ⟨rfl, rfl, rfl, rfl⟩
    · by_cases h : e0 = 0
      · subst h
        obtain ⟨ix0, ix1, ix2⟩ := idx3 0 e1 e2 w2
        clear HS HN0 HN1 HN2
        go_wp2
        go_round
        case rel => exact ⟨1, by go_num, .inr (.inl ⟨rfl, by trivial⟩)⟩
        case measure => simp only [intOf]; omega
      · obtain ⟨ix0, ix1, ix2⟩ := idx3 e0 e1 e2 w2
        obtain ⟨z1, z2⟩ := HN0.out h
        subst z1
        have HZ := Lib.hid z2
        clear z2
        have d1 : (e0 == 0) = false := by simpa using h
        clear HS HN0 HN1 HN2 h
        go_wp2
        go_ret2
        exact ⟨ret2 rfl HZ.out.symm, HGW.out⟩
    · by_cases h : e1 = 0
      · subst h
        obtain ⟨ix0, ix1, ix2⟩ := idx3 0 0 e2 w2
        clear HS HN0 HN1 HN2
        go_wp2
        go_round
        case rel => exact ⟨2, by go_num, .inr (.inr (.inl ⟨rfl, by trivial, by trivial⟩))⟩
        case measure => simp only [intOf]; omega
      · obtain ⟨ix0, ix1, ix2⟩ := idx3 0 e1 e2 w2
        obtain ⟨z1, z2⟩ := HN1.out h
        subst z1
        have HZ := Lib.hid z2
        clear z2
        have d1 : (e1 == 0) = false := by simpa using h
        clear HS HN0 HN1 HN2 h
        go_wp2
        go_ret2
        exact ⟨ret2 rfl HZ.out.symm, HGW.out⟩
    · by_cases h : e2 = 0
      · subst h
        obtain ⟨ix0, ix1, ix2⟩ := idx3 0 0 0 w2
        clear HS HN0 HN1 HN2
        go_wp2
        go_round
        case rel => exact ⟨3, by go_num, .inr (.inr (.inr ⟨rfl, by trivial, by trivial, by trivial⟩))⟩
        case measure => simp only [intOf]; omega
      · obtain ⟨ix0, ix1, ix2⟩ := idx3 0 0 e2 w2
        obtain ⟨z1, z2⟩ := HN2.out h
        subst z1
        have HZ := Lib.hid z2
        clear z2
        have d1 : (e2 == 0) = false := by simpa using h
        clear HS HN0 HN1 HN2 h
        go_wp2
        go_ret2
        exact ⟨ret2 rfl HZ.out.symm, HGW.out⟩
    · obtain rfl := HE0.out rfl
      have hr := HE1.out rfl
      have hpg := HE2.out rfl
      obtain ⟨z1, z2⟩ := HT.out rfl
      have H11 := Lib.hid (H1.out hr hpg)
      have HEE := Lib.hid (HE.out hr hpg)
      rw [← z1, ← z2] at H11 HEE
      have hbm := HBM.out rfl
      have HOKP := Lib.hid ((rightPg_iff l).1 hpg).1
      have HRR := Lib.hid hr
      clear HS HN0 HN1 HN2 HE0 HE1 HE2 HT H1 HE z1 z2 HBM hr hpg
      generalize ofL lg (2, who, cur) = bb at *
      have a0 := HA2.out.at 0 (.int .i64 last) rfl; have a1 := HA2.out.at 1 (.slice A n c) rfl
      go_upto_region 8 with (go_at_call 24; ((with_reducible refine (CO _ HGW.out).mono ?_); rintro e w4 ⟨rfl, hg⟩; have HR4 := Lib.hid (HR2.out.keep hg); have HG4 := Lib.hid (grew_trans HGW.out hg); clear hg CO HA2 HR2 HGW a0 a1))
      have HO5 : Hid (OwnE enInt (w4.alloc (.cells #[.int .i64 bb] 3)) w4.heap.size 3 (.slice (some ⟨w4.heap.size, 0, none⟩) 1 1) (partsL r who cur bb (l.take 0))) := OwnE.lit enInt w4 [bb] 3 #[.int .i64 bb] _ rfl rfl (by show 1 * 1 ≤ maxLen; unfold maxLen; decide)
      have HWP : Hid (w.heap.size ≤ w4.heap.size) := grew_size HG4.out
      have HRP : Hid (w.heap.size + 1 < w4.heap.size) := HR4.out.lt
      have HP5 : Hid (w4.heap.size ≤ (w4.alloc (.cells #[.int .i64 bb] 3)).heap.size) := grew_size (grew_alloc _ _ _)
      have HR5 := Lib.hid (HR4.out.keep (grew_alloc w4 #[.int .i64 bb] 3))
      have HG5 := Lib.hid (grew_trans HG4.out (grew_alloc w4 #[.int .i64 bb] 3))
      clear HR4 HG4
      generalize w4.alloc (.cells #[.int .i64 bb] 3) = w5 at *
      generalize w4.heap.size = pb at *
      go_wp2
      go_loopw [14, 43] (fun v14 v43 wr => ∃ j : Nat, v43 = .int .i64 j ∧ j ≤ nb ∧ Hid (OwnE enInt wr pb 3 v14 (partsL r who cur bb (l.take j))) ∧ Hid (pb ≤ wr.heap.size) ∧ Hid (valsOK r who cur (l.take j) = true) ∧ Hid (OwnC wr (w.heap.size + 1) [.slice A1 n1 c1, .slice A2 n2 c2, .slice A3 n3 c3]) ∧ Hid (Grew w wr)) (fun _ v43 _ => nb - (intOf v43).toNat)
      case atStart => exact ⟨0, rfl, by omega, HO5.out, HP5.out, rfl, HR5.out, HG5.out⟩
      case round =>
        clear HO5 HR5 HG5 HP5
        obtain ⟨j, rfl, hj, HO, HPB, HV, HR, HG⟩ := hrel
        by_cases hlt : j < nb
        · obtain ⟨b, o, rfl, hb, hc⟩ := (HI.out.keep HG.out).pg hlt
          obtain ⟨b0, b1, b2⟩ := hc j hlt
          clear hc hb
          have hjl : j < l.length := by rw [HL.out]; exact hlt
          have HPS := Lib.hid (parts_step r who cur bb l j hjl)
          have HPL := Lib.hid (parts_len r who cur bb l j)
          have HVS := Lib.hid (fun h => vals_step r who cur l j hjl HV.out h)
          have HVN := Lib.hid (vals_no r who cur l j hjl)
          have HVC := Lib.hid (fun hc => @val_cnt r HRR.out who cur (l.getD j pg0) (by rw [getD_at l pg0 j hjl]; exact HOKP.out _ (List.getElem_mem _)) hc)
          have HCV : Hid (cntV r who cur (l.getD j pg0) = (hasL noAs r.2.2 (l.getD j pg0).2.1 && (decide ((l.getD j pg0).1 = who) && decide ((assetOf r (l.getD j pg0)).2.1 = cur)))) := rfl
          have CA := HAS.out (l.getD j pg0).2.1
          have HFA : Hid (assetOf r (l.getD j pg0) = findL noAs as0 r.2.2 (l.getD j pg0).2.1) := rfl
          have CVA := fun w => value_any (assetOf r (l.getD j pg0)) (l.getD j pg0).2.2 w
          rw [← HFA.out] at CA
          have i0 : (0 : Int) ≤ (j : Int) := by omega
          have i1 : (j : Int) < (nb : Int) := by omega
          clear HFA
          generalize hpj : partsL r who cur bb (l.take j) = pj at *
          clear hpj
          generalize valP r (l.getD j pg0) = VP at *
          generalize cntV r who cur (l.getD j pg0) = CV at *
          generalize assetOf r (l.getD j pg0) = aT at *
          generalize l.getD j pg0 = x at *
          obtain ⟨q1, q2, q3⟩ := x
          generalize valueN aT (q1, q2, q3).2.2 = VN at *
          generalize valueE aT (q1, q2, q3).2.2 = VE at *
          obtain ⟨s1, s2, s3, s4⟩ := aT
          dsimp only [vAs] at b0 b1 b2 HCV CA CVA
          generalize hasL noAs r.2.2 q2 = HB at *
          have HX6 : Hid (OwnC (wr.alloc (.cells #[.int .i64 q1, .int .i64 q2, .int .i64 q3] 74)) wr.heap.size [.int .i64 q1, .int .i64 q2, .int .i64 q3]) := OwnC.new wr [.int .i64 q1, .int .i64 q2, .int .i64 q3] _ _ rfl
          have HP6 := Lib.hid (Nat.le_trans HPB.out (grew_size (grew_alloc wr #[.int .i64 q1, .int .i64 q2, .int .i64 q3] 74)))
          have HO6 := Lib.hid (HO.out.keep (grew_alloc wr #[.int .i64 q1, .int .i64 q2, .int .i64 q3] 74))
          have HR6 := Lib.hid (HR.out.keep (grew_alloc wr #[.int .i64 q1, .int .i64 q2, .int .i64 q3] 74))
          have HG6 := Lib.hid (grew_trans HG.out (grew_alloc wr #[.int .i64 q1, .int .i64 q2, .int .i64 q3] 74))
          go_upto_region 11 with (fail)
          clear HO HR HG HPB b0 b1 b2
          generalize wr.alloc (.cells #[.int .i64 q1, .int .i64 q2, .int .i64 q3] 74) = w6 at *
          generalize wr.heap.size = xb at *
          have x1 := HX6.out.at 1 (.int .i64 q2) rfl
          have r0 := HR6.out.at 0 (.slice A1 n1 c1) rfl; have r1 := HR6.out.at 1 (.slice A2 n2 c2) rfl; have r2 := HR6.out.at 2 (.slice A3 n3 c3) rfl
          go_upto_region 12 with (go_at_call 25; ((with_reducible refine (CA _ HG6.out).mono ?_); rintro e w7 ⟨rfl, hg⟩; have HX7 := Lib.hid (HX6.out.keep hg); have HO7 := Lib.hid (HO6.out.keep hg); have HP7 := Lib.hid (Nat.le_trans HP6.out (grew_size hg)); have HR7 := Lib.hid (HR6.out.keep hg); have HG7 := Lib.hid (grew_trans HG6.out hg); clear hg CA HX6 HO6 HR6 HG6 HP6 x1 r0 r1 r2))
          have HS8 : Hid (OwnC (w7.alloc (.cells #[.int .i64 s1, .int .i64 s2, .int .i64 s3, .int .i64 s4] 76)) w7.heap.size [.int .i64 s1, .int .i64 s2, .int .i64 s3, .int .i64 s4]) := OwnC.new w7 [.int .i64 s1, .int .i64 s2, .int .i64 s3, .int .i64 s4] _ _ rfl
          have HX8 := Lib.hid (HX7.out.keep (grew_alloc w7 #[.int .i64 s1, .int .i64 s2, .int .i64 s3, .int .i64 s4] 76))
          have HP8 := Lib.hid (Nat.le_trans HP7.out (grew_size (grew_alloc w7 #[.int .i64 s1, .int .i64 s2, .int .i64 s3, .int .i64 s4] 76)))
          have HO8 := Lib.hid (HO7.out.keep (grew_alloc w7 #[.int .i64 s1, .int .i64 s2, .int .i64 s3, .int .i64 s4] 76))
          have HR8 := Lib.hid (HR7.out.keep (grew_alloc w7 #[.int .i64 s1, .int .i64 s2, .int .i64 s3, .int .i64 s4] 76))
          have HG8 := Lib.hid (grew_trans HG7.out (grew_alloc w7 #[.int .i64 s1, .int .i64 s2, .int .i64 s3, .int .i64 s4] 76))
          clear HX7 HO7 HR7 HG7 HP7
          generalize w7.alloc (.cells #[.int .i64 s1, .int .i64 s2, .int .i64 s3, .int .i64 s4] 76) = w8 at *
          generalize w7.heap.size = sb at *
          have x0 := HX8.out.at 0 (.int .i64 q1) rfl; have x2 := HX8.out.at 2 (.int .i64 q3) rfl
          have s0' := HS8.out.at 0 (.int .i64 s1) rfl; have s1' := HS8.out.at 1 (.int .i64 s2) rfl; have s2' := HS8.out.at 2 (.int .i64 s3) rfl; have s3' := HS8.out.at 3 (.int .i64 s4) rfl
          by_cases h1 : q1 = who
          · have h1s := h1.symm
            subst h1s
            cases HB
            · have hcv : CV = false := by rw [HCV.out]; simp []
              have HV9 := Lib.hid (HVS.out (fun h => by rw [hcv] at h; cases h))
              have HO9 : Hid (OwnE enInt w8 pb 3 u14 (partsL r who cur bb (l.take (j + 1)))) := by show OwnE _ _ _ _ _ _; rw [HPS.out, hcv, if_neg (by decide), List.append_nil]; exact HO8.out
              clear HPS HVS HVN HVC HCV hcv
              go_wp2
              go_roundw
              case rel => exact ⟨j + 1, by go_num, by omega, HO9.out, HP8.out, HV9.out, HR8.out, HG8.out⟩
              case measure => simp only [intOf]; omega
            · by_cases h2 : s2 = cur
              · have h2s := h2.symm
                subst h2s
                have hcv : CV = true := by rw [HCV.out]; simp
                obtain ⟨v1, v2⟩ := HVC.out hcv
                by_cases h3 : VP ≤ 4611686018427387904
                · obtain ⟨rfl, rfl⟩ := v1 (by omega)
                  have HV9 := Lib.hid (HVS.out (fun _ => by omega))
                  have HPS9 : Hid (partsL r who cur bb (l.take (j + 1)) = pj ++ [VN]) := by show _ = _; rw [HPS.out, hcv, if_pos rfl]
                  clear HPS HVS HVN HVC HCV hcv v1 v2
                  go_wp2_with (first
                    | (go_at_call 26; ((with_reducible refine (CVA _).mono ?_); rintro e w9 ⟨rfl, hg⟩; have HO9 := Lib.hid (HO8.out.keep hg); have HP9 := Lib.hid (Nat.le_trans HP8.out (grew_size hg)); have HR9 := Lib.hid (HR8.out.keep hg); have HG9 := Lib.hid (grew_trans HG8.out hg); clear hg CVA))
                    | (at_builtin; refine (wpList_append_E rfl _ _ 72 3 (.int .i64 0) 8 rfl Tryz.underlying72 info_int1 rfl pb _ pj rfl (HO9.out.keep (grew_alloc _ _ _)) (some ⟨w9.heap.size, 0, none⟩) 1 1 [VN] rfl (by intro h; cases h) (RowE.one enInt w9 VN 3 _ rfl) (by have := HPL.out; simp; unfold maxLen; omega) (by have := HPL.out; simp; omega) (Nat.le_trans HP9.out (grew_size (grew_alloc _ _ _))) ?_); intro v' w10 ho hb; have HO10 := Lib.hid ho; have HG10 : Hid (Grew w w10) := Below.trans (grew_trans HG9.out (grew_alloc _ _ _)) (Below.mono hb HWP.out); have HR10 := Lib.hid ((HR9.out.keep (grew_alloc w9 #[.int .i64 VN] 3)).below hb HRP.out); have HP10 := Lib.hid (Nat.le_trans (Nat.le_trans HP9.out (grew_size (grew_alloc w9 #[.int .i64 VN] 3))) hb.size); clear ho hb))
                  go_roundw
                  case rel => exact ⟨j + 1, by go_num, by omega, by rw [HPS9.out]; exact HO10.out, HP10.out, HV9.out, HR10.out, HG10.out⟩
                  case measure => simp only [intOf]; omega
                · obtain ⟨rfl, rfl⟩ := v2 (by omega)
                  obtain ⟨rfl, rfl⟩ := H11.out (HVN.out hcv (by omega))
                  clear HPS HVS HVN HVC HCV hcv v1 v2
                  go_wp2_with (go_at_call 26; ((with_reducible refine (CVA _).mono ?_); rintro e w9 ⟨rfl, hg⟩; have HG9 := Lib.hid (grew_trans HG8.out hg); clear hg CVA))
                  go_ret2
                  exact ⟨rfl, HG9.out⟩
              · have hcv : CV = false := by rw [HCV.out]; simp [h2]
                have HV9 := Lib.hid (HVS.out (fun h => by rw [hcv] at h; cases h))
                have HO9 : Hid (OwnE enInt w8 pb 3 u14 (partsL r who cur bb (l.take (j + 1)))) := by show OwnE _ _ _ _ _ _; rw [HPS.out, hcv, if_neg (by decide), List.append_nil]; exact HO8.out
                clear HPS HVS HVN HVC HCV hcv
                have d2 : (s2 == cur) = false := by simpa using h2
                clear h2
                go_wp2
                go_roundw
                case rel => exact ⟨j + 1, by go_num, by omega, HO9.out, HP8.out, HV9.out, HR8.out, HG8.out⟩
                case measure => simp only [intOf]; omega
          · cases HB
            · have hcv : CV = false := by rw [HCV.out]; simp []
              have HV9 := Lib.hid (HVS.out (fun h => by rw [hcv] at h; cases h))
              have HO9 : Hid (OwnE enInt w8 pb 3 u14 (partsL r who cur bb (l.take (j + 1)))) := by show OwnE _ _ _ _ _ _; rw [HPS.out, hcv, if_neg (by decide), List.append_nil]; exact HO8.out
              clear HPS HVS HVN HVC HCV hcv
              go_wp2
              go_roundw
              case rel => exact ⟨j + 1, by go_num, by omega, HO9.out, HP8.out, HV9.out, HR8.out, HG8.out⟩
              case measure => simp only [intOf]; omega
            · have hcv : CV = false := by rw [HCV.out]; simp [h1]
              have HV9 := Lib.hid (HVS.out (fun h => by rw [hcv] at h; cases h))
              have HO9 : Hid (OwnE enInt w8 pb 3 u14 (partsL r who cur bb (l.take (j + 1)))) := by show OwnE _ _ _ _ _ _; rw [HPS.out, hcv, if_neg (by decide), List.append_nil]; exact HO8.out
              clear HPS HVS HVN HVC HCV hcv
              go_wp2
              go_roundw
              case rel => exact ⟨j + 1, by go_num, by omega, HO9.out, HP8.out, HV9.out, HR8.out, HG8.out⟩
              case measure => simp only [intOf]; omega

        · obtain rfl : j = nb := by omega
          have ht : l.take j = l := List.take_of_length_le (by rw [HL.out]; exact Nat.le_refl _)
          rw [ht] at HO HV
          obtain ⟨A9, c9, rfl, hr9, -⟩ := HO.out.form
          have hpl := parts_len r who cur bb l j
          rw [ht] at hpl
          have CS := fun w' (g : Grew wr w') => sum_any A9 _ c9 _ w' (ints_of_E (hr9.keep g)) (by omega)
          have hm := parts_money HRR.out (b := bb) hbm HOKP.out HV.out
          rw [sumV_in hm, sumE_in hm, parts_sum] at CS
          obtain ⟨z1, z2⟩ := HEE.out HV.out
          rw [← z1, ← z2] at CS
          clear z1 z2 hm hr9 ht hpl HEE HV H11
          generalize (partsL r who cur bb l).length = pn at *
          go_wp2_with (go_at_call 27; ((with_reducible refine (CS _ (grew_refl _)).mono ?_); rintro e w9 ⟨rfl, hg⟩; have HG9 := Lib.hid (grew_trans HG.out hg); clear hg CS))
          go_ret2
          exact ⟨rfl, HG9.out⟩
end Go.Proofs.YtodnllopokoicaaGreat.NumK
