/- keep's Reply, Seats, State. -/
import Derived.Test.YtodnllopokoicaaGreatRG29
import Derived.Test.YtodnllopokoicaaGreatRG18
namespace Go.Proofs.YtodnllopokoicaaGreat.NumK
open Go.RowKit
set_option linter.unusedVariables false

/-- Two seats that tell the same. -/
def SameS (w : World) (x y : Se7) (z : List D3 × List F8) : Prop :=
  (x.1 = y.1 ∧ x.2.1 = y.2.1 ∧ x.2.2.1 = y.2.2.1 ∧ x.2.2.2.1 = y.2.2.2.1 ∧ x.2.2.2.2.1 = y.2.2.2.2.1 ∧ x.2.2.2.2.2.1.2.1 = y.2.2.2.2.2.1.2.1 ∧ x.2.2.2.2.2.2.2.1 = y.2.2.2.2.2.2.2.1) ∧ RowE enD3 w x.2.2.2.2.2.1.1 x.2.2.2.2.2.1.2.1 z.1 ∧ RowE enF8 w x.2.2.2.2.2.2.1 x.2.2.2.2.2.2.2.1 z.2
theorem SameS.keep {w w' : World} {x y : Se7} {z : List D3 × List F8} (h : SameS w x y z) (g : Grew w w') : SameS w' x y z := ⟨h.1, h.2.1.keep g, h.2.2.keep g⟩

end Go.Proofs.YtodnllopokoicaaGreat.NumK
namespace Go.Proofs.YtodnllopokoicaaGreat.NumK
open Go.RowKit
set_option linter.unusedVariables false

/-- What of a state's rows is known, its seats' rows among it. -/
structure InZ (w : World) (r : Rl) (b : Bk) (lg : List Lg) (pl : List Pg) (cl4 : List C4) (bd5 : List B5) (ys : List Se7) (zs : List (List D3 × List F8)) (A1 A2 A3 E1 E2 L P Q1 Q2 Q3 : Option Addr) (n1 n2 n3 c1 c2 c3 m1 m2 k1 k2 nl cl np cp u1 v1 u2 v2 u3 v3 : Nat) : Prop where
  r : In3 w r A1 A2 A3 n1 n2 n3 c1 c2 c3
  b : InB w b E1 E2 m1 m2 k1 k2
  l : RowE enLg w L nl lg
  lk : L = none → cl = 0
  p : RowE enPg w P np pl
  pk : P = none → cp = 0
  q1 : RowE enC4 w Q1 u1 cl4
  q1k : Q1 = none → v1 = 0
  q2 : RowE enB5 w Q2 u2 bd5
  q2k : Q2 = none → v2 = 0
  q3 : RowE enSe w Q3 u3 ys
  si : ∀ i, i < u3 → SeatI w (ys.getD i se0) (zs.getD i ([], [])).1 (zs.getD i ([], [])).2
/-- What its twin is. -/
structure TwN (w' : World) (r : Rl) (b : Bk) (lg : List Lg) (pl : List Pg) (cl4 : List C4) (bd5 : List B5) (ys : List Se7) (zs : List (List D3 × List F8)) (R1 R2 R3 G1 G2 H1 P2 Q4 Q5 Q6 : Option Addr) (n1 n2 n3 m1 m2 e1 e2 nl np u1 u2 u3 : Nat) (xs : List Se7) : Prop where
  r : Rows3 w' r R1 R2 R3 n1 n2 n3
  b : InB w' b G1 G2 m1 m2 e1 e2
  l : RowE enLg w' H1 nl lg
  p : RowE enPg w' P2 np pl
  q1 : RowE enC4 w' Q4 u1 cl4
  q2 : RowE enB5 w' Q5 u2 bd5
  q3 : RowE enSe w' Q6 u3 xs
  tw : ∀ i, i < u3 → SameS w' (xs.getD i se0) (ys.getD i se0) (zs.getD i ([], []))
theorem twinState_n (t1 t2 t3 last : Int) (A1 A2 A3 E1 E2 L P Q1 Q2 Q3 : Option Addr) (n1 n2 n3 c1 c2 c3 m1 m2 k1 k2 nl cl np cp u1 v1 u2 v2 u3 v3 : Nat) (r : Rl) (b : Bk) (lg : List Lg) (pl : List Pg) (cl4 : List C4) (bd5 : List B5) (ys : List Se7) (zs : List (List D3 × List F8)) (w : World)
    (h : InZ w r b lg pl cl4 bd5 ys zs A1 A2 A3 E1 E2 L P Q1 Q2 Q3 n1 n2 n3 c1 c2 c3 m1 m2 k1 k2 nl cl np cp u1 v1 u2 v2 u3 v3) (hn : n1 ≤ 1000 ∧ n2 ≤ 1000 ∧ n3 ≤ 1000) (hm : m1 ≤ 1000 ∧ m2 ≤ 1000) (hu : nl ≤ 1000 ∧ np ≤ 1000 ∧ u1 ≤ 1000 ∧ u2 ≤ 1000 ∧ u3 ≤ 1000) :
    Calls Tryz.prog 6 #[stV t1 t2 t3 b.1 last A1 A2 A3 E1 E2 L P Q1 Q2 Q3 n1 n2 n3 c1 c2 c3 m1 m2 k1 k2 nl cl np cp u1 v1 u2 v2 u3 v3] w fun e w' =>
      ∃ (R1 R2 R3 G1 G2 H1 P2 Q4 Q5 Q6 : Option Addr) (d1 d2 d3 e1 e2 f1 f2 f3 f4 f5 : Nat) (xs : List Se7), e = .returned (stV t1 t2 t3 b.1 last R1 R2 R3 G1 G2 H1 P2 Q4 Q5 Q6 n1 n2 n3 d1 d2 d3 m1 m2 e1 e2 nl f1 np f2 u1 f3 u2 f4 u3 f5) ∧ TwN w' r b lg pl cl4 bd5 ys zs R1 R2 R3 G1 G2 H1 P2 Q4 Q5 Q6 n1 n2 n3 m1 m2 e1 e2 nl np u1 u2 u3 xs ∧ Grew w w' := by
  have g1 := h.r.rows.m.len
  have g2 := h.r.rows.i.len
  have g3 := h.r.rows.h.len
  have g4 := h.b.t.len
  have g5 := h.b.p.len
  refine (twinState_any t1 t2 t3 last A1 A2 A3 E1 E2 L P Q1 Q2 Q3 n1 n2 n3 c1 c2 c3 m1 m2 k1 k2 nl cl np cp u1 v1 u2 v2 u3 v3 r b lg w h.r h.b h.l h.lk hn hm hu.1 pl cl4 bd5 h.p h.pk h.q1 h.q1k h.q2 h.q2k hu.2 ys zs h.q3 h.si).mono ?_
  rintro e w' ⟨R1, R2, R3, G1, G2, H1, P2, Q4, Q5, Q6, d1, d2, d3, e1, e2, f1, f2, f3, f4, f5, xs, rfl, ht, hg⟩
  have hr := ht.r
  have hbb := ht.b
  rw [g1, g2, g3] at hr
  rw [g4, g5] at hbb
  refine ⟨R1, R2, R3, G1, G2, H1, P2, Q4, Q5, Q6, d1, d2, d3, e1, e2, f1, f2, f3, f4, f5, xs, ?_, ⟨hr, hbb, ht.l, ht.p, ht.q1, ht.q2, ht.q3, ht.tw⟩, hg⟩
  rw [g1, g2, g3, g4, g5]
end Go.Proofs.YtodnllopokoicaaGreat.NumK
namespace Go.Proofs.YtodnllopokoicaaGreat.NumK
open Go.RowKit
set_option linter.unusedVariables false

theorem val_ok {x : As} {u : Int} (h : okAs x = true) (hu : wi u 0 1099511627776 = true) :
    wqV (u * (x.2.2.1 * (10000 - x.2.2.2))) 10000 = valueN x u ∧ wqE (u * (x.2.2.1 * (10000 - x.2.2.2))) 10000 = valueE x u ∧ wqB (u * (x.2.2.1 * (10000 - x.2.2.2))) 10000 = decide (valueE x u = 0) := by
  have h1 := value_nonneg h ((wi_iff _ _ _).1 hu).1
  have h2 : u * (x.2.2.1 * (10000 - x.2.2.2)) / 10000 = valueV x u := by unfold valueV; rw [Int.fdiv_eq_ediv_of_nonneg _ (by decide)]
  have h3 : isMoney (valueV x u) = decide (valueV x u ≤ 4611686018427387904) := by
    rw [Bool.eq_iff_iff, isMoney_iff, decide_eq_true_eq]; omega
  have h4 : valueE x u = if valueV x u ≤ 4611686018427387904 then 0 else 1 := by unfold valueE; rw [if_pos (by rw [h, hu]; rfl)]
  unfold wqV wqE wqB valueN
  rw [h2, if_pos (show (0 : Int) < 10000 by decide), if_pos (show (0 : Int) < 10000 by decide), show decide ((0 : Int) < 10000) = true from rfl, Bool.true_and, h4]
  unfold capV capE
  rw [h3]
  by_cases hc : valueV x u ≤ 4611686018427387904
  · rw [if_pos hc, decide_eq_true hc]; exact ⟨by simp, by simp, by simp⟩
  · rw [if_neg hc, decide_eq_false hc]; exact ⟨by simp, by simp, by simp⟩
theorem val_no {x : As} {u : Int} (h : okAs x = false ∨ wi u 0 1099511627776 = false) : valueN x u = 0 ∧ valueE x u = 3 := by
  have h4 : valueE x u = 3 := by
    unfold valueE; rw [if_neg]
    rw [Bool.and_eq_true]
    rintro ⟨h1, h2⟩
    rcases h with h | h
    · rw [h] at h1; cases h1
    · rw [h] at h2; cases h2
  exact ⟨by unfold valueN; rw [if_neg (by rw [h4]; decide)], h4⟩
theorem val_in {x : As} (h : okAs x = true) : (-9223372036854775808 ≤ x.2.2.1 * (10000 - x.2.2.2) ∧ x.2.2.1 * (10000 - x.2.2.2) ≤ 9223372036854775807) ∧ IntKind.i64.wrap (10000 - x.2.2.2) = 10000 - x.2.2.2 ∧ IntKind.i64.wrap (x.2.2.1 * (10000 - x.2.2.2)) = x.2.2.1 * (10000 - x.2.2.2) := by
  have h1 := unitW_in h
  obtain ⟨_, _, h3, h4⟩ := (okAs_iff x).1 h
  unfold unitW at h1
  generalize x.2.2.1 * (10000 - x.2.2.2) = y at *
  rw [IntKind.wrap_i64, IntKind.wrap_i64]
  omega
theorem right_alone (x : As) : rightR ([], [], [x]) = okAs x := by
  unfold rightR
  show (true && (true && _)) = _
  rw [Bool.true_and, Bool.true_and]
  unfold rightL
  simp [stepOK]
theorem rows_alone (x : As) (w : World) (t : TypeId) (N : Nat) (hN : N = w.heap.size) : Rows3 (w.alloc (.cells #[.int .i64 x.1, .int .i64 x.2.1, .int .i64 x.2.2.1, .int .i64 x.2.2.2] t)) ([], [], [x]) none none (some ⟨N, 0, none⟩) 0 0 1 :=
  ⟨RowE.nil _ _ _, RowE.nil _ _ _, RowE.one enAs w x t N hN⟩

set_option maxRecDepth 100000 in
set_option maxHeartbeats 2000000 in
theorem value_any (x : As) (u : Int) (w : World) : Calls Tryz.prog 26 #[vAs x, .int .i64 u] w fun e w' => e = .returned (.tuple #[.int .i64 (valueN x u), .int .i64 (valueE x u)]) ∧ Grew w w' := by
  have HN := Lib.hid (@val_no x u)
  have HY := Lib.hid (@val_ok x u)
  have HI := Lib.hid (@val_in x)
  have HS := Lib.hid (fun (h : okAs x = true) (hu : wi u 0 1099511627776 = true) w => wshare_any u (x.2.2.1 * (10000 - x.2.2.2)) 10000 w (by have := (wi_iff _ _ _).1 hu; omega) (val_in h).1 (by decide))
  have CW := fun w => cwithin_any u 0 1099511627776 w
  have CK := fun w' (g : Grew ((w.alloc (.cells #[.int .i64 x.1, .int .i64 x.2.1, .int .i64 x.2.2.1, .int .i64 x.2.2.2] 76)).alloc (.cells #[.int .i64 x.1, .int .i64 x.2.1, .int .i64 x.2.2.1, .int .i64 x.2.2.2] 76)) w') => check_any ([], [], [x]) none none (some ⟨w.heap.size + 1, 0, none⟩) 0 0 1 0 0 1 w' ((rows_alone x _ 76 _ (by simp)).keep g) (by decide)
  have HR := Lib.hid (right_alone x)
  obtain ⟨q1, q2, q3, q4⟩ := x
  dsimp only [vAs, rlV] at *
  generalize valueN (q1, q2, q3, q4) u = VN at *
  generalize valueE (q1, q2, q3, q4) u = VE at *
  have HX : Hid (OwnC (((w.alloc (.cells #[.int .i64 q1, .int .i64 q2, .int .i64 q3, .int .i64 q4] 76)).alloc (.cells #[.int .i64 q1, .int .i64 q2, .int .i64 q3, .int .i64 q4] 76)).alloc (.cells #[.slice none 0 0, .slice none 0 0, .slice (some ⟨w.heap.size + 1, 0, none⟩) 1 1] 28)) w.heap.size [.int .i64 q1, .int .i64 q2, .int .i64 q3, .int .i64 q4]) := ((OwnC.new w [.int .i64 q1, .int .i64 q2, .int .i64 q3, .int .i64 q4] _ _ rfl).keep (grew_alloc _ _ _)).keep (grew_alloc _ _ _)
  go_enter Tryz.func26, Tryz.ntmps26
  go_upto_region 2 with (fail)
  have HC : Hid (OwnC (((w.alloc (.cells #[.int .i64 q1, .int .i64 q2, .int .i64 q3, .int .i64 q4] 76)).alloc (.cells #[.int .i64 q1, .int .i64 q2, .int .i64 q3, .int .i64 q4] 76)).alloc (.cells #[.slice none 0 0, .slice none 0 0, .slice (some ⟨w.heap.size + 1, 0, none⟩) 1 1] 28)) (w.heap.size + 1 + 1) [.slice none 0 0, .slice none 0 0, .slice (some ⟨w.heap.size + 1, 0, none⟩) 1 1]) := OwnC.new _ [.slice none 0 0, .slice none 0 0, .slice (some ⟨w.heap.size + 1, 0, none⟩) 1 1] _ _ (by simp)
  have HG : Hid (Grew w (((w.alloc (.cells #[.int .i64 q1, .int .i64 q2, .int .i64 q3, .int .i64 q4] 76)).alloc (.cells #[.int .i64 q1, .int .i64 q2, .int .i64 q3, .int .i64 q4] 76)).alloc (.cells #[.slice none 0 0, .slice none 0 0, .slice (some ⟨w.heap.size + 1, 0, none⟩) 1 1] 28))) := grew_trans (grew_trans (grew_alloc _ _ _) (grew_alloc _ _ _)) (grew_alloc _ _ _)
  have CK0 := CK _ (grew_alloc _ #[.slice none 0 0, .slice none 0 0, .slice (some ⟨w.heap.size + 1, 0, none⟩) 1 1] 28)
  clear CK
  generalize (((w.alloc (.cells #[.int .i64 q1, .int .i64 q2, .int .i64 q3, .int .i64 q4] 76)).alloc (.cells #[.int .i64 q1, .int .i64 q2, .int .i64 q3, .int .i64 q4] 76)).alloc (.cells #[.slice none 0 0, .slice none 0 0, .slice (some ⟨w.heap.size + 1, 0, none⟩) 1 1] 28)) = w0 at *
  have c0 := HC.out.at 0 (.slice none 0 0) rfl
  have c1 := HC.out.at 1 (.slice none 0 0) rfl
  have c2 := HC.out.at 2 (.slice (some ⟨w.heap.size + 1, 0, none⟩) 1 1) rfl
  generalize w.heap.size + 1 + 1 = N2 at *
  generalize w.heap.size + 1 = N1 at *
  by_cases h1 : okAs (q1, q2, q3, q4) = true
  · rw [chkV_yes (by rw [HR.out]; exact h1)] at CK0
    have HI2 := Lib.hid (HI.out h1)
    have HS2 := Lib.hid (HS.out h1)
    have HY2 := Lib.hid (HY.out h1)
    clear HI HS HY HR
    by_cases h2 : wi u 0 1099511627776 = true
    · have HS3 := HS2.out h2
      obtain ⟨y1, y2, y3⟩ := HY2.out h2
      rw [y1, y2] at HS3
      rw [h2] at CW
      obtain ⟨i1, i2, i3⟩ := HI2.out
      clear i1 y1 y2 y3 HI2 HS2 HY2 HN h1 h2
      go_wp2_with (first
        | (go_at_call 22; ((with_reducible refine CK0.mono ?_); rintro e w1 ⟨rfl, hg⟩; have HX1 := Lib.hid (HX.out.keep hg); have HG1 := Lib.hid (grew_trans HG.out hg); have x2 := HX1.out.at 2 (.int .i64 q3) rfl; have x3 := HX1.out.at 3 (.int .i64 q4) rfl; clear hg HX HG CK0))
        | (go_at_call 67; ((with_reducible refine (CW _).mono ?_); rintro e w2 ⟨rfl, rfl⟩))
        | (go_at_call 70; ((with_reducible refine (HS3 _).mono ?_); rintro e w3 ⟨rfl, hg⟩; have HG3 := Lib.hid (grew_trans HG1.out hg); clear hg HS3)))
      go_ret2
      exact ⟨rfl, HG3.out⟩
    · rw [Bool.not_eq_true] at h2
      obtain ⟨y1, y2⟩ := HN.out (.inr h2)
      rw [h2] at CW
      subst y1 y2
      clear HI2 HS2 HY2 HN h1 h2
      go_wp2_with (first
        | (go_at_call 22; ((with_reducible refine CK0.mono ?_); rintro e w1 ⟨rfl, hg⟩; have HG1 := Lib.hid (grew_trans HG.out hg); clear hg HX HG CK0))
        | (go_at_call 67; ((with_reducible refine (CW _).mono ?_); rintro e w2 ⟨rfl, rfl⟩)))
      go_ret2
      exact ⟨rfl, HG1.out⟩
  · rw [Bool.not_eq_true] at h1
    rw [chkV_no (by rw [HR.out]; exact h1)] at CK0
    obtain ⟨y1, y2⟩ := HN.out (.inl h1)
    subst y1 y2
    clear HI HS HY HR HN h1
    go_wp2_with (go_at_call 22; ((with_reducible refine CK0.mono ?_); rintro e w1 ⟨rfl, hg⟩; have HG1 := Lib.hid (grew_trans HG.out hg); clear hg HX HG CK0))
    go_ret2
    exact ⟨rfl, HG1.out⟩

end Go.Proofs.YtodnllopokoicaaGreat.NumK
