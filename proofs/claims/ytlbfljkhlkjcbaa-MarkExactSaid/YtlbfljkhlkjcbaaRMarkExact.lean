/-
  For every roll, book, position, multiplier, price and instrument: what the position has won, the price, and the run over the book are what the reference tells, what is handed in stays, and what is told is new memory; rolls of more than 100 rows and books of more than 300 the statement lets by.
-/
import Derived.Test.YtlbfljkhlkjcbaaRG12
import Derived.Test.YtlbfljkhlkjcbaaRG16
import Derived.Test.YtlbfljkhlkjcbaaRG17
import Derived.Deep.CutRange
import Derived.BigQuiet
import Derived.Test.YtlbfljkhlkjcbaaRows
import Derived.WalkKit
import Derived.ProofKit
import Derived.OpenShut
import Derived.ShutString
import Derived.ChangeOld
import Derived.Below
import Derived.Carry
namespace Go.Proofs.Ytlbfljkhlkjcbaa.NumK
open Go.RowKit
set_option linter.unusedVariables false

theorem pos_le {r : Rl} {b : Bk} (h2 : b.2.2.length ≤ 10000) : (runB r b).2.1.length ≤ b.2.1.length ∧ (runB r b).2.2.length ≤ 10000 ∧ (runD r b).length ≤ 10000 := by
  by_cases he : runE r b = 0
  · obtain ⟨_, _, _, e1, e2⟩ := run_ok he
    rw [e1, e2]
    have := mark_len r b.2.2 b.2.2.length
    rw [(mark_all r b.2.2 rfl).1] at this
    refine ⟨Nat.le_refl _, by show (markL r b.2.2).length ≤ _; omega, ?_⟩
    unfold duesM; rw [List.length_map]; exact h2
  · obtain ⟨e1, e2⟩ := run_no he
    rw [e1, e2]
    exact ⟨Nat.zero_le _, Nat.zero_le _, Nat.zero_le _⟩
/-! ### rows beside stores -/
theorem RowE.setO {α : Type} {E : En α} {w : World} {A : Option Addr} {n : Nat} {l : List α} (h : RowE E w A n l) (b i : Nat) (u : Value) (hne : ∀ x, A = some x → x.block ≠ b) : RowE E (w.setCell ⟨b, i, none⟩ u) A n l := by
  refine ⟨h.len, fun hn => ?_⟩
  obtain ⟨g, o, e, hb, hc⟩ := h.at hn
  refine ⟨g, o, e, by rw [size_set]; exact hb, fun j hj => ?_⟩
  have hg : g ≠ b := hne _ e
  exact ⟨_, rfl, fun i' hi' => (World.cell?_setCell_other _ _ _ _ (by intro h9; simp only [Addr.mk.injEq] at h9; exact hg h9.1.symm)).trans (hc j hj i' hi')⟩
theorem RowE.putN {α : Type} {E : En α} {A : Option Addr} {n b : Nat} {l : List α} (hne : ∀ x, A = some x → x.block ≠ b) : ∀ (vs : List Value) (o : Nat) (w : World), RowE E w A n l → RowE E (putC w b o vs) A n l
  | [], _, _, h => h
  | u :: vs, o, w, h => RowE.putN hne vs (o + 1) _ (h.setO b o u hne)
def NeR (X1 X2 X3 : Option Addr) (b : Nat) : Prop := (∀ x, X1 = some x → x.block ≠ b) ∧ (∀ x, X2 = some x → x.block ≠ b) ∧ ∀ x, X3 = some x → x.block ≠ b
def LtR (X1 X2 X3 : Option Addr) (n : Nat) : Prop := (∀ x, X1 = some x → x.block < n) ∧ (∀ x, X2 = some x → x.block < n) ∧ ∀ x, X3 = some x → x.block < n
theorem LtR.mono {X1 X2 X3 : Option Addr} {n m : Nat} (h : LtR X1 X2 X3 n) (hm : n ≤ m) : LtR X1 X2 X3 m := ⟨fun x hx => Nat.lt_of_lt_of_le (h.1 x hx) hm, fun x hx => Nat.lt_of_lt_of_le (h.2.1 x hx) hm, fun x hx => Nat.lt_of_lt_of_le (h.2.2 x hx) hm⟩
theorem LtR.ne {X1 X2 X3 : Option Addr} {n b : Nat} (h : LtR X1 X2 X3 n) (hb : n ≤ b) : NeR X1 X2 X3 b := ⟨fun x hx => by have := h.1 x hx; omega, fun x hx => by have := h.2.1 x hx; omega, fun x hx => by have := h.2.2 x hx; omega⟩
theorem Rows3.putN {w : World} {r : Rl} {X1 X2 X3 : Option Addr} {n1 n2 n3 b : Nat} (h : Rows3 w r X1 X2 X3 n1 n2 n3) (hne : NeR X1 X2 X3 b) (vs : List Value) : Rows3 (putC w b 0 vs) r X1 X2 X3 n1 n2 n3 := ⟨h.m.putN hne.1 vs 0 _, h.i.putN hne.2.1 vs 0 _, h.h.putN hne.2.2 vs 0 _⟩
theorem InB.putN {w : World} {b : Bk} {Y1 Y2 : Option Addr} {m1 m2 y1 y2 q : Nat} (h : InB w b Y1 Y2 m1 m2 y1 y2) (hne : NeR Y1 Y2 none q) (vs : List Value) : InB (putC w q 0 vs) b Y1 Y2 m1 m2 y1 y2 := ⟨h.t.putN hne.1 vs 0 _, h.p.putN hne.2.1 vs 0 _, h.k1, h.k2, h.l1, h.l2⟩
/-- What the law asks of the answers of both. -/
theorem worth_both (p : Po) (m k : Int) : (worthE p m k == 0) = (mayW p m k && isMoney (worthV p m k)) ∧ ((mayW p m k && isMoney (worthV p m k)) = false → ((worthE p m k == 3) == mayW p m k) = false) ∧ (mayW p m k = true → intV (worthV p m k) = worthN p m k) ∧ (mayW p m k = false → worthN p m k = 0) := by
  unfold worthN worthE intV
  cases mayW p m k <;> cases isMoney (worthV p m k) <;> simp
theorem price_both (i : In) : (priceE i == 0) = (priceI i != 0) ∧ ((priceI i != 0) = false → (priceE i != 20) = false) := by
  have h := priceE_iff i
  have h2 : priceE i = 20 ∨ priceE i = 0 := by unfold priceE; split <;> simp
  rcases h2 with h2 | h2
  · have h3 : priceI i = 0 := Classical.not_not.1 fun h4 => by have := h.2 h4; omega
    rw [h2, h3]; exact ⟨rfl, fun _ => rfl⟩
  · have h3 := h.1 h2
    rw [h2]
    refine ⟨(bne_iff_ne.2 h3).symm, fun h4 => ?_⟩
    exact absurd (bne_iff_ne.2 h3) (by rw [h4]; decide)

set_option maxRecDepth 100000 in
set_option maxHeartbeats 8000000 in
theorem markExact_walk (r : Rl) (b : Bk) (p : Po) (m k : Int) (i : In) (A1 A2 A3 B1 B2 : Option Addr) (n1 n2 n3 c1 c2 c3 m1 m2 d1 d2 : Nat) (w : World) (h3 : In3 w r A1 A2 A3 n1 n2 n3 c1 c2 c3) (h : InB w b B1 B2 m1 m2 d1 d2) :
    Calls Try.prog 3 #[rlV A1 A2 A3 n1 n2 n3 c1 c2 c3, vBk b.1 B1 B2 m1 m2 d1 d2, vPo p, .int .i64 m, .int .i64 k, vIn i] w fun e w' => e = .returned (.bool true) ∧ Grew w w' := by
  have CH := fun w' => heavy11_any A1 A2 A3 n1 n2 n3 c1 c2 c3 w'
  have CK := fun w' => heavy_any b.1 B1 B2 m1 m2 d1 d2 w'
  have CV := fun w' => wakes14_any w'
  have CW := fun w' => worth_any p m k w'
  have CM := fun w' => rmay_any p m k w'
  have CN := fun (hp : mayW p m k = true) w' => rworth_any p m k w' hp
  have CP := fun w' => price_any i w'
  have CQ := fun w' => rprice_any i w'
  obtain ⟨wb1, wb2, wb3, wb4⟩ := worth_both p m k
  obtain ⟨pb1, pb2⟩ := price_both i
  have hH : heavyR n1 n2 n3 = false → n1 ≤ 100 ∧ n2 ≤ 100 ∧ n3 ≤ 100 := by unfold heavyR; simp
  have hK : (decide (300 < m1) || decide (300 < m2)) = false → m1 ≤ 300 ∧ m2 ≤ 300 := by simp
  have HL1 := Lib.hid h.t.len
  have HL2 := Lib.hid h.p.len
  have HLR := Lib.hid (And.intro h3.rows.m.len (And.intro h3.rows.i.len h3.rows.h.len))
  have HIB := Lib.hid h
  have HIR := Lib.hid h3
  clear h h3
  generalize heavyR n1 n2 n3 = HH at *
  generalize (decide (300 < m1) || decide (300 < m2)) = HHb at *
  generalize isMoney (worthV p m k) = mo at *
  generalize intV (worthV p m k) = iv at *
  generalize worthN p m k = WN at *
  generalize worthE p m k = WE at *
  generalize mayW p m k = may at *
  generalize priceE i = PE at *
  generalize hpn : (priceI i != 0) = po at *
  clear hpn
  generalize priceI i = PN at *
  obtain ⟨q1, q2, q3, q4⟩ := p
  obtain ⟨⟨j1, j2, j3, j4, j5, j6⟩, ⟨j7, j8, j9, j10, j11, j12⟩⟩ := i
  generalize hok : (may && mo) = ok at *
  have HOK := Lib.hid hok
  clear hok
  have HWB := Lib.hid (And.intro wb1 (And.intro wb2 (And.intro wb3 wb4)))
  have HPB := Lib.hid (And.intro pb1 pb2)
  have HHH := Lib.hid hH
  have HHK := Lib.hid hK
  clear hH hK wb1 wb2 wb3 wb4 pb1 pb2
  dsimp only [rlV, vBk, vPo, vIn] at CH CK CW CM CN CP CQ ⊢
  generalize hnx : b.1 = nx at *
  have HNX := Lib.hid hnx
  clear hnx
  cases HH
  · cases HHb
    · have hn := HHH.out rfl
      have hm := HHK.out rfl
      clear HHH HHK
      have HR0 : Hid (OwnC ((((w.alloc (.cells #[.slice A1 n1 c1, .slice A2 n2 c2, .slice A3 n3 c3] 26)).alloc (.cells #[.int .i64 nx, .slice B1 m1 d1, .slice B2 m2 d2] 30)).alloc (.cells #[.int .i64 q1, .int .i64 q2, .int .i64 q3, .int .i64 q4] 34)).alloc (.cells #[.int .i64 j1, .int .i64 j2, .int .i64 j3, .int .i64 j4, .int .i64 j5, .int .i64 j6, .int .i64 j7, .int .i64 j8, .int .i64 j9, .int .i64 j10, .int .i64 j11, .int .i64 j12] 37)) w.heap.size [.slice A1 n1 c1, .slice A2 n2 c2, .slice A3 n3 c3]) := (((OwnC.new w [.slice A1 n1 c1, .slice A2 n2 c2, .slice A3 n3 c3] _ _ rfl).keep (grew_alloc _ _ _)).keep (grew_alloc _ _ _)).keep (grew_alloc _ _ _)
      have HB0 : Hid (OwnC ((((w.alloc (.cells #[.slice A1 n1 c1, .slice A2 n2 c2, .slice A3 n3 c3] 26)).alloc (.cells #[.int .i64 nx, .slice B1 m1 d1, .slice B2 m2 d2] 30)).alloc (.cells #[.int .i64 q1, .int .i64 q2, .int .i64 q3, .int .i64 q4] 34)).alloc (.cells #[.int .i64 j1, .int .i64 j2, .int .i64 j3, .int .i64 j4, .int .i64 j5, .int .i64 j6, .int .i64 j7, .int .i64 j8, .int .i64 j9, .int .i64 j10, .int .i64 j11, .int .i64 j12] 37)) (w.heap.size + 1) [.int .i64 nx, .slice B1 m1 d1, .slice B2 m2 d2]) := ((OwnC.new (w.alloc (.cells #[.slice A1 n1 c1, .slice A2 n2 c2, .slice A3 n3 c3] 26)) [.int .i64 nx, .slice B1 m1 d1, .slice B2 m2 d2] _ _ (by simp)).keep (grew_alloc _ _ _)).keep (grew_alloc _ _ _)
      have HP0 : Hid (OwnC ((((w.alloc (.cells #[.slice A1 n1 c1, .slice A2 n2 c2, .slice A3 n3 c3] 26)).alloc (.cells #[.int .i64 nx, .slice B1 m1 d1, .slice B2 m2 d2] 30)).alloc (.cells #[.int .i64 q1, .int .i64 q2, .int .i64 q3, .int .i64 q4] 34)).alloc (.cells #[.int .i64 j1, .int .i64 j2, .int .i64 j3, .int .i64 j4, .int .i64 j5, .int .i64 j6, .int .i64 j7, .int .i64 j8, .int .i64 j9, .int .i64 j10, .int .i64 j11, .int .i64 j12] 37)) (w.heap.size + 1 + 1) [.int .i64 q1, .int .i64 q2, .int .i64 q3, .int .i64 q4]) := (OwnC.new ((w.alloc (.cells #[.slice A1 n1 c1, .slice A2 n2 c2, .slice A3 n3 c3] 26)).alloc (.cells #[.int .i64 nx, .slice B1 m1 d1, .slice B2 m2 d2] 30)) [.int .i64 q1, .int .i64 q2, .int .i64 q3, .int .i64 q4] _ _ (by simp)).keep (grew_alloc _ _ _)
      have HI0 : Hid (OwnC ((((w.alloc (.cells #[.slice A1 n1 c1, .slice A2 n2 c2, .slice A3 n3 c3] 26)).alloc (.cells #[.int .i64 nx, .slice B1 m1 d1, .slice B2 m2 d2] 30)).alloc (.cells #[.int .i64 q1, .int .i64 q2, .int .i64 q3, .int .i64 q4] 34)).alloc (.cells #[.int .i64 j1, .int .i64 j2, .int .i64 j3, .int .i64 j4, .int .i64 j5, .int .i64 j6, .int .i64 j7, .int .i64 j8, .int .i64 j9, .int .i64 j10, .int .i64 j11, .int .i64 j12] 37)) (w.heap.size + 1 + 1 + 1) [.int .i64 j1, .int .i64 j2, .int .i64 j3, .int .i64 j4, .int .i64 j5, .int .i64 j6, .int .i64 j7, .int .i64 j8, .int .i64 j9, .int .i64 j10, .int .i64 j11, .int .i64 j12]) := OwnC.new (((w.alloc (.cells #[.slice A1 n1 c1, .slice A2 n2 c2, .slice A3 n3 c3] 26)).alloc (.cells #[.int .i64 nx, .slice B1 m1 d1, .slice B2 m2 d2] 30)).alloc (.cells #[.int .i64 q1, .int .i64 q2, .int .i64 q3, .int .i64 q4] 34)) [.int .i64 j1, .int .i64 j2, .int .i64 j3, .int .i64 j4, .int .i64 j5, .int .i64 j6, .int .i64 j7, .int .i64 j8, .int .i64 j9, .int .i64 j10, .int .i64 j11, .int .i64 j12] _ _ (by simp)
      have HG0 : Hid (Grew w ((((w.alloc (.cells #[.slice A1 n1 c1, .slice A2 n2 c2, .slice A3 n3 c3] 26)).alloc (.cells #[.int .i64 nx, .slice B1 m1 d1, .slice B2 m2 d2] 30)).alloc (.cells #[.int .i64 q1, .int .i64 q2, .int .i64 q3, .int .i64 q4] 34)).alloc (.cells #[.int .i64 j1, .int .i64 j2, .int .i64 j3, .int .i64 j4, .int .i64 j5, .int .i64 j6, .int .i64 j7, .int .i64 j8, .int .i64 j9, .int .i64 j10, .int .i64 j11, .int .i64 j12] 37))) := grew_trans (grew_trans (grew_trans (grew_alloc _ _ _) (grew_alloc _ _ _)) (grew_alloc _ _ _)) (grew_alloc _ _ _)
      go_enter Try.func3, Try.ntmps3
      go_upto_region 1 with (fail)
      generalize ((((w.alloc (.cells #[.slice A1 n1 c1, .slice A2 n2 c2, .slice A3 n3 c3] 26)).alloc (.cells #[.int .i64 nx, .slice B1 m1 d1, .slice B2 m2 d2] 30)).alloc (.cells #[.int .i64 q1, .int .i64 q2, .int .i64 q3, .int .i64 q4] 34)).alloc (.cells #[.int .i64 j1, .int .i64 j2, .int .i64 j3, .int .i64 j4, .int .i64 j5, .int .i64 j6, .int .i64 j7, .int .i64 j8, .int .i64 j9, .int .i64 j10, .int .i64 j11, .int .i64 j12] 37)) = w0 at *
      generalize w.heap.size + 1 + 1 + 1 = bi at *
      generalize w.heap.size + 1 + 1 = bp at *
      generalize w.heap.size + 1 = bb at *
      have r0 := HR0.out.at 0 (.slice A1 n1 c1) rfl; have r1 := HR0.out.at 1 (.slice A2 n2 c2) rfl; have r2 := HR0.out.at 2 (.slice A3 n3 c3) rfl
      go_upto_if 42 with (first
        | (go_at_call 8; (with_reducible refine (CH _).mono ?_); rintro e w1 ⟨rfl, hg⟩; have HG1 := Lib.hid (grew_trans HG0.out hg); have HR1 := Lib.hid (HR0.out.keep hg); have HB1 := Lib.hid (HB0.out.keep hg); have HP1 := Lib.hid (HP0.out.keep hg); have HI1 := Lib.hid (HI0.out.keep hg); clear hg r0 r1 r2 HG0 HR0 HB0 HP0 HI0; have b0 := HB1.out.at 0 (.int .i64 nx) rfl; have b1 := HB1.out.at 1 (.slice B1 m1 d1) rfl; have b2 := HB1.out.at 2 (.slice B2 m2 d2) rfl)
        | (go_at_call 9; (with_reducible refine (CK _).mono ?_); rintro e w2 ⟨rfl, hg⟩; have HG2 := Lib.hid (grew_trans HG1.out hg); have HR2 := Lib.hid (HR1.out.keep hg); have HB2 := Lib.hid (HB1.out.keep hg); have HP2 := Lib.hid (HP1.out.keep hg); have HI2 := Lib.hid (HI1.out.keep hg); clear hg b0 b1 b2 HG1 HR1 HB1 HP1 HI1; have p0 := HP2.out.at 0 (.int .i64 q1) rfl; have p1 := HP2.out.at 1 (.int .i64 q2) rfl; have p2 := HP2.out.at 2 (.int .i64 q3) rfl; have p3 := HP2.out.at 3 (.int .i64 q4) rfl)
        | (go_at_call 10; (with_reducible refine (CW _).mono ?_); rintro e w3 ⟨rfl, hg⟩; have HG3 := Lib.hid (grew_trans HG2.out hg); have HR3 := Lib.hid (HR2.out.keep hg); have HB3 := Lib.hid (HB2.out.keep hg); have HP3 := Lib.hid (HP2.out.keep hg); have HI3 := Lib.hid (HI2.out.keep hg); clear hg p0 p1 p2 p3 HG2 HR2 HB2 HP2 HI2; have p0 := HP3.out.at 0 (.int .i64 q1) rfl; have p1 := HP3.out.at 1 (.int .i64 q2) rfl; have p2 := HP3.out.at 2 (.int .i64 q3) rfl; have p3 := HP3.out.at 3 (.int .i64 q4) rfl)
        | (go_at_call 11; (with_reducible refine (CM _).mono ?_); rintro e w4 ⟨rfl, hg⟩; have HG4 := Lib.hid (grew_trans HG3.out hg); have HR4 := Lib.hid (HR3.out.keep hg); have HB4 := Lib.hid (HB3.out.keep hg); have HP4 := Lib.hid (HP3.out.keep hg); have HI4 := Lib.hid (HI3.out.keep hg); clear hg p0 p1 p2 p3 HG3 HR3 HB3 HP3 HI3; have p0 := HP4.out.at 0 (.int .i64 q1) rfl; have p1 := HP4.out.at 1 (.int .i64 q2) rfl; have p2 := HP4.out.at 2 (.int .i64 q3) rfl; have p3 := HP4.out.at 3 (.int .i64 q4) rfl))
      go_cut [16, 17] from 43 to 49 (fun s16 s17 wx => s16 = .int .i64 WN ∧ s17 = .bool ok ∧ Hid (Grew w4 wx))
      case first =>
        cases may
        · have h0 := HWB.out.2.2.2 rfl
          have h1 : ok = false := HOK.out.symm
          subst h0 h1
          go_wp2_with fail
          go_meet
          case rel => exact ⟨rfl, rfl, grew_refl _⟩
        · have h0 := HWB.out.2.2.1 rfl
          have CN1 := CN rfl
          have h1 : mo = ok := HOK.out
          rw [h0, h1] at CN1
          go_wp2_with (go_at_call 12; (with_reducible refine (CN1 _).mono ?_); rintro e wn ⟨rfl, hg⟩; have HGn := Lib.hid hg; clear hg)
          go_meet
          case rel => exact ⟨rfl, rfl, HGn.out⟩
      case rest =>
        obtain ⟨rfl, rfl, hg'⟩ := hcut
        have hg := hg'.out
        clear hg'
        have HG5 := Lib.hid (grew_trans HG4.out hg); have HR5 := Lib.hid (HR4.out.keep hg); have HB5 := Lib.hid (HB4.out.keep hg); have HP5 := Lib.hid (HP4.out.keep hg); have HI5 := Lib.hid (HI4.out.keep hg); clear hg p0 p1 p2 p3 HG4 HR4 HB4 HP4 HI4
        clear CW CM CN CH CK
        apply_assumption
        go_upto_region 8 with (fail)
        go_cut [68] from 50 to 67 (fun s68 wx => s68 = .bool false ∧ Hid (Grew wc wx))
        case first =>
          have e1 := HWB.out.1
          have e2 := HWB.out.2.1
          cases ok
          · have e3 := e2 rfl
            clear e2
            go_wp2
            go_meet
            case rel => exact ⟨rfl, grew_refl _⟩
          · clear e2
            go_wp2
            go_meet
            case rel => exact ⟨rfl, grew_refl _⟩
        case rest =>
          obtain ⟨rfl, hg'⟩ := hcut
          have hg := hg'.out
          clear hg'
          have HG6 := Lib.hid (grew_trans HG5.out hg); have HR6 := Lib.hid (HR5.out.keep hg); have HB6 := Lib.hid (HB5.out.keep hg); have HP6 := Lib.hid (HP5.out.keep hg); have HI6 := Lib.hid (HI5.out.keep hg); clear hg  HG5 HR5 HB5 HP5 HI5
          have i0 := HI6.out.at 0 (.int .i64 j1) rfl; have i1 := HI6.out.at 1 (.int .i64 j2) rfl; have i2 := HI6.out.at 2 (.int .i64 j3) rfl; have i3 := HI6.out.at 3 (.int .i64 j4) rfl; have i4 := HI6.out.at 4 (.int .i64 j5) rfl; have i5 := HI6.out.at 5 (.int .i64 j6) rfl; have i6 := HI6.out.at 6 (.int .i64 j7) rfl; have i7 := HI6.out.at 7 (.int .i64 j8) rfl; have i8 := HI6.out.at 8 (.int .i64 j9) rfl; have i9 := HI6.out.at 9 (.int .i64 j10) rfl; have i10 := HI6.out.at 10 (.int .i64 j11) rfl; have i11 := HI6.out.at 11 (.int .i64 j12) rfl
          apply_assumption
          go_upto_region 12 with (first
            | (go_at_call 13; (with_reducible refine (CP _).mono ?_); rintro e w7 ⟨rfl, hg⟩; have HG7 := Lib.hid (grew_trans HG6.out hg); have HR7 := Lib.hid (HR6.out.keep hg); have HB7 := Lib.hid (HB6.out.keep hg); have HP7 := Lib.hid (HP6.out.keep hg); have HI7 := Lib.hid (HI6.out.keep hg); clear hg i0 i1 i2 i3 i4 i5 i6 i7 i8 i9 i10 i11 HG6 HR6 HB6 HP6 HI6; have i0 := HI7.out.at 0 (.int .i64 j1) rfl; have i1 := HI7.out.at 1 (.int .i64 j2) rfl; have i2 := HI7.out.at 2 (.int .i64 j3) rfl; have i3 := HI7.out.at 3 (.int .i64 j4) rfl; have i4 := HI7.out.at 4 (.int .i64 j5) rfl; have i5 := HI7.out.at 5 (.int .i64 j6) rfl; have i6 := HI7.out.at 6 (.int .i64 j7) rfl; have i7 := HI7.out.at 7 (.int .i64 j8) rfl; have i8 := HI7.out.at 8 (.int .i64 j9) rfl; have i9 := HI7.out.at 9 (.int .i64 j10) rfl; have i10 := HI7.out.at 10 (.int .i64 j11) rfl; have i11 := HI7.out.at 11 (.int .i64 j12) rfl)
            | (go_at_call 14; (with_reducible refine (CQ _).mono ?_); rintro e w8 ⟨rfl, hg⟩; have HG8 := Lib.hid (grew_trans HG7.out hg); have HR8 := Lib.hid (HR7.out.keep hg); have HB8 := Lib.hid (HB7.out.keep hg); have HP8 := Lib.hid (HP7.out.keep hg); have HI8 := Lib.hid (HI7.out.keep hg); clear hg i0 i1 i2 i3 i4 i5 i6 i7 i8 i9 i10 i11 HG7 HR7 HB7 HP7 HI7))
          go_cut [95] from 79 to 94 (fun s95 wx => s95 = .bool false ∧ Hid (Grew w8 wx))
          case first =>
            have e1 := HPB.out.1
            have e2 := HPB.out.2
            cases po
            · have e3 := e2 rfl
              clear e2
              go_wp2
              go_meet
              case rel => exact ⟨rfl, grew_refl _⟩
            · clear e2
              go_wp2
              go_meet
              case rel => exact ⟨rfl, grew_refl _⟩
          case rest =>
            obtain ⟨rfl, hg'⟩ := hcut
            have hg := hg'.out
            clear hg'
            have HG9 := Lib.hid (grew_trans HG8.out hg); have HR9 := Lib.hid (HR8.out.keep hg); have HB9 := Lib.hid (HB8.out.keep hg); clear hg  HG8 HR8 HB8
            clear HP8 HI8 CP CQ HWB HPB HOK
            generalize hwx : wc = w9 at *
            clear hwx
            apply_assumption
            go_upto_region 14 with (fail)
            have hnn := HNX.out
            subst hnn
            have CTR := fun w' (g : Grew w w') => twinRoll_any r A1 A2 A3 n1 n2 n3 c1 c2 c3 w' (HIR.out.keep g) (by omega)
            have CTB := fun w' (g : Grew w w') => twinBook_any b B1 B2 m1 m2 d1 d2 w' (HIB.out.keep g) (by omega)
            unfold RollQ at CTR
            unfold BookP at CTB
            dsimp only [rlV, vBk] at CTR CTB
            rw [HLR.out.1, HLR.out.2.1, HLR.out.2.2] at CTR
            rw [HL1.out, HL2.out] at CTB
            go_cut [18, 19] from 96 to 99 (fun s18 s19 wx => ∃ (bx bY : Nat) (X1 X2 X3 Y1 Y2 : Option Addr) (x1 x2 x3 y1 y2 : Nat), s18 = .pointer (some ⟨bx, 0, none⟩) ∧ s19 = .pointer (some ⟨bY, 0, none⟩) ∧ Hid (OwnC wx bx [.slice X1 n1 x1, .slice X2 n2 x2, .slice X3 n3 x3]) ∧ Hid (OwnC wx bY [.int .i64 b.1, .slice Y1 m1 y1, .slice Y2 m2 y2]) ∧ Hid (Rows3 wx r X1 X2 X3 n1 n2 n3) ∧ Hid (InB wx b Y1 Y2 m1 m2 y1 y2) ∧ Hid (Grew w9 wx))
            case first =>
              refine wp_region_noPanic ?_
              refine wp_region_held_drew (S := fun w' => Grew w9 w') (by kernel_rfl) (grew_drew (grew_refl _)) (fun hHeld => ?_)
              (refine wpAnyH_take (i := 0) (oi := { dst := some 96, op := Op.load 26 (Operand.tmp 6), type := 26, pos := "law.go:39", after := #[], guard := none }) (v := ?_) rfl (by kernel_rfl) (by kernel_rfl) (by kernel_rfl) (fun _ _ _ h => h) (Or.inl ⟨by rfl, ?_⟩) (by assumption) ?_; rotate_left; · (intro w hSw; (try dsimp only at hSw); have h0 := (HR9.out.keep hSw).at 0 _ rfl; have h1 := (HR9.out.keep hSw).at 1 _ rfl; have h2 := (HR9.out.keep hSw).at 2 _ rfl; go_simp; (first | done | with_reducible rfl)))
              try simp only [Act.put, List.setIfInBounds_toArray, List.set_cons_zero, List.set_cons_succ]
              (refine wpAnyH_take (i := 2) (oi := { dst := some 98, op := Op.load 30 (Operand.tmp 7), type := 30, pos := "law.go:39", after := #[], guard := none }) (v := ?_) rfl (by kernel_rfl) (by kernel_rfl) (by kernel_rfl) (fun _ _ _ h => h) (Or.inl ⟨by rfl, ?_⟩) (by assumption) ?_; rotate_left; · (intro w hSw; (try dsimp only at hSw); have h0 := (HB9.out.keep hSw).at 0 _ rfl; have h1 := (HB9.out.keep hSw).at 1 _ rfl; have h2 := (HB9.out.keep hSw).at 2 _ rfl; go_simp; (first | done | with_reducible rfl)))
              try simp only [Act.put, List.setIfInBounds_toArray, List.set_cons_zero, List.set_cons_succ]
              refine wpAnyH_ready (rs := [1, 4, 5]) (by kernel_rfl) (by simp) ?_
              refine (AllReadyH.cons (o := { dst := some 97, op := Op.call { callee := Callee.value (Operand.func 15), args := #[Operand.tmp 96], argTypes := #[26] }, type := 26, pos := "law.go:39", after := #[{ on := 0, ground := Ground.data }], guard := none }) rfl (fun K hK => ?_) (AllReadyH.cons (o := { dst := some 18, op := Op.alloc 26, type := 0, pos := "law.go:39", after := #[], guard := none }) rfl (fun K hK => ?_) (AllReadyH.cons (o := { dst := some 19, op := Op.alloc 30, type := 0, pos := "law.go:39", after := #[], guard := none }) rfl (fun K hK => ?_) AllReadyH.nil)))
              · go_simp
                (go_at_call 15; (with_reducible refine (CTR _ (grew_trans HG9.out (grew_drew (grew_refl _)))).mono ?_); rintro e v1 ⟨X1, X2, X3, x1, x2, x3, rfl, ⟨ho, -, -, -⟩, hg⟩)
                have HRR : Hid (Rows3 v1 r X1 X2 X3 n1 n2 n3) := (by have h9 := ho.rows; rw [HLR.out.1, HLR.out.2.1, HLR.out.2.2] at h9; exact h9)
                have HLR9 : Hid (LtR X1 X2 X3 v1.heap.size) := ⟨fun x hx => (ho.m.block x hx).2, fun x hx => (ho.i.block x hx).2, fun x hx => (ho.h.block x hx).2⟩
                have HGG : Hid (Grew w9 v1) := grew_trans (grew_drew (grew_refl _)) hg
                clear ho hg
                refine hK.out _ _ HGG.out (fun hHeld => ?_)
                clear hK K
                try simp only [Act.put, List.setIfInBounds_toArray, List.set_cons_zero, List.set_cons_succ]
                refine wpAnyH_ready (rs := [3, 4, 5]) (by kernel_rfl) (by simp) ?_
                refine (AllReadyH.cons (o := { dst := some 99, op := Op.call { callee := Callee.value (Operand.func 16), args := #[Operand.tmp 98], argTypes := #[30] }, type := 30, pos := "law.go:39", after := #[{ on := 2, ground := Ground.data }, { on := 1, ground := Ground.chain }], guard := none }) rfl (fun K hK => ?_) (AllReadyH.cons (o := { dst := some 18, op := Op.alloc 26, type := 0, pos := "law.go:39", after := #[], guard := none }) rfl (fun K hK => ?_) (AllReadyH.cons (o := { dst := some 19, op := Op.alloc 30, type := 0, pos := "law.go:39", after := #[], guard := none }) rfl (fun K hK => ?_) AllReadyH.nil)))
                · go_simp
                  (go_at_call 16; (with_reducible refine (CTB _ (grew_trans HG9.out HGG.out)).mono ?_); rintro e v2 ⟨Y1, Y2, y1, y2, rfl, ho, hg⟩)
                  have HRR := Lib.hid (HRR.out.keep hg)
                  have HLR9 := Lib.hid (HLR9.out.mono (grew_size hg))
                  have HBB : Hid (InB v2 b Y1 Y2 m1 m2 y1 y2) := (by have h9 := ho.in; rw [HL1.out, HL2.out] at h9; exact h9)
                  have HLB9 : Hid (LtR Y1 Y2 none v2.heap.size) := ⟨fun x hx => (ho.t.block x hx).2, fun x hx => (ho.p.block x hx).2, fun x hx => by cases hx⟩
                  have HGG : Hid (Grew w9 v2) := grew_trans HGG.out hg
                  clear ho hg
                  refine hK.out _ _ HGG.out (fun hHeld => ?_)
                  clear hK K
                  try simp only [Act.put, List.setIfInBounds_toArray, List.set_cons_zero, List.set_cons_succ]
                  refine wpAnyH_ready (rs := [4, 5]) (by kernel_rfl) (by simp) ?_
                  refine (AllReadyH.cons (o := { dst := some 18, op := Op.alloc 26, type := 0, pos := "law.go:39", after := #[], guard := none }) rfl (fun K hK => ?_) (AllReadyH.cons (o := { dst := some 19, op := Op.alloc 30, type := 0, pos := "law.go:39", after := #[], guard := none }) rfl (fun K hK => ?_) AllReadyH.nil))
                  · go_simp
                    refine hK.out _ _ (grew_trans HGG.out (grew_alloc _ _ _)) (fun hHeld => ?_)
                    clear hK K
                    try simp only [Act.put, List.setIfInBounds_toArray, List.set_cons_zero, List.set_cons_succ]
                    obtain ⟨bx, hbx⟩ : ∃ q, q = v2.heap.size := ⟨_, rfl⟩
                    rw [← hbx]
                    have HNxR : Hid (NeR X1 X2 X3 bx) := HLR9.out.ne (Nat.le_of_eq hbx.symm)
                    have HNxB : Hid (NeR Y1 Y2 none bx) := HLB9.out.ne (Nat.le_of_eq hbx.symm)
                    have HRR := Lib.hid (HRR.out.keep (show Grew v2 ((v2.alloc (.cells #[.slice none 0 0, .slice none 0 0, .slice none 0 0] 26))) from (grew_alloc _ _ _)))
                    have HLR9 := Lib.hid (HLR9.out.mono (grew_size (show Grew v2 ((v2.alloc (.cells #[.slice none 0 0, .slice none 0 0, .slice none 0 0] 26))) from (grew_alloc _ _ _))))
                    have HBB := Lib.hid (HBB.out.keep (show Grew v2 ((v2.alloc (.cells #[.slice none 0 0, .slice none 0 0, .slice none 0 0] 26))) from (grew_alloc _ _ _)))
                    have HLB9 := Lib.hid (HLB9.out.mono (grew_size (show Grew v2 ((v2.alloc (.cells #[.slice none 0 0, .slice none 0 0, .slice none 0 0] 26))) from (grew_alloc _ _ _))))
                    have HX : Hid (OwnC ((v2.alloc (.cells #[.slice none 0 0, .slice none 0 0, .slice none 0 0] 26))) bx [.slice none 0 0, .slice none 0 0, .slice none 0 0]) := OwnC.new v2 [.slice none 0 0, .slice none 0 0, .slice none 0 0] _ _ hbx
                    have HWx : Hid (w9.heap.size ≤ bx) := by have h1 := grew_size HGG.out; show _ ≤ _; omega
                    have HGG : Hid (Grew w9 ((v2.alloc (.cells #[.slice none 0 0, .slice none 0 0, .slice none 0 0] 26)))) := grew_trans HGG.out (grew_alloc _ _ _)
                    clear hbx hHeld
                    generalize (v2.alloc (.cells #[.slice none 0 0, .slice none 0 0, .slice none 0 0] 26)) = v3 at *
                    have hHeld := HGG.out
                    refine wpAnyH_ready (rs := [5]) (by kernel_rfl) (by simp) ?_
                    refine (AllReadyH.cons (o := { dst := some 19, op := Op.alloc 30, type := 0, pos := "law.go:39", after := #[], guard := none }) rfl (fun K hK => ?_) AllReadyH.nil)
                    go_simp
                    refine hK.out _ _ (grew_trans HGG.out (grew_alloc _ _ _)) (fun hHeld => ?_)
                    clear hK K
                    try simp only [Act.put, List.setIfInBounds_toArray, List.set_cons_zero, List.set_cons_succ]
                    obtain ⟨bY, hby⟩ : ∃ q, q = v3.heap.size := ⟨_, rfl⟩
                    rw [← hby]
                    have HNxy : Hid (bx ≠ bY) := by have h1 := HX.out.lt; show _ ≠ _; omega
                    have HNyR : Hid (NeR X1 X2 X3 bY) := HLR9.out.ne (Nat.le_of_eq hby.symm)
                    have HNyB : Hid (NeR Y1 Y2 none bY) := HLB9.out.ne (Nat.le_of_eq hby.symm)
                    have HX := Lib.hid (HX.out.keep (show Grew v3 ((v3.alloc (.cells #[.int .i64 0, .slice none 0 0, .slice none 0 0] 30))) from (grew_alloc _ _ _)))
                    have HRR := Lib.hid (HRR.out.keep (show Grew v3 ((v3.alloc (.cells #[.int .i64 0, .slice none 0 0, .slice none 0 0] 30))) from (grew_alloc _ _ _)))
                    have HLR9 := Lib.hid (HLR9.out.mono (grew_size (show Grew v3 ((v3.alloc (.cells #[.int .i64 0, .slice none 0 0, .slice none 0 0] 30))) from (grew_alloc _ _ _))))
                    have HBB := Lib.hid (HBB.out.keep (show Grew v3 ((v3.alloc (.cells #[.int .i64 0, .slice none 0 0, .slice none 0 0] 30))) from (grew_alloc _ _ _)))
                    have HLB9 := Lib.hid (HLB9.out.mono (grew_size (show Grew v3 ((v3.alloc (.cells #[.int .i64 0, .slice none 0 0, .slice none 0 0] 30))) from (grew_alloc _ _ _))))
                    have HY : Hid (OwnC ((v3.alloc (.cells #[.int .i64 0, .slice none 0 0, .slice none 0 0] 30))) bY [.int .i64 0, .slice none 0 0, .slice none 0 0]) := OwnC.new v3 [.int .i64 0, .slice none 0 0, .slice none 0 0] _ _ hby
                    have HWy : Hid (w9.heap.size ≤ bY) := by have h1 := grew_size HGG.out; show _ ≤ _; omega
                    have HGG : Hid (Grew w9 ((v3.alloc (.cells #[.int .i64 0, .slice none 0 0, .slice none 0 0] 30)))) := grew_trans HGG.out (grew_alloc _ _ _)
                    clear hby hHeld
                    generalize (v3.alloc (.cells #[.int .i64 0, .slice none 0 0, .slice none 0 0] 30)) = v4 at *
                    have hHeld := HGG.out
                    refine wpAnyH_ready (rs := [6]) (by kernel_rfl) (by simp) ?_
                    refine (AllReadyH.cons (o := { dst := none, op := Op.store 26 (Operand.tmp 18) (Operand.tmp 97), type := 0, pos := "law.go:39", after := #[{ on := 4, ground := Ground.data }, { on := 1, ground := Ground.data }, { on := 3, ground := Ground.chain }, { on := 0, ground := Ground.phase }, { on := 1, ground := Ground.phase }, { on := 2, ground := Ground.textOnly Departure.lateStores }, { on := 3, ground := Ground.textOnly Departure.lateStoresUnsure }, { on := 4, ground := Ground.phase }, { on := 5, ground := Ground.phase }], guard := none }) rfl (fun K hK => ?_) AllReadyH.nil)
                    have y0 := HX.out.at 0 (.slice none 0 0) rfl; have y1' := HX.out.at 1 (.slice none 0 0) rfl; have y2' := HX.out.at 2 (.slice none 0 0) rfl
                    have g0 := HX.out.fr 0 (by simp); have g1 := HX.out.fr 1 (by simp); have g2 := HX.out.fr 2 (by simp)
                    go_simp
                    refine hK.out _ _ (grew_put bx HWx.out [.slice X1 n1 x1, .slice X2 n2 x2, .slice X3 n3 x3] 0 _ HGG.out) (fun hHeld => ?_)
                    clear hK K y0 y1' y2' g0 g1 g2
                    try simp only [Act.put, List.setIfInBounds_toArray, List.set_cons_zero, List.set_cons_succ]
                    have HGG2 : Hid (Grew w9 (((v4.setCell ⟨bx, 0, none⟩ (.slice X1 n1 x1)).setCell ⟨bx, 1, none⟩ (.slice X2 n2 x2)).setCell ⟨bx, 2, none⟩ (.slice X3 n3 x3))) := grew_put bx HWx.out [.slice X1 n1 x1, .slice X2 n2 x2, .slice X3 n3 x3] 0 _ HGG.out
                    have HX2 : Hid (OwnC (((v4.setCell ⟨bx, 0, none⟩ (.slice X1 n1 x1)).setCell ⟨bx, 1, none⟩ (.slice X2 n2 x2)).setCell ⟨bx, 2, none⟩ (.slice X3 n3 x3)) bx [.slice X1 n1 x1, .slice X2 n2 x2, .slice X3 n3 x3]) := HX.out.all [.slice X1 n1 x1, .slice X2 n2 x2, .slice X3 n3 x3] rfl
                    have HY2 : Hid (OwnC (((v4.setCell ⟨bx, 0, none⟩ (.slice X1 n1 x1)).setCell ⟨bx, 1, none⟩ (.slice X2 n2 x2)).setCell ⟨bx, 2, none⟩ (.slice X3 n3 x3)) bY [.int .i64 0, .slice none 0 0, .slice none 0 0]) := OwnC.putO HNxy.out [.slice X1 n1 x1, .slice X2 n2 x2, .slice X3 n3 x3] 0 _ HY.out
                    have HRR2 : Hid (Rows3 (((v4.setCell ⟨bx, 0, none⟩ (.slice X1 n1 x1)).setCell ⟨bx, 1, none⟩ (.slice X2 n2 x2)).setCell ⟨bx, 2, none⟩ (.slice X3 n3 x3)) r X1 X2 X3 n1 n2 n3) := HRR.out.putN HNxR.out [.slice X1 n1 x1, .slice X2 n2 x2, .slice X3 n3 x3]
                    have HBB2 : Hid (InB (((v4.setCell ⟨bx, 0, none⟩ (.slice X1 n1 x1)).setCell ⟨bx, 1, none⟩ (.slice X2 n2 x2)).setCell ⟨bx, 2, none⟩ (.slice X3 n3 x3)) b Y1 Y2 m1 m2 y1 y2) := HBB.out.putN HNxB.out [.slice X1 n1 x1, .slice X2 n2 x2, .slice X3 n3 x3]
                    clear HGG HX HY HRR HBB hHeld
                    have HGG := HGG2; have HX := HX2; have HY := HY2; have HRR := HRR2; have HBB := HBB2
                    clear HGG2 HX2 HY2 HRR2 HBB2
                    generalize (((v4.setCell ⟨bx, 0, none⟩ (.slice X1 n1 x1)).setCell ⟨bx, 1, none⟩ (.slice X2 n2 x2)).setCell ⟨bx, 2, none⟩ (.slice X3 n3 x3)) = v5 at *
                    have hHeld := HGG.out
                    refine wpAnyH_ready (rs := [7]) (by kernel_rfl) (by simp) ?_
                    refine (AllReadyH.cons (o := { dst := none, op := Op.store 30 (Operand.tmp 19) (Operand.tmp 99), type := 0, pos := "law.go:39", after := #[{ on := 5, ground := Ground.data }, { on := 3, ground := Ground.data }, { on := 6, ground := Ground.chain }, { on := 0, ground := Ground.phase }, { on := 1, ground := Ground.phase }, { on := 2, ground := Ground.phase }, { on := 3, ground := Ground.phase }, { on := 4, ground := Ground.phase }, { on := 5, ground := Ground.phase }, { on := 6, ground := Ground.phase }], guard := none }) rfl (fun K hK => ?_) AllReadyH.nil)
                    have y0 := HY.out.at 0 (.int .i64 0) rfl; have y1' := HY.out.at 1 (.slice none 0 0) rfl; have y2' := HY.out.at 2 (.slice none 0 0) rfl
                    have g0 := HY.out.fr 0 (by simp); have g1 := HY.out.fr 1 (by simp); have g2 := HY.out.fr 2 (by simp)
                    go_simp
                    refine hK.out _ _ (grew_put bY HWy.out [.int .i64 b.1, .slice Y1 m1 y1, .slice Y2 m2 y2] 0 _ HGG.out) (fun hHeld => ?_)
                    clear hK K y0 y1' y2' g0 g1 g2
                    try simp only [Act.put, List.setIfInBounds_toArray, List.set_cons_zero, List.set_cons_succ]
                    have HGG2 : Hid (Grew w9 (((v5.setCell ⟨bY, 0, none⟩ (.int .i64 b.1)).setCell ⟨bY, 1, none⟩ (.slice Y1 m1 y1)).setCell ⟨bY, 2, none⟩ (.slice Y2 m2 y2))) := grew_put bY HWy.out [.int .i64 b.1, .slice Y1 m1 y1, .slice Y2 m2 y2] 0 _ HGG.out
                    have HY2 : Hid (OwnC (((v5.setCell ⟨bY, 0, none⟩ (.int .i64 b.1)).setCell ⟨bY, 1, none⟩ (.slice Y1 m1 y1)).setCell ⟨bY, 2, none⟩ (.slice Y2 m2 y2)) bY [.int .i64 b.1, .slice Y1 m1 y1, .slice Y2 m2 y2]) := HY.out.all [.int .i64 b.1, .slice Y1 m1 y1, .slice Y2 m2 y2] rfl
                    have HX2 : Hid (OwnC (((v5.setCell ⟨bY, 0, none⟩ (.int .i64 b.1)).setCell ⟨bY, 1, none⟩ (.slice Y1 m1 y1)).setCell ⟨bY, 2, none⟩ (.slice Y2 m2 y2)) bx [.slice X1 n1 x1, .slice X2 n2 x2, .slice X3 n3 x3]) := OwnC.putO HNxy.out.symm [.int .i64 b.1, .slice Y1 m1 y1, .slice Y2 m2 y2] 0 _ HX.out
                    have HRR2 : Hid (Rows3 (((v5.setCell ⟨bY, 0, none⟩ (.int .i64 b.1)).setCell ⟨bY, 1, none⟩ (.slice Y1 m1 y1)).setCell ⟨bY, 2, none⟩ (.slice Y2 m2 y2)) r X1 X2 X3 n1 n2 n3) := HRR.out.putN HNyR.out [.int .i64 b.1, .slice Y1 m1 y1, .slice Y2 m2 y2]
                    have HBB2 : Hid (InB (((v5.setCell ⟨bY, 0, none⟩ (.int .i64 b.1)).setCell ⟨bY, 1, none⟩ (.slice Y1 m1 y1)).setCell ⟨bY, 2, none⟩ (.slice Y2 m2 y2)) b Y1 Y2 m1 m2 y1 y2) := HBB.out.putN HNyB.out [.int .i64 b.1, .slice Y1 m1 y1, .slice Y2 m2 y2]
                    clear HGG HX HY HRR HBB hHeld
                    have HGG := HGG2; have HX := HX2; have HY := HY2; have HRR := HRR2; have HBB := HBB2
                    clear HGG2 HX2 HY2 HRR2 HBB2
                    generalize (((v5.setCell ⟨bY, 0, none⟩ (.int .i64 b.1)).setCell ⟨bY, 1, none⟩ (.slice Y1 m1 y1)).setCell ⟨bY, 2, none⟩ (.slice Y2 m2 y2)) = v6 at *
                    have hHeld := HGG.out
                    refine wpAnyH_done (by kernel_rfl) ?_ _
                    clear hHeld
                    apply_assumption
                    go_meet
                    case rel => exact ⟨bx, bY, X1, X2, X3, Y1, Y2, x1, x2, x3, y1, y2, rfl, rfl, HX.out, HY.out, HRR.out, HBB.out, HGG.out⟩
                  · go_simp
                    refine hK.out _ _ (grew_trans HGG.out (grew_alloc _ _ _)) (fun hHeld => ?_)
                    clear hK K
                    try simp only [Act.put, List.setIfInBounds_toArray, List.set_cons_zero, List.set_cons_succ]
                    obtain ⟨bY, hby⟩ : ∃ q, q = v2.heap.size := ⟨_, rfl⟩
                    rw [← hby]
                    have HNyR : Hid (NeR X1 X2 X3 bY) := HLR9.out.ne (Nat.le_of_eq hby.symm)
                    have HNyB : Hid (NeR Y1 Y2 none bY) := HLB9.out.ne (Nat.le_of_eq hby.symm)
                    have HRR := Lib.hid (HRR.out.keep (show Grew v2 ((v2.alloc (.cells #[.int .i64 0, .slice none 0 0, .slice none 0 0] 30))) from (grew_alloc _ _ _)))
                    have HLR9 := Lib.hid (HLR9.out.mono (grew_size (show Grew v2 ((v2.alloc (.cells #[.int .i64 0, .slice none 0 0, .slice none 0 0] 30))) from (grew_alloc _ _ _))))
                    have HBB := Lib.hid (HBB.out.keep (show Grew v2 ((v2.alloc (.cells #[.int .i64 0, .slice none 0 0, .slice none 0 0] 30))) from (grew_alloc _ _ _)))
                    have HLB9 := Lib.hid (HLB9.out.mono (grew_size (show Grew v2 ((v2.alloc (.cells #[.int .i64 0, .slice none 0 0, .slice none 0 0] 30))) from (grew_alloc _ _ _))))
                    have HY : Hid (OwnC ((v2.alloc (.cells #[.int .i64 0, .slice none 0 0, .slice none 0 0] 30))) bY [.int .i64 0, .slice none 0 0, .slice none 0 0]) := OwnC.new v2 [.int .i64 0, .slice none 0 0, .slice none 0 0] _ _ hby
                    have HWy : Hid (w9.heap.size ≤ bY) := by have h1 := grew_size HGG.out; show _ ≤ _; omega
                    have HGG : Hid (Grew w9 ((v2.alloc (.cells #[.int .i64 0, .slice none 0 0, .slice none 0 0] 30)))) := grew_trans HGG.out (grew_alloc _ _ _)
                    clear hby hHeld
                    generalize (v2.alloc (.cells #[.int .i64 0, .slice none 0 0, .slice none 0 0] 30)) = v3 at *
                    have hHeld := HGG.out
                    refine wpAnyH_ready (rs := [4]) (by kernel_rfl) (by simp) ?_
                    refine (AllReadyH.cons (o := { dst := some 18, op := Op.alloc 26, type := 0, pos := "law.go:39", after := #[], guard := none }) rfl (fun K hK => ?_) AllReadyH.nil)
                    go_simp
                    refine hK.out _ _ (grew_trans HGG.out (grew_alloc _ _ _)) (fun hHeld => ?_)
                    clear hK K
                    try simp only [Act.put, List.setIfInBounds_toArray, List.set_cons_zero, List.set_cons_succ]
                    obtain ⟨bx, hbx⟩ : ∃ q, q = v3.heap.size := ⟨_, rfl⟩
                    rw [← hbx]
                    have HNxy : Hid (bx ≠ bY) := by have h1 := HY.out.lt; show _ ≠ _; omega
                    have HNxR : Hid (NeR X1 X2 X3 bx) := HLR9.out.ne (Nat.le_of_eq hbx.symm)
                    have HNxB : Hid (NeR Y1 Y2 none bx) := HLB9.out.ne (Nat.le_of_eq hbx.symm)
                    have HY := Lib.hid (HY.out.keep (show Grew v3 ((v3.alloc (.cells #[.slice none 0 0, .slice none 0 0, .slice none 0 0] 26))) from (grew_alloc _ _ _)))
                    have HRR := Lib.hid (HRR.out.keep (show Grew v3 ((v3.alloc (.cells #[.slice none 0 0, .slice none 0 0, .slice none 0 0] 26))) from (grew_alloc _ _ _)))
                    have HLR9 := Lib.hid (HLR9.out.mono (grew_size (show Grew v3 ((v3.alloc (.cells #[.slice none 0 0, .slice none 0 0, .slice none 0 0] 26))) from (grew_alloc _ _ _))))
                    have HBB := Lib.hid (HBB.out.keep (show Grew v3 ((v3.alloc (.cells #[.slice none 0 0, .slice none 0 0, .slice none 0 0] 26))) from (grew_alloc _ _ _)))
                    have HLB9 := Lib.hid (HLB9.out.mono (grew_size (show Grew v3 ((v3.alloc (.cells #[.slice none 0 0, .slice none 0 0, .slice none 0 0] 26))) from (grew_alloc _ _ _))))
                    have HX : Hid (OwnC ((v3.alloc (.cells #[.slice none 0 0, .slice none 0 0, .slice none 0 0] 26))) bx [.slice none 0 0, .slice none 0 0, .slice none 0 0]) := OwnC.new v3 [.slice none 0 0, .slice none 0 0, .slice none 0 0] _ _ hbx
                    have HWx : Hid (w9.heap.size ≤ bx) := by have h1 := grew_size HGG.out; show _ ≤ _; omega
                    have HGG : Hid (Grew w9 ((v3.alloc (.cells #[.slice none 0 0, .slice none 0 0, .slice none 0 0] 26)))) := grew_trans HGG.out (grew_alloc _ _ _)
                    clear hbx hHeld
                    generalize (v3.alloc (.cells #[.slice none 0 0, .slice none 0 0, .slice none 0 0] 26)) = v4 at *
                    have hHeld := HGG.out
                    refine wpAnyH_ready (rs := [6]) (by kernel_rfl) (by simp) ?_
                    refine (AllReadyH.cons (o := { dst := none, op := Op.store 26 (Operand.tmp 18) (Operand.tmp 97), type := 0, pos := "law.go:39", after := #[{ on := 4, ground := Ground.data }, { on := 1, ground := Ground.data }, { on := 3, ground := Ground.chain }, { on := 0, ground := Ground.phase }, { on := 1, ground := Ground.phase }, { on := 2, ground := Ground.textOnly Departure.lateStores }, { on := 3, ground := Ground.textOnly Departure.lateStoresUnsure }, { on := 4, ground := Ground.phase }, { on := 5, ground := Ground.phase }], guard := none }) rfl (fun K hK => ?_) AllReadyH.nil)
                    have y0 := HX.out.at 0 (.slice none 0 0) rfl; have y1' := HX.out.at 1 (.slice none 0 0) rfl; have y2' := HX.out.at 2 (.slice none 0 0) rfl
                    have g0 := HX.out.fr 0 (by simp); have g1 := HX.out.fr 1 (by simp); have g2 := HX.out.fr 2 (by simp)
                    go_simp
                    refine hK.out _ _ (grew_put bx HWx.out [.slice X1 n1 x1, .slice X2 n2 x2, .slice X3 n3 x3] 0 _ HGG.out) (fun hHeld => ?_)
                    clear hK K y0 y1' y2' g0 g1 g2
                    try simp only [Act.put, List.setIfInBounds_toArray, List.set_cons_zero, List.set_cons_succ]
                    have HGG2 : Hid (Grew w9 (((v4.setCell ⟨bx, 0, none⟩ (.slice X1 n1 x1)).setCell ⟨bx, 1, none⟩ (.slice X2 n2 x2)).setCell ⟨bx, 2, none⟩ (.slice X3 n3 x3))) := grew_put bx HWx.out [.slice X1 n1 x1, .slice X2 n2 x2, .slice X3 n3 x3] 0 _ HGG.out
                    have HX2 : Hid (OwnC (((v4.setCell ⟨bx, 0, none⟩ (.slice X1 n1 x1)).setCell ⟨bx, 1, none⟩ (.slice X2 n2 x2)).setCell ⟨bx, 2, none⟩ (.slice X3 n3 x3)) bx [.slice X1 n1 x1, .slice X2 n2 x2, .slice X3 n3 x3]) := HX.out.all [.slice X1 n1 x1, .slice X2 n2 x2, .slice X3 n3 x3] rfl
                    have HY2 : Hid (OwnC (((v4.setCell ⟨bx, 0, none⟩ (.slice X1 n1 x1)).setCell ⟨bx, 1, none⟩ (.slice X2 n2 x2)).setCell ⟨bx, 2, none⟩ (.slice X3 n3 x3)) bY [.int .i64 0, .slice none 0 0, .slice none 0 0]) := OwnC.putO HNxy.out [.slice X1 n1 x1, .slice X2 n2 x2, .slice X3 n3 x3] 0 _ HY.out
                    have HRR2 : Hid (Rows3 (((v4.setCell ⟨bx, 0, none⟩ (.slice X1 n1 x1)).setCell ⟨bx, 1, none⟩ (.slice X2 n2 x2)).setCell ⟨bx, 2, none⟩ (.slice X3 n3 x3)) r X1 X2 X3 n1 n2 n3) := HRR.out.putN HNxR.out [.slice X1 n1 x1, .slice X2 n2 x2, .slice X3 n3 x3]
                    have HBB2 : Hid (InB (((v4.setCell ⟨bx, 0, none⟩ (.slice X1 n1 x1)).setCell ⟨bx, 1, none⟩ (.slice X2 n2 x2)).setCell ⟨bx, 2, none⟩ (.slice X3 n3 x3)) b Y1 Y2 m1 m2 y1 y2) := HBB.out.putN HNxB.out [.slice X1 n1 x1, .slice X2 n2 x2, .slice X3 n3 x3]
                    clear HGG HX HY HRR HBB hHeld
                    have HGG := HGG2; have HX := HX2; have HY := HY2; have HRR := HRR2; have HBB := HBB2
                    clear HGG2 HX2 HY2 HRR2 HBB2
                    generalize (((v4.setCell ⟨bx, 0, none⟩ (.slice X1 n1 x1)).setCell ⟨bx, 1, none⟩ (.slice X2 n2 x2)).setCell ⟨bx, 2, none⟩ (.slice X3 n3 x3)) = v5 at *
                    have hHeld := HGG.out
                    refine wpAnyH_ready (rs := [7]) (by kernel_rfl) (by simp) ?_
                    refine (AllReadyH.cons (o := { dst := none, op := Op.store 30 (Operand.tmp 19) (Operand.tmp 99), type := 0, pos := "law.go:39", after := #[{ on := 5, ground := Ground.data }, { on := 3, ground := Ground.data }, { on := 6, ground := Ground.chain }, { on := 0, ground := Ground.phase }, { on := 1, ground := Ground.phase }, { on := 2, ground := Ground.phase }, { on := 3, ground := Ground.phase }, { on := 4, ground := Ground.phase }, { on := 5, ground := Ground.phase }, { on := 6, ground := Ground.phase }], guard := none }) rfl (fun K hK => ?_) AllReadyH.nil)
                    have y0 := HY.out.at 0 (.int .i64 0) rfl; have y1' := HY.out.at 1 (.slice none 0 0) rfl; have y2' := HY.out.at 2 (.slice none 0 0) rfl
                    have g0 := HY.out.fr 0 (by simp); have g1 := HY.out.fr 1 (by simp); have g2 := HY.out.fr 2 (by simp)
                    go_simp
                    refine hK.out _ _ (grew_put bY HWy.out [.int .i64 b.1, .slice Y1 m1 y1, .slice Y2 m2 y2] 0 _ HGG.out) (fun hHeld => ?_)
                    clear hK K y0 y1' y2' g0 g1 g2
                    try simp only [Act.put, List.setIfInBounds_toArray, List.set_cons_zero, List.set_cons_succ]
                    have HGG2 : Hid (Grew w9 (((v5.setCell ⟨bY, 0, none⟩ (.int .i64 b.1)).setCell ⟨bY, 1, none⟩ (.slice Y1 m1 y1)).setCell ⟨bY, 2, none⟩ (.slice Y2 m2 y2))) := grew_put bY HWy.out [.int .i64 b.1, .slice Y1 m1 y1, .slice Y2 m2 y2] 0 _ HGG.out
                    have HY2 : Hid (OwnC (((v5.setCell ⟨bY, 0, none⟩ (.int .i64 b.1)).setCell ⟨bY, 1, none⟩ (.slice Y1 m1 y1)).setCell ⟨bY, 2, none⟩ (.slice Y2 m2 y2)) bY [.int .i64 b.1, .slice Y1 m1 y1, .slice Y2 m2 y2]) := HY.out.all [.int .i64 b.1, .slice Y1 m1 y1, .slice Y2 m2 y2] rfl
                    have HX2 : Hid (OwnC (((v5.setCell ⟨bY, 0, none⟩ (.int .i64 b.1)).setCell ⟨bY, 1, none⟩ (.slice Y1 m1 y1)).setCell ⟨bY, 2, none⟩ (.slice Y2 m2 y2)) bx [.slice X1 n1 x1, .slice X2 n2 x2, .slice X3 n3 x3]) := OwnC.putO HNxy.out.symm [.int .i64 b.1, .slice Y1 m1 y1, .slice Y2 m2 y2] 0 _ HX.out
                    have HRR2 : Hid (Rows3 (((v5.setCell ⟨bY, 0, none⟩ (.int .i64 b.1)).setCell ⟨bY, 1, none⟩ (.slice Y1 m1 y1)).setCell ⟨bY, 2, none⟩ (.slice Y2 m2 y2)) r X1 X2 X3 n1 n2 n3) := HRR.out.putN HNyR.out [.int .i64 b.1, .slice Y1 m1 y1, .slice Y2 m2 y2]
                    have HBB2 : Hid (InB (((v5.setCell ⟨bY, 0, none⟩ (.int .i64 b.1)).setCell ⟨bY, 1, none⟩ (.slice Y1 m1 y1)).setCell ⟨bY, 2, none⟩ (.slice Y2 m2 y2)) b Y1 Y2 m1 m2 y1 y2) := HBB.out.putN HNyB.out [.int .i64 b.1, .slice Y1 m1 y1, .slice Y2 m2 y2]
                    clear HGG HX HY HRR HBB hHeld
                    have HGG := HGG2; have HX := HX2; have HY := HY2; have HRR := HRR2; have HBB := HBB2
                    clear HGG2 HX2 HY2 HRR2 HBB2
                    generalize (((v5.setCell ⟨bY, 0, none⟩ (.int .i64 b.1)).setCell ⟨bY, 1, none⟩ (.slice Y1 m1 y1)).setCell ⟨bY, 2, none⟩ (.slice Y2 m2 y2)) = v6 at *
                    have hHeld := HGG.out
                    refine wpAnyH_done (by kernel_rfl) ?_ _
                    clear hHeld
                    apply_assumption
                    go_meet
                    case rel => exact ⟨bx, bY, X1, X2, X3, Y1, Y2, x1, x2, x3, y1, y2, rfl, rfl, HX.out, HY.out, HRR.out, HBB.out, HGG.out⟩
                · go_simp
                  refine hK.out _ _ (grew_trans HGG.out (grew_alloc _ _ _)) (fun hHeld => ?_)
                  clear hK K
                  try simp only [Act.put, List.setIfInBounds_toArray, List.set_cons_zero, List.set_cons_succ]
                  obtain ⟨bx, hbx⟩ : ∃ q, q = v1.heap.size := ⟨_, rfl⟩
                  rw [← hbx]
                  have HNxR : Hid (NeR X1 X2 X3 bx) := HLR9.out.ne (Nat.le_of_eq hbx.symm)
                  have HRR := Lib.hid (HRR.out.keep (show Grew v1 ((v1.alloc (.cells #[.slice none 0 0, .slice none 0 0, .slice none 0 0] 26))) from (grew_alloc _ _ _)))
                  have HLR9 := Lib.hid (HLR9.out.mono (grew_size (show Grew v1 ((v1.alloc (.cells #[.slice none 0 0, .slice none 0 0, .slice none 0 0] 26))) from (grew_alloc _ _ _))))
                  have HX : Hid (OwnC ((v1.alloc (.cells #[.slice none 0 0, .slice none 0 0, .slice none 0 0] 26))) bx [.slice none 0 0, .slice none 0 0, .slice none 0 0]) := OwnC.new v1 [.slice none 0 0, .slice none 0 0, .slice none 0 0] _ _ hbx
                  have HWx : Hid (w9.heap.size ≤ bx) := by have h1 := grew_size HGG.out; show _ ≤ _; omega
                  have HGG : Hid (Grew w9 ((v1.alloc (.cells #[.slice none 0 0, .slice none 0 0, .slice none 0 0] 26)))) := grew_trans HGG.out (grew_alloc _ _ _)
                  clear hbx hHeld
                  generalize (v1.alloc (.cells #[.slice none 0 0, .slice none 0 0, .slice none 0 0] 26)) = v2 at *
                  have hHeld := HGG.out
                  refine wpAnyH_ready (rs := [3, 5]) (by kernel_rfl) (by simp) ?_
                  refine (AllReadyH.cons (o := { dst := some 99, op := Op.call { callee := Callee.value (Operand.func 16), args := #[Operand.tmp 98], argTypes := #[30] }, type := 30, pos := "law.go:39", after := #[{ on := 2, ground := Ground.data }, { on := 1, ground := Ground.chain }], guard := none }) rfl (fun K hK => ?_) (AllReadyH.cons (o := { dst := some 19, op := Op.alloc 30, type := 0, pos := "law.go:39", after := #[], guard := none }) rfl (fun K hK => ?_) AllReadyH.nil))
                  · go_simp
                    (go_at_call 16; (with_reducible refine (CTB _ (grew_trans HG9.out HGG.out)).mono ?_); rintro e v3 ⟨Y1, Y2, y1, y2, rfl, ho, hg⟩)
                    have HNxB : Hid (NeR Y1 Y2 none bx) := ⟨fun x hx => by have h1 := (ho.t.block x hx).1; have h2 := HX.out.lt; omega, fun x hx => by have h1 := (ho.p.block x hx).1; have h2 := HX.out.lt; omega, fun x hx => by cases hx⟩
                    have HX := Lib.hid (HX.out.keep hg)
                    have HRR := Lib.hid (HRR.out.keep hg)
                    have HLR9 := Lib.hid (HLR9.out.mono (grew_size hg))
                    have HBB : Hid (InB v3 b Y1 Y2 m1 m2 y1 y2) := (by have h9 := ho.in; rw [HL1.out, HL2.out] at h9; exact h9)
                    have HLB9 : Hid (LtR Y1 Y2 none v3.heap.size) := ⟨fun x hx => (ho.t.block x hx).2, fun x hx => (ho.p.block x hx).2, fun x hx => by cases hx⟩
                    have HGG : Hid (Grew w9 v3) := grew_trans HGG.out hg
                    clear ho hg
                    refine hK.out _ _ HGG.out (fun hHeld => ?_)
                    clear hK K
                    try simp only [Act.put, List.setIfInBounds_toArray, List.set_cons_zero, List.set_cons_succ]
                    refine wpAnyH_ready (rs := [5]) (by kernel_rfl) (by simp) ?_
                    refine (AllReadyH.cons (o := { dst := some 19, op := Op.alloc 30, type := 0, pos := "law.go:39", after := #[], guard := none }) rfl (fun K hK => ?_) AllReadyH.nil)
                    go_simp
                    refine hK.out _ _ (grew_trans HGG.out (grew_alloc _ _ _)) (fun hHeld => ?_)
                    clear hK K
                    try simp only [Act.put, List.setIfInBounds_toArray, List.set_cons_zero, List.set_cons_succ]
                    obtain ⟨bY, hby⟩ : ∃ q, q = v3.heap.size := ⟨_, rfl⟩
                    rw [← hby]
                    have HNxy : Hid (bx ≠ bY) := by have h1 := HX.out.lt; show _ ≠ _; omega
                    have HNyR : Hid (NeR X1 X2 X3 bY) := HLR9.out.ne (Nat.le_of_eq hby.symm)
                    have HNyB : Hid (NeR Y1 Y2 none bY) := HLB9.out.ne (Nat.le_of_eq hby.symm)
                    have HX := Lib.hid (HX.out.keep (show Grew v3 ((v3.alloc (.cells #[.int .i64 0, .slice none 0 0, .slice none 0 0] 30))) from (grew_alloc _ _ _)))
                    have HRR := Lib.hid (HRR.out.keep (show Grew v3 ((v3.alloc (.cells #[.int .i64 0, .slice none 0 0, .slice none 0 0] 30))) from (grew_alloc _ _ _)))
                    have HLR9 := Lib.hid (HLR9.out.mono (grew_size (show Grew v3 ((v3.alloc (.cells #[.int .i64 0, .slice none 0 0, .slice none 0 0] 30))) from (grew_alloc _ _ _))))
                    have HBB := Lib.hid (HBB.out.keep (show Grew v3 ((v3.alloc (.cells #[.int .i64 0, .slice none 0 0, .slice none 0 0] 30))) from (grew_alloc _ _ _)))
                    have HLB9 := Lib.hid (HLB9.out.mono (grew_size (show Grew v3 ((v3.alloc (.cells #[.int .i64 0, .slice none 0 0, .slice none 0 0] 30))) from (grew_alloc _ _ _))))
                    have HY : Hid (OwnC ((v3.alloc (.cells #[.int .i64 0, .slice none 0 0, .slice none 0 0] 30))) bY [.int .i64 0, .slice none 0 0, .slice none 0 0]) := OwnC.new v3 [.int .i64 0, .slice none 0 0, .slice none 0 0] _ _ hby
                    have HWy : Hid (w9.heap.size ≤ bY) := by have h1 := grew_size HGG.out; show _ ≤ _; omega
                    have HGG : Hid (Grew w9 ((v3.alloc (.cells #[.int .i64 0, .slice none 0 0, .slice none 0 0] 30)))) := grew_trans HGG.out (grew_alloc _ _ _)
                    clear hby hHeld
                    generalize (v3.alloc (.cells #[.int .i64 0, .slice none 0 0, .slice none 0 0] 30)) = v4 at *
                    have hHeld := HGG.out
                    refine wpAnyH_ready (rs := [6]) (by kernel_rfl) (by simp) ?_
                    refine (AllReadyH.cons (o := { dst := none, op := Op.store 26 (Operand.tmp 18) (Operand.tmp 97), type := 0, pos := "law.go:39", after := #[{ on := 4, ground := Ground.data }, { on := 1, ground := Ground.data }, { on := 3, ground := Ground.chain }, { on := 0, ground := Ground.phase }, { on := 1, ground := Ground.phase }, { on := 2, ground := Ground.textOnly Departure.lateStores }, { on := 3, ground := Ground.textOnly Departure.lateStoresUnsure }, { on := 4, ground := Ground.phase }, { on := 5, ground := Ground.phase }], guard := none }) rfl (fun K hK => ?_) AllReadyH.nil)
                    have y0 := HX.out.at 0 (.slice none 0 0) rfl; have y1' := HX.out.at 1 (.slice none 0 0) rfl; have y2' := HX.out.at 2 (.slice none 0 0) rfl
                    have g0 := HX.out.fr 0 (by simp); have g1 := HX.out.fr 1 (by simp); have g2 := HX.out.fr 2 (by simp)
                    go_simp
                    refine hK.out _ _ (grew_put bx HWx.out [.slice X1 n1 x1, .slice X2 n2 x2, .slice X3 n3 x3] 0 _ HGG.out) (fun hHeld => ?_)
                    clear hK K y0 y1' y2' g0 g1 g2
                    try simp only [Act.put, List.setIfInBounds_toArray, List.set_cons_zero, List.set_cons_succ]
                    have HGG2 : Hid (Grew w9 (((v4.setCell ⟨bx, 0, none⟩ (.slice X1 n1 x1)).setCell ⟨bx, 1, none⟩ (.slice X2 n2 x2)).setCell ⟨bx, 2, none⟩ (.slice X3 n3 x3))) := grew_put bx HWx.out [.slice X1 n1 x1, .slice X2 n2 x2, .slice X3 n3 x3] 0 _ HGG.out
                    have HX2 : Hid (OwnC (((v4.setCell ⟨bx, 0, none⟩ (.slice X1 n1 x1)).setCell ⟨bx, 1, none⟩ (.slice X2 n2 x2)).setCell ⟨bx, 2, none⟩ (.slice X3 n3 x3)) bx [.slice X1 n1 x1, .slice X2 n2 x2, .slice X3 n3 x3]) := HX.out.all [.slice X1 n1 x1, .slice X2 n2 x2, .slice X3 n3 x3] rfl
                    have HY2 : Hid (OwnC (((v4.setCell ⟨bx, 0, none⟩ (.slice X1 n1 x1)).setCell ⟨bx, 1, none⟩ (.slice X2 n2 x2)).setCell ⟨bx, 2, none⟩ (.slice X3 n3 x3)) bY [.int .i64 0, .slice none 0 0, .slice none 0 0]) := OwnC.putO HNxy.out [.slice X1 n1 x1, .slice X2 n2 x2, .slice X3 n3 x3] 0 _ HY.out
                    have HRR2 : Hid (Rows3 (((v4.setCell ⟨bx, 0, none⟩ (.slice X1 n1 x1)).setCell ⟨bx, 1, none⟩ (.slice X2 n2 x2)).setCell ⟨bx, 2, none⟩ (.slice X3 n3 x3)) r X1 X2 X3 n1 n2 n3) := HRR.out.putN HNxR.out [.slice X1 n1 x1, .slice X2 n2 x2, .slice X3 n3 x3]
                    have HBB2 : Hid (InB (((v4.setCell ⟨bx, 0, none⟩ (.slice X1 n1 x1)).setCell ⟨bx, 1, none⟩ (.slice X2 n2 x2)).setCell ⟨bx, 2, none⟩ (.slice X3 n3 x3)) b Y1 Y2 m1 m2 y1 y2) := HBB.out.putN HNxB.out [.slice X1 n1 x1, .slice X2 n2 x2, .slice X3 n3 x3]
                    clear HGG HX HY HRR HBB hHeld
                    have HGG := HGG2; have HX := HX2; have HY := HY2; have HRR := HRR2; have HBB := HBB2
                    clear HGG2 HX2 HY2 HRR2 HBB2
                    generalize (((v4.setCell ⟨bx, 0, none⟩ (.slice X1 n1 x1)).setCell ⟨bx, 1, none⟩ (.slice X2 n2 x2)).setCell ⟨bx, 2, none⟩ (.slice X3 n3 x3)) = v5 at *
                    have hHeld := HGG.out
                    refine wpAnyH_ready (rs := [7]) (by kernel_rfl) (by simp) ?_
                    refine (AllReadyH.cons (o := { dst := none, op := Op.store 30 (Operand.tmp 19) (Operand.tmp 99), type := 0, pos := "law.go:39", after := #[{ on := 5, ground := Ground.data }, { on := 3, ground := Ground.data }, { on := 6, ground := Ground.chain }, { on := 0, ground := Ground.phase }, { on := 1, ground := Ground.phase }, { on := 2, ground := Ground.phase }, { on := 3, ground := Ground.phase }, { on := 4, ground := Ground.phase }, { on := 5, ground := Ground.phase }, { on := 6, ground := Ground.phase }], guard := none }) rfl (fun K hK => ?_) AllReadyH.nil)
                    have y0 := HY.out.at 0 (.int .i64 0) rfl; have y1' := HY.out.at 1 (.slice none 0 0) rfl; have y2' := HY.out.at 2 (.slice none 0 0) rfl
                    have g0 := HY.out.fr 0 (by simp); have g1 := HY.out.fr 1 (by simp); have g2 := HY.out.fr 2 (by simp)
                    go_simp
                    refine hK.out _ _ (grew_put bY HWy.out [.int .i64 b.1, .slice Y1 m1 y1, .slice Y2 m2 y2] 0 _ HGG.out) (fun hHeld => ?_)
                    clear hK K y0 y1' y2' g0 g1 g2
                    try simp only [Act.put, List.setIfInBounds_toArray, List.set_cons_zero, List.set_cons_succ]
                    have HGG2 : Hid (Grew w9 (((v5.setCell ⟨bY, 0, none⟩ (.int .i64 b.1)).setCell ⟨bY, 1, none⟩ (.slice Y1 m1 y1)).setCell ⟨bY, 2, none⟩ (.slice Y2 m2 y2))) := grew_put bY HWy.out [.int .i64 b.1, .slice Y1 m1 y1, .slice Y2 m2 y2] 0 _ HGG.out
                    have HY2 : Hid (OwnC (((v5.setCell ⟨bY, 0, none⟩ (.int .i64 b.1)).setCell ⟨bY, 1, none⟩ (.slice Y1 m1 y1)).setCell ⟨bY, 2, none⟩ (.slice Y2 m2 y2)) bY [.int .i64 b.1, .slice Y1 m1 y1, .slice Y2 m2 y2]) := HY.out.all [.int .i64 b.1, .slice Y1 m1 y1, .slice Y2 m2 y2] rfl
                    have HX2 : Hid (OwnC (((v5.setCell ⟨bY, 0, none⟩ (.int .i64 b.1)).setCell ⟨bY, 1, none⟩ (.slice Y1 m1 y1)).setCell ⟨bY, 2, none⟩ (.slice Y2 m2 y2)) bx [.slice X1 n1 x1, .slice X2 n2 x2, .slice X3 n3 x3]) := OwnC.putO HNxy.out.symm [.int .i64 b.1, .slice Y1 m1 y1, .slice Y2 m2 y2] 0 _ HX.out
                    have HRR2 : Hid (Rows3 (((v5.setCell ⟨bY, 0, none⟩ (.int .i64 b.1)).setCell ⟨bY, 1, none⟩ (.slice Y1 m1 y1)).setCell ⟨bY, 2, none⟩ (.slice Y2 m2 y2)) r X1 X2 X3 n1 n2 n3) := HRR.out.putN HNyR.out [.int .i64 b.1, .slice Y1 m1 y1, .slice Y2 m2 y2]
                    have HBB2 : Hid (InB (((v5.setCell ⟨bY, 0, none⟩ (.int .i64 b.1)).setCell ⟨bY, 1, none⟩ (.slice Y1 m1 y1)).setCell ⟨bY, 2, none⟩ (.slice Y2 m2 y2)) b Y1 Y2 m1 m2 y1 y2) := HBB.out.putN HNyB.out [.int .i64 b.1, .slice Y1 m1 y1, .slice Y2 m2 y2]
                    clear HGG HX HY HRR HBB hHeld
                    have HGG := HGG2; have HX := HX2; have HY := HY2; have HRR := HRR2; have HBB := HBB2
                    clear HGG2 HX2 HY2 HRR2 HBB2
                    generalize (((v5.setCell ⟨bY, 0, none⟩ (.int .i64 b.1)).setCell ⟨bY, 1, none⟩ (.slice Y1 m1 y1)).setCell ⟨bY, 2, none⟩ (.slice Y2 m2 y2)) = v6 at *
                    have hHeld := HGG.out
                    refine wpAnyH_done (by kernel_rfl) ?_ _
                    clear hHeld
                    apply_assumption
                    go_meet
                    case rel => exact ⟨bx, bY, X1, X2, X3, Y1, Y2, x1, x2, x3, y1, y2, rfl, rfl, HX.out, HY.out, HRR.out, HBB.out, HGG.out⟩
                  · go_simp
                    refine hK.out _ _ (grew_trans HGG.out (grew_alloc _ _ _)) (fun hHeld => ?_)
                    clear hK K
                    try simp only [Act.put, List.setIfInBounds_toArray, List.set_cons_zero, List.set_cons_succ]
                    obtain ⟨bY, hby⟩ : ∃ q, q = v2.heap.size := ⟨_, rfl⟩
                    rw [← hby]
                    have HNxy : Hid (bx ≠ bY) := by have h1 := HX.out.lt; show _ ≠ _; omega
                    have HNyR : Hid (NeR X1 X2 X3 bY) := HLR9.out.ne (Nat.le_of_eq hby.symm)
                    have HX := Lib.hid (HX.out.keep (show Grew v2 ((v2.alloc (.cells #[.int .i64 0, .slice none 0 0, .slice none 0 0] 30))) from (grew_alloc _ _ _)))
                    have HRR := Lib.hid (HRR.out.keep (show Grew v2 ((v2.alloc (.cells #[.int .i64 0, .slice none 0 0, .slice none 0 0] 30))) from (grew_alloc _ _ _)))
                    have HLR9 := Lib.hid (HLR9.out.mono (grew_size (show Grew v2 ((v2.alloc (.cells #[.int .i64 0, .slice none 0 0, .slice none 0 0] 30))) from (grew_alloc _ _ _))))
                    have HY : Hid (OwnC ((v2.alloc (.cells #[.int .i64 0, .slice none 0 0, .slice none 0 0] 30))) bY [.int .i64 0, .slice none 0 0, .slice none 0 0]) := OwnC.new v2 [.int .i64 0, .slice none 0 0, .slice none 0 0] _ _ hby
                    have HWy : Hid (w9.heap.size ≤ bY) := by have h1 := grew_size HGG.out; show _ ≤ _; omega
                    have HGG : Hid (Grew w9 ((v2.alloc (.cells #[.int .i64 0, .slice none 0 0, .slice none 0 0] 30)))) := grew_trans HGG.out (grew_alloc _ _ _)
                    clear hby hHeld
                    generalize (v2.alloc (.cells #[.int .i64 0, .slice none 0 0, .slice none 0 0] 30)) = v3 at *
                    have hHeld := HGG.out
                    refine wpAnyH_ready (rs := [3]) (by kernel_rfl) (by simp) ?_
                    refine (AllReadyH.cons (o := { dst := some 99, op := Op.call { callee := Callee.value (Operand.func 16), args := #[Operand.tmp 98], argTypes := #[30] }, type := 30, pos := "law.go:39", after := #[{ on := 2, ground := Ground.data }, { on := 1, ground := Ground.chain }], guard := none }) rfl (fun K hK => ?_) AllReadyH.nil)
                    go_simp
                    (go_at_call 16; (with_reducible refine (CTB _ (grew_trans HG9.out HGG.out)).mono ?_); rintro e v4 ⟨Y1, Y2, y1, y2, rfl, ho, hg⟩)
                    have HNxB : Hid (NeR Y1 Y2 none bx) := ⟨fun x hx => by have h1 := (ho.t.block x hx).1; have h2 := HX.out.lt; omega, fun x hx => by have h1 := (ho.p.block x hx).1; have h2 := HX.out.lt; omega, fun x hx => by cases hx⟩
                    have HNyB : Hid (NeR Y1 Y2 none bY) := ⟨fun x hx => by have h1 := (ho.t.block x hx).1; have h2 := HY.out.lt; omega, fun x hx => by have h1 := (ho.p.block x hx).1; have h2 := HY.out.lt; omega, fun x hx => by cases hx⟩
                    have HX := Lib.hid (HX.out.keep hg)
                    have HY := Lib.hid (HY.out.keep hg)
                    have HRR := Lib.hid (HRR.out.keep hg)
                    have HLR9 := Lib.hid (HLR9.out.mono (grew_size hg))
                    have HBB : Hid (InB v4 b Y1 Y2 m1 m2 y1 y2) := (by have h9 := ho.in; rw [HL1.out, HL2.out] at h9; exact h9)
                    have HLB9 : Hid (LtR Y1 Y2 none v4.heap.size) := ⟨fun x hx => (ho.t.block x hx).2, fun x hx => (ho.p.block x hx).2, fun x hx => by cases hx⟩
                    have HGG : Hid (Grew w9 v4) := grew_trans HGG.out hg
                    clear ho hg
                    refine hK.out _ _ HGG.out (fun hHeld => ?_)
                    clear hK K
                    try simp only [Act.put, List.setIfInBounds_toArray, List.set_cons_zero, List.set_cons_succ]
                    refine wpAnyH_ready (rs := [6]) (by kernel_rfl) (by simp) ?_
                    refine (AllReadyH.cons (o := { dst := none, op := Op.store 26 (Operand.tmp 18) (Operand.tmp 97), type := 0, pos := "law.go:39", after := #[{ on := 4, ground := Ground.data }, { on := 1, ground := Ground.data }, { on := 3, ground := Ground.chain }, { on := 0, ground := Ground.phase }, { on := 1, ground := Ground.phase }, { on := 2, ground := Ground.textOnly Departure.lateStores }, { on := 3, ground := Ground.textOnly Departure.lateStoresUnsure }, { on := 4, ground := Ground.phase }, { on := 5, ground := Ground.phase }], guard := none }) rfl (fun K hK => ?_) AllReadyH.nil)
                    have y0 := HX.out.at 0 (.slice none 0 0) rfl; have y1' := HX.out.at 1 (.slice none 0 0) rfl; have y2' := HX.out.at 2 (.slice none 0 0) rfl
                    have g0 := HX.out.fr 0 (by simp); have g1 := HX.out.fr 1 (by simp); have g2 := HX.out.fr 2 (by simp)
                    go_simp
                    refine hK.out _ _ (grew_put bx HWx.out [.slice X1 n1 x1, .slice X2 n2 x2, .slice X3 n3 x3] 0 _ HGG.out) (fun hHeld => ?_)
                    clear hK K y0 y1' y2' g0 g1 g2
                    try simp only [Act.put, List.setIfInBounds_toArray, List.set_cons_zero, List.set_cons_succ]
                    have HGG2 : Hid (Grew w9 (((v4.setCell ⟨bx, 0, none⟩ (.slice X1 n1 x1)).setCell ⟨bx, 1, none⟩ (.slice X2 n2 x2)).setCell ⟨bx, 2, none⟩ (.slice X3 n3 x3))) := grew_put bx HWx.out [.slice X1 n1 x1, .slice X2 n2 x2, .slice X3 n3 x3] 0 _ HGG.out
                    have HX2 : Hid (OwnC (((v4.setCell ⟨bx, 0, none⟩ (.slice X1 n1 x1)).setCell ⟨bx, 1, none⟩ (.slice X2 n2 x2)).setCell ⟨bx, 2, none⟩ (.slice X3 n3 x3)) bx [.slice X1 n1 x1, .slice X2 n2 x2, .slice X3 n3 x3]) := HX.out.all [.slice X1 n1 x1, .slice X2 n2 x2, .slice X3 n3 x3] rfl
                    have HY2 : Hid (OwnC (((v4.setCell ⟨bx, 0, none⟩ (.slice X1 n1 x1)).setCell ⟨bx, 1, none⟩ (.slice X2 n2 x2)).setCell ⟨bx, 2, none⟩ (.slice X3 n3 x3)) bY [.int .i64 0, .slice none 0 0, .slice none 0 0]) := OwnC.putO HNxy.out [.slice X1 n1 x1, .slice X2 n2 x2, .slice X3 n3 x3] 0 _ HY.out
                    have HRR2 : Hid (Rows3 (((v4.setCell ⟨bx, 0, none⟩ (.slice X1 n1 x1)).setCell ⟨bx, 1, none⟩ (.slice X2 n2 x2)).setCell ⟨bx, 2, none⟩ (.slice X3 n3 x3)) r X1 X2 X3 n1 n2 n3) := HRR.out.putN HNxR.out [.slice X1 n1 x1, .slice X2 n2 x2, .slice X3 n3 x3]
                    have HBB2 : Hid (InB (((v4.setCell ⟨bx, 0, none⟩ (.slice X1 n1 x1)).setCell ⟨bx, 1, none⟩ (.slice X2 n2 x2)).setCell ⟨bx, 2, none⟩ (.slice X3 n3 x3)) b Y1 Y2 m1 m2 y1 y2) := HBB.out.putN HNxB.out [.slice X1 n1 x1, .slice X2 n2 x2, .slice X3 n3 x3]
                    clear HGG HX HY HRR HBB hHeld
                    have HGG := HGG2; have HX := HX2; have HY := HY2; have HRR := HRR2; have HBB := HBB2
                    clear HGG2 HX2 HY2 HRR2 HBB2
                    generalize (((v4.setCell ⟨bx, 0, none⟩ (.slice X1 n1 x1)).setCell ⟨bx, 1, none⟩ (.slice X2 n2 x2)).setCell ⟨bx, 2, none⟩ (.slice X3 n3 x3)) = v5 at *
                    have hHeld := HGG.out
                    refine wpAnyH_ready (rs := [7]) (by kernel_rfl) (by simp) ?_
                    refine (AllReadyH.cons (o := { dst := none, op := Op.store 30 (Operand.tmp 19) (Operand.tmp 99), type := 0, pos := "law.go:39", after := #[{ on := 5, ground := Ground.data }, { on := 3, ground := Ground.data }, { on := 6, ground := Ground.chain }, { on := 0, ground := Ground.phase }, { on := 1, ground := Ground.phase }, { on := 2, ground := Ground.phase }, { on := 3, ground := Ground.phase }, { on := 4, ground := Ground.phase }, { on := 5, ground := Ground.phase }, { on := 6, ground := Ground.phase }], guard := none }) rfl (fun K hK => ?_) AllReadyH.nil)
                    have y0 := HY.out.at 0 (.int .i64 0) rfl; have y1' := HY.out.at 1 (.slice none 0 0) rfl; have y2' := HY.out.at 2 (.slice none 0 0) rfl
                    have g0 := HY.out.fr 0 (by simp); have g1 := HY.out.fr 1 (by simp); have g2 := HY.out.fr 2 (by simp)
                    go_simp
                    refine hK.out _ _ (grew_put bY HWy.out [.int .i64 b.1, .slice Y1 m1 y1, .slice Y2 m2 y2] 0 _ HGG.out) (fun hHeld => ?_)
                    clear hK K y0 y1' y2' g0 g1 g2
                    try simp only [Act.put, List.setIfInBounds_toArray, List.set_cons_zero, List.set_cons_succ]
                    have HGG2 : Hid (Grew w9 (((v5.setCell ⟨bY, 0, none⟩ (.int .i64 b.1)).setCell ⟨bY, 1, none⟩ (.slice Y1 m1 y1)).setCell ⟨bY, 2, none⟩ (.slice Y2 m2 y2))) := grew_put bY HWy.out [.int .i64 b.1, .slice Y1 m1 y1, .slice Y2 m2 y2] 0 _ HGG.out
                    have HY2 : Hid (OwnC (((v5.setCell ⟨bY, 0, none⟩ (.int .i64 b.1)).setCell ⟨bY, 1, none⟩ (.slice Y1 m1 y1)).setCell ⟨bY, 2, none⟩ (.slice Y2 m2 y2)) bY [.int .i64 b.1, .slice Y1 m1 y1, .slice Y2 m2 y2]) := HY.out.all [.int .i64 b.1, .slice Y1 m1 y1, .slice Y2 m2 y2] rfl
                    have HX2 : Hid (OwnC (((v5.setCell ⟨bY, 0, none⟩ (.int .i64 b.1)).setCell ⟨bY, 1, none⟩ (.slice Y1 m1 y1)).setCell ⟨bY, 2, none⟩ (.slice Y2 m2 y2)) bx [.slice X1 n1 x1, .slice X2 n2 x2, .slice X3 n3 x3]) := OwnC.putO HNxy.out.symm [.int .i64 b.1, .slice Y1 m1 y1, .slice Y2 m2 y2] 0 _ HX.out
                    have HRR2 : Hid (Rows3 (((v5.setCell ⟨bY, 0, none⟩ (.int .i64 b.1)).setCell ⟨bY, 1, none⟩ (.slice Y1 m1 y1)).setCell ⟨bY, 2, none⟩ (.slice Y2 m2 y2)) r X1 X2 X3 n1 n2 n3) := HRR.out.putN HNyR.out [.int .i64 b.1, .slice Y1 m1 y1, .slice Y2 m2 y2]
                    have HBB2 : Hid (InB (((v5.setCell ⟨bY, 0, none⟩ (.int .i64 b.1)).setCell ⟨bY, 1, none⟩ (.slice Y1 m1 y1)).setCell ⟨bY, 2, none⟩ (.slice Y2 m2 y2)) b Y1 Y2 m1 m2 y1 y2) := HBB.out.putN HNyB.out [.int .i64 b.1, .slice Y1 m1 y1, .slice Y2 m2 y2]
                    clear HGG HX HY HRR HBB hHeld
                    have HGG := HGG2; have HX := HX2; have HY := HY2; have HRR := HRR2; have HBB := HBB2
                    clear HGG2 HX2 HY2 HRR2 HBB2
                    generalize (((v5.setCell ⟨bY, 0, none⟩ (.int .i64 b.1)).setCell ⟨bY, 1, none⟩ (.slice Y1 m1 y1)).setCell ⟨bY, 2, none⟩ (.slice Y2 m2 y2)) = v6 at *
                    have hHeld := HGG.out
                    refine wpAnyH_done (by kernel_rfl) ?_ _
                    clear hHeld
                    apply_assumption
                    go_meet
                    case rel => exact ⟨bx, bY, X1, X2, X3, Y1, Y2, x1, x2, x3, y1, y2, rfl, rfl, HX.out, HY.out, HRR.out, HBB.out, HGG.out⟩
                · go_simp
                  refine hK.out _ _ (grew_trans HGG.out (grew_alloc _ _ _)) (fun hHeld => ?_)
                  clear hK K
                  try simp only [Act.put, List.setIfInBounds_toArray, List.set_cons_zero, List.set_cons_succ]
                  obtain ⟨bY, hby⟩ : ∃ q, q = v1.heap.size := ⟨_, rfl⟩
                  rw [← hby]
                  have HNyR : Hid (NeR X1 X2 X3 bY) := HLR9.out.ne (Nat.le_of_eq hby.symm)
                  have HRR := Lib.hid (HRR.out.keep (show Grew v1 ((v1.alloc (.cells #[.int .i64 0, .slice none 0 0, .slice none 0 0] 30))) from (grew_alloc _ _ _)))
                  have HLR9 := Lib.hid (HLR9.out.mono (grew_size (show Grew v1 ((v1.alloc (.cells #[.int .i64 0, .slice none 0 0, .slice none 0 0] 30))) from (grew_alloc _ _ _))))
                  have HY : Hid (OwnC ((v1.alloc (.cells #[.int .i64 0, .slice none 0 0, .slice none 0 0] 30))) bY [.int .i64 0, .slice none 0 0, .slice none 0 0]) := OwnC.new v1 [.int .i64 0, .slice none 0 0, .slice none 0 0] _ _ hby
                  have HWy : Hid (w9.heap.size ≤ bY) := by have h1 := grew_size HGG.out; show _ ≤ _; omega
                  have HGG : Hid (Grew w9 ((v1.alloc (.cells #[.int .i64 0, .slice none 0 0, .slice none 0 0] 30)))) := grew_trans HGG.out (grew_alloc _ _ _)
                  clear hby hHeld
                  generalize (v1.alloc (.cells #[.int .i64 0, .slice none 0 0, .slice none 0 0] 30)) = v2 at *
                  have hHeld := HGG.out
                  refine wpAnyH_ready (rs := [3, 4]) (by kernel_rfl) (by simp) ?_
                  refine (AllReadyH.cons (o := { dst := some 99, op := Op.call { callee := Callee.value (Operand.func 16), args := #[Operand.tmp 98], argTypes := #[30] }, type := 30, pos := "law.go:39", after := #[{ on := 2, ground := Ground.data }, { on := 1, ground := Ground.chain }], guard := none }) rfl (fun K hK => ?_) (AllReadyH.cons (o := { dst := some 18, op := Op.alloc 26, type := 0, pos := "law.go:39", after := #[], guard := none }) rfl (fun K hK => ?_) AllReadyH.nil))
                  · go_simp
                    (go_at_call 16; (with_reducible refine (CTB _ (grew_trans HG9.out HGG.out)).mono ?_); rintro e v3 ⟨Y1, Y2, y1, y2, rfl, ho, hg⟩)
                    have HNyB : Hid (NeR Y1 Y2 none bY) := ⟨fun x hx => by have h1 := (ho.t.block x hx).1; have h2 := HY.out.lt; omega, fun x hx => by have h1 := (ho.p.block x hx).1; have h2 := HY.out.lt; omega, fun x hx => by cases hx⟩
                    have HY := Lib.hid (HY.out.keep hg)
                    have HRR := Lib.hid (HRR.out.keep hg)
                    have HLR9 := Lib.hid (HLR9.out.mono (grew_size hg))
                    have HBB : Hid (InB v3 b Y1 Y2 m1 m2 y1 y2) := (by have h9 := ho.in; rw [HL1.out, HL2.out] at h9; exact h9)
                    have HLB9 : Hid (LtR Y1 Y2 none v3.heap.size) := ⟨fun x hx => (ho.t.block x hx).2, fun x hx => (ho.p.block x hx).2, fun x hx => by cases hx⟩
                    have HGG : Hid (Grew w9 v3) := grew_trans HGG.out hg
                    clear ho hg
                    refine hK.out _ _ HGG.out (fun hHeld => ?_)
                    clear hK K
                    try simp only [Act.put, List.setIfInBounds_toArray, List.set_cons_zero, List.set_cons_succ]
                    refine wpAnyH_ready (rs := [4]) (by kernel_rfl) (by simp) ?_
                    refine (AllReadyH.cons (o := { dst := some 18, op := Op.alloc 26, type := 0, pos := "law.go:39", after := #[], guard := none }) rfl (fun K hK => ?_) AllReadyH.nil)
                    go_simp
                    refine hK.out _ _ (grew_trans HGG.out (grew_alloc _ _ _)) (fun hHeld => ?_)
                    clear hK K
                    try simp only [Act.put, List.setIfInBounds_toArray, List.set_cons_zero, List.set_cons_succ]
                    obtain ⟨bx, hbx⟩ : ∃ q, q = v3.heap.size := ⟨_, rfl⟩
                    rw [← hbx]
                    have HNxy : Hid (bx ≠ bY) := by have h1 := HY.out.lt; show _ ≠ _; omega
                    have HNxR : Hid (NeR X1 X2 X3 bx) := HLR9.out.ne (Nat.le_of_eq hbx.symm)
                    have HNxB : Hid (NeR Y1 Y2 none bx) := HLB9.out.ne (Nat.le_of_eq hbx.symm)
                    have HY := Lib.hid (HY.out.keep (show Grew v3 ((v3.alloc (.cells #[.slice none 0 0, .slice none 0 0, .slice none 0 0] 26))) from (grew_alloc _ _ _)))
                    have HRR := Lib.hid (HRR.out.keep (show Grew v3 ((v3.alloc (.cells #[.slice none 0 0, .slice none 0 0, .slice none 0 0] 26))) from (grew_alloc _ _ _)))
                    have HLR9 := Lib.hid (HLR9.out.mono (grew_size (show Grew v3 ((v3.alloc (.cells #[.slice none 0 0, .slice none 0 0, .slice none 0 0] 26))) from (grew_alloc _ _ _))))
                    have HBB := Lib.hid (HBB.out.keep (show Grew v3 ((v3.alloc (.cells #[.slice none 0 0, .slice none 0 0, .slice none 0 0] 26))) from (grew_alloc _ _ _)))
                    have HLB9 := Lib.hid (HLB9.out.mono (grew_size (show Grew v3 ((v3.alloc (.cells #[.slice none 0 0, .slice none 0 0, .slice none 0 0] 26))) from (grew_alloc _ _ _))))
                    have HX : Hid (OwnC ((v3.alloc (.cells #[.slice none 0 0, .slice none 0 0, .slice none 0 0] 26))) bx [.slice none 0 0, .slice none 0 0, .slice none 0 0]) := OwnC.new v3 [.slice none 0 0, .slice none 0 0, .slice none 0 0] _ _ hbx
                    have HWx : Hid (w9.heap.size ≤ bx) := by have h1 := grew_size HGG.out; show _ ≤ _; omega
                    have HGG : Hid (Grew w9 ((v3.alloc (.cells #[.slice none 0 0, .slice none 0 0, .slice none 0 0] 26)))) := grew_trans HGG.out (grew_alloc _ _ _)
                    clear hbx hHeld
                    generalize (v3.alloc (.cells #[.slice none 0 0, .slice none 0 0, .slice none 0 0] 26)) = v4 at *
                    have hHeld := HGG.out
                    refine wpAnyH_ready (rs := [6]) (by kernel_rfl) (by simp) ?_
                    refine (AllReadyH.cons (o := { dst := none, op := Op.store 26 (Operand.tmp 18) (Operand.tmp 97), type := 0, pos := "law.go:39", after := #[{ on := 4, ground := Ground.data }, { on := 1, ground := Ground.data }, { on := 3, ground := Ground.chain }, { on := 0, ground := Ground.phase }, { on := 1, ground := Ground.phase }, { on := 2, ground := Ground.textOnly Departure.lateStores }, { on := 3, ground := Ground.textOnly Departure.lateStoresUnsure }, { on := 4, ground := Ground.phase }, { on := 5, ground := Ground.phase }], guard := none }) rfl (fun K hK => ?_) AllReadyH.nil)
                    have y0 := HX.out.at 0 (.slice none 0 0) rfl; have y1' := HX.out.at 1 (.slice none 0 0) rfl; have y2' := HX.out.at 2 (.slice none 0 0) rfl
                    have g0 := HX.out.fr 0 (by simp); have g1 := HX.out.fr 1 (by simp); have g2 := HX.out.fr 2 (by simp)
                    go_simp
                    refine hK.out _ _ (grew_put bx HWx.out [.slice X1 n1 x1, .slice X2 n2 x2, .slice X3 n3 x3] 0 _ HGG.out) (fun hHeld => ?_)
                    clear hK K y0 y1' y2' g0 g1 g2
                    try simp only [Act.put, List.setIfInBounds_toArray, List.set_cons_zero, List.set_cons_succ]
                    have HGG2 : Hid (Grew w9 (((v4.setCell ⟨bx, 0, none⟩ (.slice X1 n1 x1)).setCell ⟨bx, 1, none⟩ (.slice X2 n2 x2)).setCell ⟨bx, 2, none⟩ (.slice X3 n3 x3))) := grew_put bx HWx.out [.slice X1 n1 x1, .slice X2 n2 x2, .slice X3 n3 x3] 0 _ HGG.out
                    have HX2 : Hid (OwnC (((v4.setCell ⟨bx, 0, none⟩ (.slice X1 n1 x1)).setCell ⟨bx, 1, none⟩ (.slice X2 n2 x2)).setCell ⟨bx, 2, none⟩ (.slice X3 n3 x3)) bx [.slice X1 n1 x1, .slice X2 n2 x2, .slice X3 n3 x3]) := HX.out.all [.slice X1 n1 x1, .slice X2 n2 x2, .slice X3 n3 x3] rfl
                    have HY2 : Hid (OwnC (((v4.setCell ⟨bx, 0, none⟩ (.slice X1 n1 x1)).setCell ⟨bx, 1, none⟩ (.slice X2 n2 x2)).setCell ⟨bx, 2, none⟩ (.slice X3 n3 x3)) bY [.int .i64 0, .slice none 0 0, .slice none 0 0]) := OwnC.putO HNxy.out [.slice X1 n1 x1, .slice X2 n2 x2, .slice X3 n3 x3] 0 _ HY.out
                    have HRR2 : Hid (Rows3 (((v4.setCell ⟨bx, 0, none⟩ (.slice X1 n1 x1)).setCell ⟨bx, 1, none⟩ (.slice X2 n2 x2)).setCell ⟨bx, 2, none⟩ (.slice X3 n3 x3)) r X1 X2 X3 n1 n2 n3) := HRR.out.putN HNxR.out [.slice X1 n1 x1, .slice X2 n2 x2, .slice X3 n3 x3]
                    have HBB2 : Hid (InB (((v4.setCell ⟨bx, 0, none⟩ (.slice X1 n1 x1)).setCell ⟨bx, 1, none⟩ (.slice X2 n2 x2)).setCell ⟨bx, 2, none⟩ (.slice X3 n3 x3)) b Y1 Y2 m1 m2 y1 y2) := HBB.out.putN HNxB.out [.slice X1 n1 x1, .slice X2 n2 x2, .slice X3 n3 x3]
                    clear HGG HX HY HRR HBB hHeld
                    have HGG := HGG2; have HX := HX2; have HY := HY2; have HRR := HRR2; have HBB := HBB2
                    clear HGG2 HX2 HY2 HRR2 HBB2
                    generalize (((v4.setCell ⟨bx, 0, none⟩ (.slice X1 n1 x1)).setCell ⟨bx, 1, none⟩ (.slice X2 n2 x2)).setCell ⟨bx, 2, none⟩ (.slice X3 n3 x3)) = v5 at *
                    have hHeld := HGG.out
                    refine wpAnyH_ready (rs := [7]) (by kernel_rfl) (by simp) ?_
                    refine (AllReadyH.cons (o := { dst := none, op := Op.store 30 (Operand.tmp 19) (Operand.tmp 99), type := 0, pos := "law.go:39", after := #[{ on := 5, ground := Ground.data }, { on := 3, ground := Ground.data }, { on := 6, ground := Ground.chain }, { on := 0, ground := Ground.phase }, { on := 1, ground := Ground.phase }, { on := 2, ground := Ground.phase }, { on := 3, ground := Ground.phase }, { on := 4, ground := Ground.phase }, { on := 5, ground := Ground.phase }, { on := 6, ground := Ground.phase }], guard := none }) rfl (fun K hK => ?_) AllReadyH.nil)
                    have y0 := HY.out.at 0 (.int .i64 0) rfl; have y1' := HY.out.at 1 (.slice none 0 0) rfl; have y2' := HY.out.at 2 (.slice none 0 0) rfl
                    have g0 := HY.out.fr 0 (by simp); have g1 := HY.out.fr 1 (by simp); have g2 := HY.out.fr 2 (by simp)
                    go_simp
                    refine hK.out _ _ (grew_put bY HWy.out [.int .i64 b.1, .slice Y1 m1 y1, .slice Y2 m2 y2] 0 _ HGG.out) (fun hHeld => ?_)
                    clear hK K y0 y1' y2' g0 g1 g2
                    try simp only [Act.put, List.setIfInBounds_toArray, List.set_cons_zero, List.set_cons_succ]
                    have HGG2 : Hid (Grew w9 (((v5.setCell ⟨bY, 0, none⟩ (.int .i64 b.1)).setCell ⟨bY, 1, none⟩ (.slice Y1 m1 y1)).setCell ⟨bY, 2, none⟩ (.slice Y2 m2 y2))) := grew_put bY HWy.out [.int .i64 b.1, .slice Y1 m1 y1, .slice Y2 m2 y2] 0 _ HGG.out
                    have HY2 : Hid (OwnC (((v5.setCell ⟨bY, 0, none⟩ (.int .i64 b.1)).setCell ⟨bY, 1, none⟩ (.slice Y1 m1 y1)).setCell ⟨bY, 2, none⟩ (.slice Y2 m2 y2)) bY [.int .i64 b.1, .slice Y1 m1 y1, .slice Y2 m2 y2]) := HY.out.all [.int .i64 b.1, .slice Y1 m1 y1, .slice Y2 m2 y2] rfl
                    have HX2 : Hid (OwnC (((v5.setCell ⟨bY, 0, none⟩ (.int .i64 b.1)).setCell ⟨bY, 1, none⟩ (.slice Y1 m1 y1)).setCell ⟨bY, 2, none⟩ (.slice Y2 m2 y2)) bx [.slice X1 n1 x1, .slice X2 n2 x2, .slice X3 n3 x3]) := OwnC.putO HNxy.out.symm [.int .i64 b.1, .slice Y1 m1 y1, .slice Y2 m2 y2] 0 _ HX.out
                    have HRR2 : Hid (Rows3 (((v5.setCell ⟨bY, 0, none⟩ (.int .i64 b.1)).setCell ⟨bY, 1, none⟩ (.slice Y1 m1 y1)).setCell ⟨bY, 2, none⟩ (.slice Y2 m2 y2)) r X1 X2 X3 n1 n2 n3) := HRR.out.putN HNyR.out [.int .i64 b.1, .slice Y1 m1 y1, .slice Y2 m2 y2]
                    have HBB2 : Hid (InB (((v5.setCell ⟨bY, 0, none⟩ (.int .i64 b.1)).setCell ⟨bY, 1, none⟩ (.slice Y1 m1 y1)).setCell ⟨bY, 2, none⟩ (.slice Y2 m2 y2)) b Y1 Y2 m1 m2 y1 y2) := HBB.out.putN HNyB.out [.int .i64 b.1, .slice Y1 m1 y1, .slice Y2 m2 y2]
                    clear HGG HX HY HRR HBB hHeld
                    have HGG := HGG2; have HX := HX2; have HY := HY2; have HRR := HRR2; have HBB := HBB2
                    clear HGG2 HX2 HY2 HRR2 HBB2
                    generalize (((v5.setCell ⟨bY, 0, none⟩ (.int .i64 b.1)).setCell ⟨bY, 1, none⟩ (.slice Y1 m1 y1)).setCell ⟨bY, 2, none⟩ (.slice Y2 m2 y2)) = v6 at *
                    have hHeld := HGG.out
                    refine wpAnyH_done (by kernel_rfl) ?_ _
                    clear hHeld
                    apply_assumption
                    go_meet
                    case rel => exact ⟨bx, bY, X1, X2, X3, Y1, Y2, x1, x2, x3, y1, y2, rfl, rfl, HX.out, HY.out, HRR.out, HBB.out, HGG.out⟩
                  · go_simp
                    refine hK.out _ _ (grew_trans HGG.out (grew_alloc _ _ _)) (fun hHeld => ?_)
                    clear hK K
                    try simp only [Act.put, List.setIfInBounds_toArray, List.set_cons_zero, List.set_cons_succ]
                    obtain ⟨bx, hbx⟩ : ∃ q, q = v2.heap.size := ⟨_, rfl⟩
                    rw [← hbx]
                    have HNxy : Hid (bx ≠ bY) := by have h1 := HY.out.lt; show _ ≠ _; omega
                    have HNxR : Hid (NeR X1 X2 X3 bx) := HLR9.out.ne (Nat.le_of_eq hbx.symm)
                    have HY := Lib.hid (HY.out.keep (show Grew v2 ((v2.alloc (.cells #[.slice none 0 0, .slice none 0 0, .slice none 0 0] 26))) from (grew_alloc _ _ _)))
                    have HRR := Lib.hid (HRR.out.keep (show Grew v2 ((v2.alloc (.cells #[.slice none 0 0, .slice none 0 0, .slice none 0 0] 26))) from (grew_alloc _ _ _)))
                    have HLR9 := Lib.hid (HLR9.out.mono (grew_size (show Grew v2 ((v2.alloc (.cells #[.slice none 0 0, .slice none 0 0, .slice none 0 0] 26))) from (grew_alloc _ _ _))))
                    have HX : Hid (OwnC ((v2.alloc (.cells #[.slice none 0 0, .slice none 0 0, .slice none 0 0] 26))) bx [.slice none 0 0, .slice none 0 0, .slice none 0 0]) := OwnC.new v2 [.slice none 0 0, .slice none 0 0, .slice none 0 0] _ _ hbx
                    have HWx : Hid (w9.heap.size ≤ bx) := by have h1 := grew_size HGG.out; show _ ≤ _; omega
                    have HGG : Hid (Grew w9 ((v2.alloc (.cells #[.slice none 0 0, .slice none 0 0, .slice none 0 0] 26)))) := grew_trans HGG.out (grew_alloc _ _ _)
                    clear hbx hHeld
                    generalize (v2.alloc (.cells #[.slice none 0 0, .slice none 0 0, .slice none 0 0] 26)) = v3 at *
                    have hHeld := HGG.out
                    refine wpAnyH_ready (rs := [3]) (by kernel_rfl) (by simp) ?_
                    refine (AllReadyH.cons (o := { dst := some 99, op := Op.call { callee := Callee.value (Operand.func 16), args := #[Operand.tmp 98], argTypes := #[30] }, type := 30, pos := "law.go:39", after := #[{ on := 2, ground := Ground.data }, { on := 1, ground := Ground.chain }], guard := none }) rfl (fun K hK => ?_) AllReadyH.nil)
                    go_simp
                    (go_at_call 16; (with_reducible refine (CTB _ (grew_trans HG9.out HGG.out)).mono ?_); rintro e v4 ⟨Y1, Y2, y1, y2, rfl, ho, hg⟩)
                    have HNxB : Hid (NeR Y1 Y2 none bx) := ⟨fun x hx => by have h1 := (ho.t.block x hx).1; have h2 := HX.out.lt; omega, fun x hx => by have h1 := (ho.p.block x hx).1; have h2 := HX.out.lt; omega, fun x hx => by cases hx⟩
                    have HNyB : Hid (NeR Y1 Y2 none bY) := ⟨fun x hx => by have h1 := (ho.t.block x hx).1; have h2 := HY.out.lt; omega, fun x hx => by have h1 := (ho.p.block x hx).1; have h2 := HY.out.lt; omega, fun x hx => by cases hx⟩
                    have HX := Lib.hid (HX.out.keep hg)
                    have HY := Lib.hid (HY.out.keep hg)
                    have HRR := Lib.hid (HRR.out.keep hg)
                    have HLR9 := Lib.hid (HLR9.out.mono (grew_size hg))
                    have HBB : Hid (InB v4 b Y1 Y2 m1 m2 y1 y2) := (by have h9 := ho.in; rw [HL1.out, HL2.out] at h9; exact h9)
                    have HLB9 : Hid (LtR Y1 Y2 none v4.heap.size) := ⟨fun x hx => (ho.t.block x hx).2, fun x hx => (ho.p.block x hx).2, fun x hx => by cases hx⟩
                    have HGG : Hid (Grew w9 v4) := grew_trans HGG.out hg
                    clear ho hg
                    refine hK.out _ _ HGG.out (fun hHeld => ?_)
                    clear hK K
                    try simp only [Act.put, List.setIfInBounds_toArray, List.set_cons_zero, List.set_cons_succ]
                    refine wpAnyH_ready (rs := [6]) (by kernel_rfl) (by simp) ?_
                    refine (AllReadyH.cons (o := { dst := none, op := Op.store 26 (Operand.tmp 18) (Operand.tmp 97), type := 0, pos := "law.go:39", after := #[{ on := 4, ground := Ground.data }, { on := 1, ground := Ground.data }, { on := 3, ground := Ground.chain }, { on := 0, ground := Ground.phase }, { on := 1, ground := Ground.phase }, { on := 2, ground := Ground.textOnly Departure.lateStores }, { on := 3, ground := Ground.textOnly Departure.lateStoresUnsure }, { on := 4, ground := Ground.phase }, { on := 5, ground := Ground.phase }], guard := none }) rfl (fun K hK => ?_) AllReadyH.nil)
                    have y0 := HX.out.at 0 (.slice none 0 0) rfl; have y1' := HX.out.at 1 (.slice none 0 0) rfl; have y2' := HX.out.at 2 (.slice none 0 0) rfl
                    have g0 := HX.out.fr 0 (by simp); have g1 := HX.out.fr 1 (by simp); have g2 := HX.out.fr 2 (by simp)
                    go_simp
                    refine hK.out _ _ (grew_put bx HWx.out [.slice X1 n1 x1, .slice X2 n2 x2, .slice X3 n3 x3] 0 _ HGG.out) (fun hHeld => ?_)
                    clear hK K y0 y1' y2' g0 g1 g2
                    try simp only [Act.put, List.setIfInBounds_toArray, List.set_cons_zero, List.set_cons_succ]
                    have HGG2 : Hid (Grew w9 (((v4.setCell ⟨bx, 0, none⟩ (.slice X1 n1 x1)).setCell ⟨bx, 1, none⟩ (.slice X2 n2 x2)).setCell ⟨bx, 2, none⟩ (.slice X3 n3 x3))) := grew_put bx HWx.out [.slice X1 n1 x1, .slice X2 n2 x2, .slice X3 n3 x3] 0 _ HGG.out
                    have HX2 : Hid (OwnC (((v4.setCell ⟨bx, 0, none⟩ (.slice X1 n1 x1)).setCell ⟨bx, 1, none⟩ (.slice X2 n2 x2)).setCell ⟨bx, 2, none⟩ (.slice X3 n3 x3)) bx [.slice X1 n1 x1, .slice X2 n2 x2, .slice X3 n3 x3]) := HX.out.all [.slice X1 n1 x1, .slice X2 n2 x2, .slice X3 n3 x3] rfl
                    have HY2 : Hid (OwnC (((v4.setCell ⟨bx, 0, none⟩ (.slice X1 n1 x1)).setCell ⟨bx, 1, none⟩ (.slice X2 n2 x2)).setCell ⟨bx, 2, none⟩ (.slice X3 n3 x3)) bY [.int .i64 0, .slice none 0 0, .slice none 0 0]) := OwnC.putO HNxy.out [.slice X1 n1 x1, .slice X2 n2 x2, .slice X3 n3 x3] 0 _ HY.out
                    have HRR2 : Hid (Rows3 (((v4.setCell ⟨bx, 0, none⟩ (.slice X1 n1 x1)).setCell ⟨bx, 1, none⟩ (.slice X2 n2 x2)).setCell ⟨bx, 2, none⟩ (.slice X3 n3 x3)) r X1 X2 X3 n1 n2 n3) := HRR.out.putN HNxR.out [.slice X1 n1 x1, .slice X2 n2 x2, .slice X3 n3 x3]
                    have HBB2 : Hid (InB (((v4.setCell ⟨bx, 0, none⟩ (.slice X1 n1 x1)).setCell ⟨bx, 1, none⟩ (.slice X2 n2 x2)).setCell ⟨bx, 2, none⟩ (.slice X3 n3 x3)) b Y1 Y2 m1 m2 y1 y2) := HBB.out.putN HNxB.out [.slice X1 n1 x1, .slice X2 n2 x2, .slice X3 n3 x3]
                    clear HGG HX HY HRR HBB hHeld
                    have HGG := HGG2; have HX := HX2; have HY := HY2; have HRR := HRR2; have HBB := HBB2
                    clear HGG2 HX2 HY2 HRR2 HBB2
                    generalize (((v4.setCell ⟨bx, 0, none⟩ (.slice X1 n1 x1)).setCell ⟨bx, 1, none⟩ (.slice X2 n2 x2)).setCell ⟨bx, 2, none⟩ (.slice X3 n3 x3)) = v5 at *
                    have hHeld := HGG.out
                    refine wpAnyH_ready (rs := [7]) (by kernel_rfl) (by simp) ?_
                    refine (AllReadyH.cons (o := { dst := none, op := Op.store 30 (Operand.tmp 19) (Operand.tmp 99), type := 0, pos := "law.go:39", after := #[{ on := 5, ground := Ground.data }, { on := 3, ground := Ground.data }, { on := 6, ground := Ground.chain }, { on := 0, ground := Ground.phase }, { on := 1, ground := Ground.phase }, { on := 2, ground := Ground.phase }, { on := 3, ground := Ground.phase }, { on := 4, ground := Ground.phase }, { on := 5, ground := Ground.phase }, { on := 6, ground := Ground.phase }], guard := none }) rfl (fun K hK => ?_) AllReadyH.nil)
                    have y0 := HY.out.at 0 (.int .i64 0) rfl; have y1' := HY.out.at 1 (.slice none 0 0) rfl; have y2' := HY.out.at 2 (.slice none 0 0) rfl
                    have g0 := HY.out.fr 0 (by simp); have g1 := HY.out.fr 1 (by simp); have g2 := HY.out.fr 2 (by simp)
                    go_simp
                    refine hK.out _ _ (grew_put bY HWy.out [.int .i64 b.1, .slice Y1 m1 y1, .slice Y2 m2 y2] 0 _ HGG.out) (fun hHeld => ?_)
                    clear hK K y0 y1' y2' g0 g1 g2
                    try simp only [Act.put, List.setIfInBounds_toArray, List.set_cons_zero, List.set_cons_succ]
                    have HGG2 : Hid (Grew w9 (((v5.setCell ⟨bY, 0, none⟩ (.int .i64 b.1)).setCell ⟨bY, 1, none⟩ (.slice Y1 m1 y1)).setCell ⟨bY, 2, none⟩ (.slice Y2 m2 y2))) := grew_put bY HWy.out [.int .i64 b.1, .slice Y1 m1 y1, .slice Y2 m2 y2] 0 _ HGG.out
                    have HY2 : Hid (OwnC (((v5.setCell ⟨bY, 0, none⟩ (.int .i64 b.1)).setCell ⟨bY, 1, none⟩ (.slice Y1 m1 y1)).setCell ⟨bY, 2, none⟩ (.slice Y2 m2 y2)) bY [.int .i64 b.1, .slice Y1 m1 y1, .slice Y2 m2 y2]) := HY.out.all [.int .i64 b.1, .slice Y1 m1 y1, .slice Y2 m2 y2] rfl
                    have HX2 : Hid (OwnC (((v5.setCell ⟨bY, 0, none⟩ (.int .i64 b.1)).setCell ⟨bY, 1, none⟩ (.slice Y1 m1 y1)).setCell ⟨bY, 2, none⟩ (.slice Y2 m2 y2)) bx [.slice X1 n1 x1, .slice X2 n2 x2, .slice X3 n3 x3]) := OwnC.putO HNxy.out.symm [.int .i64 b.1, .slice Y1 m1 y1, .slice Y2 m2 y2] 0 _ HX.out
                    have HRR2 : Hid (Rows3 (((v5.setCell ⟨bY, 0, none⟩ (.int .i64 b.1)).setCell ⟨bY, 1, none⟩ (.slice Y1 m1 y1)).setCell ⟨bY, 2, none⟩ (.slice Y2 m2 y2)) r X1 X2 X3 n1 n2 n3) := HRR.out.putN HNyR.out [.int .i64 b.1, .slice Y1 m1 y1, .slice Y2 m2 y2]
                    have HBB2 : Hid (InB (((v5.setCell ⟨bY, 0, none⟩ (.int .i64 b.1)).setCell ⟨bY, 1, none⟩ (.slice Y1 m1 y1)).setCell ⟨bY, 2, none⟩ (.slice Y2 m2 y2)) b Y1 Y2 m1 m2 y1 y2) := HBB.out.putN HNyB.out [.int .i64 b.1, .slice Y1 m1 y1, .slice Y2 m2 y2]
                    clear HGG HX HY HRR HBB hHeld
                    have HGG := HGG2; have HX := HX2; have HY := HY2; have HRR := HRR2; have HBB := HBB2
                    clear HGG2 HX2 HY2 HRR2 HBB2
                    generalize (((v5.setCell ⟨bY, 0, none⟩ (.int .i64 b.1)).setCell ⟨bY, 1, none⟩ (.slice Y1 m1 y1)).setCell ⟨bY, 2, none⟩ (.slice Y2 m2 y2)) = v6 at *
                    have hHeld := HGG.out
                    refine wpAnyH_done (by kernel_rfl) ?_ _
                    clear hHeld
                    apply_assumption
                    go_meet
                    case rel => exact ⟨bx, bY, X1, X2, X3, Y1, Y2, x1, x2, x3, y1, y2, rfl, rfl, HX.out, HY.out, HRR.out, HBB.out, HGG.out⟩
              · go_simp
                refine hK.out _ _ (grew_drew (grew_alloc _ _ _)) (fun hHeld => ?_)
                clear hK K
                try simp only [Act.put, List.setIfInBounds_toArray, List.set_cons_zero, List.set_cons_succ]
                obtain ⟨bx, hbx⟩ : ∃ q, q = w9.heap.size := ⟨_, rfl⟩
                rw [← hbx]
                have HX : Hid (OwnC ((w9.alloc (.cells #[.slice none 0 0, .slice none 0 0, .slice none 0 0] 26)).drew) bx [.slice none 0 0, .slice none 0 0, .slice none 0 0]) := (OwnC.new w9 [.slice none 0 0, .slice none 0 0, .slice none 0 0] _ _ hbx).drew
                have HWx : Hid (w9.heap.size ≤ bx) := by have h1 := Nat.le_refl w9.heap.size; show _ ≤ _; omega
                have HGG : Hid (Grew w9 ((w9.alloc (.cells #[.slice none 0 0, .slice none 0 0, .slice none 0 0] 26)).drew)) := grew_drew (grew_alloc _ _ _)
                clear hbx hHeld
                generalize (w9.alloc (.cells #[.slice none 0 0, .slice none 0 0, .slice none 0 0] 26)).drew = v1 at *
                have hHeld := HGG.out
                refine wpAnyH_ready (rs := [1, 5]) (by kernel_rfl) (by simp) ?_
                refine (AllReadyH.cons (o := { dst := some 97, op := Op.call { callee := Callee.value (Operand.func 15), args := #[Operand.tmp 96], argTypes := #[26] }, type := 26, pos := "law.go:39", after := #[{ on := 0, ground := Ground.data }], guard := none }) rfl (fun K hK => ?_) (AllReadyH.cons (o := { dst := some 19, op := Op.alloc 30, type := 0, pos := "law.go:39", after := #[], guard := none }) rfl (fun K hK => ?_) AllReadyH.nil))
                · go_simp
                  (go_at_call 15; (with_reducible refine (CTR _ (grew_trans HG9.out HGG.out)).mono ?_); rintro e v2 ⟨X1, X2, X3, x1, x2, x3, rfl, ⟨ho, -, -, -⟩, hg⟩)
                  have HNxR : Hid (NeR X1 X2 X3 bx) := ⟨fun x hx => by have h1 := (ho.m.block x hx).1; have h2 := HX.out.lt; omega, fun x hx => by have h1 := (ho.i.block x hx).1; have h2 := HX.out.lt; omega, fun x hx => by have h1 := (ho.h.block x hx).1; have h2 := HX.out.lt; omega⟩
                  have HX := Lib.hid (HX.out.keep hg)
                  have HRR : Hid (Rows3 v2 r X1 X2 X3 n1 n2 n3) := (by have h9 := ho.rows; rw [HLR.out.1, HLR.out.2.1, HLR.out.2.2] at h9; exact h9)
                  have HLR9 : Hid (LtR X1 X2 X3 v2.heap.size) := ⟨fun x hx => (ho.m.block x hx).2, fun x hx => (ho.i.block x hx).2, fun x hx => (ho.h.block x hx).2⟩
                  have HGG : Hid (Grew w9 v2) := grew_trans HGG.out hg
                  clear ho hg
                  refine hK.out _ _ HGG.out (fun hHeld => ?_)
                  clear hK K
                  try simp only [Act.put, List.setIfInBounds_toArray, List.set_cons_zero, List.set_cons_succ]
                  refine wpAnyH_ready (rs := [3, 5]) (by kernel_rfl) (by simp) ?_
                  refine (AllReadyH.cons (o := { dst := some 99, op := Op.call { callee := Callee.value (Operand.func 16), args := #[Operand.tmp 98], argTypes := #[30] }, type := 30, pos := "law.go:39", after := #[{ on := 2, ground := Ground.data }, { on := 1, ground := Ground.chain }], guard := none }) rfl (fun K hK => ?_) (AllReadyH.cons (o := { dst := some 19, op := Op.alloc 30, type := 0, pos := "law.go:39", after := #[], guard := none }) rfl (fun K hK => ?_) AllReadyH.nil))
                  · go_simp
                    (go_at_call 16; (with_reducible refine (CTB _ (grew_trans HG9.out HGG.out)).mono ?_); rintro e v3 ⟨Y1, Y2, y1, y2, rfl, ho, hg⟩)
                    have HNxB : Hid (NeR Y1 Y2 none bx) := ⟨fun x hx => by have h1 := (ho.t.block x hx).1; have h2 := HX.out.lt; omega, fun x hx => by have h1 := (ho.p.block x hx).1; have h2 := HX.out.lt; omega, fun x hx => by cases hx⟩
                    have HX := Lib.hid (HX.out.keep hg)
                    have HRR := Lib.hid (HRR.out.keep hg)
                    have HLR9 := Lib.hid (HLR9.out.mono (grew_size hg))
                    have HBB : Hid (InB v3 b Y1 Y2 m1 m2 y1 y2) := (by have h9 := ho.in; rw [HL1.out, HL2.out] at h9; exact h9)
                    have HLB9 : Hid (LtR Y1 Y2 none v3.heap.size) := ⟨fun x hx => (ho.t.block x hx).2, fun x hx => (ho.p.block x hx).2, fun x hx => by cases hx⟩
                    have HGG : Hid (Grew w9 v3) := grew_trans HGG.out hg
                    clear ho hg
                    refine hK.out _ _ HGG.out (fun hHeld => ?_)
                    clear hK K
                    try simp only [Act.put, List.setIfInBounds_toArray, List.set_cons_zero, List.set_cons_succ]
                    refine wpAnyH_ready (rs := [5]) (by kernel_rfl) (by simp) ?_
                    refine (AllReadyH.cons (o := { dst := some 19, op := Op.alloc 30, type := 0, pos := "law.go:39", after := #[], guard := none }) rfl (fun K hK => ?_) AllReadyH.nil)
                    go_simp
                    refine hK.out _ _ (grew_trans HGG.out (grew_alloc _ _ _)) (fun hHeld => ?_)
                    clear hK K
                    try simp only [Act.put, List.setIfInBounds_toArray, List.set_cons_zero, List.set_cons_succ]
                    obtain ⟨bY, hby⟩ : ∃ q, q = v3.heap.size := ⟨_, rfl⟩
                    rw [← hby]
                    have HNxy : Hid (bx ≠ bY) := by have h1 := HX.out.lt; show _ ≠ _; omega
                    have HNyR : Hid (NeR X1 X2 X3 bY) := HLR9.out.ne (Nat.le_of_eq hby.symm)
                    have HNyB : Hid (NeR Y1 Y2 none bY) := HLB9.out.ne (Nat.le_of_eq hby.symm)
                    have HX := Lib.hid (HX.out.keep (show Grew v3 ((v3.alloc (.cells #[.int .i64 0, .slice none 0 0, .slice none 0 0] 30))) from (grew_alloc _ _ _)))
                    have HRR := Lib.hid (HRR.out.keep (show Grew v3 ((v3.alloc (.cells #[.int .i64 0, .slice none 0 0, .slice none 0 0] 30))) from (grew_alloc _ _ _)))
                    have HLR9 := Lib.hid (HLR9.out.mono (grew_size (show Grew v3 ((v3.alloc (.cells #[.int .i64 0, .slice none 0 0, .slice none 0 0] 30))) from (grew_alloc _ _ _))))
                    have HBB := Lib.hid (HBB.out.keep (show Grew v3 ((v3.alloc (.cells #[.int .i64 0, .slice none 0 0, .slice none 0 0] 30))) from (grew_alloc _ _ _)))
                    have HLB9 := Lib.hid (HLB9.out.mono (grew_size (show Grew v3 ((v3.alloc (.cells #[.int .i64 0, .slice none 0 0, .slice none 0 0] 30))) from (grew_alloc _ _ _))))
                    have HY : Hid (OwnC ((v3.alloc (.cells #[.int .i64 0, .slice none 0 0, .slice none 0 0] 30))) bY [.int .i64 0, .slice none 0 0, .slice none 0 0]) := OwnC.new v3 [.int .i64 0, .slice none 0 0, .slice none 0 0] _ _ hby
                    have HWy : Hid (w9.heap.size ≤ bY) := by have h1 := grew_size HGG.out; show _ ≤ _; omega
                    have HGG : Hid (Grew w9 ((v3.alloc (.cells #[.int .i64 0, .slice none 0 0, .slice none 0 0] 30)))) := grew_trans HGG.out (grew_alloc _ _ _)
                    clear hby hHeld
                    generalize (v3.alloc (.cells #[.int .i64 0, .slice none 0 0, .slice none 0 0] 30)) = v4 at *
                    have hHeld := HGG.out
                    refine wpAnyH_ready (rs := [6]) (by kernel_rfl) (by simp) ?_
                    refine (AllReadyH.cons (o := { dst := none, op := Op.store 26 (Operand.tmp 18) (Operand.tmp 97), type := 0, pos := "law.go:39", after := #[{ on := 4, ground := Ground.data }, { on := 1, ground := Ground.data }, { on := 3, ground := Ground.chain }, { on := 0, ground := Ground.phase }, { on := 1, ground := Ground.phase }, { on := 2, ground := Ground.textOnly Departure.lateStores }, { on := 3, ground := Ground.textOnly Departure.lateStoresUnsure }, { on := 4, ground := Ground.phase }, { on := 5, ground := Ground.phase }], guard := none }) rfl (fun K hK => ?_) AllReadyH.nil)
                    have y0 := HX.out.at 0 (.slice none 0 0) rfl; have y1' := HX.out.at 1 (.slice none 0 0) rfl; have y2' := HX.out.at 2 (.slice none 0 0) rfl
                    have g0 := HX.out.fr 0 (by simp); have g1 := HX.out.fr 1 (by simp); have g2 := HX.out.fr 2 (by simp)
                    go_simp
                    refine hK.out _ _ (grew_put bx HWx.out [.slice X1 n1 x1, .slice X2 n2 x2, .slice X3 n3 x3] 0 _ HGG.out) (fun hHeld => ?_)
                    clear hK K y0 y1' y2' g0 g1 g2
                    try simp only [Act.put, List.setIfInBounds_toArray, List.set_cons_zero, List.set_cons_succ]
                    have HGG2 : Hid (Grew w9 (((v4.setCell ⟨bx, 0, none⟩ (.slice X1 n1 x1)).setCell ⟨bx, 1, none⟩ (.slice X2 n2 x2)).setCell ⟨bx, 2, none⟩ (.slice X3 n3 x3))) := grew_put bx HWx.out [.slice X1 n1 x1, .slice X2 n2 x2, .slice X3 n3 x3] 0 _ HGG.out
                    have HX2 : Hid (OwnC (((v4.setCell ⟨bx, 0, none⟩ (.slice X1 n1 x1)).setCell ⟨bx, 1, none⟩ (.slice X2 n2 x2)).setCell ⟨bx, 2, none⟩ (.slice X3 n3 x3)) bx [.slice X1 n1 x1, .slice X2 n2 x2, .slice X3 n3 x3]) := HX.out.all [.slice X1 n1 x1, .slice X2 n2 x2, .slice X3 n3 x3] rfl
                    have HY2 : Hid (OwnC (((v4.setCell ⟨bx, 0, none⟩ (.slice X1 n1 x1)).setCell ⟨bx, 1, none⟩ (.slice X2 n2 x2)).setCell ⟨bx, 2, none⟩ (.slice X3 n3 x3)) bY [.int .i64 0, .slice none 0 0, .slice none 0 0]) := OwnC.putO HNxy.out [.slice X1 n1 x1, .slice X2 n2 x2, .slice X3 n3 x3] 0 _ HY.out
                    have HRR2 : Hid (Rows3 (((v4.setCell ⟨bx, 0, none⟩ (.slice X1 n1 x1)).setCell ⟨bx, 1, none⟩ (.slice X2 n2 x2)).setCell ⟨bx, 2, none⟩ (.slice X3 n3 x3)) r X1 X2 X3 n1 n2 n3) := HRR.out.putN HNxR.out [.slice X1 n1 x1, .slice X2 n2 x2, .slice X3 n3 x3]
                    have HBB2 : Hid (InB (((v4.setCell ⟨bx, 0, none⟩ (.slice X1 n1 x1)).setCell ⟨bx, 1, none⟩ (.slice X2 n2 x2)).setCell ⟨bx, 2, none⟩ (.slice X3 n3 x3)) b Y1 Y2 m1 m2 y1 y2) := HBB.out.putN HNxB.out [.slice X1 n1 x1, .slice X2 n2 x2, .slice X3 n3 x3]
                    clear HGG HX HY HRR HBB hHeld
                    have HGG := HGG2; have HX := HX2; have HY := HY2; have HRR := HRR2; have HBB := HBB2
                    clear HGG2 HX2 HY2 HRR2 HBB2
                    generalize (((v4.setCell ⟨bx, 0, none⟩ (.slice X1 n1 x1)).setCell ⟨bx, 1, none⟩ (.slice X2 n2 x2)).setCell ⟨bx, 2, none⟩ (.slice X3 n3 x3)) = v5 at *
                    have hHeld := HGG.out
                    refine wpAnyH_ready (rs := [7]) (by kernel_rfl) (by simp) ?_
                    refine (AllReadyH.cons (o := { dst := none, op := Op.store 30 (Operand.tmp 19) (Operand.tmp 99), type := 0, pos := "law.go:39", after := #[{ on := 5, ground := Ground.data }, { on := 3, ground := Ground.data }, { on := 6, ground := Ground.chain }, { on := 0, ground := Ground.phase }, { on := 1, ground := Ground.phase }, { on := 2, ground := Ground.phase }, { on := 3, ground := Ground.phase }, { on := 4, ground := Ground.phase }, { on := 5, ground := Ground.phase }, { on := 6, ground := Ground.phase }], guard := none }) rfl (fun K hK => ?_) AllReadyH.nil)
                    have y0 := HY.out.at 0 (.int .i64 0) rfl; have y1' := HY.out.at 1 (.slice none 0 0) rfl; have y2' := HY.out.at 2 (.slice none 0 0) rfl
                    have g0 := HY.out.fr 0 (by simp); have g1 := HY.out.fr 1 (by simp); have g2 := HY.out.fr 2 (by simp)
                    go_simp
                    refine hK.out _ _ (grew_put bY HWy.out [.int .i64 b.1, .slice Y1 m1 y1, .slice Y2 m2 y2] 0 _ HGG.out) (fun hHeld => ?_)
                    clear hK K y0 y1' y2' g0 g1 g2
                    try simp only [Act.put, List.setIfInBounds_toArray, List.set_cons_zero, List.set_cons_succ]
                    have HGG2 : Hid (Grew w9 (((v5.setCell ⟨bY, 0, none⟩ (.int .i64 b.1)).setCell ⟨bY, 1, none⟩ (.slice Y1 m1 y1)).setCell ⟨bY, 2, none⟩ (.slice Y2 m2 y2))) := grew_put bY HWy.out [.int .i64 b.1, .slice Y1 m1 y1, .slice Y2 m2 y2] 0 _ HGG.out
                    have HY2 : Hid (OwnC (((v5.setCell ⟨bY, 0, none⟩ (.int .i64 b.1)).setCell ⟨bY, 1, none⟩ (.slice Y1 m1 y1)).setCell ⟨bY, 2, none⟩ (.slice Y2 m2 y2)) bY [.int .i64 b.1, .slice Y1 m1 y1, .slice Y2 m2 y2]) := HY.out.all [.int .i64 b.1, .slice Y1 m1 y1, .slice Y2 m2 y2] rfl
                    have HX2 : Hid (OwnC (((v5.setCell ⟨bY, 0, none⟩ (.int .i64 b.1)).setCell ⟨bY, 1, none⟩ (.slice Y1 m1 y1)).setCell ⟨bY, 2, none⟩ (.slice Y2 m2 y2)) bx [.slice X1 n1 x1, .slice X2 n2 x2, .slice X3 n3 x3]) := OwnC.putO HNxy.out.symm [.int .i64 b.1, .slice Y1 m1 y1, .slice Y2 m2 y2] 0 _ HX.out
                    have HRR2 : Hid (Rows3 (((v5.setCell ⟨bY, 0, none⟩ (.int .i64 b.1)).setCell ⟨bY, 1, none⟩ (.slice Y1 m1 y1)).setCell ⟨bY, 2, none⟩ (.slice Y2 m2 y2)) r X1 X2 X3 n1 n2 n3) := HRR.out.putN HNyR.out [.int .i64 b.1, .slice Y1 m1 y1, .slice Y2 m2 y2]
                    have HBB2 : Hid (InB (((v5.setCell ⟨bY, 0, none⟩ (.int .i64 b.1)).setCell ⟨bY, 1, none⟩ (.slice Y1 m1 y1)).setCell ⟨bY, 2, none⟩ (.slice Y2 m2 y2)) b Y1 Y2 m1 m2 y1 y2) := HBB.out.putN HNyB.out [.int .i64 b.1, .slice Y1 m1 y1, .slice Y2 m2 y2]
                    clear HGG HX HY HRR HBB hHeld
                    have HGG := HGG2; have HX := HX2; have HY := HY2; have HRR := HRR2; have HBB := HBB2
                    clear HGG2 HX2 HY2 HRR2 HBB2
                    generalize (((v5.setCell ⟨bY, 0, none⟩ (.int .i64 b.1)).setCell ⟨bY, 1, none⟩ (.slice Y1 m1 y1)).setCell ⟨bY, 2, none⟩ (.slice Y2 m2 y2)) = v6 at *
                    have hHeld := HGG.out
                    refine wpAnyH_done (by kernel_rfl) ?_ _
                    clear hHeld
                    apply_assumption
                    go_meet
                    case rel => exact ⟨bx, bY, X1, X2, X3, Y1, Y2, x1, x2, x3, y1, y2, rfl, rfl, HX.out, HY.out, HRR.out, HBB.out, HGG.out⟩
                  · go_simp
                    refine hK.out _ _ (grew_trans HGG.out (grew_alloc _ _ _)) (fun hHeld => ?_)
                    clear hK K
                    try simp only [Act.put, List.setIfInBounds_toArray, List.set_cons_zero, List.set_cons_succ]
                    obtain ⟨bY, hby⟩ : ∃ q, q = v2.heap.size := ⟨_, rfl⟩
                    rw [← hby]
                    have HNxy : Hid (bx ≠ bY) := by have h1 := HX.out.lt; show _ ≠ _; omega
                    have HNyR : Hid (NeR X1 X2 X3 bY) := HLR9.out.ne (Nat.le_of_eq hby.symm)
                    have HX := Lib.hid (HX.out.keep (show Grew v2 ((v2.alloc (.cells #[.int .i64 0, .slice none 0 0, .slice none 0 0] 30))) from (grew_alloc _ _ _)))
                    have HRR := Lib.hid (HRR.out.keep (show Grew v2 ((v2.alloc (.cells #[.int .i64 0, .slice none 0 0, .slice none 0 0] 30))) from (grew_alloc _ _ _)))
                    have HLR9 := Lib.hid (HLR9.out.mono (grew_size (show Grew v2 ((v2.alloc (.cells #[.int .i64 0, .slice none 0 0, .slice none 0 0] 30))) from (grew_alloc _ _ _))))
                    have HY : Hid (OwnC ((v2.alloc (.cells #[.int .i64 0, .slice none 0 0, .slice none 0 0] 30))) bY [.int .i64 0, .slice none 0 0, .slice none 0 0]) := OwnC.new v2 [.int .i64 0, .slice none 0 0, .slice none 0 0] _ _ hby
                    have HWy : Hid (w9.heap.size ≤ bY) := by have h1 := grew_size HGG.out; show _ ≤ _; omega
                    have HGG : Hid (Grew w9 ((v2.alloc (.cells #[.int .i64 0, .slice none 0 0, .slice none 0 0] 30)))) := grew_trans HGG.out (grew_alloc _ _ _)
                    clear hby hHeld
                    generalize (v2.alloc (.cells #[.int .i64 0, .slice none 0 0, .slice none 0 0] 30)) = v3 at *
                    have hHeld := HGG.out
                    refine wpAnyH_ready (rs := [3]) (by kernel_rfl) (by simp) ?_
                    refine (AllReadyH.cons (o := { dst := some 99, op := Op.call { callee := Callee.value (Operand.func 16), args := #[Operand.tmp 98], argTypes := #[30] }, type := 30, pos := "law.go:39", after := #[{ on := 2, ground := Ground.data }, { on := 1, ground := Ground.chain }], guard := none }) rfl (fun K hK => ?_) AllReadyH.nil)
                    go_simp
                    (go_at_call 16; (with_reducible refine (CTB _ (grew_trans HG9.out HGG.out)).mono ?_); rintro e v4 ⟨Y1, Y2, y1, y2, rfl, ho, hg⟩)
                    have HNxB : Hid (NeR Y1 Y2 none bx) := ⟨fun x hx => by have h1 := (ho.t.block x hx).1; have h2 := HX.out.lt; omega, fun x hx => by have h1 := (ho.p.block x hx).1; have h2 := HX.out.lt; omega, fun x hx => by cases hx⟩
                    have HNyB : Hid (NeR Y1 Y2 none bY) := ⟨fun x hx => by have h1 := (ho.t.block x hx).1; have h2 := HY.out.lt; omega, fun x hx => by have h1 := (ho.p.block x hx).1; have h2 := HY.out.lt; omega, fun x hx => by cases hx⟩
                    have HX := Lib.hid (HX.out.keep hg)
                    have HY := Lib.hid (HY.out.keep hg)
                    have HRR := Lib.hid (HRR.out.keep hg)
                    have HLR9 := Lib.hid (HLR9.out.mono (grew_size hg))
                    have HBB : Hid (InB v4 b Y1 Y2 m1 m2 y1 y2) := (by have h9 := ho.in; rw [HL1.out, HL2.out] at h9; exact h9)
                    have HLB9 : Hid (LtR Y1 Y2 none v4.heap.size) := ⟨fun x hx => (ho.t.block x hx).2, fun x hx => (ho.p.block x hx).2, fun x hx => by cases hx⟩
                    have HGG : Hid (Grew w9 v4) := grew_trans HGG.out hg
                    clear ho hg
                    refine hK.out _ _ HGG.out (fun hHeld => ?_)
                    clear hK K
                    try simp only [Act.put, List.setIfInBounds_toArray, List.set_cons_zero, List.set_cons_succ]
                    refine wpAnyH_ready (rs := [6]) (by kernel_rfl) (by simp) ?_
                    refine (AllReadyH.cons (o := { dst := none, op := Op.store 26 (Operand.tmp 18) (Operand.tmp 97), type := 0, pos := "law.go:39", after := #[{ on := 4, ground := Ground.data }, { on := 1, ground := Ground.data }, { on := 3, ground := Ground.chain }, { on := 0, ground := Ground.phase }, { on := 1, ground := Ground.phase }, { on := 2, ground := Ground.textOnly Departure.lateStores }, { on := 3, ground := Ground.textOnly Departure.lateStoresUnsure }, { on := 4, ground := Ground.phase }, { on := 5, ground := Ground.phase }], guard := none }) rfl (fun K hK => ?_) AllReadyH.nil)
                    have y0 := HX.out.at 0 (.slice none 0 0) rfl; have y1' := HX.out.at 1 (.slice none 0 0) rfl; have y2' := HX.out.at 2 (.slice none 0 0) rfl
                    have g0 := HX.out.fr 0 (by simp); have g1 := HX.out.fr 1 (by simp); have g2 := HX.out.fr 2 (by simp)
                    go_simp
                    refine hK.out _ _ (grew_put bx HWx.out [.slice X1 n1 x1, .slice X2 n2 x2, .slice X3 n3 x3] 0 _ HGG.out) (fun hHeld => ?_)
                    clear hK K y0 y1' y2' g0 g1 g2
                    try simp only [Act.put, List.setIfInBounds_toArray, List.set_cons_zero, List.set_cons_succ]
                    have HGG2 : Hid (Grew w9 (((v4.setCell ⟨bx, 0, none⟩ (.slice X1 n1 x1)).setCell ⟨bx, 1, none⟩ (.slice X2 n2 x2)).setCell ⟨bx, 2, none⟩ (.slice X3 n3 x3))) := grew_put bx HWx.out [.slice X1 n1 x1, .slice X2 n2 x2, .slice X3 n3 x3] 0 _ HGG.out
                    have HX2 : Hid (OwnC (((v4.setCell ⟨bx, 0, none⟩ (.slice X1 n1 x1)).setCell ⟨bx, 1, none⟩ (.slice X2 n2 x2)).setCell ⟨bx, 2, none⟩ (.slice X3 n3 x3)) bx [.slice X1 n1 x1, .slice X2 n2 x2, .slice X3 n3 x3]) := HX.out.all [.slice X1 n1 x1, .slice X2 n2 x2, .slice X3 n3 x3] rfl
                    have HY2 : Hid (OwnC (((v4.setCell ⟨bx, 0, none⟩ (.slice X1 n1 x1)).setCell ⟨bx, 1, none⟩ (.slice X2 n2 x2)).setCell ⟨bx, 2, none⟩ (.slice X3 n3 x3)) bY [.int .i64 0, .slice none 0 0, .slice none 0 0]) := OwnC.putO HNxy.out [.slice X1 n1 x1, .slice X2 n2 x2, .slice X3 n3 x3] 0 _ HY.out
                    have HRR2 : Hid (Rows3 (((v4.setCell ⟨bx, 0, none⟩ (.slice X1 n1 x1)).setCell ⟨bx, 1, none⟩ (.slice X2 n2 x2)).setCell ⟨bx, 2, none⟩ (.slice X3 n3 x3)) r X1 X2 X3 n1 n2 n3) := HRR.out.putN HNxR.out [.slice X1 n1 x1, .slice X2 n2 x2, .slice X3 n3 x3]
                    have HBB2 : Hid (InB (((v4.setCell ⟨bx, 0, none⟩ (.slice X1 n1 x1)).setCell ⟨bx, 1, none⟩ (.slice X2 n2 x2)).setCell ⟨bx, 2, none⟩ (.slice X3 n3 x3)) b Y1 Y2 m1 m2 y1 y2) := HBB.out.putN HNxB.out [.slice X1 n1 x1, .slice X2 n2 x2, .slice X3 n3 x3]
                    clear HGG HX HY HRR HBB hHeld
                    have HGG := HGG2; have HX := HX2; have HY := HY2; have HRR := HRR2; have HBB := HBB2
                    clear HGG2 HX2 HY2 HRR2 HBB2
                    generalize (((v4.setCell ⟨bx, 0, none⟩ (.slice X1 n1 x1)).setCell ⟨bx, 1, none⟩ (.slice X2 n2 x2)).setCell ⟨bx, 2, none⟩ (.slice X3 n3 x3)) = v5 at *
                    have hHeld := HGG.out
                    refine wpAnyH_ready (rs := [7]) (by kernel_rfl) (by simp) ?_
                    refine (AllReadyH.cons (o := { dst := none, op := Op.store 30 (Operand.tmp 19) (Operand.tmp 99), type := 0, pos := "law.go:39", after := #[{ on := 5, ground := Ground.data }, { on := 3, ground := Ground.data }, { on := 6, ground := Ground.chain }, { on := 0, ground := Ground.phase }, { on := 1, ground := Ground.phase }, { on := 2, ground := Ground.phase }, { on := 3, ground := Ground.phase }, { on := 4, ground := Ground.phase }, { on := 5, ground := Ground.phase }, { on := 6, ground := Ground.phase }], guard := none }) rfl (fun K hK => ?_) AllReadyH.nil)
                    have y0 := HY.out.at 0 (.int .i64 0) rfl; have y1' := HY.out.at 1 (.slice none 0 0) rfl; have y2' := HY.out.at 2 (.slice none 0 0) rfl
                    have g0 := HY.out.fr 0 (by simp); have g1 := HY.out.fr 1 (by simp); have g2 := HY.out.fr 2 (by simp)
                    go_simp
                    refine hK.out _ _ (grew_put bY HWy.out [.int .i64 b.1, .slice Y1 m1 y1, .slice Y2 m2 y2] 0 _ HGG.out) (fun hHeld => ?_)
                    clear hK K y0 y1' y2' g0 g1 g2
                    try simp only [Act.put, List.setIfInBounds_toArray, List.set_cons_zero, List.set_cons_succ]
                    have HGG2 : Hid (Grew w9 (((v5.setCell ⟨bY, 0, none⟩ (.int .i64 b.1)).setCell ⟨bY, 1, none⟩ (.slice Y1 m1 y1)).setCell ⟨bY, 2, none⟩ (.slice Y2 m2 y2))) := grew_put bY HWy.out [.int .i64 b.1, .slice Y1 m1 y1, .slice Y2 m2 y2] 0 _ HGG.out
                    have HY2 : Hid (OwnC (((v5.setCell ⟨bY, 0, none⟩ (.int .i64 b.1)).setCell ⟨bY, 1, none⟩ (.slice Y1 m1 y1)).setCell ⟨bY, 2, none⟩ (.slice Y2 m2 y2)) bY [.int .i64 b.1, .slice Y1 m1 y1, .slice Y2 m2 y2]) := HY.out.all [.int .i64 b.1, .slice Y1 m1 y1, .slice Y2 m2 y2] rfl
                    have HX2 : Hid (OwnC (((v5.setCell ⟨bY, 0, none⟩ (.int .i64 b.1)).setCell ⟨bY, 1, none⟩ (.slice Y1 m1 y1)).setCell ⟨bY, 2, none⟩ (.slice Y2 m2 y2)) bx [.slice X1 n1 x1, .slice X2 n2 x2, .slice X3 n3 x3]) := OwnC.putO HNxy.out.symm [.int .i64 b.1, .slice Y1 m1 y1, .slice Y2 m2 y2] 0 _ HX.out
                    have HRR2 : Hid (Rows3 (((v5.setCell ⟨bY, 0, none⟩ (.int .i64 b.1)).setCell ⟨bY, 1, none⟩ (.slice Y1 m1 y1)).setCell ⟨bY, 2, none⟩ (.slice Y2 m2 y2)) r X1 X2 X3 n1 n2 n3) := HRR.out.putN HNyR.out [.int .i64 b.1, .slice Y1 m1 y1, .slice Y2 m2 y2]
                    have HBB2 : Hid (InB (((v5.setCell ⟨bY, 0, none⟩ (.int .i64 b.1)).setCell ⟨bY, 1, none⟩ (.slice Y1 m1 y1)).setCell ⟨bY, 2, none⟩ (.slice Y2 m2 y2)) b Y1 Y2 m1 m2 y1 y2) := HBB.out.putN HNyB.out [.int .i64 b.1, .slice Y1 m1 y1, .slice Y2 m2 y2]
                    clear HGG HX HY HRR HBB hHeld
                    have HGG := HGG2; have HX := HX2; have HY := HY2; have HRR := HRR2; have HBB := HBB2
                    clear HGG2 HX2 HY2 HRR2 HBB2
                    generalize (((v5.setCell ⟨bY, 0, none⟩ (.int .i64 b.1)).setCell ⟨bY, 1, none⟩ (.slice Y1 m1 y1)).setCell ⟨bY, 2, none⟩ (.slice Y2 m2 y2)) = v6 at *
                    have hHeld := HGG.out
                    refine wpAnyH_done (by kernel_rfl) ?_ _
                    clear hHeld
                    apply_assumption
                    go_meet
                    case rel => exact ⟨bx, bY, X1, X2, X3, Y1, Y2, x1, x2, x3, y1, y2, rfl, rfl, HX.out, HY.out, HRR.out, HBB.out, HGG.out⟩
                · go_simp
                  refine hK.out _ _ (grew_trans HGG.out (grew_alloc _ _ _)) (fun hHeld => ?_)
                  clear hK K
                  try simp only [Act.put, List.setIfInBounds_toArray, List.set_cons_zero, List.set_cons_succ]
                  obtain ⟨bY, hby⟩ : ∃ q, q = v1.heap.size := ⟨_, rfl⟩
                  rw [← hby]
                  have HNxy : Hid (bx ≠ bY) := by have h1 := HX.out.lt; show _ ≠ _; omega
                  have HX := Lib.hid (HX.out.keep (show Grew v1 ((v1.alloc (.cells #[.int .i64 0, .slice none 0 0, .slice none 0 0] 30))) from (grew_alloc _ _ _)))
                  have HY : Hid (OwnC ((v1.alloc (.cells #[.int .i64 0, .slice none 0 0, .slice none 0 0] 30))) bY [.int .i64 0, .slice none 0 0, .slice none 0 0]) := OwnC.new v1 [.int .i64 0, .slice none 0 0, .slice none 0 0] _ _ hby
                  have HWy : Hid (w9.heap.size ≤ bY) := by have h1 := grew_size HGG.out; show _ ≤ _; omega
                  have HGG : Hid (Grew w9 ((v1.alloc (.cells #[.int .i64 0, .slice none 0 0, .slice none 0 0] 30)))) := grew_trans HGG.out (grew_alloc _ _ _)
                  clear hby hHeld
                  generalize (v1.alloc (.cells #[.int .i64 0, .slice none 0 0, .slice none 0 0] 30)) = v2 at *
                  have hHeld := HGG.out
                  refine wpAnyH_ready (rs := [1]) (by kernel_rfl) (by simp) ?_
                  refine (AllReadyH.cons (o := { dst := some 97, op := Op.call { callee := Callee.value (Operand.func 15), args := #[Operand.tmp 96], argTypes := #[26] }, type := 26, pos := "law.go:39", after := #[{ on := 0, ground := Ground.data }], guard := none }) rfl (fun K hK => ?_) AllReadyH.nil)
                  go_simp
                  (go_at_call 15; (with_reducible refine (CTR _ (grew_trans HG9.out HGG.out)).mono ?_); rintro e v3 ⟨X1, X2, X3, x1, x2, x3, rfl, ⟨ho, -, -, -⟩, hg⟩)
                  have HNxR : Hid (NeR X1 X2 X3 bx) := ⟨fun x hx => by have h1 := (ho.m.block x hx).1; have h2 := HX.out.lt; omega, fun x hx => by have h1 := (ho.i.block x hx).1; have h2 := HX.out.lt; omega, fun x hx => by have h1 := (ho.h.block x hx).1; have h2 := HX.out.lt; omega⟩
                  have HNyR : Hid (NeR X1 X2 X3 bY) := ⟨fun x hx => by have h1 := (ho.m.block x hx).1; have h2 := HY.out.lt; omega, fun x hx => by have h1 := (ho.i.block x hx).1; have h2 := HY.out.lt; omega, fun x hx => by have h1 := (ho.h.block x hx).1; have h2 := HY.out.lt; omega⟩
                  have HX := Lib.hid (HX.out.keep hg)
                  have HY := Lib.hid (HY.out.keep hg)
                  have HRR : Hid (Rows3 v3 r X1 X2 X3 n1 n2 n3) := (by have h9 := ho.rows; rw [HLR.out.1, HLR.out.2.1, HLR.out.2.2] at h9; exact h9)
                  have HLR9 : Hid (LtR X1 X2 X3 v3.heap.size) := ⟨fun x hx => (ho.m.block x hx).2, fun x hx => (ho.i.block x hx).2, fun x hx => (ho.h.block x hx).2⟩
                  have HGG : Hid (Grew w9 v3) := grew_trans HGG.out hg
                  clear ho hg
                  refine hK.out _ _ HGG.out (fun hHeld => ?_)
                  clear hK K
                  try simp only [Act.put, List.setIfInBounds_toArray, List.set_cons_zero, List.set_cons_succ]
                  refine wpAnyH_ready (rs := [3]) (by kernel_rfl) (by simp) ?_
                  refine (AllReadyH.cons (o := { dst := some 99, op := Op.call { callee := Callee.value (Operand.func 16), args := #[Operand.tmp 98], argTypes := #[30] }, type := 30, pos := "law.go:39", after := #[{ on := 2, ground := Ground.data }, { on := 1, ground := Ground.chain }], guard := none }) rfl (fun K hK => ?_) AllReadyH.nil)
                  go_simp
                  (go_at_call 16; (with_reducible refine (CTB _ (grew_trans HG9.out HGG.out)).mono ?_); rintro e v4 ⟨Y1, Y2, y1, y2, rfl, ho, hg⟩)
                  have HNxB : Hid (NeR Y1 Y2 none bx) := ⟨fun x hx => by have h1 := (ho.t.block x hx).1; have h2 := HX.out.lt; omega, fun x hx => by have h1 := (ho.p.block x hx).1; have h2 := HX.out.lt; omega, fun x hx => by cases hx⟩
                  have HNyB : Hid (NeR Y1 Y2 none bY) := ⟨fun x hx => by have h1 := (ho.t.block x hx).1; have h2 := HY.out.lt; omega, fun x hx => by have h1 := (ho.p.block x hx).1; have h2 := HY.out.lt; omega, fun x hx => by cases hx⟩
                  have HX := Lib.hid (HX.out.keep hg)
                  have HY := Lib.hid (HY.out.keep hg)
                  have HRR := Lib.hid (HRR.out.keep hg)
                  have HLR9 := Lib.hid (HLR9.out.mono (grew_size hg))
                  have HBB : Hid (InB v4 b Y1 Y2 m1 m2 y1 y2) := (by have h9 := ho.in; rw [HL1.out, HL2.out] at h9; exact h9)
                  have HLB9 : Hid (LtR Y1 Y2 none v4.heap.size) := ⟨fun x hx => (ho.t.block x hx).2, fun x hx => (ho.p.block x hx).2, fun x hx => by cases hx⟩
                  have HGG : Hid (Grew w9 v4) := grew_trans HGG.out hg
                  clear ho hg
                  refine hK.out _ _ HGG.out (fun hHeld => ?_)
                  clear hK K
                  try simp only [Act.put, List.setIfInBounds_toArray, List.set_cons_zero, List.set_cons_succ]
                  refine wpAnyH_ready (rs := [6]) (by kernel_rfl) (by simp) ?_
                  refine (AllReadyH.cons (o := { dst := none, op := Op.store 26 (Operand.tmp 18) (Operand.tmp 97), type := 0, pos := "law.go:39", after := #[{ on := 4, ground := Ground.data }, { on := 1, ground := Ground.data }, { on := 3, ground := Ground.chain }, { on := 0, ground := Ground.phase }, { on := 1, ground := Ground.phase }, { on := 2, ground := Ground.textOnly Departure.lateStores }, { on := 3, ground := Ground.textOnly Departure.lateStoresUnsure }, { on := 4, ground := Ground.phase }, { on := 5, ground := Ground.phase }], guard := none }) rfl (fun K hK => ?_) AllReadyH.nil)
                  have y0 := HX.out.at 0 (.slice none 0 0) rfl; have y1' := HX.out.at 1 (.slice none 0 0) rfl; have y2' := HX.out.at 2 (.slice none 0 0) rfl
                  have g0 := HX.out.fr 0 (by simp); have g1 := HX.out.fr 1 (by simp); have g2 := HX.out.fr 2 (by simp)
                  go_simp
                  refine hK.out _ _ (grew_put bx HWx.out [.slice X1 n1 x1, .slice X2 n2 x2, .slice X3 n3 x3] 0 _ HGG.out) (fun hHeld => ?_)
                  clear hK K y0 y1' y2' g0 g1 g2
                  try simp only [Act.put, List.setIfInBounds_toArray, List.set_cons_zero, List.set_cons_succ]
                  have HGG2 : Hid (Grew w9 (((v4.setCell ⟨bx, 0, none⟩ (.slice X1 n1 x1)).setCell ⟨bx, 1, none⟩ (.slice X2 n2 x2)).setCell ⟨bx, 2, none⟩ (.slice X3 n3 x3))) := grew_put bx HWx.out [.slice X1 n1 x1, .slice X2 n2 x2, .slice X3 n3 x3] 0 _ HGG.out
                  have HX2 : Hid (OwnC (((v4.setCell ⟨bx, 0, none⟩ (.slice X1 n1 x1)).setCell ⟨bx, 1, none⟩ (.slice X2 n2 x2)).setCell ⟨bx, 2, none⟩ (.slice X3 n3 x3)) bx [.slice X1 n1 x1, .slice X2 n2 x2, .slice X3 n3 x3]) := HX.out.all [.slice X1 n1 x1, .slice X2 n2 x2, .slice X3 n3 x3] rfl
                  have HY2 : Hid (OwnC (((v4.setCell ⟨bx, 0, none⟩ (.slice X1 n1 x1)).setCell ⟨bx, 1, none⟩ (.slice X2 n2 x2)).setCell ⟨bx, 2, none⟩ (.slice X3 n3 x3)) bY [.int .i64 0, .slice none 0 0, .slice none 0 0]) := OwnC.putO HNxy.out [.slice X1 n1 x1, .slice X2 n2 x2, .slice X3 n3 x3] 0 _ HY.out
                  have HRR2 : Hid (Rows3 (((v4.setCell ⟨bx, 0, none⟩ (.slice X1 n1 x1)).setCell ⟨bx, 1, none⟩ (.slice X2 n2 x2)).setCell ⟨bx, 2, none⟩ (.slice X3 n3 x3)) r X1 X2 X3 n1 n2 n3) := HRR.out.putN HNxR.out [.slice X1 n1 x1, .slice X2 n2 x2, .slice X3 n3 x3]
                  have HBB2 : Hid (InB (((v4.setCell ⟨bx, 0, none⟩ (.slice X1 n1 x1)).setCell ⟨bx, 1, none⟩ (.slice X2 n2 x2)).setCell ⟨bx, 2, none⟩ (.slice X3 n3 x3)) b Y1 Y2 m1 m2 y1 y2) := HBB.out.putN HNxB.out [.slice X1 n1 x1, .slice X2 n2 x2, .slice X3 n3 x3]
                  clear HGG HX HY HRR HBB hHeld
                  have HGG := HGG2; have HX := HX2; have HY := HY2; have HRR := HRR2; have HBB := HBB2
                  clear HGG2 HX2 HY2 HRR2 HBB2
                  generalize (((v4.setCell ⟨bx, 0, none⟩ (.slice X1 n1 x1)).setCell ⟨bx, 1, none⟩ (.slice X2 n2 x2)).setCell ⟨bx, 2, none⟩ (.slice X3 n3 x3)) = v5 at *
                  have hHeld := HGG.out
                  refine wpAnyH_ready (rs := [7]) (by kernel_rfl) (by simp) ?_
                  refine (AllReadyH.cons (o := { dst := none, op := Op.store 30 (Operand.tmp 19) (Operand.tmp 99), type := 0, pos := "law.go:39", after := #[{ on := 5, ground := Ground.data }, { on := 3, ground := Ground.data }, { on := 6, ground := Ground.chain }, { on := 0, ground := Ground.phase }, { on := 1, ground := Ground.phase }, { on := 2, ground := Ground.phase }, { on := 3, ground := Ground.phase }, { on := 4, ground := Ground.phase }, { on := 5, ground := Ground.phase }, { on := 6, ground := Ground.phase }], guard := none }) rfl (fun K hK => ?_) AllReadyH.nil)
                  have y0 := HY.out.at 0 (.int .i64 0) rfl; have y1' := HY.out.at 1 (.slice none 0 0) rfl; have y2' := HY.out.at 2 (.slice none 0 0) rfl
                  have g0 := HY.out.fr 0 (by simp); have g1 := HY.out.fr 1 (by simp); have g2 := HY.out.fr 2 (by simp)
                  go_simp
                  refine hK.out _ _ (grew_put bY HWy.out [.int .i64 b.1, .slice Y1 m1 y1, .slice Y2 m2 y2] 0 _ HGG.out) (fun hHeld => ?_)
                  clear hK K y0 y1' y2' g0 g1 g2
                  try simp only [Act.put, List.setIfInBounds_toArray, List.set_cons_zero, List.set_cons_succ]
                  have HGG2 : Hid (Grew w9 (((v5.setCell ⟨bY, 0, none⟩ (.int .i64 b.1)).setCell ⟨bY, 1, none⟩ (.slice Y1 m1 y1)).setCell ⟨bY, 2, none⟩ (.slice Y2 m2 y2))) := grew_put bY HWy.out [.int .i64 b.1, .slice Y1 m1 y1, .slice Y2 m2 y2] 0 _ HGG.out
                  have HY2 : Hid (OwnC (((v5.setCell ⟨bY, 0, none⟩ (.int .i64 b.1)).setCell ⟨bY, 1, none⟩ (.slice Y1 m1 y1)).setCell ⟨bY, 2, none⟩ (.slice Y2 m2 y2)) bY [.int .i64 b.1, .slice Y1 m1 y1, .slice Y2 m2 y2]) := HY.out.all [.int .i64 b.1, .slice Y1 m1 y1, .slice Y2 m2 y2] rfl
                  have HX2 : Hid (OwnC (((v5.setCell ⟨bY, 0, none⟩ (.int .i64 b.1)).setCell ⟨bY, 1, none⟩ (.slice Y1 m1 y1)).setCell ⟨bY, 2, none⟩ (.slice Y2 m2 y2)) bx [.slice X1 n1 x1, .slice X2 n2 x2, .slice X3 n3 x3]) := OwnC.putO HNxy.out.symm [.int .i64 b.1, .slice Y1 m1 y1, .slice Y2 m2 y2] 0 _ HX.out
                  have HRR2 : Hid (Rows3 (((v5.setCell ⟨bY, 0, none⟩ (.int .i64 b.1)).setCell ⟨bY, 1, none⟩ (.slice Y1 m1 y1)).setCell ⟨bY, 2, none⟩ (.slice Y2 m2 y2)) r X1 X2 X3 n1 n2 n3) := HRR.out.putN HNyR.out [.int .i64 b.1, .slice Y1 m1 y1, .slice Y2 m2 y2]
                  have HBB2 : Hid (InB (((v5.setCell ⟨bY, 0, none⟩ (.int .i64 b.1)).setCell ⟨bY, 1, none⟩ (.slice Y1 m1 y1)).setCell ⟨bY, 2, none⟩ (.slice Y2 m2 y2)) b Y1 Y2 m1 m2 y1 y2) := HBB.out.putN HNyB.out [.int .i64 b.1, .slice Y1 m1 y1, .slice Y2 m2 y2]
                  clear HGG HX HY HRR HBB hHeld
                  have HGG := HGG2; have HX := HX2; have HY := HY2; have HRR := HRR2; have HBB := HBB2
                  clear HGG2 HX2 HY2 HRR2 HBB2
                  generalize (((v5.setCell ⟨bY, 0, none⟩ (.int .i64 b.1)).setCell ⟨bY, 1, none⟩ (.slice Y1 m1 y1)).setCell ⟨bY, 2, none⟩ (.slice Y2 m2 y2)) = v6 at *
                  have hHeld := HGG.out
                  refine wpAnyH_done (by kernel_rfl) ?_ _
                  clear hHeld
                  apply_assumption
                  go_meet
                  case rel => exact ⟨bx, bY, X1, X2, X3, Y1, Y2, x1, x2, x3, y1, y2, rfl, rfl, HX.out, HY.out, HRR.out, HBB.out, HGG.out⟩
              · go_simp
                refine hK.out _ _ (grew_drew (grew_alloc _ _ _)) (fun hHeld => ?_)
                clear hK K
                try simp only [Act.put, List.setIfInBounds_toArray, List.set_cons_zero, List.set_cons_succ]
                obtain ⟨bY, hby⟩ : ∃ q, q = w9.heap.size := ⟨_, rfl⟩
                rw [← hby]
                have HY : Hid (OwnC ((w9.alloc (.cells #[.int .i64 0, .slice none 0 0, .slice none 0 0] 30)).drew) bY [.int .i64 0, .slice none 0 0, .slice none 0 0]) := (OwnC.new w9 [.int .i64 0, .slice none 0 0, .slice none 0 0] _ _ hby).drew
                have HWy : Hid (w9.heap.size ≤ bY) := by have h1 := Nat.le_refl w9.heap.size; show _ ≤ _; omega
                have HGG : Hid (Grew w9 ((w9.alloc (.cells #[.int .i64 0, .slice none 0 0, .slice none 0 0] 30)).drew)) := grew_drew (grew_alloc _ _ _)
                clear hby hHeld
                generalize (w9.alloc (.cells #[.int .i64 0, .slice none 0 0, .slice none 0 0] 30)).drew = v1 at *
                have hHeld := HGG.out
                refine wpAnyH_ready (rs := [1, 4]) (by kernel_rfl) (by simp) ?_
                refine (AllReadyH.cons (o := { dst := some 97, op := Op.call { callee := Callee.value (Operand.func 15), args := #[Operand.tmp 96], argTypes := #[26] }, type := 26, pos := "law.go:39", after := #[{ on := 0, ground := Ground.data }], guard := none }) rfl (fun K hK => ?_) (AllReadyH.cons (o := { dst := some 18, op := Op.alloc 26, type := 0, pos := "law.go:39", after := #[], guard := none }) rfl (fun K hK => ?_) AllReadyH.nil))
                · go_simp
                  (go_at_call 15; (with_reducible refine (CTR _ (grew_trans HG9.out HGG.out)).mono ?_); rintro e v2 ⟨X1, X2, X3, x1, x2, x3, rfl, ⟨ho, -, -, -⟩, hg⟩)
                  have HNyR : Hid (NeR X1 X2 X3 bY) := ⟨fun x hx => by have h1 := (ho.m.block x hx).1; have h2 := HY.out.lt; omega, fun x hx => by have h1 := (ho.i.block x hx).1; have h2 := HY.out.lt; omega, fun x hx => by have h1 := (ho.h.block x hx).1; have h2 := HY.out.lt; omega⟩
                  have HY := Lib.hid (HY.out.keep hg)
                  have HRR : Hid (Rows3 v2 r X1 X2 X3 n1 n2 n3) := (by have h9 := ho.rows; rw [HLR.out.1, HLR.out.2.1, HLR.out.2.2] at h9; exact h9)
                  have HLR9 : Hid (LtR X1 X2 X3 v2.heap.size) := ⟨fun x hx => (ho.m.block x hx).2, fun x hx => (ho.i.block x hx).2, fun x hx => (ho.h.block x hx).2⟩
                  have HGG : Hid (Grew w9 v2) := grew_trans HGG.out hg
                  clear ho hg
                  refine hK.out _ _ HGG.out (fun hHeld => ?_)
                  clear hK K
                  try simp only [Act.put, List.setIfInBounds_toArray, List.set_cons_zero, List.set_cons_succ]
                  refine wpAnyH_ready (rs := [3, 4]) (by kernel_rfl) (by simp) ?_
                  refine (AllReadyH.cons (o := { dst := some 99, op := Op.call { callee := Callee.value (Operand.func 16), args := #[Operand.tmp 98], argTypes := #[30] }, type := 30, pos := "law.go:39", after := #[{ on := 2, ground := Ground.data }, { on := 1, ground := Ground.chain }], guard := none }) rfl (fun K hK => ?_) (AllReadyH.cons (o := { dst := some 18, op := Op.alloc 26, type := 0, pos := "law.go:39", after := #[], guard := none }) rfl (fun K hK => ?_) AllReadyH.nil))
                  · go_simp
                    (go_at_call 16; (with_reducible refine (CTB _ (grew_trans HG9.out HGG.out)).mono ?_); rintro e v3 ⟨Y1, Y2, y1, y2, rfl, ho, hg⟩)
                    have HNyB : Hid (NeR Y1 Y2 none bY) := ⟨fun x hx => by have h1 := (ho.t.block x hx).1; have h2 := HY.out.lt; omega, fun x hx => by have h1 := (ho.p.block x hx).1; have h2 := HY.out.lt; omega, fun x hx => by cases hx⟩
                    have HY := Lib.hid (HY.out.keep hg)
                    have HRR := Lib.hid (HRR.out.keep hg)
                    have HLR9 := Lib.hid (HLR9.out.mono (grew_size hg))
                    have HBB : Hid (InB v3 b Y1 Y2 m1 m2 y1 y2) := (by have h9 := ho.in; rw [HL1.out, HL2.out] at h9; exact h9)
                    have HLB9 : Hid (LtR Y1 Y2 none v3.heap.size) := ⟨fun x hx => (ho.t.block x hx).2, fun x hx => (ho.p.block x hx).2, fun x hx => by cases hx⟩
                    have HGG : Hid (Grew w9 v3) := grew_trans HGG.out hg
                    clear ho hg
                    refine hK.out _ _ HGG.out (fun hHeld => ?_)
                    clear hK K
                    try simp only [Act.put, List.setIfInBounds_toArray, List.set_cons_zero, List.set_cons_succ]
                    refine wpAnyH_ready (rs := [4]) (by kernel_rfl) (by simp) ?_
                    refine (AllReadyH.cons (o := { dst := some 18, op := Op.alloc 26, type := 0, pos := "law.go:39", after := #[], guard := none }) rfl (fun K hK => ?_) AllReadyH.nil)
                    go_simp
                    refine hK.out _ _ (grew_trans HGG.out (grew_alloc _ _ _)) (fun hHeld => ?_)
                    clear hK K
                    try simp only [Act.put, List.setIfInBounds_toArray, List.set_cons_zero, List.set_cons_succ]
                    obtain ⟨bx, hbx⟩ : ∃ q, q = v3.heap.size := ⟨_, rfl⟩
                    rw [← hbx]
                    have HNxy : Hid (bx ≠ bY) := by have h1 := HY.out.lt; show _ ≠ _; omega
                    have HNxR : Hid (NeR X1 X2 X3 bx) := HLR9.out.ne (Nat.le_of_eq hbx.symm)
                    have HNxB : Hid (NeR Y1 Y2 none bx) := HLB9.out.ne (Nat.le_of_eq hbx.symm)
                    have HY := Lib.hid (HY.out.keep (show Grew v3 ((v3.alloc (.cells #[.slice none 0 0, .slice none 0 0, .slice none 0 0] 26))) from (grew_alloc _ _ _)))
                    have HRR := Lib.hid (HRR.out.keep (show Grew v3 ((v3.alloc (.cells #[.slice none 0 0, .slice none 0 0, .slice none 0 0] 26))) from (grew_alloc _ _ _)))
                    have HLR9 := Lib.hid (HLR9.out.mono (grew_size (show Grew v3 ((v3.alloc (.cells #[.slice none 0 0, .slice none 0 0, .slice none 0 0] 26))) from (grew_alloc _ _ _))))
                    have HBB := Lib.hid (HBB.out.keep (show Grew v3 ((v3.alloc (.cells #[.slice none 0 0, .slice none 0 0, .slice none 0 0] 26))) from (grew_alloc _ _ _)))
                    have HLB9 := Lib.hid (HLB9.out.mono (grew_size (show Grew v3 ((v3.alloc (.cells #[.slice none 0 0, .slice none 0 0, .slice none 0 0] 26))) from (grew_alloc _ _ _))))
                    have HX : Hid (OwnC ((v3.alloc (.cells #[.slice none 0 0, .slice none 0 0, .slice none 0 0] 26))) bx [.slice none 0 0, .slice none 0 0, .slice none 0 0]) := OwnC.new v3 [.slice none 0 0, .slice none 0 0, .slice none 0 0] _ _ hbx
                    have HWx : Hid (w9.heap.size ≤ bx) := by have h1 := grew_size HGG.out; show _ ≤ _; omega
                    have HGG : Hid (Grew w9 ((v3.alloc (.cells #[.slice none 0 0, .slice none 0 0, .slice none 0 0] 26)))) := grew_trans HGG.out (grew_alloc _ _ _)
                    clear hbx hHeld
                    generalize (v3.alloc (.cells #[.slice none 0 0, .slice none 0 0, .slice none 0 0] 26)) = v4 at *
                    have hHeld := HGG.out
                    refine wpAnyH_ready (rs := [6]) (by kernel_rfl) (by simp) ?_
                    refine (AllReadyH.cons (o := { dst := none, op := Op.store 26 (Operand.tmp 18) (Operand.tmp 97), type := 0, pos := "law.go:39", after := #[{ on := 4, ground := Ground.data }, { on := 1, ground := Ground.data }, { on := 3, ground := Ground.chain }, { on := 0, ground := Ground.phase }, { on := 1, ground := Ground.phase }, { on := 2, ground := Ground.textOnly Departure.lateStores }, { on := 3, ground := Ground.textOnly Departure.lateStoresUnsure }, { on := 4, ground := Ground.phase }, { on := 5, ground := Ground.phase }], guard := none }) rfl (fun K hK => ?_) AllReadyH.nil)
                    have y0 := HX.out.at 0 (.slice none 0 0) rfl; have y1' := HX.out.at 1 (.slice none 0 0) rfl; have y2' := HX.out.at 2 (.slice none 0 0) rfl
                    have g0 := HX.out.fr 0 (by simp); have g1 := HX.out.fr 1 (by simp); have g2 := HX.out.fr 2 (by simp)
                    go_simp
                    refine hK.out _ _ (grew_put bx HWx.out [.slice X1 n1 x1, .slice X2 n2 x2, .slice X3 n3 x3] 0 _ HGG.out) (fun hHeld => ?_)
                    clear hK K y0 y1' y2' g0 g1 g2
                    try simp only [Act.put, List.setIfInBounds_toArray, List.set_cons_zero, List.set_cons_succ]
                    have HGG2 : Hid (Grew w9 (((v4.setCell ⟨bx, 0, none⟩ (.slice X1 n1 x1)).setCell ⟨bx, 1, none⟩ (.slice X2 n2 x2)).setCell ⟨bx, 2, none⟩ (.slice X3 n3 x3))) := grew_put bx HWx.out [.slice X1 n1 x1, .slice X2 n2 x2, .slice X3 n3 x3] 0 _ HGG.out
                    have HX2 : Hid (OwnC (((v4.setCell ⟨bx, 0, none⟩ (.slice X1 n1 x1)).setCell ⟨bx, 1, none⟩ (.slice X2 n2 x2)).setCell ⟨bx, 2, none⟩ (.slice X3 n3 x3)) bx [.slice X1 n1 x1, .slice X2 n2 x2, .slice X3 n3 x3]) := HX.out.all [.slice X1 n1 x1, .slice X2 n2 x2, .slice X3 n3 x3] rfl
                    have HY2 : Hid (OwnC (((v4.setCell ⟨bx, 0, none⟩ (.slice X1 n1 x1)).setCell ⟨bx, 1, none⟩ (.slice X2 n2 x2)).setCell ⟨bx, 2, none⟩ (.slice X3 n3 x3)) bY [.int .i64 0, .slice none 0 0, .slice none 0 0]) := OwnC.putO HNxy.out [.slice X1 n1 x1, .slice X2 n2 x2, .slice X3 n3 x3] 0 _ HY.out
                    have HRR2 : Hid (Rows3 (((v4.setCell ⟨bx, 0, none⟩ (.slice X1 n1 x1)).setCell ⟨bx, 1, none⟩ (.slice X2 n2 x2)).setCell ⟨bx, 2, none⟩ (.slice X3 n3 x3)) r X1 X2 X3 n1 n2 n3) := HRR.out.putN HNxR.out [.slice X1 n1 x1, .slice X2 n2 x2, .slice X3 n3 x3]
                    have HBB2 : Hid (InB (((v4.setCell ⟨bx, 0, none⟩ (.slice X1 n1 x1)).setCell ⟨bx, 1, none⟩ (.slice X2 n2 x2)).setCell ⟨bx, 2, none⟩ (.slice X3 n3 x3)) b Y1 Y2 m1 m2 y1 y2) := HBB.out.putN HNxB.out [.slice X1 n1 x1, .slice X2 n2 x2, .slice X3 n3 x3]
                    clear HGG HX HY HRR HBB hHeld
                    have HGG := HGG2; have HX := HX2; have HY := HY2; have HRR := HRR2; have HBB := HBB2
                    clear HGG2 HX2 HY2 HRR2 HBB2
                    generalize (((v4.setCell ⟨bx, 0, none⟩ (.slice X1 n1 x1)).setCell ⟨bx, 1, none⟩ (.slice X2 n2 x2)).setCell ⟨bx, 2, none⟩ (.slice X3 n3 x3)) = v5 at *
                    have hHeld := HGG.out
                    refine wpAnyH_ready (rs := [7]) (by kernel_rfl) (by simp) ?_
                    refine (AllReadyH.cons (o := { dst := none, op := Op.store 30 (Operand.tmp 19) (Operand.tmp 99), type := 0, pos := "law.go:39", after := #[{ on := 5, ground := Ground.data }, { on := 3, ground := Ground.data }, { on := 6, ground := Ground.chain }, { on := 0, ground := Ground.phase }, { on := 1, ground := Ground.phase }, { on := 2, ground := Ground.phase }, { on := 3, ground := Ground.phase }, { on := 4, ground := Ground.phase }, { on := 5, ground := Ground.phase }, { on := 6, ground := Ground.phase }], guard := none }) rfl (fun K hK => ?_) AllReadyH.nil)
                    have y0 := HY.out.at 0 (.int .i64 0) rfl; have y1' := HY.out.at 1 (.slice none 0 0) rfl; have y2' := HY.out.at 2 (.slice none 0 0) rfl
                    have g0 := HY.out.fr 0 (by simp); have g1 := HY.out.fr 1 (by simp); have g2 := HY.out.fr 2 (by simp)
                    go_simp
                    refine hK.out _ _ (grew_put bY HWy.out [.int .i64 b.1, .slice Y1 m1 y1, .slice Y2 m2 y2] 0 _ HGG.out) (fun hHeld => ?_)
                    clear hK K y0 y1' y2' g0 g1 g2
                    try simp only [Act.put, List.setIfInBounds_toArray, List.set_cons_zero, List.set_cons_succ]
                    have HGG2 : Hid (Grew w9 (((v5.setCell ⟨bY, 0, none⟩ (.int .i64 b.1)).setCell ⟨bY, 1, none⟩ (.slice Y1 m1 y1)).setCell ⟨bY, 2, none⟩ (.slice Y2 m2 y2))) := grew_put bY HWy.out [.int .i64 b.1, .slice Y1 m1 y1, .slice Y2 m2 y2] 0 _ HGG.out
                    have HY2 : Hid (OwnC (((v5.setCell ⟨bY, 0, none⟩ (.int .i64 b.1)).setCell ⟨bY, 1, none⟩ (.slice Y1 m1 y1)).setCell ⟨bY, 2, none⟩ (.slice Y2 m2 y2)) bY [.int .i64 b.1, .slice Y1 m1 y1, .slice Y2 m2 y2]) := HY.out.all [.int .i64 b.1, .slice Y1 m1 y1, .slice Y2 m2 y2] rfl
                    have HX2 : Hid (OwnC (((v5.setCell ⟨bY, 0, none⟩ (.int .i64 b.1)).setCell ⟨bY, 1, none⟩ (.slice Y1 m1 y1)).setCell ⟨bY, 2, none⟩ (.slice Y2 m2 y2)) bx [.slice X1 n1 x1, .slice X2 n2 x2, .slice X3 n3 x3]) := OwnC.putO HNxy.out.symm [.int .i64 b.1, .slice Y1 m1 y1, .slice Y2 m2 y2] 0 _ HX.out
                    have HRR2 : Hid (Rows3 (((v5.setCell ⟨bY, 0, none⟩ (.int .i64 b.1)).setCell ⟨bY, 1, none⟩ (.slice Y1 m1 y1)).setCell ⟨bY, 2, none⟩ (.slice Y2 m2 y2)) r X1 X2 X3 n1 n2 n3) := HRR.out.putN HNyR.out [.int .i64 b.1, .slice Y1 m1 y1, .slice Y2 m2 y2]
                    have HBB2 : Hid (InB (((v5.setCell ⟨bY, 0, none⟩ (.int .i64 b.1)).setCell ⟨bY, 1, none⟩ (.slice Y1 m1 y1)).setCell ⟨bY, 2, none⟩ (.slice Y2 m2 y2)) b Y1 Y2 m1 m2 y1 y2) := HBB.out.putN HNyB.out [.int .i64 b.1, .slice Y1 m1 y1, .slice Y2 m2 y2]
                    clear HGG HX HY HRR HBB hHeld
                    have HGG := HGG2; have HX := HX2; have HY := HY2; have HRR := HRR2; have HBB := HBB2
                    clear HGG2 HX2 HY2 HRR2 HBB2
                    generalize (((v5.setCell ⟨bY, 0, none⟩ (.int .i64 b.1)).setCell ⟨bY, 1, none⟩ (.slice Y1 m1 y1)).setCell ⟨bY, 2, none⟩ (.slice Y2 m2 y2)) = v6 at *
                    have hHeld := HGG.out
                    refine wpAnyH_done (by kernel_rfl) ?_ _
                    clear hHeld
                    apply_assumption
                    go_meet
                    case rel => exact ⟨bx, bY, X1, X2, X3, Y1, Y2, x1, x2, x3, y1, y2, rfl, rfl, HX.out, HY.out, HRR.out, HBB.out, HGG.out⟩
                  · go_simp
                    refine hK.out _ _ (grew_trans HGG.out (grew_alloc _ _ _)) (fun hHeld => ?_)
                    clear hK K
                    try simp only [Act.put, List.setIfInBounds_toArray, List.set_cons_zero, List.set_cons_succ]
                    obtain ⟨bx, hbx⟩ : ∃ q, q = v2.heap.size := ⟨_, rfl⟩
                    rw [← hbx]
                    have HNxy : Hid (bx ≠ bY) := by have h1 := HY.out.lt; show _ ≠ _; omega
                    have HNxR : Hid (NeR X1 X2 X3 bx) := HLR9.out.ne (Nat.le_of_eq hbx.symm)
                    have HY := Lib.hid (HY.out.keep (show Grew v2 ((v2.alloc (.cells #[.slice none 0 0, .slice none 0 0, .slice none 0 0] 26))) from (grew_alloc _ _ _)))
                    have HRR := Lib.hid (HRR.out.keep (show Grew v2 ((v2.alloc (.cells #[.slice none 0 0, .slice none 0 0, .slice none 0 0] 26))) from (grew_alloc _ _ _)))
                    have HLR9 := Lib.hid (HLR9.out.mono (grew_size (show Grew v2 ((v2.alloc (.cells #[.slice none 0 0, .slice none 0 0, .slice none 0 0] 26))) from (grew_alloc _ _ _))))
                    have HX : Hid (OwnC ((v2.alloc (.cells #[.slice none 0 0, .slice none 0 0, .slice none 0 0] 26))) bx [.slice none 0 0, .slice none 0 0, .slice none 0 0]) := OwnC.new v2 [.slice none 0 0, .slice none 0 0, .slice none 0 0] _ _ hbx
                    have HWx : Hid (w9.heap.size ≤ bx) := by have h1 := grew_size HGG.out; show _ ≤ _; omega
                    have HGG : Hid (Grew w9 ((v2.alloc (.cells #[.slice none 0 0, .slice none 0 0, .slice none 0 0] 26)))) := grew_trans HGG.out (grew_alloc _ _ _)
                    clear hbx hHeld
                    generalize (v2.alloc (.cells #[.slice none 0 0, .slice none 0 0, .slice none 0 0] 26)) = v3 at *
                    have hHeld := HGG.out
                    refine wpAnyH_ready (rs := [3]) (by kernel_rfl) (by simp) ?_
                    refine (AllReadyH.cons (o := { dst := some 99, op := Op.call { callee := Callee.value (Operand.func 16), args := #[Operand.tmp 98], argTypes := #[30] }, type := 30, pos := "law.go:39", after := #[{ on := 2, ground := Ground.data }, { on := 1, ground := Ground.chain }], guard := none }) rfl (fun K hK => ?_) AllReadyH.nil)
                    go_simp
                    (go_at_call 16; (with_reducible refine (CTB _ (grew_trans HG9.out HGG.out)).mono ?_); rintro e v4 ⟨Y1, Y2, y1, y2, rfl, ho, hg⟩)
                    have HNxB : Hid (NeR Y1 Y2 none bx) := ⟨fun x hx => by have h1 := (ho.t.block x hx).1; have h2 := HX.out.lt; omega, fun x hx => by have h1 := (ho.p.block x hx).1; have h2 := HX.out.lt; omega, fun x hx => by cases hx⟩
                    have HNyB : Hid (NeR Y1 Y2 none bY) := ⟨fun x hx => by have h1 := (ho.t.block x hx).1; have h2 := HY.out.lt; omega, fun x hx => by have h1 := (ho.p.block x hx).1; have h2 := HY.out.lt; omega, fun x hx => by cases hx⟩
                    have HX := Lib.hid (HX.out.keep hg)
                    have HY := Lib.hid (HY.out.keep hg)
                    have HRR := Lib.hid (HRR.out.keep hg)
                    have HLR9 := Lib.hid (HLR9.out.mono (grew_size hg))
                    have HBB : Hid (InB v4 b Y1 Y2 m1 m2 y1 y2) := (by have h9 := ho.in; rw [HL1.out, HL2.out] at h9; exact h9)
                    have HLB9 : Hid (LtR Y1 Y2 none v4.heap.size) := ⟨fun x hx => (ho.t.block x hx).2, fun x hx => (ho.p.block x hx).2, fun x hx => by cases hx⟩
                    have HGG : Hid (Grew w9 v4) := grew_trans HGG.out hg
                    clear ho hg
                    refine hK.out _ _ HGG.out (fun hHeld => ?_)
                    clear hK K
                    try simp only [Act.put, List.setIfInBounds_toArray, List.set_cons_zero, List.set_cons_succ]
                    refine wpAnyH_ready (rs := [6]) (by kernel_rfl) (by simp) ?_
                    refine (AllReadyH.cons (o := { dst := none, op := Op.store 26 (Operand.tmp 18) (Operand.tmp 97), type := 0, pos := "law.go:39", after := #[{ on := 4, ground := Ground.data }, { on := 1, ground := Ground.data }, { on := 3, ground := Ground.chain }, { on := 0, ground := Ground.phase }, { on := 1, ground := Ground.phase }, { on := 2, ground := Ground.textOnly Departure.lateStores }, { on := 3, ground := Ground.textOnly Departure.lateStoresUnsure }, { on := 4, ground := Ground.phase }, { on := 5, ground := Ground.phase }], guard := none }) rfl (fun K hK => ?_) AllReadyH.nil)
                    have y0 := HX.out.at 0 (.slice none 0 0) rfl; have y1' := HX.out.at 1 (.slice none 0 0) rfl; have y2' := HX.out.at 2 (.slice none 0 0) rfl
                    have g0 := HX.out.fr 0 (by simp); have g1 := HX.out.fr 1 (by simp); have g2 := HX.out.fr 2 (by simp)
                    go_simp
                    refine hK.out _ _ (grew_put bx HWx.out [.slice X1 n1 x1, .slice X2 n2 x2, .slice X3 n3 x3] 0 _ HGG.out) (fun hHeld => ?_)
                    clear hK K y0 y1' y2' g0 g1 g2
                    try simp only [Act.put, List.setIfInBounds_toArray, List.set_cons_zero, List.set_cons_succ]
                    have HGG2 : Hid (Grew w9 (((v4.setCell ⟨bx, 0, none⟩ (.slice X1 n1 x1)).setCell ⟨bx, 1, none⟩ (.slice X2 n2 x2)).setCell ⟨bx, 2, none⟩ (.slice X3 n3 x3))) := grew_put bx HWx.out [.slice X1 n1 x1, .slice X2 n2 x2, .slice X3 n3 x3] 0 _ HGG.out
                    have HX2 : Hid (OwnC (((v4.setCell ⟨bx, 0, none⟩ (.slice X1 n1 x1)).setCell ⟨bx, 1, none⟩ (.slice X2 n2 x2)).setCell ⟨bx, 2, none⟩ (.slice X3 n3 x3)) bx [.slice X1 n1 x1, .slice X2 n2 x2, .slice X3 n3 x3]) := HX.out.all [.slice X1 n1 x1, .slice X2 n2 x2, .slice X3 n3 x3] rfl
                    have HY2 : Hid (OwnC (((v4.setCell ⟨bx, 0, none⟩ (.slice X1 n1 x1)).setCell ⟨bx, 1, none⟩ (.slice X2 n2 x2)).setCell ⟨bx, 2, none⟩ (.slice X3 n3 x3)) bY [.int .i64 0, .slice none 0 0, .slice none 0 0]) := OwnC.putO HNxy.out [.slice X1 n1 x1, .slice X2 n2 x2, .slice X3 n3 x3] 0 _ HY.out
                    have HRR2 : Hid (Rows3 (((v4.setCell ⟨bx, 0, none⟩ (.slice X1 n1 x1)).setCell ⟨bx, 1, none⟩ (.slice X2 n2 x2)).setCell ⟨bx, 2, none⟩ (.slice X3 n3 x3)) r X1 X2 X3 n1 n2 n3) := HRR.out.putN HNxR.out [.slice X1 n1 x1, .slice X2 n2 x2, .slice X3 n3 x3]
                    have HBB2 : Hid (InB (((v4.setCell ⟨bx, 0, none⟩ (.slice X1 n1 x1)).setCell ⟨bx, 1, none⟩ (.slice X2 n2 x2)).setCell ⟨bx, 2, none⟩ (.slice X3 n3 x3)) b Y1 Y2 m1 m2 y1 y2) := HBB.out.putN HNxB.out [.slice X1 n1 x1, .slice X2 n2 x2, .slice X3 n3 x3]
                    clear HGG HX HY HRR HBB hHeld
                    have HGG := HGG2; have HX := HX2; have HY := HY2; have HRR := HRR2; have HBB := HBB2
                    clear HGG2 HX2 HY2 HRR2 HBB2
                    generalize (((v4.setCell ⟨bx, 0, none⟩ (.slice X1 n1 x1)).setCell ⟨bx, 1, none⟩ (.slice X2 n2 x2)).setCell ⟨bx, 2, none⟩ (.slice X3 n3 x3)) = v5 at *
                    have hHeld := HGG.out
                    refine wpAnyH_ready (rs := [7]) (by kernel_rfl) (by simp) ?_
                    refine (AllReadyH.cons (o := { dst := none, op := Op.store 30 (Operand.tmp 19) (Operand.tmp 99), type := 0, pos := "law.go:39", after := #[{ on := 5, ground := Ground.data }, { on := 3, ground := Ground.data }, { on := 6, ground := Ground.chain }, { on := 0, ground := Ground.phase }, { on := 1, ground := Ground.phase }, { on := 2, ground := Ground.phase }, { on := 3, ground := Ground.phase }, { on := 4, ground := Ground.phase }, { on := 5, ground := Ground.phase }, { on := 6, ground := Ground.phase }], guard := none }) rfl (fun K hK => ?_) AllReadyH.nil)
                    have y0 := HY.out.at 0 (.int .i64 0) rfl; have y1' := HY.out.at 1 (.slice none 0 0) rfl; have y2' := HY.out.at 2 (.slice none 0 0) rfl
                    have g0 := HY.out.fr 0 (by simp); have g1 := HY.out.fr 1 (by simp); have g2 := HY.out.fr 2 (by simp)
                    go_simp
                    refine hK.out _ _ (grew_put bY HWy.out [.int .i64 b.1, .slice Y1 m1 y1, .slice Y2 m2 y2] 0 _ HGG.out) (fun hHeld => ?_)
                    clear hK K y0 y1' y2' g0 g1 g2
                    try simp only [Act.put, List.setIfInBounds_toArray, List.set_cons_zero, List.set_cons_succ]
                    have HGG2 : Hid (Grew w9 (((v5.setCell ⟨bY, 0, none⟩ (.int .i64 b.1)).setCell ⟨bY, 1, none⟩ (.slice Y1 m1 y1)).setCell ⟨bY, 2, none⟩ (.slice Y2 m2 y2))) := grew_put bY HWy.out [.int .i64 b.1, .slice Y1 m1 y1, .slice Y2 m2 y2] 0 _ HGG.out
                    have HY2 : Hid (OwnC (((v5.setCell ⟨bY, 0, none⟩ (.int .i64 b.1)).setCell ⟨bY, 1, none⟩ (.slice Y1 m1 y1)).setCell ⟨bY, 2, none⟩ (.slice Y2 m2 y2)) bY [.int .i64 b.1, .slice Y1 m1 y1, .slice Y2 m2 y2]) := HY.out.all [.int .i64 b.1, .slice Y1 m1 y1, .slice Y2 m2 y2] rfl
                    have HX2 : Hid (OwnC (((v5.setCell ⟨bY, 0, none⟩ (.int .i64 b.1)).setCell ⟨bY, 1, none⟩ (.slice Y1 m1 y1)).setCell ⟨bY, 2, none⟩ (.slice Y2 m2 y2)) bx [.slice X1 n1 x1, .slice X2 n2 x2, .slice X3 n3 x3]) := OwnC.putO HNxy.out.symm [.int .i64 b.1, .slice Y1 m1 y1, .slice Y2 m2 y2] 0 _ HX.out
                    have HRR2 : Hid (Rows3 (((v5.setCell ⟨bY, 0, none⟩ (.int .i64 b.1)).setCell ⟨bY, 1, none⟩ (.slice Y1 m1 y1)).setCell ⟨bY, 2, none⟩ (.slice Y2 m2 y2)) r X1 X2 X3 n1 n2 n3) := HRR.out.putN HNyR.out [.int .i64 b.1, .slice Y1 m1 y1, .slice Y2 m2 y2]
                    have HBB2 : Hid (InB (((v5.setCell ⟨bY, 0, none⟩ (.int .i64 b.1)).setCell ⟨bY, 1, none⟩ (.slice Y1 m1 y1)).setCell ⟨bY, 2, none⟩ (.slice Y2 m2 y2)) b Y1 Y2 m1 m2 y1 y2) := HBB.out.putN HNyB.out [.int .i64 b.1, .slice Y1 m1 y1, .slice Y2 m2 y2]
                    clear HGG HX HY HRR HBB hHeld
                    have HGG := HGG2; have HX := HX2; have HY := HY2; have HRR := HRR2; have HBB := HBB2
                    clear HGG2 HX2 HY2 HRR2 HBB2
                    generalize (((v5.setCell ⟨bY, 0, none⟩ (.int .i64 b.1)).setCell ⟨bY, 1, none⟩ (.slice Y1 m1 y1)).setCell ⟨bY, 2, none⟩ (.slice Y2 m2 y2)) = v6 at *
                    have hHeld := HGG.out
                    refine wpAnyH_done (by kernel_rfl) ?_ _
                    clear hHeld
                    apply_assumption
                    go_meet
                    case rel => exact ⟨bx, bY, X1, X2, X3, Y1, Y2, x1, x2, x3, y1, y2, rfl, rfl, HX.out, HY.out, HRR.out, HBB.out, HGG.out⟩
                · go_simp
                  refine hK.out _ _ (grew_trans HGG.out (grew_alloc _ _ _)) (fun hHeld => ?_)
                  clear hK K
                  try simp only [Act.put, List.setIfInBounds_toArray, List.set_cons_zero, List.set_cons_succ]
                  obtain ⟨bx, hbx⟩ : ∃ q, q = v1.heap.size := ⟨_, rfl⟩
                  rw [← hbx]
                  have HNxy : Hid (bx ≠ bY) := by have h1 := HY.out.lt; show _ ≠ _; omega
                  have HY := Lib.hid (HY.out.keep (show Grew v1 ((v1.alloc (.cells #[.slice none 0 0, .slice none 0 0, .slice none 0 0] 26))) from (grew_alloc _ _ _)))
                  have HX : Hid (OwnC ((v1.alloc (.cells #[.slice none 0 0, .slice none 0 0, .slice none 0 0] 26))) bx [.slice none 0 0, .slice none 0 0, .slice none 0 0]) := OwnC.new v1 [.slice none 0 0, .slice none 0 0, .slice none 0 0] _ _ hbx
                  have HWx : Hid (w9.heap.size ≤ bx) := by have h1 := grew_size HGG.out; show _ ≤ _; omega
                  have HGG : Hid (Grew w9 ((v1.alloc (.cells #[.slice none 0 0, .slice none 0 0, .slice none 0 0] 26)))) := grew_trans HGG.out (grew_alloc _ _ _)
                  clear hbx hHeld
                  generalize (v1.alloc (.cells #[.slice none 0 0, .slice none 0 0, .slice none 0 0] 26)) = v2 at *
                  have hHeld := HGG.out
                  refine wpAnyH_ready (rs := [1]) (by kernel_rfl) (by simp) ?_
                  refine (AllReadyH.cons (o := { dst := some 97, op := Op.call { callee := Callee.value (Operand.func 15), args := #[Operand.tmp 96], argTypes := #[26] }, type := 26, pos := "law.go:39", after := #[{ on := 0, ground := Ground.data }], guard := none }) rfl (fun K hK => ?_) AllReadyH.nil)
                  go_simp
                  (go_at_call 15; (with_reducible refine (CTR _ (grew_trans HG9.out HGG.out)).mono ?_); rintro e v3 ⟨X1, X2, X3, x1, x2, x3, rfl, ⟨ho, -, -, -⟩, hg⟩)
                  have HNxR : Hid (NeR X1 X2 X3 bx) := ⟨fun x hx => by have h1 := (ho.m.block x hx).1; have h2 := HX.out.lt; omega, fun x hx => by have h1 := (ho.i.block x hx).1; have h2 := HX.out.lt; omega, fun x hx => by have h1 := (ho.h.block x hx).1; have h2 := HX.out.lt; omega⟩
                  have HNyR : Hid (NeR X1 X2 X3 bY) := ⟨fun x hx => by have h1 := (ho.m.block x hx).1; have h2 := HY.out.lt; omega, fun x hx => by have h1 := (ho.i.block x hx).1; have h2 := HY.out.lt; omega, fun x hx => by have h1 := (ho.h.block x hx).1; have h2 := HY.out.lt; omega⟩
                  have HX := Lib.hid (HX.out.keep hg)
                  have HY := Lib.hid (HY.out.keep hg)
                  have HRR : Hid (Rows3 v3 r X1 X2 X3 n1 n2 n3) := (by have h9 := ho.rows; rw [HLR.out.1, HLR.out.2.1, HLR.out.2.2] at h9; exact h9)
                  have HLR9 : Hid (LtR X1 X2 X3 v3.heap.size) := ⟨fun x hx => (ho.m.block x hx).2, fun x hx => (ho.i.block x hx).2, fun x hx => (ho.h.block x hx).2⟩
                  have HGG : Hid (Grew w9 v3) := grew_trans HGG.out hg
                  clear ho hg
                  refine hK.out _ _ HGG.out (fun hHeld => ?_)
                  clear hK K
                  try simp only [Act.put, List.setIfInBounds_toArray, List.set_cons_zero, List.set_cons_succ]
                  refine wpAnyH_ready (rs := [3]) (by kernel_rfl) (by simp) ?_
                  refine (AllReadyH.cons (o := { dst := some 99, op := Op.call { callee := Callee.value (Operand.func 16), args := #[Operand.tmp 98], argTypes := #[30] }, type := 30, pos := "law.go:39", after := #[{ on := 2, ground := Ground.data }, { on := 1, ground := Ground.chain }], guard := none }) rfl (fun K hK => ?_) AllReadyH.nil)
                  go_simp
                  (go_at_call 16; (with_reducible refine (CTB _ (grew_trans HG9.out HGG.out)).mono ?_); rintro e v4 ⟨Y1, Y2, y1, y2, rfl, ho, hg⟩)
                  have HNxB : Hid (NeR Y1 Y2 none bx) := ⟨fun x hx => by have h1 := (ho.t.block x hx).1; have h2 := HX.out.lt; omega, fun x hx => by have h1 := (ho.p.block x hx).1; have h2 := HX.out.lt; omega, fun x hx => by cases hx⟩
                  have HNyB : Hid (NeR Y1 Y2 none bY) := ⟨fun x hx => by have h1 := (ho.t.block x hx).1; have h2 := HY.out.lt; omega, fun x hx => by have h1 := (ho.p.block x hx).1; have h2 := HY.out.lt; omega, fun x hx => by cases hx⟩
                  have HX := Lib.hid (HX.out.keep hg)
                  have HY := Lib.hid (HY.out.keep hg)
                  have HRR := Lib.hid (HRR.out.keep hg)
                  have HLR9 := Lib.hid (HLR9.out.mono (grew_size hg))
                  have HBB : Hid (InB v4 b Y1 Y2 m1 m2 y1 y2) := (by have h9 := ho.in; rw [HL1.out, HL2.out] at h9; exact h9)
                  have HLB9 : Hid (LtR Y1 Y2 none v4.heap.size) := ⟨fun x hx => (ho.t.block x hx).2, fun x hx => (ho.p.block x hx).2, fun x hx => by cases hx⟩
                  have HGG : Hid (Grew w9 v4) := grew_trans HGG.out hg
                  clear ho hg
                  refine hK.out _ _ HGG.out (fun hHeld => ?_)
                  clear hK K
                  try simp only [Act.put, List.setIfInBounds_toArray, List.set_cons_zero, List.set_cons_succ]
                  refine wpAnyH_ready (rs := [6]) (by kernel_rfl) (by simp) ?_
                  refine (AllReadyH.cons (o := { dst := none, op := Op.store 26 (Operand.tmp 18) (Operand.tmp 97), type := 0, pos := "law.go:39", after := #[{ on := 4, ground := Ground.data }, { on := 1, ground := Ground.data }, { on := 3, ground := Ground.chain }, { on := 0, ground := Ground.phase }, { on := 1, ground := Ground.phase }, { on := 2, ground := Ground.textOnly Departure.lateStores }, { on := 3, ground := Ground.textOnly Departure.lateStoresUnsure }, { on := 4, ground := Ground.phase }, { on := 5, ground := Ground.phase }], guard := none }) rfl (fun K hK => ?_) AllReadyH.nil)
                  have y0 := HX.out.at 0 (.slice none 0 0) rfl; have y1' := HX.out.at 1 (.slice none 0 0) rfl; have y2' := HX.out.at 2 (.slice none 0 0) rfl
                  have g0 := HX.out.fr 0 (by simp); have g1 := HX.out.fr 1 (by simp); have g2 := HX.out.fr 2 (by simp)
                  go_simp
                  refine hK.out _ _ (grew_put bx HWx.out [.slice X1 n1 x1, .slice X2 n2 x2, .slice X3 n3 x3] 0 _ HGG.out) (fun hHeld => ?_)
                  clear hK K y0 y1' y2' g0 g1 g2
                  try simp only [Act.put, List.setIfInBounds_toArray, List.set_cons_zero, List.set_cons_succ]
                  have HGG2 : Hid (Grew w9 (((v4.setCell ⟨bx, 0, none⟩ (.slice X1 n1 x1)).setCell ⟨bx, 1, none⟩ (.slice X2 n2 x2)).setCell ⟨bx, 2, none⟩ (.slice X3 n3 x3))) := grew_put bx HWx.out [.slice X1 n1 x1, .slice X2 n2 x2, .slice X3 n3 x3] 0 _ HGG.out
                  have HX2 : Hid (OwnC (((v4.setCell ⟨bx, 0, none⟩ (.slice X1 n1 x1)).setCell ⟨bx, 1, none⟩ (.slice X2 n2 x2)).setCell ⟨bx, 2, none⟩ (.slice X3 n3 x3)) bx [.slice X1 n1 x1, .slice X2 n2 x2, .slice X3 n3 x3]) := HX.out.all [.slice X1 n1 x1, .slice X2 n2 x2, .slice X3 n3 x3] rfl
                  have HY2 : Hid (OwnC (((v4.setCell ⟨bx, 0, none⟩ (.slice X1 n1 x1)).setCell ⟨bx, 1, none⟩ (.slice X2 n2 x2)).setCell ⟨bx, 2, none⟩ (.slice X3 n3 x3)) bY [.int .i64 0, .slice none 0 0, .slice none 0 0]) := OwnC.putO HNxy.out [.slice X1 n1 x1, .slice X2 n2 x2, .slice X3 n3 x3] 0 _ HY.out
                  have HRR2 : Hid (Rows3 (((v4.setCell ⟨bx, 0, none⟩ (.slice X1 n1 x1)).setCell ⟨bx, 1, none⟩ (.slice X2 n2 x2)).setCell ⟨bx, 2, none⟩ (.slice X3 n3 x3)) r X1 X2 X3 n1 n2 n3) := HRR.out.putN HNxR.out [.slice X1 n1 x1, .slice X2 n2 x2, .slice X3 n3 x3]
                  have HBB2 : Hid (InB (((v4.setCell ⟨bx, 0, none⟩ (.slice X1 n1 x1)).setCell ⟨bx, 1, none⟩ (.slice X2 n2 x2)).setCell ⟨bx, 2, none⟩ (.slice X3 n3 x3)) b Y1 Y2 m1 m2 y1 y2) := HBB.out.putN HNxB.out [.slice X1 n1 x1, .slice X2 n2 x2, .slice X3 n3 x3]
                  clear HGG HX HY HRR HBB hHeld
                  have HGG := HGG2; have HX := HX2; have HY := HY2; have HRR := HRR2; have HBB := HBB2
                  clear HGG2 HX2 HY2 HRR2 HBB2
                  generalize (((v4.setCell ⟨bx, 0, none⟩ (.slice X1 n1 x1)).setCell ⟨bx, 1, none⟩ (.slice X2 n2 x2)).setCell ⟨bx, 2, none⟩ (.slice X3 n3 x3)) = v5 at *
                  have hHeld := HGG.out
                  refine wpAnyH_ready (rs := [7]) (by kernel_rfl) (by simp) ?_
                  refine (AllReadyH.cons (o := { dst := none, op := Op.store 30 (Operand.tmp 19) (Operand.tmp 99), type := 0, pos := "law.go:39", after := #[{ on := 5, ground := Ground.data }, { on := 3, ground := Ground.data }, { on := 6, ground := Ground.chain }, { on := 0, ground := Ground.phase }, { on := 1, ground := Ground.phase }, { on := 2, ground := Ground.phase }, { on := 3, ground := Ground.phase }, { on := 4, ground := Ground.phase }, { on := 5, ground := Ground.phase }, { on := 6, ground := Ground.phase }], guard := none }) rfl (fun K hK => ?_) AllReadyH.nil)
                  have y0 := HY.out.at 0 (.int .i64 0) rfl; have y1' := HY.out.at 1 (.slice none 0 0) rfl; have y2' := HY.out.at 2 (.slice none 0 0) rfl
                  have g0 := HY.out.fr 0 (by simp); have g1 := HY.out.fr 1 (by simp); have g2 := HY.out.fr 2 (by simp)
                  go_simp
                  refine hK.out _ _ (grew_put bY HWy.out [.int .i64 b.1, .slice Y1 m1 y1, .slice Y2 m2 y2] 0 _ HGG.out) (fun hHeld => ?_)
                  clear hK K y0 y1' y2' g0 g1 g2
                  try simp only [Act.put, List.setIfInBounds_toArray, List.set_cons_zero, List.set_cons_succ]
                  have HGG2 : Hid (Grew w9 (((v5.setCell ⟨bY, 0, none⟩ (.int .i64 b.1)).setCell ⟨bY, 1, none⟩ (.slice Y1 m1 y1)).setCell ⟨bY, 2, none⟩ (.slice Y2 m2 y2))) := grew_put bY HWy.out [.int .i64 b.1, .slice Y1 m1 y1, .slice Y2 m2 y2] 0 _ HGG.out
                  have HY2 : Hid (OwnC (((v5.setCell ⟨bY, 0, none⟩ (.int .i64 b.1)).setCell ⟨bY, 1, none⟩ (.slice Y1 m1 y1)).setCell ⟨bY, 2, none⟩ (.slice Y2 m2 y2)) bY [.int .i64 b.1, .slice Y1 m1 y1, .slice Y2 m2 y2]) := HY.out.all [.int .i64 b.1, .slice Y1 m1 y1, .slice Y2 m2 y2] rfl
                  have HX2 : Hid (OwnC (((v5.setCell ⟨bY, 0, none⟩ (.int .i64 b.1)).setCell ⟨bY, 1, none⟩ (.slice Y1 m1 y1)).setCell ⟨bY, 2, none⟩ (.slice Y2 m2 y2)) bx [.slice X1 n1 x1, .slice X2 n2 x2, .slice X3 n3 x3]) := OwnC.putO HNxy.out.symm [.int .i64 b.1, .slice Y1 m1 y1, .slice Y2 m2 y2] 0 _ HX.out
                  have HRR2 : Hid (Rows3 (((v5.setCell ⟨bY, 0, none⟩ (.int .i64 b.1)).setCell ⟨bY, 1, none⟩ (.slice Y1 m1 y1)).setCell ⟨bY, 2, none⟩ (.slice Y2 m2 y2)) r X1 X2 X3 n1 n2 n3) := HRR.out.putN HNyR.out [.int .i64 b.1, .slice Y1 m1 y1, .slice Y2 m2 y2]
                  have HBB2 : Hid (InB (((v5.setCell ⟨bY, 0, none⟩ (.int .i64 b.1)).setCell ⟨bY, 1, none⟩ (.slice Y1 m1 y1)).setCell ⟨bY, 2, none⟩ (.slice Y2 m2 y2)) b Y1 Y2 m1 m2 y1 y2) := HBB.out.putN HNyB.out [.int .i64 b.1, .slice Y1 m1 y1, .slice Y2 m2 y2]
                  clear HGG HX HY HRR HBB hHeld
                  have HGG := HGG2; have HX := HX2; have HY := HY2; have HRR := HRR2; have HBB := HBB2
                  clear HGG2 HX2 HY2 HRR2 HBB2
                  generalize (((v5.setCell ⟨bY, 0, none⟩ (.int .i64 b.1)).setCell ⟨bY, 1, none⟩ (.slice Y1 m1 y1)).setCell ⟨bY, 2, none⟩ (.slice Y2 m2 y2)) = v6 at *
                  have hHeld := HGG.out
                  refine wpAnyH_done (by kernel_rfl) ?_ _
                  clear hHeld
                  apply_assumption
                  go_meet
                  case rel => exact ⟨bx, bY, X1, X2, X3, Y1, Y2, x1, x2, x3, y1, y2, rfl, rfl, HX.out, HY.out, HRR.out, HBB.out, HGG.out⟩
            case rest =>
              obtain ⟨bx, bY, X1, X2, X3, Y1, Y2, x1, x2, x3, y1, y2, rfl, rfl, HX, HY, HRR, HBB, hg'⟩ := hcut
              have hg := hg'.out
              clear hg'
              have HG10 := Lib.hid (grew_trans HG9.out hg); have HR10 := Lib.hid (HR9.out.keep hg); have HB10 := Lib.hid (HB9.out.keep hg); clear hg  HG9 HR9 HB9
              generalize hwx : wc = w10 at *
              clear hwx CTR CTB
              have CRX := run_any r b X1 X2 X3 Y1 Y2 n1 n2 n3 x1 x2 x3 m1 m2 y1 y2 w10 HRR.out (by omega) HBB.out (by omega)
              have CRR := fun w' (g : Grew w w') => rrun_any r b A1 A2 A3 B1 B2 n1 n2 n3 c1 c2 c3 m1 m2 d1 d2 w' (HIR.out.rows.keep g) (by omega) (HIB.out.keep g) (by omega)
              have hle := pos_le (r := r) (b := b) (by rw [HL2.out]; omega)
              rw [HL1.out] at hle
              unfold RunP at CRX CRR
              generalize runB r b = rb at *
              generalize runD r b = rd at *
              generalize runE r b = re at *
              obtain ⟨rn, rt, rp⟩ := rb
              dsimp only [rlV, vBk] at CRX CRR hle
              obtain ⟨hl1, hl2, hl3⟩ := hle
              have HLE : Hid (rt.length ≤ 300 ∧ rp.length ≤ 10000 ∧ rd.length ≤ 10000) := ⟨by omega, hl2, hl3⟩
              clear hl1 hl2 hl3
              have a0 := HX.out.at 0 (.slice X1 n1 x1) rfl; have a1 := HX.out.at 1 (.slice X2 n2 x2) rfl; have a2 := HX.out.at 2 (.slice X3 n3 x3) rfl
              have b0 := HY.out.at 0 (.int .i64 b.1) rfl; have b1 := HY.out.at 1 (.slice Y1 m1 y1) rfl; have b2 := HY.out.at 2 (.slice Y2 m2 y2) rfl
              apply_assumption
              go_upto_region 16 with (go_at_call 17; (with_reducible refine CRX.mono ?_); rintro e w11 ⟨C1, C2, C9, e1, e2, e9, rfl, hob, hod, ha1, ha2, hg⟩; have HOB := Lib.hid hob; have HOD := Lib.hid hod; have HAP := Lib.hid (And.intro ha1 ha2); have HG1011 := Lib.hid hg; clear hob hod ha1 ha2 hg a0 a1 a2 b0 b1 b2)
              have HC12 : Hid (OwnC (w11.alloc (.cells #[.int .i64 rn, .slice C1 rt.length e1, .slice C2 rp.length e2] 30)) w11.heap.size [.int .i64 rn, .slice C1 rt.length e1, .slice C2 rp.length e2]) := OwnC.new w11 [.int .i64 rn, .slice C1 rt.length e1, .slice C2 rp.length e2] _ _ rfl
              have HOB12 : Hid (OwnB (w11.alloc (.cells #[.int .i64 rn, .slice C1 rt.length e1, .slice C2 rp.length e2] 30)) w10.heap.size (rn, rt, rp) C1 C2 e1 e2) := HOB.out.keep (grew_alloc _ _ _)
              have HOD12 : Hid (OwnE enDu (w11.alloc (.cells #[.int .i64 rn, .slice C1 rt.length e1, .slice C2 rp.length e2] 30)) w10.heap.size 67 (.slice C9 rd.length e9) rd) := HOD.out.keep (grew_alloc _ _ _)
              have HGX12 : Hid (Grew w10 (w11.alloc (.cells #[.int .i64 rn, .slice C1 rt.length e1, .slice C2 rp.length e2] 30))) := grew_trans HG1011.out (grew_alloc _ _ _)
              clear HOB HOD HG1011 CRX
              generalize (w11.alloc (.cells #[.int .i64 rn, .slice C1 rt.length e1, .slice C2 rp.length e2] 30)) = w12 at *
              generalize w11.heap.size = cb at *
              have HR12 := Lib.hid (HR10.out.keep HGX12.out)
              have HB12 := Lib.hid (HB10.out.keep HGX12.out)
              have r0 := HR12.out.at 0 (.slice A1 n1 c1) rfl; have r1 := HR12.out.at 1 (.slice A2 n2 c2) rfl; have r2 := HR12.out.at 2 (.slice A3 n3 c3) rfl
              have b0 := HB12.out.at 0 (.int .i64 b.1) rfl; have b1 := HB12.out.at 1 (.slice B1 m1 d1) rfl; have b2 := HB12.out.at 2 (.slice B2 m2 d2) rfl
              have CR12 := CRR w12 (grew_trans HG10.out HGX12.out)
              go_upto_region 17 with (go_at_call 18; (with_reducible refine CR12.mono ?_); rintro e w13 ⟨D1, D2, D9, f1, f2, f9, rfl, hob, hod, -, -, hg⟩; have HPB := Lib.hid hob; have HPD := Lib.hid hod; have HG1213 := Lib.hid hg; clear hob hod hg r0 r1 r2 b0 b1 b2)
              have HC14 : Hid (OwnC (w13.alloc (.cells #[.int .i64 rn, .slice D1 rt.length f1, .slice D2 rp.length f2] 30)) cb [.int .i64 rn, .slice C1 rt.length e1, .slice C2 rp.length e2]) := (HC12.out.keep HG1213.out).keep (grew_alloc _ _ _)
              have HD14 : Hid (OwnC (w13.alloc (.cells #[.int .i64 rn, .slice D1 rt.length f1, .slice D2 rp.length f2] 30)) w13.heap.size [.int .i64 rn, .slice D1 rt.length f1, .slice D2 rp.length f2]) := OwnC.new w13 [.int .i64 rn, .slice D1 rt.length f1, .slice D2 rp.length f2] _ _ rfl
              have HOB14 : Hid (OwnB (w13.alloc (.cells #[.int .i64 rn, .slice D1 rt.length f1, .slice D2 rp.length f2] 30)) w10.heap.size (rn, rt, rp) C1 C2 e1 e2) := (HOB12.out.keep HG1213.out).keep (grew_alloc _ _ _)
              have HOD14 : Hid (OwnE enDu (w13.alloc (.cells #[.int .i64 rn, .slice D1 rt.length f1, .slice D2 rp.length f2] 30)) w10.heap.size 67 (.slice C9 rd.length e9) rd) := (HOD12.out.keep HG1213.out).keep (grew_alloc _ _ _)
              have HPB14 : Hid (InB (w13.alloc (.cells #[.int .i64 rn, .slice D1 rt.length f1, .slice D2 rp.length f2] 30)) (rn, rt, rp) D1 D2 rt.length rp.length f1 f2) := HPB.out.in.keep (grew_alloc _ _ _)
              have HPD14 : Hid (RowE enDu (w13.alloc (.cells #[.int .i64 rn, .slice D1 rt.length f1, .slice D2 rp.length f2] 30)) D9 rd.length rd) := (own_form HPD.out).1.keep (grew_alloc _ _ _)
              have HGX14 : Hid (Grew w10 (w13.alloc (.cells #[.int .i64 rn, .slice D1 rt.length f1, .slice D2 rp.length f2] 30))) := grew_trans (grew_trans HGX12.out HG1213.out) (grew_alloc _ _ _)
              clear HC12 HOB12 HOD12 HPB HPD HG1213 HGX12 CR12 CRR HR12 HB12
              generalize (w13.alloc (.cells #[.int .i64 rn, .slice D1 rt.length f1, .slice D2 rp.length f2] 30)) = w14 at *
              generalize w13.heap.size = db at *
              have CK1 := keepBook_yes rn C1 C2 D1 D2 rt.length rp.length e1 e2 f1 f2 rt rp w14 HOB14.out.in.t HOB14.out.in.p HPB14.out.t HPB14.out.p (by have := HLE.out; omega)
              have CK2 := fun w' (g : Grew w14 w') => keepDues_yes C9 D9 rd.length e9 f9 rd w' ((own_form HOD14.out).1.keep g) (HPD14.out.keep g) (by have := HLE.out; omega)
              dsimp only [vBk] at CK1
              have hre : (re != re) = false := by simp
              have x0 := HC14.out.at 0 (.int .i64 rn) rfl; have x1 := HC14.out.at 1 (.slice C1 rt.length e1) rfl; have x2 := HC14.out.at 2 (.slice C2 rp.length e2) rfl
              have z0 := HD14.out.at 0 (.int .i64 rn) rfl; have z1 := HD14.out.at 1 (.slice D1 rt.length f1) rfl; have z2 := HD14.out.at 2 (.slice D2 rp.length f2) rfl
              go_upto_region 19 with (first
                | (go_at_call 19; (with_reducible refine CK1.mono ?_); rintro e w15 ⟨rfl, hg⟩; have HG1415 := Lib.hid hg; clear hg x0 x1 x2 z0 z1 z2)
                | (go_at_call 20; (with_reducible refine (CK2 _ HG1415.out).mono ?_); rintro e w16 ⟨rfl, hg⟩; have HG1416 := Lib.hid (grew_trans HG1415.out hg); clear hg))
              have HC16 := Lib.hid (HC14.out.keep HG1416.out)
              have HOB16 := Lib.hid (HOB14.out.keep HG1416.out)
              have HOD16 := Lib.hid (HOD14.out.keep HG1416.out)
              have HGX16 := Lib.hid (grew_trans HGX14.out HG1416.out)
              clear HC14 HD14 HOB14 HOD14 HPB14 HPD14 HGX14 HG1415 HG1416 CK1 CK2
              have CS1 := spoilBook_same rn C1 C2 rt.length rp.length e1 e2 w10.heap.size w16 HOB16.out.t.spb HOB16.out.p.spb (grew_size HGX16.out) (by have := HLE.out; omega)
              dsimp only [vBk] at CS1
              have x0 := HC16.out.at 0 (.int .i64 rn) rfl; have x1 := HC16.out.at 1 (.slice C1 rt.length e1) rfl; have x2 := HC16.out.at 2 (.slice C2 rp.length e2) rfl
              go_upto_region 20 with (go_at_call 21; (with_reducible refine CS1.mono ?_); rintro e w17 ⟨rfl, hb, hs⟩; have HB17 := Lib.hid hb; have HS17 := Lib.hid hs; clear hb hs x0 x1 x2)
              have HOD17 : Hid (OwnE enDu w17 w10.heap.size 67 (.slice C9 rd.length e9) rd) := HOD16.out.sameB fun x hx => HS17.out x.block (HOD16.out.block x hx).2 (fun he => by
                  cases C1 with
                  | none => cases he
                  | some y => exact HAP.out.1 x y hx rfl (by simpa using he.symm)) (fun he => by
                  cases C2 with
                  | none => cases he
                  | some y => exact HAP.out.2 x y hx rfl (by simpa using he.symm))
              have HGX17 : Hid (Grew w10 w17) := Below.trans HGX16.out HB17.out
              have CS2 := spoilDues_any C9 rd.length e9 w10.heap.size w17 (by
                obtain ⟨A', c', e, h2⟩ := HOD17.out.slab
                cases e
                rcases h2 with h2 | ⟨g, e, h3, h4⟩
                · exact Or.inl h2
                · exact Or.inr ⟨g, e, h3, h4⟩) (by have := HLE.out; omega)
              clear HOD16 HOB16 HC16 CS1 HS17 HB17 HGX16
              go_upto_region 21 with (go_at_call 22; (with_reducible refine CS2.mono ?_); rintro e w18 ⟨rfl, hb, -⟩; have HGX18 : Hid (Grew w10 w18) := Below.trans HGX17.out hb; clear hb)
              have HX18 := Lib.hid (HX.out.keep HGX18.out)
              have HR18 := Lib.hid (HR10.out.keep HGX18.out)
              have CA1 := keepRoll_yes r X1 X2 X3 A1 A2 A3 n1 n2 n3 x1 x2 x3 c1 c2 c3 w18 (HRR.out.keep HGX18.out) (HIR.out.rows.keep (grew_trans HG10.out HGX18.out)) (by omega)
              have CA2 := fun w' (g : Grew w10 w') => keepBook_yes b.1 Y1 Y2 B1 B2 m1 m2 y1 y2 d1 d2 b.2.1 b.2.2 w' (HBB.out.keep g).t (HBB.out.keep g).p (HIB.out.keep (grew_trans HG10.out g)).t (HIB.out.keep (grew_trans HG10.out g)).p (by omega)
              dsimp only [rlV, vBk] at CA1 CA2
              clear CS2 HOD17 HGX17
              have a0 := HX18.out.at 0 (.slice X1 n1 x1) rfl; have a1 := HX18.out.at 1 (.slice X2 n2 x2) rfl; have a2 := HX18.out.at 2 (.slice X3 n3 x3) rfl
              have r0 := HR18.out.at 0 (.slice A1 n1 c1) rfl; have r1 := HR18.out.at 1 (.slice A2 n2 c2) rfl; have r2 := HR18.out.at 2 (.slice A3 n3 c3) rfl
              go_wp2_with (first
                | (go_at_call 23; (with_reducible refine CA1.mono ?_); rintro e w19 ⟨rfl, hg⟩; have HGX19 := Lib.hid (grew_trans HGX18.out hg); have HY19 := Lib.hid (HY.out.keep HGX19.out); have HB19 := Lib.hid (HB10.out.keep HGX19.out); clear hg a0 a1 a2 r0 r1 r2; have a0 := HY19.out.at 0 (.int .i64 b.1) rfl; have a1 := HY19.out.at 1 (.slice Y1 m1 y1) rfl; have a2 := HY19.out.at 2 (.slice Y2 m2 y2) rfl; have r0 := HB19.out.at 0 (.int .i64 b.1) rfl; have r1 := HB19.out.at 1 (.slice B1 m1 d1) rfl; have r2 := HB19.out.at 2 (.slice B2 m2 d2) rfl)
                | (go_at_call 19; (with_reducible refine (CA2 _ HGX19.out).mono ?_); rintro e w20 ⟨rfl, hg⟩; have HGX20 := Lib.hid (grew_trans HGX19.out hg); clear hg)
                | (go_at_call 24; (with_reducible refine (CV _).mono ?_); rintro e w21 ⟨rfl, hg⟩; have HGX21 := Lib.hid (grew_trans HGX20.out hg); clear hg))
              go_ret
              exact ⟨rfl, grew_trans HG10.out HGX21.out⟩
    · have HR0 : Hid (OwnC ((((w.alloc (.cells #[.slice A1 n1 c1, .slice A2 n2 c2, .slice A3 n3 c3] 26)).alloc (.cells #[.int .i64 nx, .slice B1 m1 d1, .slice B2 m2 d2] 30)).alloc (.cells #[.int .i64 q1, .int .i64 q2, .int .i64 q3, .int .i64 q4] 34)).alloc (.cells #[.int .i64 j1, .int .i64 j2, .int .i64 j3, .int .i64 j4, .int .i64 j5, .int .i64 j6, .int .i64 j7, .int .i64 j8, .int .i64 j9, .int .i64 j10, .int .i64 j11, .int .i64 j12] 37)) w.heap.size [.slice A1 n1 c1, .slice A2 n2 c2, .slice A3 n3 c3]) := (((OwnC.new w [.slice A1 n1 c1, .slice A2 n2 c2, .slice A3 n3 c3] _ _ rfl).keep (grew_alloc _ _ _)).keep (grew_alloc _ _ _)).keep (grew_alloc _ _ _)
      have HB0 : Hid (OwnC ((((w.alloc (.cells #[.slice A1 n1 c1, .slice A2 n2 c2, .slice A3 n3 c3] 26)).alloc (.cells #[.int .i64 nx, .slice B1 m1 d1, .slice B2 m2 d2] 30)).alloc (.cells #[.int .i64 q1, .int .i64 q2, .int .i64 q3, .int .i64 q4] 34)).alloc (.cells #[.int .i64 j1, .int .i64 j2, .int .i64 j3, .int .i64 j4, .int .i64 j5, .int .i64 j6, .int .i64 j7, .int .i64 j8, .int .i64 j9, .int .i64 j10, .int .i64 j11, .int .i64 j12] 37)) (w.heap.size + 1) [.int .i64 nx, .slice B1 m1 d1, .slice B2 m2 d2]) := ((OwnC.new (w.alloc (.cells #[.slice A1 n1 c1, .slice A2 n2 c2, .slice A3 n3 c3] 26)) [.int .i64 nx, .slice B1 m1 d1, .slice B2 m2 d2] _ _ (by simp)).keep (grew_alloc _ _ _)).keep (grew_alloc _ _ _)
      have HP0 : Hid (OwnC ((((w.alloc (.cells #[.slice A1 n1 c1, .slice A2 n2 c2, .slice A3 n3 c3] 26)).alloc (.cells #[.int .i64 nx, .slice B1 m1 d1, .slice B2 m2 d2] 30)).alloc (.cells #[.int .i64 q1, .int .i64 q2, .int .i64 q3, .int .i64 q4] 34)).alloc (.cells #[.int .i64 j1, .int .i64 j2, .int .i64 j3, .int .i64 j4, .int .i64 j5, .int .i64 j6, .int .i64 j7, .int .i64 j8, .int .i64 j9, .int .i64 j10, .int .i64 j11, .int .i64 j12] 37)) (w.heap.size + 1 + 1) [.int .i64 q1, .int .i64 q2, .int .i64 q3, .int .i64 q4]) := (OwnC.new ((w.alloc (.cells #[.slice A1 n1 c1, .slice A2 n2 c2, .slice A3 n3 c3] 26)).alloc (.cells #[.int .i64 nx, .slice B1 m1 d1, .slice B2 m2 d2] 30)) [.int .i64 q1, .int .i64 q2, .int .i64 q3, .int .i64 q4] _ _ (by simp)).keep (grew_alloc _ _ _)
      have HI0 : Hid (OwnC ((((w.alloc (.cells #[.slice A1 n1 c1, .slice A2 n2 c2, .slice A3 n3 c3] 26)).alloc (.cells #[.int .i64 nx, .slice B1 m1 d1, .slice B2 m2 d2] 30)).alloc (.cells #[.int .i64 q1, .int .i64 q2, .int .i64 q3, .int .i64 q4] 34)).alloc (.cells #[.int .i64 j1, .int .i64 j2, .int .i64 j3, .int .i64 j4, .int .i64 j5, .int .i64 j6, .int .i64 j7, .int .i64 j8, .int .i64 j9, .int .i64 j10, .int .i64 j11, .int .i64 j12] 37)) (w.heap.size + 1 + 1 + 1) [.int .i64 j1, .int .i64 j2, .int .i64 j3, .int .i64 j4, .int .i64 j5, .int .i64 j6, .int .i64 j7, .int .i64 j8, .int .i64 j9, .int .i64 j10, .int .i64 j11, .int .i64 j12]) := OwnC.new (((w.alloc (.cells #[.slice A1 n1 c1, .slice A2 n2 c2, .slice A3 n3 c3] 26)).alloc (.cells #[.int .i64 nx, .slice B1 m1 d1, .slice B2 m2 d2] 30)).alloc (.cells #[.int .i64 q1, .int .i64 q2, .int .i64 q3, .int .i64 q4] 34)) [.int .i64 j1, .int .i64 j2, .int .i64 j3, .int .i64 j4, .int .i64 j5, .int .i64 j6, .int .i64 j7, .int .i64 j8, .int .i64 j9, .int .i64 j10, .int .i64 j11, .int .i64 j12] _ _ (by simp)
      have HG0 : Hid (Grew w ((((w.alloc (.cells #[.slice A1 n1 c1, .slice A2 n2 c2, .slice A3 n3 c3] 26)).alloc (.cells #[.int .i64 nx, .slice B1 m1 d1, .slice B2 m2 d2] 30)).alloc (.cells #[.int .i64 q1, .int .i64 q2, .int .i64 q3, .int .i64 q4] 34)).alloc (.cells #[.int .i64 j1, .int .i64 j2, .int .i64 j3, .int .i64 j4, .int .i64 j5, .int .i64 j6, .int .i64 j7, .int .i64 j8, .int .i64 j9, .int .i64 j10, .int .i64 j11, .int .i64 j12] 37))) := grew_trans (grew_trans (grew_trans (grew_alloc _ _ _) (grew_alloc _ _ _)) (grew_alloc _ _ _)) (grew_alloc _ _ _)
      go_enter Try.func3, Try.ntmps3
      go_upto_region 1 with (fail)
      generalize ((((w.alloc (.cells #[.slice A1 n1 c1, .slice A2 n2 c2, .slice A3 n3 c3] 26)).alloc (.cells #[.int .i64 nx, .slice B1 m1 d1, .slice B2 m2 d2] 30)).alloc (.cells #[.int .i64 q1, .int .i64 q2, .int .i64 q3, .int .i64 q4] 34)).alloc (.cells #[.int .i64 j1, .int .i64 j2, .int .i64 j3, .int .i64 j4, .int .i64 j5, .int .i64 j6, .int .i64 j7, .int .i64 j8, .int .i64 j9, .int .i64 j10, .int .i64 j11, .int .i64 j12] 37)) = w0 at *
      generalize w.heap.size + 1 + 1 + 1 = bi at *
      generalize w.heap.size + 1 + 1 = bp at *
      generalize w.heap.size + 1 = bb at *
      have r0 := HR0.out.at 0 (.slice A1 n1 c1) rfl; have r1 := HR0.out.at 1 (.slice A2 n2 c2) rfl; have r2 := HR0.out.at 2 (.slice A3 n3 c3) rfl
      go_wp2_with (first
        | (go_at_call 8; (with_reducible refine (CH _).mono ?_); rintro e w1 ⟨rfl, hg⟩; have HG1 := Lib.hid (grew_trans HG0.out hg); have HR1 := Lib.hid (HR0.out.keep hg); have HB1 := Lib.hid (HB0.out.keep hg); have HP1 := Lib.hid (HP0.out.keep hg); have HI1 := Lib.hid (HI0.out.keep hg); clear hg r0 r1 r2 HG0 HR0 HB0 HP0 HI0; have b0 := HB1.out.at 0 (.int .i64 nx) rfl; have b1 := HB1.out.at 1 (.slice B1 m1 d1) rfl; have b2 := HB1.out.at 2 (.slice B2 m2 d2) rfl)
        | (go_at_call 9; (with_reducible refine (CK _).mono ?_); rintro e w2 ⟨rfl, hg⟩; have HG2 := Lib.hid (grew_trans HG1.out hg); have HR2 := Lib.hid (HR1.out.keep hg); have HB2 := Lib.hid (HB1.out.keep hg); have HP2 := Lib.hid (HP1.out.keep hg); have HI2 := Lib.hid (HI1.out.keep hg); clear hg b0 b1 b2 HG1 HR1 HB1 HP1 HI1; have p0 := HP2.out.at 0 (.int .i64 q1) rfl; have p1 := HP2.out.at 1 (.int .i64 q2) rfl; have p2 := HP2.out.at 2 (.int .i64 q3) rfl; have p3 := HP2.out.at 3 (.int .i64 q4) rfl))
      go_ret
      exact ⟨rfl, HG2.out⟩
  · have HR0 : Hid (OwnC ((((w.alloc (.cells #[.slice A1 n1 c1, .slice A2 n2 c2, .slice A3 n3 c3] 26)).alloc (.cells #[.int .i64 nx, .slice B1 m1 d1, .slice B2 m2 d2] 30)).alloc (.cells #[.int .i64 q1, .int .i64 q2, .int .i64 q3, .int .i64 q4] 34)).alloc (.cells #[.int .i64 j1, .int .i64 j2, .int .i64 j3, .int .i64 j4, .int .i64 j5, .int .i64 j6, .int .i64 j7, .int .i64 j8, .int .i64 j9, .int .i64 j10, .int .i64 j11, .int .i64 j12] 37)) w.heap.size [.slice A1 n1 c1, .slice A2 n2 c2, .slice A3 n3 c3]) := (((OwnC.new w [.slice A1 n1 c1, .slice A2 n2 c2, .slice A3 n3 c3] _ _ rfl).keep (grew_alloc _ _ _)).keep (grew_alloc _ _ _)).keep (grew_alloc _ _ _)
    have HB0 : Hid (OwnC ((((w.alloc (.cells #[.slice A1 n1 c1, .slice A2 n2 c2, .slice A3 n3 c3] 26)).alloc (.cells #[.int .i64 nx, .slice B1 m1 d1, .slice B2 m2 d2] 30)).alloc (.cells #[.int .i64 q1, .int .i64 q2, .int .i64 q3, .int .i64 q4] 34)).alloc (.cells #[.int .i64 j1, .int .i64 j2, .int .i64 j3, .int .i64 j4, .int .i64 j5, .int .i64 j6, .int .i64 j7, .int .i64 j8, .int .i64 j9, .int .i64 j10, .int .i64 j11, .int .i64 j12] 37)) (w.heap.size + 1) [.int .i64 nx, .slice B1 m1 d1, .slice B2 m2 d2]) := ((OwnC.new (w.alloc (.cells #[.slice A1 n1 c1, .slice A2 n2 c2, .slice A3 n3 c3] 26)) [.int .i64 nx, .slice B1 m1 d1, .slice B2 m2 d2] _ _ (by simp)).keep (grew_alloc _ _ _)).keep (grew_alloc _ _ _)
    have HP0 : Hid (OwnC ((((w.alloc (.cells #[.slice A1 n1 c1, .slice A2 n2 c2, .slice A3 n3 c3] 26)).alloc (.cells #[.int .i64 nx, .slice B1 m1 d1, .slice B2 m2 d2] 30)).alloc (.cells #[.int .i64 q1, .int .i64 q2, .int .i64 q3, .int .i64 q4] 34)).alloc (.cells #[.int .i64 j1, .int .i64 j2, .int .i64 j3, .int .i64 j4, .int .i64 j5, .int .i64 j6, .int .i64 j7, .int .i64 j8, .int .i64 j9, .int .i64 j10, .int .i64 j11, .int .i64 j12] 37)) (w.heap.size + 1 + 1) [.int .i64 q1, .int .i64 q2, .int .i64 q3, .int .i64 q4]) := (OwnC.new ((w.alloc (.cells #[.slice A1 n1 c1, .slice A2 n2 c2, .slice A3 n3 c3] 26)).alloc (.cells #[.int .i64 nx, .slice B1 m1 d1, .slice B2 m2 d2] 30)) [.int .i64 q1, .int .i64 q2, .int .i64 q3, .int .i64 q4] _ _ (by simp)).keep (grew_alloc _ _ _)
    have HI0 : Hid (OwnC ((((w.alloc (.cells #[.slice A1 n1 c1, .slice A2 n2 c2, .slice A3 n3 c3] 26)).alloc (.cells #[.int .i64 nx, .slice B1 m1 d1, .slice B2 m2 d2] 30)).alloc (.cells #[.int .i64 q1, .int .i64 q2, .int .i64 q3, .int .i64 q4] 34)).alloc (.cells #[.int .i64 j1, .int .i64 j2, .int .i64 j3, .int .i64 j4, .int .i64 j5, .int .i64 j6, .int .i64 j7, .int .i64 j8, .int .i64 j9, .int .i64 j10, .int .i64 j11, .int .i64 j12] 37)) (w.heap.size + 1 + 1 + 1) [.int .i64 j1, .int .i64 j2, .int .i64 j3, .int .i64 j4, .int .i64 j5, .int .i64 j6, .int .i64 j7, .int .i64 j8, .int .i64 j9, .int .i64 j10, .int .i64 j11, .int .i64 j12]) := OwnC.new (((w.alloc (.cells #[.slice A1 n1 c1, .slice A2 n2 c2, .slice A3 n3 c3] 26)).alloc (.cells #[.int .i64 nx, .slice B1 m1 d1, .slice B2 m2 d2] 30)).alloc (.cells #[.int .i64 q1, .int .i64 q2, .int .i64 q3, .int .i64 q4] 34)) [.int .i64 j1, .int .i64 j2, .int .i64 j3, .int .i64 j4, .int .i64 j5, .int .i64 j6, .int .i64 j7, .int .i64 j8, .int .i64 j9, .int .i64 j10, .int .i64 j11, .int .i64 j12] _ _ (by simp)
    have HG0 : Hid (Grew w ((((w.alloc (.cells #[.slice A1 n1 c1, .slice A2 n2 c2, .slice A3 n3 c3] 26)).alloc (.cells #[.int .i64 nx, .slice B1 m1 d1, .slice B2 m2 d2] 30)).alloc (.cells #[.int .i64 q1, .int .i64 q2, .int .i64 q3, .int .i64 q4] 34)).alloc (.cells #[.int .i64 j1, .int .i64 j2, .int .i64 j3, .int .i64 j4, .int .i64 j5, .int .i64 j6, .int .i64 j7, .int .i64 j8, .int .i64 j9, .int .i64 j10, .int .i64 j11, .int .i64 j12] 37))) := grew_trans (grew_trans (grew_trans (grew_alloc _ _ _) (grew_alloc _ _ _)) (grew_alloc _ _ _)) (grew_alloc _ _ _)
    go_enter Try.func3, Try.ntmps3
    go_upto_region 1 with (fail)
    generalize ((((w.alloc (.cells #[.slice A1 n1 c1, .slice A2 n2 c2, .slice A3 n3 c3] 26)).alloc (.cells #[.int .i64 nx, .slice B1 m1 d1, .slice B2 m2 d2] 30)).alloc (.cells #[.int .i64 q1, .int .i64 q2, .int .i64 q3, .int .i64 q4] 34)).alloc (.cells #[.int .i64 j1, .int .i64 j2, .int .i64 j3, .int .i64 j4, .int .i64 j5, .int .i64 j6, .int .i64 j7, .int .i64 j8, .int .i64 j9, .int .i64 j10, .int .i64 j11, .int .i64 j12] 37)) = w0 at *
    generalize w.heap.size + 1 + 1 + 1 = bi at *
    generalize w.heap.size + 1 + 1 = bp at *
    generalize w.heap.size + 1 = bb at *
    have r0 := HR0.out.at 0 (.slice A1 n1 c1) rfl; have r1 := HR0.out.at 1 (.slice A2 n2 c2) rfl; have r2 := HR0.out.at 2 (.slice A3 n3 c3) rfl
    go_wp2_with (go_at_call 8; (with_reducible refine (CH _).mono ?_); rintro e w1 ⟨rfl, hg⟩; have HG1 := Lib.hid (grew_trans HG0.out hg); have HR1 := Lib.hid (HR0.out.keep hg); have HB1 := Lib.hid (HB0.out.keep hg); have HP1 := Lib.hid (HP0.out.keep hg); have HI1 := Lib.hid (HI0.out.keep hg); clear hg r0 r1 r2 HG0 HR0 HB0 HP0 HI0; have b0 := HB1.out.at 0 (.int .i64 nx) rfl; have b1 := HB1.out.at 1 (.slice B1 m1 d1) rfl; have b2 := HB1.out.at 2 (.slice B2 m2 d2) rfl)
    go_ret
    exact ⟨rfl, HG1.out⟩
end Go.Proofs.Ytlbfljkhlkjcbaa.NumK
namespace Go.Proofs.Ytlbfljkhlkjcbaa.NumK
open Go.RowKit
set_option linter.unusedVariables false

theorem markExact_row (w : World) {cs0 cs1 cs2 cs3 : Array Value} {r : Rl} {b : Bk} {p : Po} {i : In} (m k : Int) (h0 : spRl.rd w cs0.toList r) (h1 : spBk.rd w cs1.toList b) (h2 : spPo.rd w cs2.toList p) (h3 : spIn.rd w cs3.toList i) :
    Calls Try.prog 3 #[.agg cs0, .agg cs1, .agg cs2, .int .i64 m, .int .i64 k, .agg cs3] w fun e w' => e = .returned (.bool true) ∧ Grew w w' := by
  obtain ⟨A1, A2, A3, n1, n2, n3, c1, c2, c3, e, h⟩ := roll_of h0
  obtain ⟨B1, B2, m1, m2, d1, d2, e', h'⟩ := book_of h1
  rw [e, e', po_of h2, inst_of h3]
  exact markExact_walk r b p m k i A1 A2 A3 B1 B2 n1 n2 n3 c1 c2 c3 m1 m2 d1 d2 w h h'
end Go.Proofs.Ytlbfljkhlkjcbaa.NumK
namespace Go.Proofs.Ytlbfljkhlkjcbaa.markExact
open Go.ChangeShapes Go.WideShapes Go.ChangeAt Go.RowKit
set_option linter.unusedVariables false

theorem own : ownKnob Try.prog.godebug = none := by kernel_rfl
theorem laidOut : laidOutB Try.prog = true := by kernel_rfl

set_option maxRecDepth 100000 in
theorem lifted (os : Os) (started : os.Started) (H : Type) (enc : TypeId × Value → H) :
    ReturnsInHanded {} Try.checked os 3 .any (Rows.markExactSpec.pre6 enc Try.prog Try.f3 Rows.markExactRow.domain false) (Rows.markExactSpec.post enc Try.prog Try.f3 false true false false) := by
  refine returnsInHanded_of_change (C := Try.checked) own started (by kernel_rfl) Try.func3
    (ChangeSpec.witness6 (enc := enc) (C := Try.checked) false ⟨#[], #[.agg #[.slice none 0 0, .slice none 0 0, .slice none 0 0], .agg #[.int .i64 0, .slice none 0 0, .slice none 0 0], .agg #[.int .i64 0, .int .i64 0, .int .i64 0, .int .i64 0], .int .i64 0, .int .i64 0, .agg #[.int .i64 0, .int .i64 0, .int .i64 0, .int .i64 0, .int .i64 0, .int .i64 0, .int .i64 0, .int .i64 0, .int .i64 0, .int .i64 0, .int .i64 0, .int .i64 0]], []⟩ 8 (by kernel_rfl) (by kernel_rfl) (by kernel_rfl) (by kernel_rfl)) ?_
  intro W base args ds gs before hval0 hW hcnd _
  have hval : ∀ (j : Nat) t v, Try.f3.params[j]? = some t → args[j]? = some v → Value.okWide Try.prog W .any base t v := hval0
  have hW' := hW
  obtain ⟨p, q, hA0, hV, rfl, hfz, hnd⟩ := hW
  have hA : DataW.TrodAll enc Try.prog W 0 (fun _ => true) true Try.f3.params.toList args.toList ds p := hA0
  skip
  rw [Try.params3] at hA hval
  obtain ⟨v0, vs0, d0, ds0, p0, q0, hargs, rfl, rfl, h0, r0⟩ := trodAll_cons hA
  obtain ⟨v1, vs1, d1, ds1, p1, q1, rfl, rfl, rfl, h1, r1⟩ := trodAll_cons r0
  obtain ⟨v2, vs2, d2, ds2, p2, q2, rfl, rfl, rfl, h2, r2⟩ := trodAll_cons r1
  obtain ⟨v3, vs3, d3, ds3, p3, q3, rfl, rfl, rfl, h3, r3⟩ := trodAll_cons r2
  obtain ⟨v4, vs4, d4, ds4, p4, q4, rfl, rfl, rfl, h4, r4⟩ := trodAll_cons r3
  obtain ⟨v5, vs5, d5, ds5, p5, q5, rfl, rfl, rfl, h5, r5⟩ := trodAll_cons r4
  obtain ⟨rfl, rfl, rfl⟩ := trodAll_nil r5
  obtain rfl : args = #[v0, v1, v2, v3, v4, v5] := by cases args; simp_all
  obtain ⟨rfl, rfl⟩ := trodVars_none hV
  have k0 := h0
  have lt0 : ∀ x ∈ p0, x.block < W.heap.size := by obtain ⟨m, hm⟩ := k0; exact DataW.trod_lt m _ _ _ hm
  obtain ⟨cs0, x0, rfl, e0⟩ := NumK.arg_struct Try.underlying26 NumK.opens_roll (hval 0 26 v0 rfl rfl) h0
  have k1 := h1
  have lt1 : ∀ x ∈ p1, x.block < W.heap.size := by obtain ⟨m, hm⟩ := k1; exact DataW.trod_lt m _ _ _ hm
  obtain ⟨cs1, x1, rfl, e1⟩ := NumK.arg_struct Try.underlying30 NumK.opens_book (hval 1 30 v1 rfl rfl) h1
  have k2 := h2
  have lt2 : ∀ x ∈ p2, x.block < W.heap.size := by obtain ⟨m, hm⟩ := k2; exact DataW.trod_lt m _ _ _ hm
  obtain ⟨cs2, x2, rfl, e2⟩ := NumK.arg_struct Try.underlying34 NumK.opens_pos (hval 2 34 v2 rfl rfl) h2
  obtain ⟨a3, rfl, rfl, rfl, w3⟩ := open_int Try.underlying3 (hval 3 3 v3 rfl rfl) h3
  obtain ⟨a4, rfl, rfl, rfl, w4⟩ := open_int Try.underlying3 (hval 4 3 v4 rfl rfl) h4
  have k5 := h5
  have lt5 : ∀ x ∈ p5, x.block < W.heap.size := by obtain ⟨m, hm⟩ := k5; exact DataW.trod_lt m _ _ _ hm
  obtain ⟨cs5, x5, rfl, e5⟩ := NumK.arg_struct Try.underlying37 NumK.opens_inst (hval 5 37 v5 rfl rfl) h5
  clear hA0 hval0
  refine (NumK.markExact_row W a3 a4 e0 e1 e2 e5).mono fun e W' ⟨he, bel⟩ => ?_
  subst he
  exact ⟨_, rfl, _, _, _, [], _, [], hW', trodAll_mk1 (shut_bool Try.underlying4 _), (trodAll_cons_mk (Below.trod laidOut (by kernel_rfl) (of_decide_eq_true (by kernel_rfl)) k0 bel lt0) (trodAll_cons_mk (Below.trod laidOut (by kernel_rfl) (of_decide_eq_true (by kernel_rfl)) k1 bel lt1) (trodAll_cons_mk (Below.trod laidOut (by kernel_rfl) (of_decide_eq_true (by kernel_rfl)) k2 bel lt2) (trodAll_cons_mk (shut_int Try.underlying3 w3) (trodAll_cons_mk (shut_int Try.underlying3 w4) (trodAll_cons_mk (Below.trod laidOut (by kernel_rfl) (of_decide_eq_true (by kernel_rfl)) k5 bel lt5) trodAll_mk0)))))), rfl, bel.frame _, fun h => by cases h⟩

theorem over : Rows.markExactRow.holds Try.pinned (OpenSpec.ofChange Rows.markExactSpec) :=
  OpenClaim.holds_of_wide 3 Try.f3 rfl rfl rfl rfl rfl rfl rfl ⟨rfl, rfl, rfl, rfl, rfl⟩ rfl rfl rfl rfl rfl (by kernel_rfl) Try.func3 (by kernel_rfl)
    (of_decide_eq_true (by kernel_rfl)) (by unfold Func.isWrapper; first | (rw [if_pos (by decide +kernel)]; kernel_rfl) | (rw [if_neg (by decide +kernel)]; exact ⟨rfl, rfl⟩))
    (fun os started H enc _ => lifted os started H enc)

/-! ### the statement -/
theorem proved : Rows.MarkExactSaid := over
end Go.Proofs.Ytlbfljkhlkjcbaa.markExact
