/- The document's Add of legs. -/
import Derived.Test.YtahioajpmlochaaGreatRH26
import Derived.Test.YtahioajpmlochaaGreatRH20
import Derived.Test.YtahioajpmlochaaGreatRH27
import Derived.Test.YtahioajpmlochaaGreatRH24
import Derived.Test.YtahioajpmlochaaGreatRH25
import Derived.Deep.CutRange
namespace Go.Proofs.YtahioajpmlochaaGreat.NumK
open Go.RowKit
set_option linter.unusedVariables false

theorem legs_nay {l : List Po} {j : Nat} (h : j < l.length) (hx : okLeg (l.getD j po0) = false) : l.all okLeg = false := List.all_eq_false.2 ⟨_, getD_mem l po0 j h, by rw [hx]; decide⟩
theorem legs_take {l : List Po} {j : Nat} (h : j < l.length) (h1 : (l.take j).all okLeg = true) (hx : okLeg (l.getD j po0) = true) : (l.take (j + 1)).all okLeg = true := by
  have e : l.take (j + 1) = l.take j ++ [l.getD j po0] := by
    rw [List.take_add_one, List.getElem?_eq_getElem h]
    simp [List.getD_eq_getElem?_getD, h]
  rw [e, List.all_append, h1]; simpa using hx

/-- What stands while the positions are put together. -/
structure AddSt (w : World) (bl : List Value) (nx : Int) (lt : List Tr) (B1 : Option Addr) (d1 O P : Nat) (wr : World) (v : Value) (ps : List Po) : Prop where
  g : Grew w wr
  x : OwnC wr w.heap.size bl
  r : OwnC wr (w.heap.size + 1) [.int .i64 0, .slice none 0 0, .slice none 0 0]
  o : OwnC wr O [.int .i64 nx, .slice B1 lt.length d1, v]
  t : OwnE enTr wr (w.heap.size + 2) 50 (.slice B1 lt.length d1) lt
  tb : ∀ x, B1 = some x → x.block < O
  p : OwnE enPo wr P 31 v ps
  lo : w.heap.size + 1 < O
  op : O < P
  sz : P ≤ wr.heap.size
theorem sum_in {l : List Po} (h : rightPs l = true) (k : Ky) : isMoney (qK l k) = true ∧ isMoney (cK l k) = true := by
  by_cases hx : ∃ x ∈ l, isK k x = true
  · obtain ⟨x, h1, h2⟩ := hx
    obtain rfl := (isK_iff _ _).1 h2
    obtain ⟨e1, e2⟩ := of_self h h1
    have := leg_ok (okPo_leg (((rightPs_iff l).1 h).1 x h1))
    unfold okAm at this
    rw [Bool.and_eq_true] at this
    rw [e1, e2]; exact this
  · have e : l.filter (isK k) = [] := List.filter_eq_nil_iff.2 fun x h1 h2 => hx ⟨x, h1, h2⟩
    unfold qK cK
    rw [e]
    decide
theorem money_64 {q : Int} (h : isMoney q = true) : -9223372036854775808 ≤ q ∧ q ≤ 9223372036854775807 := by have := (isMoney_iff q).1 h; omega
theorem rowK_step (l : List Po) (k : Ky) (j : Nat) (h : j < l.length) : rowK (l.take (j + 1)) k = rowK (l.take j) k ++ (if isK k (l.getD j po0) then [l.getD j po0] else []) := by
  unfold rowK
  rw [filter_take_succ _ l po0 j h]
section
variable {w wr w' : World} {bl : List Value} {nx : Int} {lt : List Tr} {B1 : Option Addr} {d1 O P : Nat} {v v' : Value} {ps ps' : List Po}
theorem AddSt.keep (h : AddSt w bl nx lt B1 d1 O P wr v ps) (g : Grew wr w') : AddSt w bl nx lt B1 d1 O P w' v ps :=
  ⟨grew_trans h.g g, h.x.keep g, h.r.keep g, h.o.keep g, h.t.keep g, h.tb, h.p.keep g, h.lo, h.op, Nat.le_trans h.sz g.size⟩
theorem own_kept {α : Type} {E : En α} {w w' : World} {b B : Nat} {t : TypeId} {A : Option Addr} {n c : Nat} {l : List α} (h : OwnE E w b t (.slice A n c) l) (g : Below B w w') (hb : ∀ x, A = some x → x.block < B) : OwnE E w' b t (.slice A n c) l := by
  obtain ⟨hl, h⟩ := h
  refine ⟨hl, ?_⟩
  rcases h with h | ⟨k, cap, cur, hv, h1, hh, r⟩
  · exact Or.inl h
  · refine Or.inr ⟨k, cap, cur, hv, h1, ?_, r⟩
    cases hv
    rw [g.block k (hb ⟨k, 0, none⟩ rfl)]
    exact hh
theorem AddSt.push (h : AddSt w bl nx lt B1 d1 O P wr v ps) (g : Below P wr w') (hp : OwnE enPo w' P 31 v' ps') : AddSt w bl nx lt B1 d1 O P (w'.setCell ⟨O, 2, none⟩ v') v' ps' := by
  have h1 := h.lo
  have h2 := h.op
  refine ⟨grew_set (Below.trans h.g (g.mono (by omega))) _ (by show w.heap.size ≤ O; omega), (h.x.below g (by omega)).other ⟨O, 2, none⟩ _ (by show O ≠ _; omega), (h.r.below g (by omega)).other ⟨O, 2, none⟩ _ (by show O ≠ _; omega), (h.o.below g h2).set 2 v' (by show 2 < 3; omega), ?_, h.tb, hp.set O 2 v' h2, h.lo, h.op, ?_⟩
  · exact OwnE.setO (own_kept h.t g fun x hx => by have := h.tb x hx; omega) O 2 v' fun k hk => by obtain ⟨x, hx, rfl⟩ := own_addr hk; have := h.tb x hx; omega
  · have h3 := g.size; have h4 := h.sz; rw [show (w'.setCell ⟨O, 2, none⟩ v').heap.size = w'.heap.size from by simp [World.setCell]]; omega
end

set_option maxRecDepth 100000 in
set_option maxHeartbeats 8000000 in
theorem radd_any (b : Bk) (A1 A2 A3 : Option Addr) (n1 n2 n3 c1 c2 c3 : Nat) (m : List Po) (w : World) (h : InB w b A1 A2 n1 n2 c1 c2) (h3 : RowE enPo w A3 n3 m) (hn : n1 ≤ 10000 ∧ n2 ≤ 10000 ∧ n3 ≤ 10000) :
    Calls Tryz.prog 9 #[vBk b.1 A1 A2 n1 n2 c1 c2, .slice A3 n3 c3] w (BookE (addB b m) (addE b m) w) := by
  have CC := fun w' (g : Grew w w') => rbook_any b A1 A2 n1 n2 c1 c2 w' (h.keep g) ⟨by omega, by omega⟩
  have HX0 : Hid (OwnC ((w.alloc (.cells #[.int .i64 b.1, .slice A1 n1 c1, .slice A2 n2 c2] 28)).alloc (.cells #[.int .i64 0, .slice none 0 0, .slice none 0 0] 28)) w.heap.size [.int .i64 b.1, .slice A1 n1 c1, .slice A2 n2 c2]) := (OwnC.new w [.int .i64 b.1, .slice A1 n1 c1, .slice A2 n2 c2] _ _ rfl).keep (grew_alloc _ _ _)
  have HY0 : Hid (OwnC ((w.alloc (.cells #[.int .i64 b.1, .slice A1 n1 c1, .slice A2 n2 c2] 28)).alloc (.cells #[.int .i64 0, .slice none 0 0, .slice none 0 0] 28)) (w.heap.size + 1) [.int .i64 0, .slice none 0 0, .slice none 0 0]) := OwnC.new _ [.int .i64 0, .slice none 0 0, .slice none 0 0] _ _ (by simp)
  have HG0 : Hid (Grew w ((w.alloc (.cells #[.int .i64 b.1, .slice A1 n1 c1, .slice A2 n2 c2] 28)).alloc (.cells #[.int .i64 0, .slice none 0 0, .slice none 0 0] 28))) := grew_trans (grew_alloc _ _ _) (grew_alloc _ _ _)
  by_cases hr : rightB b = true
  · rw [hr] at CC
    have HI := Lib.hid h
    have HJ := Lib.hid h3
    have HL := Lib.hid h3.len
    have HPS := Lib.hid ((rightB_iff b).1 hr).2.2
    have HN := Lib.hid hn
    have HR2 : Hid (m.all okLeg = false → ∀ w', Grew w w' → BookE (addB b m) (addE b m) w (.returned (.tuple #[.agg #[.int .i64 0, .slice none 0 0, .slice none 0 0], .int .i64 3])) w') := fun h2 w' g => by obtain ⟨e1, e2⟩ := addE_2 hr h2; rw [e1]; exact bookE_no e2 g
    have HR3 : Hid (m.all okLeg = true → flatI m = false → ∀ w', Grew w w' → BookE (addB b m) (addE b m) w (.returned (.tuple #[.agg #[.int .i64 0, .slice none 0 0, .slice none 0 0], .int .i64 12])) w') := fun h2 h3 w' g => by obtain ⟨e1, e2⟩ := addE_3 hr h2 h3; rw [e1]; exact bookE_no e2 g
    have HR4 : Hid (m.all okLeg = true → flatI m = true → fits (addF b.2.2 m) = false → ∀ w', Grew w w' → BookE (addB b m) (addE b m) w (.returned (.tuple #[.agg #[.int .i64 0, .slice none 0 0, .slice none 0 0], .int .i64 1])) w') := fun h2 h3 h4 w' g => by obtain ⟨e1, e2⟩ := addE_4 hr h2 h3 h4; rw [e1]; exact bookE_no e2 g
    have HR5 : Hid (m.all okLeg = true → flatI m = true → fitTo (addF b.2.2 m) 128 → ∀ w' A' A'' c' c'', OwnB w' w.heap.size (b.1, b.2.1, plF (addF b.2.2 m) 128) A' A'' c' c'' → Grew w w' → BookE (addB b m) (addE b m) w (.returned (.tuple #[.agg #[.int .i64 b.1, .slice A' b.2.1.length c', .slice A'' (plF (addF b.2.2 m) 128).length c''], .int .i64 0])) w') := fun h2 h3 h4 w' A' A'' c' c'' ho g => by
      obtain ⟨e1, e2⟩ := addE_5 hr h2 h3 (fits_grid fun i hi => h4 i hi hi)
      rw [e1, e2]
      rw [pl_all] at ho ⊢
      exact ⟨A', A'', c', c'', rfl, ho, g⟩
    clear h h3 hr hn
    generalize BookE (addB b m) (addE b m) w = PP at *
    obtain ⟨nx, lt, lp⟩ := b
    dsimp only [vBk] at *
    go_enter Tryz.func9, Tryz.ntmps9
    go_upto_region 1 with fail
    generalize (w.alloc (.cells #[.int .i64 nx, .slice A1 n1 c1, .slice A2 n2 c2] 28)).alloc (.cells #[.int .i64 0, .slice none 0 0, .slice none 0 0] 28) = w0 at *
    have x0 : w0.cell? ⟨w.heap.size, 0, none⟩ = some (.int .i64 nx) := HX0.out.at 0 _ rfl
    have x1 : w0.cell? ⟨w.heap.size, 1, none⟩ = some (.slice A1 n1 c1) := HX0.out.at 1 _ rfl
    have x2 : w0.cell? ⟨w.heap.size, 2, none⟩ = some (.slice A2 n2 c2) := HX0.out.at 2 _ rfl
    go_wp2_with (go_at_call 21; ((with_reducible refine (CC _ HG0.out).mono ?_); rintro e w1 ⟨rfl, hg⟩; have HG1 := Lib.hid (grew_trans HG0.out hg); have HX1 := Lib.hid (HX0.out.keep hg); have HY1 := Lib.hid (HY0.out.keep hg); clear hg CC))
    clear x0 x1 x2
    go_loopw [6] (fun vi wr => ∃ j : Nat, vi = .int .i64 j ∧ j ≤ n3 ∧ Hid ((m.take j).all okLeg = true) ∧ Hid (Grew w1 wr)) (fun vi _ => n3 - (intOf vi).toNat)
    case atStart => exact ⟨0, rfl, by omega, rfl, grew_refl _⟩
    case round =>
      obtain ⟨j, rfl, hj, HM, HG⟩ := hrel
      have hn3 := HN.out.2.2
      have HX := Lib.hid (HX1.out.keep HG.out)
      have HY := Lib.hid (HY1.out.keep HG.out)
      have HGW := Lib.hid (grew_trans HG1.out HG.out)
      by_cases hlt : j < n3
      · have hjl : j < m.length := by rw [HL.out]; exact hlt
        obtain ⟨bb, o, rfl, hb, hc⟩ := HJ.out.po hlt
        have HCP : Hid (∀ w', Grew w w' → CPo w' bb (o + j * 4) (m.getD j po0)) := fun w' g => (hc j hlt).keep g hb
        obtain ⟨a0, a1, a2, a3⟩ := HCP.out _ HGW.out
        have HNO := Lib.hid (@legs_nay m j hjl)
        have HYE := Lib.hid (legs_take hjl HM.out)
        have HO : Hid (okLeg (m.getD j po0) = (okK ((m.getD j po0).1, (m.getD j po0).2.1) && (isMoney (m.getD j po0).2.2.1 && isMoney (m.getD j po0).2.2.2))) := rfl
        have i0 : (0 : Int) ≤ (j : Int) := by omega
        have i1 : (j : Int) < (n3 : Int) := by omega
        clear hb hc HR3 HR4 HR5 HPS HI HM
        have CK := fun w' => rkey_any (m.getD j po0).1 (m.getD j po0).2.1 w'
        have CR1 := fun w' => refRight_any (m.getD j po0).2.2.1 w'
        have CR2 := fun w' => refRight_any (m.getD j po0).2.2.2 w'
        dsimp only [vKy] at CK
        generalize okLeg (m.getD j po0) = ok at *
        generalize m.getD j po0 = x at *
        obtain ⟨q1, q2, q3, q4⟩ := x
        dsimp only at a0 a1 a2 a3 CK CR1 CR2 HO
        generalize okK (q1, q2) = M1 at *
        generalize isMoney q3 = M2 at *
        generalize isMoney q4 = M3 at *
        have H : (ok = false ∧ (M1 = false ∨ (M1 = true ∧ M2 = false) ∨ (M1 = true ∧ M2 = true ∧ M3 = false))) ∨ (ok = true ∧ M1 = true ∧ M2 = true ∧ M3 = true) := by
          rw [HO.out]
          cases M1 <;> cases M2 <;> cases M3 <;> simp
        clear HO
        rcases H with ⟨rfl, H⟩ | ⟨rfl, rfl, rfl, rfl⟩
        · have HF := Lib.hid (HR2.out (HNO.out rfl))
          clear HNO HYE HR2
          rcases H with rfl | ⟨rfl, rfl⟩ | ⟨rfl, rfl, rfl⟩
          all_goals
            (go_wp2_with (first
              | (go_at_call 22; ((with_reducible refine (CK _).mono ?_); rintro e w2 ⟨rfl, hg⟩; have HG2 := Lib.hid (grew_trans HGW.out hg); obtain ⟨b0, b1, b2, b3⟩ := HCP.out _ HG2.out; dsimp only at b2 b3; have HY2 := Lib.hid (HY.out.keep hg); have y0 : w2.cell? ⟨w.heap.size + 1, 0, none⟩ = some (.int .i64 0) := HY2.out.at 0 _ rfl; have f0 : w2.frozen? ⟨w.heap.size + 1, 0, none⟩ = false := HY2.out.fr 0 (by decide); have y1 : w2.cell? ⟨w.heap.size + 1, 1, none⟩ = some (.slice none 0 0) := HY2.out.at 1 _ rfl; have f1 : w2.frozen? ⟨w.heap.size + 1, 1, none⟩ = false := HY2.out.fr 1 (by decide); have y2 : w2.cell? ⟨w.heap.size + 1, 2, none⟩ = some (.slice none 0 0) := HY2.out.at 2 _ rfl; have f2 : w2.frozen? ⟨w.heap.size + 1, 2, none⟩ = false := HY2.out.fr 2 (by decide); clear hg CK))
              | (go_at_call 23; ((with_reducible refine (CR1 _).mono ?_); rintro e w3 ⟨rfl, rfl⟩))
              | (go_at_call 23; ((with_reducible refine (CR2 _).mono ?_); rintro e w3 ⟨rfl, rfl⟩)))
             have HP := HY2.out.all [.int .i64 0, .slice none 0 0, .slice none 0 0] rfl
             have HGP := grew_put (w := w) (w.heap.size + 1) (by omega) [.int .i64 0, .slice none 0 0, .slice none 0 0] 0 _ HG2.out
             change bodyPost _ _ _ _ _ (putC w2 (w.heap.size + 1) 0 [.int .i64 0, .slice none 0 0, .slice none 0 0])
             clear y0 y1 y2 f0 f1 f2
             generalize putC w2 (w.heap.size + 1) 0 [.int .i64 0, .slice none 0 0, .slice none 0 0] = w9 at *
             have z0 : w9.cell? ⟨w.heap.size + 1, 0, none⟩ = _ := HP.at 0 _ rfl
             have z1 : w9.cell? ⟨w.heap.size + 1, 1, none⟩ = _ := HP.at 1 _ rfl
             have z2 : w9.cell? ⟨w.heap.size + 1, 2, none⟩ = _ := HP.at 2 _ rfl
             refine bodyPost_ret (v := .tuple #[.agg #[.int .i64 0, .slice none 0 0, .slice none 0 0], .int .i64 3]) (by simp [results, Tryz.results9, go_sem, z0, z1, z2]) rfl ?_
             exact HF.out _ HGP)
        · have HM2 := Lib.hid (HYE.out rfl)
          clear HNO HYE HR2
          go_wp2_with (first
            | (go_at_call 22; ((with_reducible refine (CK _).mono ?_); rintro e w2 ⟨rfl, hg⟩; have HG2 := Lib.hid (grew_trans HGW.out hg); have HG3 := Lib.hid (grew_trans HG.out hg); obtain ⟨b0, b1, b2, b3⟩ := HCP.out _ HG2.out; dsimp only at b2 b3; clear hg CK))
            | (go_at_call 23; ((with_reducible refine (CR1 _).mono ?_); rintro e w3 ⟨rfl, rfl⟩))
            | (go_at_call 23; ((with_reducible refine (CR2 _).mono ?_); rintro e w3 ⟨rfl, rfl⟩)))
          go_roundw
          case rel => exact ⟨j + 1, by go_num, by omega, HM2.out, HG3.out⟩
          case measure => simp only [intOf]; omega
      · obtain rfl : j = n3 := by omega
        rw [List.take_of_length_le (by rw [HL.out]; exact Nat.le_refl _)] at HM
        have HR3b := Lib.hid (HR3.out HM.out)
        have HR4b := Lib.hid (HR4.out HM.out)
        have HR5b := Lib.hid (HR5.out HM.out)
        clear HR2 HR3 HR4 HR5 hlt hj
        have hge : ¬ (j : Int) < (j : Int) := by omega
        generalize wr = w4 at *
        go_wp2
        clear hge
        have HXA := Lib.hid HX.out
        have HYA := Lib.hid HY.out
        have HGA := Lib.hid HGW.out
        have HOKS : Hid (∀ k : Nat, ∀ z ∈ rowI m k, -9223372036854775808 ≤ z ∧ z ≤ 9223372036854775807) := fun k z hz => by
          unfold rowI qtys at hz
          obtain ⟨y, hy, rfl⟩ := List.mem_map.1 hz
          have h2 := leg_ok (List.all_eq_true.1 HM.out y (List.mem_filter.1 hy).1)
          unfold okAm at h2
          rw [Bool.and_eq_true, isMoney_iff] at h2
          have := h2.1
          omega
        clear HX HY HG HGW HX1 HY1 HG1
        go_loopw [7] (fun v wr => ∃ k : Nat, v = .int .i64 k ∧ 1 ≤ k ∧ k ≤ 9 ∧ Hid (∀ i : Nat, 1 ≤ i → i < k → (rowI m i).sum = 0) ∧ Hid (Grew w4 wr)) (fun v _ => 9 - (intOf v).toNat)
        case atStart => exact ⟨1, rfl, by omega, by omega, fun i h1 h2 => by omega, grew_refl _⟩
        case round =>
          obtain ⟨k, rfl, hk1, hk, HZ0, HG⟩ := hrel
          have i0 : (0 : Int) ≤ (k : Int) := by omega
          by_cases hk9 : k < 9
          · have i1 : (k : Int) ≤ 8 := by omega
            go_wp2
            generalize wr = wC at *
            go_loopw [8, 9] (fun v6 v7 wr => ∃ i : Nat, v7 = .int .i64 i ∧ i ≤ j ∧ Hid (OwnE enInt wr w4.heap.size 3 v6 (rowI (m.take i) k)) ∧ Hid (Grew w4 wr)) (fun _ v7 _ => j - (intOf v7).toNat)
            case atStart => exact ⟨0, rfl, by omega, OwnE.nil _ _ _ _, HG.out⟩
            case round =>
              obtain ⟨i, rfl, hi, HO, HG2⟩ := hrel
              have HGW := Lib.hid (grew_trans HGA.out HG2.out)
              by_cases hlt : i < j
              · have hil : i < m.length := by rw [HL.out]; exact hlt
                obtain ⟨bb, o, rfl, hb, hc⟩ := (HJ.out.keep HGW.out).po hlt
                obtain ⟨a0, a1, a2, a3⟩ := hc i hlt
                have HS := Lib.hid (rowI_step m k i hil)
                have HLN := Lib.hid (rowI_len m i k)
                have HIM : Hid (isI (k : Int) (m.getD i po0) = decide ((m.getD i po0).2.1 = (k : Int))) := rfl
                have HWL : Hid (w4.heap.size ≤ wr.heap.size) := HG2.out.size
                have j0 : (0 : Int) ≤ (i : Int) := by omega
                have j1 : (i : Int) < (j : Int) := by omega
                clear hc hb
                generalize rowI (m.take i) k = ri at *
                generalize isI (k : Int) (m.getD i po0) = im at *
                generalize m.getD i po0 = x at *
                obtain ⟨q1, q2, q3, q4⟩ := x
                dsimp only at a0 a1 a2 a3 HIM HS
                by_cases hm : q2 = (k : Int)
                · have HS2 : Hid (rowI (m.take (i + 1)) k = ri ++ [q3]) := by show _ = _; rw [HS.out, HIM.out, decide_eq_true hm]; rfl
                  subst hm
                  clear HS HIM
                  go_wp2_with (at_builtin; refine (wpList_append_E rfl _ _ 56 3 (.int .i64 0) 8 rfl Tryz.underlying56 info_int1 rfl w4.heap.size _ ri rfl (HO.out.keep (grew_alloc _ _ _)) _ 1 1 [q3] rfl (by intro h; cases h) (RowE.one1 enInt _ _ _ _ _ rfl rfl) (by have := HLN.out; unfold maxLen; omega) (by have := HLN.out; omega) (Nat.le_trans HWL.out (by simp)) ?_); intro v' w' ho hb; have HP := Lib.hid ho; have HB : Hid (Grew w4 w') := Below.trans (grew_trans HG2.out (grew_alloc _ _ _)) hb; clear ho hb)
                  go_roundw
                  case rel => exact ⟨i + 1, by go_num, by omega, by rw [HS2.out]; exact HP.out, HB.out⟩
                  case measure => simp only [intOf]; omega
                · have HS2 : Hid (rowI (m.take (i + 1)) k = ri) := by show _ = _; rw [HS.out, HIM.out, decide_eq_false hm]; simp
                  have d0 : (q2 == (k : Int)) = false := by simpa using hm
                  clear HS HIM hm
                  go_wp2
                  go_roundw
                  case rel => exact ⟨i + 1, by go_num, by omega, by rw [HS2.out]; exact HO.out, HG2.out⟩
                  case measure => simp only [intOf]; omega
              · obtain rfl : i = j := by omega
                have ht : m.take i = m := List.take_of_length_le (by rw [HL.out]; exact Nat.le_refl _)
                rw [ht] at HO
                have hlen : (rowI m k).length ≤ 100000 := by have := rowI_len m i k; rw [ht] at this; omega
                obtain ⟨A4, c4, hv3, hr3, -, -, -⟩ := HO.out.form
                subst hv3
                have CA := add_any A4 _ c4 _ wr (ints_of_E hr3) (HOKS.out k) hlen
                have HN1 : Hid ((rowI m k).sum ≠ 0 → ∀ w', Grew w w' → PP (.returned (.tuple #[.agg #[.int .i64 0, .slice none 0 0, .slice none 0 0], .int .i64 12])) w') := fun h => HR3b.out (flatI_no hk1 (by omega) h)
                have HZ1 : Hid ((rowI m k).sum = 0 → ∀ i : Nat, 1 ≤ i → i < k + 1 → (rowI m i).sum = 0) := fun h i h1 h2 => by
                  rcases Nat.lt_or_ge i k with h3 | h3
                  · exact HZ0.out i h1 h3
                  · obtain rfl : i = k := by omega
                    exact h
                have HYW := Lib.hid (HYA.out.keep HG2.out)
                clear ht hr3 HO HZ0 HR3b HR4b HR5b
                generalize (rowI m k).length = n5 at *
                generalize (rowI m k).sum = s at *
                by_cases hs : s = 0
                · have HZ2 := Lib.hid (HZ1.out hs)
                  subst hs
                  have hI0 : intV 0 = 0 := by decide
                  have hM0 : isMoney 0 = true := by decide
                  rw [hI0, hM0] at CA
                  clear HZ1 HN1 hI0 hM0 hlt hi
                  go_wp2_with (go_at_call 24; ((with_reducible refine CA.mono ?_); rintro e w5 ⟨rfl, hg⟩; have HG5 := Lib.hid hg; clear hg))
                  go_roundw
                  case rel => exact ⟨k + 1, by go_num, by omega, by omega, HZ2.out, grew_trans HG2.out HG5.out⟩
                  case measure => simp only [intOf]; omega
                · have HF := Lib.hid (HN1.out hs)
                  clear HZ1 HN1
                  by_cases hms : isMoney s = true
                  · rw [hms, intV_in hms] at CA
                    have d1 : (s != 0) = true := by simpa using hs
                    clear hms hs hlt hi
                    go_wp2_with (go_at_call 24; ((with_reducible refine CA.mono ?_); rintro e w5 ⟨rfl, hg⟩; have HG5 := Lib.hid (grew_trans HGW.out hg); have HY5 := Lib.hid (HYW.out.keep hg); have y0 : w5.cell? ⟨w.heap.size + 1, 0, none⟩ = some (.int .i64 0) := HY5.out.at 0 _ rfl; have f0 : w5.frozen? ⟨w.heap.size + 1, 0, none⟩ = false := HY5.out.fr 0 (by decide); have y1 : w5.cell? ⟨w.heap.size + 1, 1, none⟩ = some (.slice none 0 0) := HY5.out.at 1 _ rfl; have f1 : w5.frozen? ⟨w.heap.size + 1, 1, none⟩ = false := HY5.out.fr 1 (by decide); have y2 : w5.cell? ⟨w.heap.size + 1, 2, none⟩ = some (.slice none 0 0) := HY5.out.at 2 _ rfl; have f2 : w5.frozen? ⟨w.heap.size + 1, 2, none⟩ = false := HY5.out.fr 2 (by decide); clear hg))
                    have HP := HY5.out.all [.int .i64 0, .slice none 0 0, .slice none 0 0] rfl
                    have HGP := grew_put (w := w) (w.heap.size + 1) (by omega) [.int .i64 0, .slice none 0 0, .slice none 0 0] 0 _ HG5.out
                    change bodyPost _ _ _ _ _ (putC w5 (w.heap.size + 1) 0 [.int .i64 0, .slice none 0 0, .slice none 0 0])
                    clear y0 y1 y2 f0 f1 f2
                    generalize putC w5 (w.heap.size + 1) 0 [.int .i64 0, .slice none 0 0, .slice none 0 0] = w9 at *
                    have z0 : w9.cell? ⟨w.heap.size + 1, 0, none⟩ = _ := HP.at 0 _ rfl
                    have z1 : w9.cell? ⟨w.heap.size + 1, 1, none⟩ = _ := HP.at 1 _ rfl
                    have z2 : w9.cell? ⟨w.heap.size + 1, 2, none⟩ = _ := HP.at 2 _ rfl
                    refine bodyPost_ret (v := .tuple #[.agg #[.int .i64 0, .slice none 0 0, .slice none 0 0], .int .i64 12]) (by simp [results, Tryz.results9, go_sem, z0, z1, z2]) rfl ?_
                    exact HF.out _ HGP
                  · rw [Bool.not_eq_true] at hms
                    rw [hms] at CA
                    clear hms hs hlt hi
                    go_wp2_with (go_at_call 24; ((with_reducible refine CA.mono ?_); rintro e w5 ⟨rfl, hg⟩; have HG5 := Lib.hid (grew_trans HGW.out hg); have HY5 := Lib.hid (HYW.out.keep hg); have y0 : w5.cell? ⟨w.heap.size + 1, 0, none⟩ = some (.int .i64 0) := HY5.out.at 0 _ rfl; have f0 : w5.frozen? ⟨w.heap.size + 1, 0, none⟩ = false := HY5.out.fr 0 (by decide); have y1 : w5.cell? ⟨w.heap.size + 1, 1, none⟩ = some (.slice none 0 0) := HY5.out.at 1 _ rfl; have f1 : w5.frozen? ⟨w.heap.size + 1, 1, none⟩ = false := HY5.out.fr 1 (by decide); have y2 : w5.cell? ⟨w.heap.size + 1, 2, none⟩ = some (.slice none 0 0) := HY5.out.at 2 _ rfl; have f2 : w5.frozen? ⟨w.heap.size + 1, 2, none⟩ = false := HY5.out.fr 2 (by decide); clear hg))
                    have HP := HY5.out.all [.int .i64 0, .slice none 0 0, .slice none 0 0] rfl
                    have HGP := grew_put (w := w) (w.heap.size + 1) (by omega) [.int .i64 0, .slice none 0 0, .slice none 0 0] 0 _ HG5.out
                    change bodyPost _ _ _ _ _ (putC w5 (w.heap.size + 1) 0 [.int .i64 0, .slice none 0 0, .slice none 0 0])
                    clear y0 y1 y2 f0 f1 f2
                    generalize putC w5 (w.heap.size + 1) 0 [.int .i64 0, .slice none 0 0, .slice none 0 0] = w9 at *
                    have z0 : w9.cell? ⟨w.heap.size + 1, 0, none⟩ = _ := HP.at 0 _ rfl
                    have z1 : w9.cell? ⟨w.heap.size + 1, 1, none⟩ = _ := HP.at 1 _ rfl
                    have z2 : w9.cell? ⟨w.heap.size + 1, 2, none⟩ = _ := HP.at 2 _ rfl
                    refine bodyPost_ret (v := .tuple #[.agg #[.int .i64 0, .slice none 0 0, .slice none 0 0], .int .i64 12]) (by simp [results, Tryz.results9, go_sem, z0, z1, z2]) rfl ?_
                    exact HF.out _ HGP
          · obtain rfl : k = 9 := by omega
            have HFL := flatI_yes HZ0.out
            have HR4 := Lib.hid (HR4b.out HFL)
            have HR5 := Lib.hid (HR5b.out HFL)
            have HX := Lib.hid (HXA.out.keep HG.out)
            have HY := Lib.hid (HYA.out.keep HG.out)
            have HGW := Lib.hid (grew_trans HGA.out HG.out)
            clear HR3b HR4b HR5b HOKS HFL HZ0 HXA HYA HGA HG hk hk1 hk9
            have CT := fun w' (g : Grew w w') => twinBook_any (nx, lt, lp) A1 A2 n1 n2 c1 c2 w' (HI.out.keep g) ⟨by have := HN.out.1; omega, by have := HN.out.2.1; omega⟩
            unfold BookP at CT
            dsimp only [vBk] at CT
            have x0 : wr.cell? ⟨w.heap.size, 0, none⟩ = some (.int .i64 nx) := HX.out.at 0 _ rfl
            have x1 : wr.cell? ⟨w.heap.size, 1, none⟩ = some (.slice A1 n1 c1) := HX.out.at 1 _ rfl
            have x2 : wr.cell? ⟨w.heap.size, 2, none⟩ = some (.slice A2 n2 c2) := HX.out.at 2 _ rfl
            go_upto_region 21 with (go_at_call 25; ((with_reducible refine (CT _ HGW.out).mono ?_); rintro e w5 ⟨B1, B2, d1, d2, rfl, hb, hg⟩; have HB5 := Lib.hid hb; have HG5 := Lib.hid hg; clear hg hb CT x0 x1 x2))
            have hlo : w.heap.size + 1 < w5.heap.size := by have h8 := (HY.out.keep HG5.out).lt; omega
            have HOC : Hid (OwnC (w5.alloc (.cells #[.int .i64 nx, .slice B1 lt.length d1, .slice B2 lp.length d2] 28)) w5.heap.size [.int .i64 nx, .slice B1 lt.length d1, .slice B2 lp.length d2]) := OwnC.new w5 [.int .i64 nx, .slice B1 lt.length d1, .slice B2 lp.length d2] _ _ rfl
            have HXC := Lib.hid ((HX.out.keep HG5.out).keep (grew_alloc w5 #[.int .i64 nx, .slice B1 lt.length d1, .slice B2 lp.length d2] 28))
            have HYC := Lib.hid ((HY.out.keep HG5.out).keep (grew_alloc w5 #[.int .i64 nx, .slice B1 lt.length d1, .slice B2 lp.length d2] 28))
            have HGC := Lib.hid (grew_trans (grew_trans HGW.out HG5.out) (grew_alloc w5 #[.int .i64 nx, .slice B1 lt.length d1, .slice B2 lp.length d2] 28))
            have HTB : Hid (∀ x, B1 = some x → x.block < w5.heap.size) := fun x hx => (HB5.out.t.block x hx).2
            have HTC := Lib.hid ((HB5.out.t.mono (base2 := w.heap.size + 2) (by have h8 := HY.out.lt; omega)).keep (grew_alloc w5 #[.int .i64 nx, .slice B1 lt.length d1, .slice B2 lp.length d2] 28))
            have hsz : w5.heap.size + 1 ≤ (w5.alloc (.cells #[.int .i64 nx, .slice B1 lt.length d1, .slice B2 lp.length d2] 28)).heap.size := by simp
            generalize w5.alloc (.cells #[.int .i64 nx, .slice B1 lt.length d1, .slice B2 lp.length d2] 28) = wO at *
            generalize w5.heap.size = O at *
            have HST : Hid (AddSt w [.int .i64 nx, .slice A1 n1 c1, .slice A2 n2 c2] nx lt B1 d1 O (O + 1) (wO.setCell ⟨O, 2, none⟩ (.slice none 0 0)) (.slice none 0 0) []) :=
              ⟨grew_set HGC.out _ (by show w.heap.size ≤ O; omega), HXC.out.other ⟨O, 2, none⟩ _ (by show O ≠ _; omega), HYC.out.other ⟨O, 2, none⟩ _ (by show O ≠ _; omega), HOC.out.set 2 _ (by show 2 < 3; omega), OwnE.setO HTC.out O 2 _ (fun k hk => by obtain ⟨x, hx, rfl⟩ := own_addr hk; have := HTB.out x hx; omega), HTB.out, OwnE.nil _ _ _ _, hlo, Nat.lt_succ_self O, by rw [show (wO.setCell ⟨O, 2, none⟩ (.slice none 0 0)).heap.size = wO.heap.size from by simp [World.setCell]]; exact hsz⟩
            have o2 : wO.cell? ⟨O, 2, none⟩ = some (.slice B2 lp.length d2) := HOC.out.at 2 _ rfl
            have f2 : wO.frozen? ⟨O, 2, none⟩ = false := HOC.out.fr 2 (by show 2 < 3; omega)
            clear HXC HYC HGC HTC HX HY HGW HB5 HG5 hsz
            go_wp2
            generalize wO.setCell ⟨O, 2, none⟩ (.slice none 0 0) = wS at *
            clear o2 f2 HOC
            go_loopw [13] (fun v13 wr => ∃ (a : Nat) (v : Value), v13 = .int .i64 ((a : Int) + 1) ∧ a ≤ 16 ∧ Hid (AddSt w [.int .i64 nx, .slice A1 n1 c1, .slice A2 n2 c2] nx lt B1 d1 O (O + 1) wr v (plF (addF lp m) (a * 8))) ∧ Hid (fitTo (addF lp m) (a * 8))) (fun v13 _ => 17 - (intOf v13).toNat)
            case atStart => exact ⟨0, _, by go_num, by omega, HST.out, fun i hi => by omega⟩
            case round =>
              clear HST
              obtain ⟨a, v, rfl, ha, HS, HT⟩ := hrel
              by_cases ha16 : a < 16
              · have i1 : (a : Int) + 1 ≤ 16 := by omega
                go_wp2
                generalize wr = wC at *
                go_loopw [14] (fun v14 wr => ∃ (c : Nat) (v : Value), v14 = .int .i64 ((c : Int) + 1) ∧ c ≤ 8 ∧ Hid (AddSt w [.int .i64 nx, .slice A1 n1 c1, .slice A2 n2 c2] nx lt B1 d1 O (O + 1) wr v (plF (addF lp m) (a * 8 + c))) ∧ Hid (fitTo (addF lp m) (a * 8 + c))) (fun v14 _ => 9 - (intOf v14).toNat)
                case atStart => exact ⟨0, _, by go_num, by omega, HS.out, HT.out⟩
                case round =>
                  clear HS HT
                  obtain ⟨c, v, rfl, hc, HS, HT⟩ := hrel
                  by_cases hc8 : c < 8
                  · have i2 : (c : Int) + 1 ≤ 8 := by omega
                    have hkk : okK ((a : Int) + 1, (c : Int) + 1) = true := (okK_iff _).2 ⟨⟨by show (1 : Int) ≤ (a : Int) + 1; omega, by show (a : Int) + 1 ≤ 16; omega⟩, by show (1 : Int) ≤ (c : Int) + 1; omega, by show (c : Int) + 1 ≤ 8; omega⟩
                    have hkm : (((a : Int) + 1, (c : Int) + 1) : Ky) = ((((a * 8 + c) / 8 : Nat) : Int) + 1, (((a * 8 + c) % 8 : Nat) : Int) + 1) := by
                      rw [show (a * 8 + c) / 8 = a by omega, show (a * 8 + c) % 8 = c by omega]
                    have HPL := Lib.hid (pl_succ (addF lp m) (a * 8 + c) (by omega) _ hkm)
                    have HFS := Lib.hid (fitTo_succ HT.out _ hkm)
                    have HFN := Lib.hid (fits_no (f := addF lp m) hkk)
                    have HLP := Lib.hid (plF_len (addF lp m) (a * 8 + c))
                    have HIN := Lib.hid (sum_in HPS.out ((a : Int) + 1, (c : Int) + 1))
                    have HV : Hid (addF lp m ((a : Int) + 1, (c : Int) + 1) = ((qK lp ((a : Int) + 1, (c : Int) + 1)) + (qtys (rowK m ((a : Int) + 1, (c : Int) + 1))).sum, (cK lp ((a : Int) + 1, (c : Int) + 1)) + (csts (rowK m ((a : Int) + 1, (c : Int) + 1))).sum)) := rfl
                    rw [HV.out] at HPL HFS HFN
                    have CO := fun w' (g : Grew w w') => rof_any (nx, lt, lp) A1 A2 n1 n2 c1 c2 ((a : Int) + 1) ((c : Int) + 1) w' (HI.out.keep g) (by have := HN.out.2.1; omega)
                    rw [of_right HPS.out] at CO
                    dsimp only [vBk, vKy, vPo] at CO
                    clear hkm HT HV
                    generalize qK lp ((a : Int) + 1, (c : Int) + 1) = p3 at *
                    generalize cK lp ((a : Int) + 1, (c : Int) + 1) = p4 at *
                    have x0 : wr.cell? ⟨w.heap.size, 0, none⟩ = some (.int .i64 nx) := HS.out.x.at 0 _ rfl
                    have x1 : wr.cell? ⟨w.heap.size, 1, none⟩ = some (.slice A1 n1 c1) := HS.out.x.at 1 _ rfl
                    have x2 : wr.cell? ⟨w.heap.size, 2, none⟩ = some (.slice A2 n2 c2) := HS.out.x.at 2 _ rfl
                    go_upto_region 29 with (go_at_call 5; ((with_reducible refine (CO _ HS.out.g).mono ?_); rintro e w7 ⟨rfl, hg⟩; have HS7 := Lib.hid ((HS.out.keep hg).keep (grew_alloc w7 #[.int .i64 ((a : Int) + 1), .int .i64 ((c : Int) + 1), .int .i64 p3, .int .i64 p4] 31)); have HQ7 := Lib.hid (OwnC.new w7 [.int .i64 ((a : Int) + 1), .int .i64 ((c : Int) + 1), .int .i64 p3, .int .i64 p4] 31 _ rfl); clear hg CO x0 x1 x2))
                    clear HS
                    generalize w7.alloc (.cells #[.int .i64 ((a : Int) + 1), .int .i64 ((c : Int) + 1), .int .i64 p3, .int .i64 p4] 31) = w8 at *
                    generalize w7.heap.size = Q at *
                    have HTA : Hid (Two enInt enInt (((w8.alloc (.cells #[.int .i64 p3] 3)).alloc (.cells #[.int .i64 p4] 3)).drew) w8.heap.size 3 3 (.slice (some ⟨w8.heap.size, 0, none⟩) 1 1) (.slice (some ⟨w8.heap.size + 1, 0, none⟩) 1 1) [p3] [p4]) := ⟨((OwnE.lit enInt w8 [p3] 3 #[.int .i64 p3] _ rfl rfl (by show 1 * 1 ≤ _; unfold maxLen; omega)).keep (grew_drew (grew_alloc _ _ _))), (((OwnE.lit enInt (w8.alloc (.cells #[.int .i64 p3] 3)) [p4] 3 #[.int .i64 p4] (w8.heap.size + 1) (by simp) rfl (by show 1 * 1 ≤ _; unfold maxLen; omega)).mono (by simp)).keep (grew_drew (grew_refl _))), (fun g h1 h2 => by simp [Value.ownBlock] at h1 h2; omega)⟩
                    have HTB : Hid (Two enInt enInt (((w8.alloc (.cells #[.int .i64 p4] 3)).alloc (.cells #[.int .i64 p3] 3)).drew) w8.heap.size 3 3 (.slice (some ⟨w8.heap.size + 1, 0, none⟩) 1 1) (.slice (some ⟨w8.heap.size, 0, none⟩) 1 1) [p3] [p4]) := ⟨(((OwnE.lit enInt (w8.alloc (.cells #[.int .i64 p4] 3)) [p3] 3 #[.int .i64 p3] (w8.heap.size + 1) (by simp) rfl (by show 1 * 1 ≤ _; unfold maxLen; omega)).mono (by simp)).keep (grew_drew (grew_refl _))), ((OwnE.lit enInt w8 [p4] 3 #[.int .i64 p4] _ rfl rfl (by show 1 * 1 ≤ _; unfold maxLen; omega)).keep (grew_drew (grew_alloc _ _ _))), (fun g h1 h2 => by simp [Value.ownBlock] at h1 h2; omega)⟩
                    have HGA : Hid (Grew w8 (((w8.alloc (.cells #[.int .i64 p3] 3)).alloc (.cells #[.int .i64 p4] 3)).drew)) := (by repeat (first | exact grew_refl _ | refine grew_drew ?_ | refine grew_trans ?_ (grew_alloc _ _ _)))
                    have HGB : Hid (Grew w8 (((w8.alloc (.cells #[.int .i64 p4] 3)).alloc (.cells #[.int .i64 p3] 3)).drew)) := (by repeat (first | exact grew_refl _ | refine grew_drew ?_ | refine grew_trans ?_ (grew_alloc _ _ _)))
                    go_cut [16, 17] from 104 to 197 (fun va vb wx => Hid (Two enInt enInt wx w8.heap.size 3 3 va vb [p3] [p4]) ∧ Hid (Grew w8 wx))
                    case first =>
                      clear HPL HFS HFN HLP HR4 HR5 HS7
                      refine wp_region_noPanic ?_
                      refine wp_region_held_drew (S := fun w' => Grew w8 w') (by kernel_rfl) (grew_drew (grew_refl _)) (fun hHeld => ?_)
                      (refine wpAnyH_take (i := 0) (oi := { dst := some 113, op := Op.fieldAddr 31 (Operand.tmp 15) 1, type := 0, pos := "ref.go:373", after := #[], guard := none }) (v := ?_) rfl (by kernel_rfl) (by kernel_rfl) (by kernel_rfl) (fun _ _ _ h => h) (Or.inl ⟨by rfl, ?_⟩) (by assumption) ?_; rotate_left; · (intro w hSw; (try dsimp only at hSw); skip; go_simp; (first | done | with_reducible rfl)))
                      try simp only [Act.put, List.setIfInBounds_toArray, List.set_cons_zero, List.set_cons_succ]
                      (refine wpAnyH_take (i := 1) (oi := { dst := some 114, op := Op.load 3 (Operand.tmp 113), type := 3, pos := "ref.go:373", after := #[{ on := 0, ground := Ground.data }], guard := none }) (v := ?_) rfl (by kernel_rfl) (by kernel_rfl) (by kernel_rfl) (fun _ _ _ h => h) (Or.inl ⟨by rfl, ?_⟩) (by assumption) ?_; rotate_left; · (intro w hSw; (try dsimp only at hSw); have y2 := (HQ7.out.keep hSw).at 2 (.int .i64 p3) rfl; go_simp; (first | done | with_reducible rfl)))
                      try simp only [Act.put, List.setIfInBounds_toArray, List.set_cons_zero, List.set_cons_succ]
                      (refine wpAnyH_take (i := 3) (oi := { dst := some 116, op := Op.fieldAddr 31 (Operand.tmp 15) 2, type := 0, pos := "ref.go:373", after := #[{ on := 6, ground := Ground.gcOnly Departure.lateStores }], guard := none }) (v := ?_) rfl (by kernel_rfl) (by kernel_rfl) (by kernel_rfl) (fun _ _ _ h => h) (Or.inl ⟨by rfl, ?_⟩) (by assumption) ?_; rotate_left; · (intro w hSw; (try dsimp only at hSw); skip; go_simp; (first | done | with_reducible rfl)))
                      try simp only [Act.put, List.setIfInBounds_toArray, List.set_cons_zero, List.set_cons_succ]
                      (refine wpAnyH_take (i := 4) (oi := { dst := some 117, op := Op.load 3 (Operand.tmp 116), type := 3, pos := "ref.go:373", after := #[{ on := 3, ground := Ground.data }, { on := 6, ground := Ground.gcOnly Departure.lateStores }], guard := none }) (v := ?_) rfl (by kernel_rfl) (by kernel_rfl) (by kernel_rfl) (fun _ _ _ h => h) (Or.inl ⟨by rfl, ?_⟩) (by assumption) ?_; rotate_left; · (intro w hSw; (try dsimp only at hSw); have y3 := (HQ7.out.keep hSw).at 3 (.int .i64 p4) rfl; go_simp; (first | done | with_reducible rfl)))
                      try simp only [Act.put, List.setIfInBounds_toArray, List.set_cons_zero, List.set_cons_succ]
                      refine wpAnyH_ready (rs := [2, 5]) (by kernel_rfl) (by simp) ?_
                      refine (AllReadyH.cons (o := { dst := some 115, op := Op.buildSlice 56 1 #[(0, Operand.tmp 114)], type := 56, pos := "ref.go:373", after := #[{ on := 1, ground := Ground.data }], guard := none }) rfl (fun K hK => ?_) (AllReadyH.cons (o := { dst := some 118, op := Op.buildSlice 56 1 #[(0, Operand.tmp 117)], type := 56, pos := "ref.go:373", after := #[{ on := 4, ground := Ground.data }, { on := 6, ground := Ground.gcOnly Departure.lateStores }], guard := none }) rfl (fun K hK => ?_) AllReadyH.nil))
                      · go_simp
                        refine hK.out _ _ ?_ (fun hHeld => ?_)
                        · first
                          | exact (by repeat (first | exact grew_refl _ | refine grew_drew ?_ | refine grew_trans ?_ (grew_alloc _ _ _)))
                        clear hK K
                        try simp only [Act.put, List.setIfInBounds_toArray, List.set_cons_zero, List.set_cons_succ]
                        (refine wpAnyH_take (i := 6) (oi := { dst := some 16, op := Op.assign (Operand.tmp 115), type := 56, pos := "ref.go:373", after := #[{ on := 2, ground := Ground.data }, { on := 0, ground := Ground.phase }, { on := 1, ground := Ground.phase }, { on := 2, ground := Ground.phase }, { on := 3, ground := Ground.textOnly Departure.lateStores }, { on := 4, ground := Ground.textOnly Departure.lateStores }, { on := 5, ground := Ground.textOnly Departure.lateStores }], guard := none }) (v := ?_) rfl (by kernel_rfl) (by kernel_rfl) (by kernel_rfl) (fun _ _ _ h => h) (Or.inl ⟨by rfl, ?_⟩) (by assumption) ?_; rotate_left; · (intro w hSw; (try dsimp only at hSw); skip; go_simp; (first | done | with_reducible rfl)))
                        try simp only [Act.put, List.setIfInBounds_toArray, List.set_cons_zero, List.set_cons_succ]
                        refine wpAnyH_ready (rs := [5]) (by kernel_rfl) (by simp) ?_
                        refine (AllReadyH.cons (o := { dst := some 118, op := Op.buildSlice 56 1 #[(0, Operand.tmp 117)], type := 56, pos := "ref.go:373", after := #[{ on := 4, ground := Ground.data }, { on := 6, ground := Ground.gcOnly Departure.lateStores }], guard := none }) rfl (fun K hK => ?_) AllReadyH.nil)
                        go_simp
                        refine hK.out _ _ ?_ (fun hHeld => ?_)
                        · first
                          | exact (by repeat (first | exact grew_refl _ | refine grew_drew ?_ | refine grew_trans ?_ (grew_alloc _ _ _)))
                        clear hK K
                        try simp only [Act.put, List.setIfInBounds_toArray, List.set_cons_zero, List.set_cons_succ]
                        (refine wpAnyH_take (i := 7) (oi := { dst := some 17, op := Op.assign (Operand.tmp 118), type := 56, pos := "ref.go:373", after := #[{ on := 5, ground := Ground.data }, { on := 6, ground := Ground.chain }, { on := 0, ground := Ground.phase }, { on := 1, ground := Ground.phase }, { on := 2, ground := Ground.phase }, { on := 3, ground := Ground.phase }, { on := 4, ground := Ground.phase }, { on := 5, ground := Ground.phase }, { on := 6, ground := Ground.phase }], guard := none }) (v := ?_) rfl (by kernel_rfl) (by kernel_rfl) (by kernel_rfl) (fun _ _ _ h => h) (Or.inl ⟨by rfl, ?_⟩) (by assumption) ?_; rotate_left; · (intro w hSw; (try dsimp only at hSw); skip; go_simp; (first | done | with_reducible rfl)))
                        try simp only [Act.put, List.setIfInBounds_toArray, List.set_cons_zero, List.set_cons_succ]
                        refine wpAnyH_done (by kernel_rfl) ?_ _
                        clear hHeld
                        apply_assumption
                        go_wp2
                        go_meet
                        first | exact ⟨HTA.out, HGA.out⟩ | exact ⟨HTB.out, HGB.out⟩
                      · go_simp
                        refine hK.out _ _ ?_ (fun hHeld => ?_)
                        · first
                          | exact (by repeat (first | exact grew_refl _ | refine grew_drew ?_ | refine grew_trans ?_ (grew_alloc _ _ _)))
                        clear hK K
                        try simp only [Act.put, List.setIfInBounds_toArray, List.set_cons_zero, List.set_cons_succ]
                        refine wpAnyH_ready (rs := [2]) (by kernel_rfl) (by simp) ?_
                        refine (AllReadyH.cons (o := { dst := some 115, op := Op.buildSlice 56 1 #[(0, Operand.tmp 114)], type := 56, pos := "ref.go:373", after := #[{ on := 1, ground := Ground.data }], guard := none }) rfl (fun K hK => ?_) AllReadyH.nil)
                        go_simp
                        refine hK.out _ _ ?_ (fun hHeld => ?_)
                        · first
                          | exact (by repeat (first | exact grew_refl _ | refine grew_drew ?_ | refine grew_trans ?_ (grew_alloc _ _ _)))
                        clear hK K
                        try simp only [Act.put, List.setIfInBounds_toArray, List.set_cons_zero, List.set_cons_succ]
                        (refine wpAnyH_take (i := 6) (oi := { dst := some 16, op := Op.assign (Operand.tmp 115), type := 56, pos := "ref.go:373", after := #[{ on := 2, ground := Ground.data }, { on := 0, ground := Ground.phase }, { on := 1, ground := Ground.phase }, { on := 2, ground := Ground.phase }, { on := 3, ground := Ground.textOnly Departure.lateStores }, { on := 4, ground := Ground.textOnly Departure.lateStores }, { on := 5, ground := Ground.textOnly Departure.lateStores }], guard := none }) (v := ?_) rfl (by kernel_rfl) (by kernel_rfl) (by kernel_rfl) (fun _ _ _ h => h) (Or.inl ⟨by rfl, ?_⟩) (by assumption) ?_; rotate_left; · (intro w hSw; (try dsimp only at hSw); skip; go_simp; (first | done | with_reducible rfl)))
                        try simp only [Act.put, List.setIfInBounds_toArray, List.set_cons_zero, List.set_cons_succ]
                        (refine wpAnyH_take (i := 7) (oi := { dst := some 17, op := Op.assign (Operand.tmp 118), type := 56, pos := "ref.go:373", after := #[{ on := 5, ground := Ground.data }, { on := 6, ground := Ground.chain }, { on := 0, ground := Ground.phase }, { on := 1, ground := Ground.phase }, { on := 2, ground := Ground.phase }, { on := 3, ground := Ground.phase }, { on := 4, ground := Ground.phase }, { on := 5, ground := Ground.phase }, { on := 6, ground := Ground.phase }], guard := none }) (v := ?_) rfl (by kernel_rfl) (by kernel_rfl) (by kernel_rfl) (fun _ _ _ h => h) (Or.inl ⟨by rfl, ?_⟩) (by assumption) ?_; rotate_left; · (intro w hSw; (try dsimp only at hSw); skip; go_simp; (first | done | with_reducible rfl)))
                        try simp only [Act.put, List.setIfInBounds_toArray, List.set_cons_zero, List.set_cons_succ]
                        refine wpAnyH_done (by kernel_rfl) ?_ _
                        clear hHeld
                        apply_assumption
                        go_wp2
                        go_meet
                        first | exact ⟨HTA.out, HGA.out⟩ | exact ⟨HTB.out, HGB.out⟩
                    case rest =>
                      clear HTA HTB HGA HGB HQ7
                      obtain ⟨HT0, HG8⟩ := hcut
                      go_wp2
                      go_loopw [16, 17, 18] (fun va vb vi wr => ∃ i : Nat, vi = .int .i64 i ∧ i ≤ j ∧ Hid (Two enInt enInt wr w8.heap.size 3 3 va vb (p3 :: qtys (rowK (m.take i) ((a : Int) + 1, (c : Int) + 1))) (p4 :: csts (rowK (m.take i) ((a : Int) + 1, (c : Int) + 1)))) ∧ Hid (Grew w8 wr)) (fun _ _ vi _ => j - (intOf vi).toNat)
                      case atStart => exact ⟨0, rfl, Nat.zero_le _, HT0.out, HG8.out⟩
                      case round =>
                        clear HT0 HG8
                        obtain ⟨i, rfl, hi, HT, HG9⟩ := hrel
                        have HGW := Lib.hid (grew_trans HS7.out.g HG9.out)
                        have hn3 := HN.out.2.2
                        by_cases hlt : i < j
                        · have hil : i < m.length := by rw [HL.out]; exact hlt
                          obtain ⟨bb, o, rfl, hb, hc⟩ := HJ.out.po hlt
                          have HCP : Hid (∀ w', Grew w w' → CPo w' bb (o + i * 4) (m.getD i po0)) := fun w' g => (hc i hlt).keep g hb
                          obtain ⟨a0, a1, a2, a3⟩ := HCP.out _ HGW.out
                          have HSR := Lib.hid (rowK_step m ((a : Int) + 1, (c : Int) + 1) i hil)
                          have HLQ : Hid ((p3 :: qtys (rowK (m.take i) ((a : Int) + 1, (c : Int) + 1))).length ≤ 10001) := by have h9 := rowK_len m i ((a : Int) + 1, (c : Int) + 1); show _ ≤ _; simp only [List.length_cons, qtys_len]; omega
                          have HLC : Hid ((p4 :: csts (rowK (m.take i) ((a : Int) + 1, (c : Int) + 1))).length ≤ 10001) := by have h9 := rowK_len m i ((a : Int) + 1, (c : Int) + 1); show _ ≤ _; simp only [List.length_cons, csts_len]; omega
                          have HIK : Hid (isK ((a : Int) + 1, (c : Int) + 1) (m.getD i po0) = (decide ((m.getD i po0).1 = (a : Int) + 1) && decide ((m.getD i po0).2.1 = (c : Int) + 1))) := rfl
                          have j0 : (0 : Int) ≤ (i : Int) := by omega
                          have j1 : (i : Int) < (j : Int) := by omega
                          clear hb hc HPL HFS HFN HLP HR4 HR5
                          generalize rowK (m.take i) ((a : Int) + 1, (c : Int) + 1) = rk at *
                          generalize isK ((a : Int) + 1, (c : Int) + 1) (m.getD i po0) = ik at *
                          generalize m.getD i po0 = x at *
                          obtain ⟨q1, q2, q3, q4⟩ := x
                          dsimp only at a0 a1 a2 a3 HIK HSR
                          by_cases hk : q1 = (a : Int) + 1
                          · by_cases hk2 : q2 = (c : Int) + 1
                            · have HS2 : Hid (rowK (m.take (i + 1)) ((a : Int) + 1, (c : Int) + 1) = rk ++ [(q1, q2, q3, q4)]) := by show _ = _; rw [HSR.out, HIK.out, decide_eq_true hk, decide_eq_true hk2]; rfl
                              have HSQ : Hid ((p3 :: qtys rk) ++ [q3] = p3 :: qtys (rowK (m.take (i + 1)) ((a : Int) + 1, (c : Int) + 1))) := by show _ = _; rw [HS2.out]; unfold qtys; rw [List.map_append]; rfl
                              have HSC : Hid ((p4 :: csts rk) ++ [q4] = p4 :: csts (rowK (m.take (i + 1)) ((a : Int) + 1, (c : Int) + 1))) := by show _ = _; rw [HS2.out]; unfold csts; rw [List.map_append]; rfl
                              clear HSR HIK HS2
                              subst hk hk2
                              generalize p3 :: qtys rk = lq at *
                              generalize p4 :: csts rk = lc at *
                              go_wp2_with (first
                                | (at_builtin; refine (wpList_two (E := enInt) (F := enInt) (s := 3) (t := 3) (base := w8.heap.size) rfl _ _ 56 (.int .i64 0) 8 rfl Tryz.underlying56 info_int1 rfl (HT.out.keep (grew_alloc wr _ _)) rfl _ q3 rfl (RowE.one1 enInt wr q3 _ _ _ rfl rfl) (by have := HLQ.out; unfold maxLen; omega) (by have := HLQ.out; omega) (Nat.le_trans HG9.out.size (by simp)) ?_); intro v1 w1 ht hb; have HT1 := Lib.hid ht; have HG1 : Hid (Grew w8 w1) := Below.trans (grew_trans HG9.out (grew_alloc _ _ _)) hb; have a3b : w1.cell? ⟨bb, o + i * 4 + 3, none⟩ = some (.int .i64 q4) := (HCP.out _ (grew_trans HS7.out.g HG1.out)).2.2.2; clear ht hb)
                                | (at_builtin; refine (wpList_two (E := enInt) (F := enInt) (s := 3) (t := 3) (base := w8.heap.size) rfl _ _ 56 (.int .i64 0) 8 rfl Tryz.underlying56 info_int1 rfl (HT1.out.swap.keep (grew_alloc w1 _ _)) rfl _ q4 rfl (RowE.one1 enInt w1 q4 _ _ _ rfl rfl) (by have := HLC.out; unfold maxLen; omega) (by have := HLC.out; omega) (Nat.le_trans HG1.out.size (by simp)) ?_); intro v2 w2 ht hb; have HT2 := Lib.hid ht.swap; have HG2 : Hid (Grew w8 w2) := Below.trans (grew_trans HG1.out (grew_alloc _ _ _)) hb; clear ht hb))
                              go_roundw
                              case rel => exact ⟨i + 1, by go_num, by omega, (by rw [← HSQ.out, ← HSC.out]; exact HT2.out), HG2.out⟩
                              case measure => simp only [intOf]; omega
                            · have HS2 : Hid (rowK (m.take (i + 1)) ((a : Int) + 1, (c : Int) + 1) = rk) := by show _ = _; rw [HSR.out, HIK.out, decide_eq_false hk2]; simp
                              have d0 : (q2 == (c : Int) + 1) = false := by simpa using hk2
                              clear HSR HIK hk2
                              subst hk
                              go_wp2
                              go_roundw
                              case rel => exact ⟨i + 1, by go_num, by omega, by rw [HS2.out]; exact HT.out, HG9.out⟩
                              case measure => simp only [intOf]; omega
                          · have HS2 : Hid (rowK (m.take (i + 1)) ((a : Int) + 1, (c : Int) + 1) = rk) := by show _ = _; rw [HSR.out, HIK.out, decide_eq_false hk]; simp
                            have d0 : (q1 == (a : Int) + 1) = false := by simpa using hk
                            clear HSR HIK hk
                            go_wp2
                            go_roundw
                            case rel => exact ⟨i + 1, by go_num, by omega, by rw [HS2.out]; exact HT.out, HG9.out⟩
                            case measure => simp only [intOf]; omega
                        · obtain rfl : i = j := by omega
                          have ht : m.take i = m := List.take_of_length_le (by rw [HL.out]; exact Nat.le_refl _)
                          rw [ht] at HT
                          have hlk : (rowK m ((a : Int) + 1, (c : Int) + 1)).length ≤ 10000 := Nat.le_trans (List.length_filter_le _ _) (by rw [HL.out]; exact hn3)
                          have hbq : ∀ z ∈ p3 :: qtys (rowK m ((a : Int) + 1, (c : Int) + 1)), -9223372036854775808 ≤ z ∧ z ≤ 9223372036854775807 := fun z hz => by
                            rcases List.mem_cons.1 hz with rfl | hz
                            · exact money_64 HIN.out.1
                            · unfold qtys rowK at hz
                              obtain ⟨y, hy, rfl⟩ := List.mem_map.1 hz
                              have h2 := leg_ok (List.all_eq_true.1 HM.out y (List.mem_filter.1 hy).1)
                              unfold okAm at h2
                              rw [Bool.and_eq_true] at h2
                              exact money_64 h2.1
                          have hbc : ∀ z ∈ p4 :: csts (rowK m ((a : Int) + 1, (c : Int) + 1)), -9223372036854775808 ≤ z ∧ z ≤ 9223372036854775807 := fun z hz => by
                            rcases List.mem_cons.1 hz with rfl | hz
                            · exact money_64 HIN.out.2
                            · unfold csts rowK at hz
                              obtain ⟨y, hy, rfl⟩ := List.mem_map.1 hz
                              have h2 := leg_ok (List.all_eq_true.1 HM.out y (List.mem_filter.1 hy).1)
                              unfold okAm at h2
                              rw [Bool.and_eq_true] at h2
                              exact money_64 h2.2
                          obtain ⟨A5, c5, hv5, hr5, -, -, -⟩ := HT.out.a.form
                          obtain ⟨A6, c6, hv6, hr6, -, -, -⟩ := HT.out.b.form
                          subst hv5 hv6
                          have CA := add_any A5 _ c5 _ wr (ints_of_E hr5) hbq (by simp only [List.length_cons, qtys_len]; omega)
                          have CB := fun w' (g : Grew wr w') => add_any A6 _ c6 _ w' (ints_of_E (hr6.keep g)) hbc (by simp only [List.length_cons, csts_len]; omega)
                          simp only [List.sum_cons] at CA CB
                          clear hbq hbc hr5 hr6 HT ht hlk hlt hi HIN
                          generalize (p3 :: qtys (rowK m ((a : Int) + 1, (c : Int) + 1))).length = n5 at *
                          generalize (p4 :: csts (rowK m ((a : Int) + 1, (c : Int) + 1))).length = n6 at *
                          generalize p3 + (qtys (rowK m ((a : Int) + 1, (c : Int) + 1))).sum = sq at *
                          generalize p4 + (csts (rowK m ((a : Int) + 1, (c : Int) + 1))).sum = sc at *
                          have CW := fun w => rwithin_any sq (-1099511627776) 1099511627776 w
                          have HOQ : Hid (okQ sq = wi sq (-1099511627776) 1099511627776) := rfl
                          by_cases hm1 : isMoney sq = true
                          · by_cases hm2 : isMoney sc = true
                            · rw [hm1, intV_in hm1] at CA
                              rw [hm2, intV_in hm2] at CB
                              by_cases hq : okQ sq = true
                              · have HFS2 := Lib.hid (HFS.out (by rw [hq, hm2]; rfl))
                                rw [HOQ.out] at hq
                                rw [hq] at CW
                                clear HFS HFN HR4 HR5 HOQ hq hm1 hm2
                                by_cases h0 : sq = 0 ∧ sc = 0
                                · have HP2 : Hid (plF (addF lp m) (a * 8 + c + 1) = plF (addF lp m) (a * 8 + c)) := by show _ = _; rw [HPL.out, if_pos h0, List.append_nil]
                                  obtain ⟨rfl, rfl⟩ := h0
                                  clear HPL
                                  go_wp2_with (first
                                    | (go_at_call 24; ((with_reducible refine CA.mono ?_); rintro e w5 ⟨rfl, hg⟩; have HG5 := Lib.hid hg; clear hg))
                                    | (go_at_call 24; ((with_reducible refine (CB _ HG5.out).mono ?_); rintro e w6 ⟨rfl, hg⟩; have HS6 := Lib.hid (HS7.out.keep (grew_trans HG9.out (grew_trans HG5.out hg))); have HY6 : Hid (OwnC w6 (w.heap.size + 1) [.int .i64 0, .slice none 0 0, .slice none 0 0]) := HS6.out.r; have HG6 : Hid (Grew w w6) := HS6.out.g; clear hg))
                                    | (go_at_call 26; ((with_reducible refine (CW _).mono ?_); rintro e w7 ⟨rfl, rfl⟩)))
                                  go_roundw
                                  case rel => exact ⟨c + 1, _, by go_num, by omega, by rw [show a * 8 + (c + 1) = a * 8 + c + 1 by omega, HP2.out]; exact HS6.out, by rw [show a * 8 + (c + 1) = a * 8 + c + 1 by omega]; exact HFS2.out⟩
                                  case measure => simp only [intOf]; omega
                                · have HP2 : Hid (plF (addF lp m) (a * 8 + c + 1) = plF (addF lp m) (a * 8 + c) ++ [((a : Int) + 1, (c : Int) + 1, sq, sc)]) := by show _ = _; rw [HPL.out, if_neg h0]
                                  have H9 : ((sq != 0) = true) ∨ (sq = 0 ∧ (sc != 0) = true) := by
                                    by_cases h1 : sq = 0
                                    · exact Or.inr ⟨h1, by simpa using fun h2 => h0 ⟨h1, h2⟩⟩
                                    · exact Or.inl (by simpa using h1)
                                  clear HPL h0
                                  rcases H9 with d9 | ⟨rfl, d9⟩
                                  all_goals
                                    (go_wp2_with (first
                                       | (go_at_call 24; ((with_reducible refine CA.mono ?_); rintro e w5 ⟨rfl, hg⟩; have HG5 := Lib.hid hg; clear hg))
                                       | (go_at_call 24; ((with_reducible refine (CB _ HG5.out).mono ?_); rintro e w6 ⟨rfl, hg⟩; have HS6 := Lib.hid (HS7.out.keep (grew_trans HG9.out (grew_trans HG5.out hg))); have HY6 : Hid (OwnC w6 (w.heap.size + 1) [.int .i64 0, .slice none 0 0, .slice none 0 0]) := HS6.out.r; have HG6 : Hid (Grew w w6) := HS6.out.g; have o2 : w6.cell? ⟨O, 2, none⟩ = some v := HS6.out.o.at 2 _ rfl; clear hg))
                                       | (go_at_call 26; ((with_reducible refine (CW _).mono ?_); rintro e w7 ⟨rfl, rfl⟩))
                                       | (at_builtin; refine (wpList_append_E rfl _ _ 26 31 (vPo po0) 32 rfl Tryz.underlying26 info_po rfl (O + 1) _ (plF (addF lp m) (a * 8 + c)) rfl (HS6.out.p.keep (grew_alloc _ _ _)) _ 1 1 [((a : Int) + 1, (c : Int) + 1, _, sc)] rfl (by intro h; cases h) (RowE.one1 enPo _ _ _ _ _ rfl rfl) (by have := HLP.out; simp; unfold maxLen; omega) (by have := HLP.out; simp; omega) (Nat.le_trans HS6.out.sz (by simp)) ?_); intro v' w' ho hb; obtain ⟨A7, c7, rfl, -⟩ := ho.form; rw [List.length_append, List.length_singleton] at ho; have HSP := Lib.hid ((HS6.out.keep (grew_alloc _ _ _)).push hb ho); have HOX := Lib.hid ((HS6.out.o.keep (grew_alloc _ _ _)).below hb HS6.out.op); have o2b : w'.cell? ⟨O, 2, none⟩ = some v := HOX.out.at 2 _ rfl; have f2b : w'.frozen? ⟨O, 2, none⟩ = false := HOX.out.fr 2 (by show 2 < 3; omega); clear ho hb))
                                     go_roundw
                                     case rel => exact ⟨c + 1, _, by go_num, by omega, by rw [show a * 8 + (c + 1) = a * 8 + c + 1 by omega, HP2.out]; exact HSP.out, by rw [show a * 8 + (c + 1) = a * 8 + c + 1 by omega]; exact HFS2.out⟩
                                     case measure => simp only [intOf]; omega)
                              · rw [Bool.not_eq_true] at hq
                                have HF := Lib.hid (HR4.out (HFN.out (by rw [hq]; rfl)))
                                rw [HOQ.out] at hq
                                rw [hq] at CW
                                clear HFS HFN HR4 HR5 HOQ hq hm1 hm2 HPL
                                go_wp2_with (first
                                  | (go_at_call 24; ((with_reducible refine CA.mono ?_); rintro e w5 ⟨rfl, hg⟩; have HG5 := Lib.hid hg; clear hg))
                                  | (go_at_call 24; ((with_reducible refine (CB _ HG5.out).mono ?_); rintro e w6 ⟨rfl, hg⟩; have HS6 := Lib.hid (HS7.out.keep (grew_trans HG9.out (grew_trans HG5.out hg))); have HY6 : Hid (OwnC w6 (w.heap.size + 1) [.int .i64 0, .slice none 0 0, .slice none 0 0]) := HS6.out.r; have HG6 : Hid (Grew w w6) := HS6.out.g; have y0 : w6.cell? ⟨w.heap.size + 1, 0, none⟩ = some (.int .i64 0) := HY6.out.at 0 _ rfl; have f0 : w6.frozen? ⟨w.heap.size + 1, 0, none⟩ = false := HY6.out.fr 0 (by decide); have y1 : w6.cell? ⟨w.heap.size + 1, 1, none⟩ = some (.slice none 0 0) := HY6.out.at 1 _ rfl; have f1 : w6.frozen? ⟨w.heap.size + 1, 1, none⟩ = false := HY6.out.fr 1 (by decide); have y2 : w6.cell? ⟨w.heap.size + 1, 2, none⟩ = some (.slice none 0 0) := HY6.out.at 2 _ rfl; have f2 : w6.frozen? ⟨w.heap.size + 1, 2, none⟩ = false := HY6.out.fr 2 (by decide); clear hg))
                                  | (go_at_call 26; ((with_reducible refine (CW _).mono ?_); rintro e w7 ⟨rfl, rfl⟩)))
                                have HP := HY6.out.all [.int .i64 0, .slice none 0 0, .slice none 0 0] rfl
                                have HGP := grew_put (w := w) (w.heap.size + 1) (by omega) [.int .i64 0, .slice none 0 0, .slice none 0 0] 0 _ HG6.out
                                change bodyPost _ _ _ _ _ (putC w6 (w.heap.size + 1) 0 [.int .i64 0, .slice none 0 0, .slice none 0 0])
                                clear y0 y1 y2 f0 f1 f2
                                generalize putC w6 (w.heap.size + 1) 0 [.int .i64 0, .slice none 0 0, .slice none 0 0] = w9 at *
                                have z0 : w9.cell? ⟨w.heap.size + 1, 0, none⟩ = _ := HP.at 0 _ rfl
                                have z1 : w9.cell? ⟨w.heap.size + 1, 1, none⟩ = _ := HP.at 1 _ rfl
                                have z2 : w9.cell? ⟨w.heap.size + 1, 2, none⟩ = _ := HP.at 2 _ rfl
                                refine bodyPost_ret (v := .tuple #[.agg #[.int .i64 0, .slice none 0 0, .slice none 0 0], .int .i64 1]) (by simp [results, Tryz.results9, go_sem, z0, z1, z2]) rfl ?_
                                exact HF.out _ HGP
                            · rw [Bool.not_eq_true] at hm2
                              have HF := Lib.hid (HR4.out (HFN.out (by rw [hm2, Bool.and_false])))
                              rw [hm1, intV_in hm1] at CA
                              rw [hm2] at CB
                              clear HFS HFN HR4 HR5 HOQ hm1 hm2 HPL CW
                              go_wp2_with (first
                                | (go_at_call 24; ((with_reducible refine CA.mono ?_); rintro e w5 ⟨rfl, hg⟩; have HG5 := Lib.hid hg; clear hg))
                                | (go_at_call 24; ((with_reducible refine (CB _ HG5.out).mono ?_); rintro e w6 ⟨rfl, hg⟩; have HS6 := Lib.hid (HS7.out.keep (grew_trans HG9.out (grew_trans HG5.out hg))); have HY6 : Hid (OwnC w6 (w.heap.size + 1) [.int .i64 0, .slice none 0 0, .slice none 0 0]) := HS6.out.r; have HG6 : Hid (Grew w w6) := HS6.out.g; have y0 : w6.cell? ⟨w.heap.size + 1, 0, none⟩ = some (.int .i64 0) := HY6.out.at 0 _ rfl; have f0 : w6.frozen? ⟨w.heap.size + 1, 0, none⟩ = false := HY6.out.fr 0 (by decide); have y1 : w6.cell? ⟨w.heap.size + 1, 1, none⟩ = some (.slice none 0 0) := HY6.out.at 1 _ rfl; have f1 : w6.frozen? ⟨w.heap.size + 1, 1, none⟩ = false := HY6.out.fr 1 (by decide); have y2 : w6.cell? ⟨w.heap.size + 1, 2, none⟩ = some (.slice none 0 0) := HY6.out.at 2 _ rfl; have f2 : w6.frozen? ⟨w.heap.size + 1, 2, none⟩ = false := HY6.out.fr 2 (by decide); clear hg)))
                              have HP := HY6.out.all [.int .i64 0, .slice none 0 0, .slice none 0 0] rfl
                              have HGP := grew_put (w := w) (w.heap.size + 1) (by omega) [.int .i64 0, .slice none 0 0, .slice none 0 0] 0 _ HG6.out
                              change bodyPost _ _ _ _ _ (putC w6 (w.heap.size + 1) 0 [.int .i64 0, .slice none 0 0, .slice none 0 0])
                              clear y0 y1 y2 f0 f1 f2
                              generalize putC w6 (w.heap.size + 1) 0 [.int .i64 0, .slice none 0 0, .slice none 0 0] = w9 at *
                              have z0 : w9.cell? ⟨w.heap.size + 1, 0, none⟩ = _ := HP.at 0 _ rfl
                              have z1 : w9.cell? ⟨w.heap.size + 1, 1, none⟩ = _ := HP.at 1 _ rfl
                              have z2 : w9.cell? ⟨w.heap.size + 1, 2, none⟩ = _ := HP.at 2 _ rfl
                              refine bodyPost_ret (v := .tuple #[.agg #[.int .i64 0, .slice none 0 0, .slice none 0 0], .int .i64 1]) (by simp [results, Tryz.results9, go_sem, z0, z1, z2]) rfl ?_
                              exact HF.out _ HGP
                          · rw [Bool.not_eq_true] at hm1
                            have HF := Lib.hid (HR4.out (HFN.out (by rw [show okQ sq = false by rw [← Bool.not_eq_true]; intro h2; rw [okQ_money h2] at hm1; cases hm1]; rfl)))
                            rw [hm1] at CA
                            clear HFS HFN HR4 HR5 HOQ hm1 HPL CW
                            go_wp2_with (first
                              | (go_at_call 24; ((with_reducible refine CA.mono ?_); rintro e w5 ⟨rfl, hg⟩; have HG5 := Lib.hid hg; clear hg))
                              | (go_at_call 24; ((with_reducible refine (CB _ HG5.out).mono ?_); rintro e w6 ⟨rfl, hg⟩; have HS6 := Lib.hid (HS7.out.keep (grew_trans HG9.out (grew_trans HG5.out hg))); have HY6 : Hid (OwnC w6 (w.heap.size + 1) [.int .i64 0, .slice none 0 0, .slice none 0 0]) := HS6.out.r; have HG6 : Hid (Grew w w6) := HS6.out.g; have y0 : w6.cell? ⟨w.heap.size + 1, 0, none⟩ = some (.int .i64 0) := HY6.out.at 0 _ rfl; have f0 : w6.frozen? ⟨w.heap.size + 1, 0, none⟩ = false := HY6.out.fr 0 (by decide); have y1 : w6.cell? ⟨w.heap.size + 1, 1, none⟩ = some (.slice none 0 0) := HY6.out.at 1 _ rfl; have f1 : w6.frozen? ⟨w.heap.size + 1, 1, none⟩ = false := HY6.out.fr 1 (by decide); have y2 : w6.cell? ⟨w.heap.size + 1, 2, none⟩ = some (.slice none 0 0) := HY6.out.at 2 _ rfl; have f2 : w6.frozen? ⟨w.heap.size + 1, 2, none⟩ = false := HY6.out.fr 2 (by decide); clear hg)))
                            have HP := HY6.out.all [.int .i64 0, .slice none 0 0, .slice none 0 0] rfl
                            have HGP := grew_put (w := w) (w.heap.size + 1) (by omega) [.int .i64 0, .slice none 0 0, .slice none 0 0] 0 _ HG6.out
                            change bodyPost _ _ _ _ _ (putC w6 (w.heap.size + 1) 0 [.int .i64 0, .slice none 0 0, .slice none 0 0])
                            clear y0 y1 y2 f0 f1 f2
                            generalize putC w6 (w.heap.size + 1) 0 [.int .i64 0, .slice none 0 0, .slice none 0 0] = w9 at *
                            have z0 : w9.cell? ⟨w.heap.size + 1, 0, none⟩ = _ := HP.at 0 _ rfl
                            have z1 : w9.cell? ⟨w.heap.size + 1, 1, none⟩ = _ := HP.at 1 _ rfl
                            have z2 : w9.cell? ⟨w.heap.size + 1, 2, none⟩ = _ := HP.at 2 _ rfl
                            refine bodyPost_ret (v := .tuple #[.agg #[.int .i64 0, .slice none 0 0, .slice none 0 0], .int .i64 1]) (by simp [results, Tryz.results9, go_sem, z0, z1, z2]) rfl ?_
                            exact HF.out _ HGP
                  · obtain rfl : c = 8 := by omega
                    clear HR4 HR5
                    go_wp2
                    go_roundw
                    case rel => exact ⟨a + 1, _, by go_num, by omega, by rw [show (a + 1) * 8 = a * 8 + 8 by omega]; exact HS.out, by rw [show (a + 1) * 8 = a * 8 + 8 by omega]; exact HT.out⟩
                    case measure => simp only [intOf]; omega
              · obtain rfl : a = 16 := by omega
                have HF := Lib.hid (HR5.out HT.out)
                clear HR4 HR5
                obtain ⟨A', c', rfl, -⟩ := HS.out.p.form
                have hlo := HS.out.lo
                have hop := HS.out.op
                have y0 : wr.cell? ⟨w.heap.size + 1, 0, none⟩ = some (.int .i64 0) := HS.out.r.at 0 _ rfl
                have y1 : wr.cell? ⟨w.heap.size + 1, 1, none⟩ = some (.slice none 0 0) := HS.out.r.at 1 _ rfl
                have y2 : wr.cell? ⟨w.heap.size + 1, 2, none⟩ = some (.slice none 0 0) := HS.out.r.at 2 _ rfl
                have f0 : wr.frozen? ⟨w.heap.size + 1, 0, none⟩ = false := HS.out.r.fr 0 (by show 0 < 3; omega)
                have f1 : wr.frozen? ⟨w.heap.size + 1, 1, none⟩ = false := HS.out.r.fr 1 (by show 1 < 3; omega)
                have f2 : wr.frozen? ⟨w.heap.size + 1, 2, none⟩ = false := HS.out.r.fr 2 (by show 2 < 3; omega)
                have o0 : wr.cell? ⟨O, 0, none⟩ = some (.int .i64 nx) := HS.out.o.at 0 _ rfl
                have o1 : wr.cell? ⟨O, 1, none⟩ = some (.slice B1 lt.length d1) := HS.out.o.at 1 _ rfl
                have o2 : wr.cell? ⟨O, 2, none⟩ = some (.slice A' (plF (addF lp m) (16 * 8)).length c') := HS.out.o.at 2 _ rfl
                have HOB : Hid (OwnB wr (w.heap.size + 2) (nx, lt, plF (addF lp m) (16 * 8)) B1 A' d1 c') := ⟨HS.out.t, HS.out.p.mono (by omega), apart_of (fun x hx => ⟨Nat.zero_le _, HS.out.tb x hx⟩) (fun x hx => HS.out.p.block x hx) (by omega)⟩
                have HP := HS.out.r.all [.int .i64 nx, .slice B1 lt.length d1, .slice A' (plF (addF lp m) (16 * 8)).length c'] rfl
                have HGP := grew_put (w := w) (w.heap.size + 1) (by omega) [.int .i64 nx, .slice B1 lt.length d1, .slice A' (plF (addF lp m) (16 * 8)).length c'] 0 _ HS.out.g
                have HBP := HOB.out.put (b2 := w.heap.size + 1) (by omega) [.int .i64 nx, .slice B1 lt.length d1, .slice A' (plF (addF lp m) (16 * 8)).length c']
                clear HS HOB
                go_wp2
                change bodyPost _ _ _ _ _ (putC wr (w.heap.size + 1) 0 [.int .i64 nx, .slice B1 lt.length d1, .slice A' (plF (addF lp m) (16 * 8)).length c'])
                clear y0 y1 y2 f0 f1 f2 o0 o1 o2
                generalize putC wr (w.heap.size + 1) 0 [.int .i64 nx, .slice B1 lt.length d1, .slice A' (plF (addF lp m) (16 * 8)).length c'] = w9 at *
                have z0 : w9.cell? ⟨w.heap.size + 1, 0, none⟩ = _ := HP.at 0 _ rfl
                have z1 : w9.cell? ⟨w.heap.size + 1, 1, none⟩ = _ := HP.at 1 _ rfl
                have z2 : w9.cell? ⟨w.heap.size + 1, 2, none⟩ = _ := HP.at 2 _ rfl
                refine bodyPost_ret (v := .tuple #[.agg #[.int .i64 nx, .slice B1 lt.length d1, .slice A' (plF (addF lp m) (16 * 8)).length c'], .int .i64 0]) (by simp [results, Tryz.results9, go_sem, z0, z1, z2]) rfl ?_
                exact HF.out _ _ _ _ _ (HBP.mono (by omega)) HGP
  · rw [Bool.not_eq_true] at hr
    obtain ⟨e1, e2⟩ := addE_1 (m := m) hr
    rw [hr] at CC
    rw [e1, e2]
    have HF : Hid (∀ w', Grew w w' → BookE bk0 14 w (.returned (.tuple #[.agg #[.int .i64 0, .slice none 0 0, .slice none 0 0], .int .i64 14])) w') := fun w' g => bookE_no rfl g
    clear h h3 e1 e2 hr hn
    generalize BookE bk0 14 w = PP at *
    generalize b.1 = nx at *
    dsimp only [vBk]
    go_enter Tryz.func9, Tryz.ntmps9
    go_upto_region 1 with fail
    generalize (w.alloc (.cells #[.int .i64 nx, .slice A1 n1 c1, .slice A2 n2 c2] 28)).alloc (.cells #[.int .i64 0, .slice none 0 0, .slice none 0 0] 28) = w0 at *
    have x0 : w0.cell? ⟨w.heap.size, 0, none⟩ = some (.int .i64 nx) := HX0.out.at 0 _ rfl
    have x1 : w0.cell? ⟨w.heap.size, 1, none⟩ = some (.slice A1 n1 c1) := HX0.out.at 1 _ rfl
    have x2 : w0.cell? ⟨w.heap.size, 2, none⟩ = some (.slice A2 n2 c2) := HX0.out.at 2 _ rfl
    skip
    go_wp2_with (go_at_call 21; ((with_reducible refine (CC _ HG0.out).mono ?_); rintro e w1 ⟨rfl, hg⟩; have HG1 := Lib.hid (grew_trans HG0.out hg); have HX1 := Lib.hid (HX0.out.keep hg); have HY1 := Lib.hid (HY0.out.keep hg); have y0 : w1.cell? ⟨w.heap.size + 1, 0, none⟩ = some (.int .i64 0) := HY1.out.at 0 _ rfl; have f0 : w1.frozen? ⟨w.heap.size + 1, 0, none⟩ = false := HY1.out.fr 0 (by decide); have y1 : w1.cell? ⟨w.heap.size + 1, 1, none⟩ = some (.slice none 0 0) := HY1.out.at 1 _ rfl; have f1 : w1.frozen? ⟨w.heap.size + 1, 1, none⟩ = false := HY1.out.fr 1 (by decide); have y2 : w1.cell? ⟨w.heap.size + 1, 2, none⟩ = some (.slice none 0 0) := HY1.out.at 2 _ rfl; have f2 : w1.frozen? ⟨w.heap.size + 1, 2, none⟩ = false := HY1.out.fr 2 (by decide); clear hg CC))
    have HP := HY1.out.all [.int .i64 0, .slice none 0 0, .slice none 0 0] rfl
    have HGP := grew_put (w := w) (w.heap.size + 1) (by omega) [.int .i64 0, .slice none 0 0, .slice none 0 0] 0 _ HG1.out
    change bodyPost _ _ _ _ _ (putC w1 (w.heap.size + 1) 0 [.int .i64 0, .slice none 0 0, .slice none 0 0])
    clear y0 y1 y2 f0 f1 f2
    generalize putC w1 (w.heap.size + 1) 0 [.int .i64 0, .slice none 0 0, .slice none 0 0] = w9 at *
    have z0 : w9.cell? ⟨w.heap.size + 1, 0, none⟩ = _ := HP.at 0 _ rfl
    have z1 : w9.cell? ⟨w.heap.size + 1, 1, none⟩ = _ := HP.at 1 _ rfl
    have z2 : w9.cell? ⟨w.heap.size + 1, 2, none⟩ = _ := HP.at 2 _ rfl
    refine bodyPost_ret (v := .tuple #[.agg #[.int .i64 0, .slice none 0 0, .slice none 0 0], .int .i64 14]) (by simp [results, Tryz.results9, go_sem, z0, z1, z2]) rfl ?_
    exact HF.out _ HGP
end Go.Proofs.YtahioajpmlochaaGreat.NumK
