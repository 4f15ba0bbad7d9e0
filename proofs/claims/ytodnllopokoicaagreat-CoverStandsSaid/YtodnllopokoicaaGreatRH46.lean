/- The document's losses. -/
import Derived.Test.YtodnllopokoicaaGreatRH44
import Derived.Test.YtodnllopokoicaaGreatRH7
import Derived.Test.YtodnllopokoicaaGreatRH5
import Derived.Test.YtodnllopokoicaaGreatRH6
import Derived.Test.YtodnllopokoicaaGreatRH37
import Derived.Test.YtodnllopokoicaaGreatRH4
import Derived.Test.YtodnllopokoicaaGreatRH23
import Derived.Test.YtodnllopokoicaaGreatRH22
namespace Go.Proofs.YtodnllopokoicaaGreat.NumK
open Go.RowKit
set_option linter.unusedVariables false

def parL (part : Po → In → Int) (r : Rl) (who cur : Int) (l : List Po) : List Int := (l.filter (cntG r who cur)).map fun p => part p (instOf r p)
theorem par_sum (part : Po → In → Int) (r : Rl) (who cur : Int) (l : List Po) : (parL part r who cur l).sum = totV part r who cur l := rfl
theorem par_succ (part : Po → In → Int) (r : Rl) (who cur : Int) (l : List Po) {k : Nat} (hk : k < l.length) : parL part r who cur (l.take (k + 1)) = parL part r who cur (l.take k) ++ if cntG r who cur (l.getD k po0) = true then [part (l.getD k po0) (instOf r (l.getD k po0))] else [] := by
  rw [List.take_succ_eq_append_getElem hk, getD_at _ _ _ hk]
  unfold parL
  rw [List.filter_append, List.map_append, List.filter_cons]
  congr 1
  split <;> rfl
theorem par_len (part : Po → In → Int) (r : Rl) (who cur : Int) (l : List Po) : (parL part r who cur l).length ≤ l.length := by
  unfold parL; rw [List.length_map]; exact List.length_filter_le _ _
theorem par_wide {part : Po → In → Int} {r : Rl} {who cur : Int} {l : List Po} (h : ∀ p ∈ l, cntG r who cur p = true → (part p (instOf r p)).natAbs ≤ 1208925819614629174706176) : ∀ x ∈ parL part r who cur l, isWide x = true := fun x hx => by
  obtain ⟨p, hp, rfl⟩ := List.mem_map.1 hx
  obtain ⟨h1, h2⟩ := List.mem_filter.1 hp
  have := h p h1 h2
  exact isWide_abs (by omega)
theorem one_wd (x a b : Int) (ha : hi64 x = a) (hb : lo64 x = b) (w : World) (N : Nat) (hN : N = w.heap.size) : RowE enWd (w.alloc (.cells #[.int .i64 a, .int .u64 b] 101)) (some ⟨N, 0, none⟩) 1 [x] := by
  subst ha hb
  exact RowE.one1 enWd w x _ _ N hN rfl

set_option maxRecDepth 100000 in
set_option maxHeartbeats 8000000 in
theorem rlosses_any (r : Rl) (A1 A2 A3 B : Option Addr) (n1 n2 n3 c1 c2 c3 n c : Nat) (who cur : Int) (l : List Po) (w : World) (h3 : Rows3 w r A1 A2 A3 n1 n2 n3) (hn3 : n1 ≤ 1000000 ∧ n2 ≤ 1000000 ∧ n3 ≤ 1000000) (h : RowE enPo w B n l) (hn : n ≤ 1000000) :
    Calls Tryz.prog 47 #[rlV A1 A2 A3 n1 n2 n3 c1 c2 c3, .int .i64 who, .int .i64 cur, .slice B n c] w fun e w' => e = .returned (.tuple #[v6 (lossA r who cur l), .int .i64 (lossE r who cur l)]) ∧ Grew w w' := by
  have HC1 := Lib.hid (fun w' (g : Grew w w') => rroll_any r A1 A2 A3 n1 n2 n3 c1 c2 c3 w' (h3.keep g) hn3)
  have HCI := Lib.hid (fun (m : Int) w' (g : Grew w w') => rfindIn_any A1 A2 A3 n1 n2 n3 c1 c2 c3 r.2.1 m w' (h3.i.keep g) hn3.2.1)
  have HI := Lib.hid h
  have HL := Lib.hid h.len
  have HR0 : Hid (OwnC (((w.alloc (.cells #[.slice A1 n1 c1, .slice A2 n2 c2, .slice A3 n3 c3] 28)).alloc (.cells #[.int .i64 0, .int .i64 0, .int .i64 0, .int .i64 0, .int .i64 0, .int .i64 0] 96)).alloc (.cells #[.int .i64 0, .int .i64 0, .int .i64 0, .int .i64 0, .int .i64 0, .int .i64 0] 96)) w.heap.size [.slice A1 n1 c1, .slice A2 n2 c2, .slice A3 n3 c3]) := ((OwnC.new w [.slice A1 n1 c1, .slice A2 n2 c2, .slice A3 n3 c3] _ _ rfl).keep (grew_alloc _ _ _)).keep (grew_alloc _ _ _)
  have HY0 : Hid (OwnC (((w.alloc (.cells #[.slice A1 n1 c1, .slice A2 n2 c2, .slice A3 n3 c3] 28)).alloc (.cells #[.int .i64 0, .int .i64 0, .int .i64 0, .int .i64 0, .int .i64 0, .int .i64 0] 96)).alloc (.cells #[.int .i64 0, .int .i64 0, .int .i64 0, .int .i64 0, .int .i64 0, .int .i64 0] 96)) (w.heap.size + 1) [.int .i64 0, .int .i64 0, .int .i64 0, .int .i64 0, .int .i64 0, .int .i64 0]) := (OwnC.new _ [.int .i64 0, .int .i64 0, .int .i64 0, .int .i64 0, .int .i64 0, .int .i64 0] _ _ (by simp)).keep (grew_alloc _ _ _)
  have HX0 : Hid (OwnC (((w.alloc (.cells #[.slice A1 n1 c1, .slice A2 n2 c2, .slice A3 n3 c3] 28)).alloc (.cells #[.int .i64 0, .int .i64 0, .int .i64 0, .int .i64 0, .int .i64 0, .int .i64 0] 96)).alloc (.cells #[.int .i64 0, .int .i64 0, .int .i64 0, .int .i64 0, .int .i64 0, .int .i64 0] 96)) (w.heap.size + 1 + 1) [.int .i64 0, .int .i64 0, .int .i64 0, .int .i64 0, .int .i64 0, .int .i64 0]) := OwnC.new _ [.int .i64 0, .int .i64 0, .int .i64 0, .int .i64 0, .int .i64 0, .int .i64 0] _ _ (by simp)
  have HG0 : Hid (Grew w (((w.alloc (.cells #[.slice A1 n1 c1, .slice A2 n2 c2, .slice A3 n3 c3] 28)).alloc (.cells #[.int .i64 0, .int .i64 0, .int .i64 0, .int .i64 0, .int .i64 0, .int .i64 0] 96)).alloc (.cells #[.int .i64 0, .int .i64 0, .int .i64 0, .int .i64 0, .int .i64 0, .int .i64 0] 96))) := grew_trans (grew_trans (grew_alloc _ _ _) (grew_alloc _ _ _)) (grew_alloc _ _ _)
  dsimp only [rlV] at HC1 ⊢
  clear h h3
  go_enter Tryz.func47, Tryz.ntmps47
  go_upto_region 2 with (fail)
  generalize (((w.alloc (.cells #[.slice A1 n1 c1, .slice A2 n2 c2, .slice A3 n3 c3] 28)).alloc (.cells #[.int .i64 0, .int .i64 0, .int .i64 0, .int .i64 0, .int .i64 0, .int .i64 0] 96)).alloc (.cells #[.int .i64 0, .int .i64 0, .int .i64 0, .int .i64 0, .int .i64 0, .int .i64 0] 96)) = w0 at *
  have r0 := HR0.out.at 0 (.slice A1 n1 c1) rfl; have r1 := HR0.out.at 1 (.slice A2 n2 c2) rfl; have r2 := HR0.out.at 2 (.slice A3 n3 c3) rfl
  by_cases hr : rightR r = true
  · rw [hr] at HC1
    go_upto_region 4 with (go_at_call 29; ((with_reducible refine (HC1.out _ HG0.out).mono ?_); rintro e w1 ⟨rfl, hg⟩; have HR1 := Lib.hid (HR0.out.keep hg); have HY1 := Lib.hid (HY0.out.keep hg); have HX1 := Lib.hid (HX0.out.keep hg); have HG1 := Lib.hid (grew_trans HG0.out hg); clear hg HR0 HY0 HX0 HG0 r0 r1 r2))
    clear HC1
    -- LOOP1
    go_wp2
    go_loopw [11] (fun v wr => ∃ k : Nat, v = .int .i64 k ∧ k ≤ n ∧ Hid (∀ i, i < k → okQ (l.getD i po0).2.2.1 = true) ∧ w1 = wr) (fun v _ => n - (intOf v).toNat)
    case atStart => exact ⟨0, rfl, by omega, fun i hi => by omega, rfl⟩
    case round =>
      obtain ⟨k, rfl, hk, HK, rfl⟩ := hrel
      by_cases hlt : k < n
      · obtain ⟨b, o, rfl, hb, hc⟩ := (HI.out.keep HG1.out).po hlt
        obtain ⟨a0, a1, a2, a3⟩ := hc k hlt
        have CW := fun w => gwithin_any (l.getD k po0).2.2.1 (-1099511627776) 1099511627776 w
        have HY9 : Hid (okQ (l.getD k po0).2.2.1 = false → qsOK l = false) := fun h => qs_not (by rw [HL.out]; exact hlt) h
        have HK9 : Hid (okQ (l.getD k po0).2.2.1 = true → ∀ i, i < k + 1 → okQ (l.getD i po0).2.2.1 = true) := fun h i hi => by
          rcases Nat.lt_or_ge i k with h1 | h1
          · exact HK.out i h1
          · obtain rfl : i = k := by omega
            exact h
        change ∀ w, Calls _ _ _ _ fun e w' => e = .returned (.bool (okQ (l.getD k po0).2.2.1)) ∧ _ at CW
        have i0 : (0 : Int) ≤ (k : Int) := by omega
        have i1 : (k : Int) < (n : Int) := by omega
        clear hc hb
        generalize okQ (l.getD k po0).2.2.1 = lv at *
        generalize l.getD k po0 = x at *
        obtain ⟨q1, q2, q3, q4⟩ := x
        dsimp only at a0 a1 a2 a3 CW
        cases lv
        · have hq := HY9.out rfl
          have HEe := Lib.hid (lossE_3 (who := who) (cur := cur) hr hq)
          have HAe := Lib.hid (lossA_no 3 (by decide) HEe.out)
          clear HK9 HK HY9 hq
          have x0 := HX1.out.at 0 (.int .i64 0) rfl; have x1 := HX1.out.at 1 (.int .i64 0) rfl; have x2 := HX1.out.at 2 (.int .i64 0) rfl; have x3 := HX1.out.at 3 (.int .i64 0) rfl; have x4 := HX1.out.at 4 (.int .i64 0) rfl; have x5 := HX1.out.at 5 (.int .i64 0) rfl
          have y0 := HY1.out.at 0 (.int .i64 0) rfl; have f0 := HY1.out.fr 0 (by simp); have y1 := HY1.out.at 1 (.int .i64 0) rfl; have f1 := HY1.out.fr 1 (by simp); have y2 := HY1.out.at 2 (.int .i64 0) rfl; have f2 := HY1.out.fr 2 (by simp); have y3 := HY1.out.at 3 (.int .i64 0) rfl; have f3 := HY1.out.fr 3 (by simp); have y4 := HY1.out.at 4 (.int .i64 0) rfl; have f4 := HY1.out.fr 4 (by simp); have y5 := HY1.out.at 5 (.int .i64 0) rfl; have f5 := HY1.out.fr 5 (by simp)
          go_wp2_with (go_at_call 83; ((with_reducible refine (CW _).mono ?_); rintro e w2 ⟨rfl, rfl⟩))
          refine end_put (w := w) (P := bodyPost _ _ _ _ _) [.int .i64 0, .int .i64 0, .int .i64 0, .int .i64 0, .int .i64 0, .int .i64 0] (by rfl) HY1.out HG1.out (by omega) ?_
          intro w9 h9 g9
          have z0 := h9.at 0 (.int .i64 0) rfl; have z1 := h9.at 1 (.int .i64 0) rfl; have z2 := h9.at 2 (.int .i64 0) rfl; have z3 := h9.at 3 (.int .i64 0) rfl; have z4 := h9.at 4 (.int .i64 0) rfl; have z5 := h9.at 5 (.int .i64 0) rfl
          exact bodyPost_ret (v := .tuple #[.agg #[.int .i64 0, .int .i64 0, .int .i64 0, .int .i64 0, .int .i64 0, .int .i64 0], .int .i64 3]) (by simp [results, Tryz.results47, go_sem, z0, z1, z2, z3, z4, z5]) rfl ⟨by rw [HEe.out, HAe.out], g9⟩
        · have HK2 := Lib.hid (HK9.out rfl)
          clear HK9 HK HY9
          go_wp2_with (go_at_call 83; ((with_reducible refine (CW _).mono ?_); rintro e w2 ⟨rfl, rfl⟩))
          go_roundw
          case rel => exact ⟨k + 1, by go_num, by omega, HK2.out, (by first | rfl | trivial)⟩
          case measure => simp only [intOf]; omega
      · obtain rfl : n = k := by omega
        have hq : qsOK l = true := qs_all (by rw [HL.out]; exact HK.out)
        clear HK
        -- LOOP2
        go_wp2
        go_loopw [12] (fun v wj => ∃ j : Nat, v = .int .i64 j ∧ j ≤ 6 ∧ Hid (∀ i, i < j → isMoney (lossV r who cur l i) = true) ∧ Hid (OwnC wj w.heap.size [.slice A1 n1 c1, .slice A2 n2 c2, .slice A3 n3 c3]) ∧ Hid (OwnC wj (w.heap.size + 1) [.int .i64 0, .int .i64 0, .int .i64 0, .int .i64 0, .int .i64 0, .int .i64 0]) ∧ Hid (OwnC wj (w.heap.size + 1 + 1) (c6 (lossV r who cur l) j)) ∧ Hid (Grew w wj)) (fun v _ => 6 - (intOf v).toNat)
        case atStart => exact ⟨0, rfl, by omega, fun j hj => by omega, HR1.out, HY1.out, HX1.out, HG1.out⟩
        case round =>
          clear HR1 HY1 HX1 HG1
          obtain ⟨j, rfl, hj, HM, HR, HY, HX, HG⟩ := hrel
          obtain ⟨wj, hwj⟩ : ∃ x, x = wr := ⟨_, rfl⟩
          subst hwj
          by_cases hlt : j < 6
          · have j0 : (0 : Int) ≤ (j : Int) := by omega
            have j1 : (j : Int) < 6 := by omega
            have hB := fun p (hp : p ∈ l) (hc : cntG r who cur p = true) => (loss_i (inst_ok (right_i hr) (cnt_has hc)) (qsOK_iff.1 hq p hp) hlt).1
            have HB := Lib.hid hB
            have hW : ∀ x ∈ parL (lossI j) r who cur l, isWide x = true := par_wide fun p hp hc => Nat.le_trans (hB p hp hc) (by decide)
            have HW := Lib.hid hW
            have hsum := tot_le (lossI j) r who cur l _ hB
            rw [tot_loss] at hsum
            have hLl : l.length ≤ 1000000 := by rw [HL.out]; exact hn
            have hSW : isWide (lossV r who cur l j) = true := isWide_abs (Nat.le_trans (Nat.le_trans hsum (Nat.mul_le_mul_right _ hLl)) (by decide))
            have HSW := Lib.hid hSW
            clear hB hW hsum hSW
            go_upto_block 4 with (fail)
            go_wp2
            go_loopw [13, 14] (fun v13 v14 wr => ∃ i : Nat, v14 = .int .i64 i ∧ i ≤ n ∧ Hid (OwnE enWd wr wj.heap.size 101 v13 (parL (lossI j) r who cur (l.take i))) ∧ Hid (Grew wj wr)) (fun _ v14 _ => n - (intOf v14).toNat)
            case atStart => exact ⟨0, rfl, by omega, OwnE.nil enWd _ _ _, grew_refl _⟩
            case round =>
              obtain ⟨i, rfl, hi, HO, HGw⟩ := hrel
              by_cases hli : i < n
              · have hil : i < l.length := by rw [HL.out]; exact hli
                have HT := Lib.hid (par_succ (lossI j) r who cur l hil)
                have HLN : Hid ((parL (lossI j) r who cur (l.take i)).length + 1 ≤ 1000001) := by
                  show _ ≤ _
                  have := par_len (lossI j) r who cur (l.take i)
                  rw [List.length_take] at this; omega
                have hok := qsOK_iff.1 hq _ (getD_mem l po0 i hil)
                obtain ⟨b, o, rfl, hb, hc⟩ := HI.out.po hli
                have hcc := (hc i hli).keep (grew_trans HG.out HGw.out) hb
                have hbj : b < wj.heap.size := Nat.lt_of_lt_of_le hb HG.out.size
                have hbr : b < wr.heap.size := Nat.lt_of_lt_of_le hbj HGw.out.size
                have CI2 := Lib.hid (fun w' (g : Grew wr w') => HCI.out (l.getD i po0).2.1 w' (grew_trans (grew_trans HG.out HGw.out) g))
                have hinst := fun h => inst_ok (p := l.getD i po0) (right_i hr) h
                have hcnt : cntG r who cur (l.getD i po0) = (hasI r (l.getD i po0) && (decide ((l.getD i po0).1 = who) && decide ((instOf r (l.getD i po0)).1.2.1 = cur))) := rfl
                change Hid (∀ w', Grew wr w' → Calls _ _ #[_, .int .i64 (l.getD i po0).2.1] w' fun e w'' => e = .returned (.tuple #[vIn (instOf r (l.getD i po0)), .bool (hasI r (l.getD i po0))]) ∧ Grew w' w'') at CI2
                have hVd : lossI j (l.getD i po0) (instOf r (l.getD i po0)) = -(l.getD i po0).2.2.1 * ((instOf r (l.getD i po0)).1.2.2.1 * shJ (instOf r (l.getD i po0)) j) := rfl
                have hSJ' : ∀ x : In, (shIn x)[j]? = some (shJ x j) := fun x => by
                  unfold shJ
                  rw [List.getD_eq_getElem?_getD, List.getElem?_eq_getElem (by simpa [shIn] using hlt)]; rfl
                have hSJ := hSJ' (instOf r (l.getD i po0))
                clear hSJ'
                have hbnd := fun h => (inst_add (hinst h))
                have hbS := fun h => (hbnd h).2.2 j hlt
                clear hc hinst
                generalize cntG r who cur (l.getD i po0) = CN at *
                generalize lossI j (l.getD i po0) (instOf r (l.getD i po0)) = V at *
                generalize hasI r (l.getD i po0) = HS at *
                generalize shJ (instOf r (l.getD i po0)) j = S at *
                generalize instOf r (l.getD i po0) = x at *
                generalize l.getD i po0 = p at *
                obtain ⟨q1, q2, q3, q4⟩ := p
                obtain ⟨⟨t1, t2, t3, t4, t5, t6⟩, ⟨s1, s2, s3, s4, s5, s6⟩⟩ := x
                obtain ⟨a0, a1, a2, a3⟩ := hcc
                dsimp only [vPo, vIn] at a0 a1 a2 a3 CI2 hcnt hVd hbnd hok
                have k0 : (0 : Int) ≤ (i : Int) := by omega
                have k1 : (i : Int) < (n : Int) := by omega
                have HRr := Lib.hid (HR.out.keep HGw.out)
                have HS16 : Hid (∀ w', Grew wr w' → w'.cell? ⟨w.heap.size, 0, none⟩ = some (.slice A1 n1 c1) ∧ w'.cell? ⟨w.heap.size, 1, none⟩ = some (.slice A2 n2 c2) ∧ w'.cell? ⟨w.heap.size, 2, none⟩ = some (.slice A3 n3 c3) ∧ w'.cell? ⟨b, o + i * 4 + 1, none⟩ = some (.int .i64 q2)) := fun w' g => ⟨(HRr.out.keep g).at 0 _ rfl, (HRr.out.keep g).at 1 _ rfl, (HRr.out.keep g).at 2 _ rfl, (grew_cell g (p := ⟨b, _, none⟩) hbr).trans a1⟩
                have hq0 : ∀ w', Grew wr w' → w'.cell? ⟨b, o + i * 4, none⟩ = some (.int .i64 q1) := fun w' g => (grew_cell g (p := ⟨b, _, none⟩) hbr).trans a0
                have HQ0 := Lib.hid hq0
                have HQ : Hid (∀ w', Grew wr w' → w'.cell? ⟨b, o + i * 4 + 2, none⟩ = some (.int .i64 q3)) := fun w' g => (grew_cell g (p := ⟨b, _, none⟩) hbr).trans a2
                have HQB : Hid (∀ w', Below wj.heap.size wr w' → w'.cell? ⟨b, o + i * 4 + 2, none⟩ = some (.int .i64 q3)) := fun w' g => (Below.cell g (p := ⟨b, o + i * 4 + 2, none⟩) hbj).trans a2
                clear hq0 HRr hb hbj hbr a0 a1 a2 a3
                cases HS
                · have HLS : Hid (parL (lossI j) r who cur (l.take (i + 1)) = parL (lossI j) r who cur (l.take i)) := by show _ = _; rw [HT.out, hcnt]; simp
                  clear HT hcnt hbnd hbS hVd hSJ HQ HQB HLN
                  go_upto_region 16 with (fail)
                  go_region_held3 (fun w' => w'.cell? ⟨w.heap.size, 0, none⟩ = some (.slice A1 n1 c1) ∧ w'.cell? ⟨w.heap.size, 1, none⟩ = some (.slice A2 n2 c2) ∧ w'.cell? ⟨w.heap.size, 2, none⟩ = some (.slice A3 n3 c3) ∧ w'.cell? ⟨b, o + i * 4 + 1, none⟩ = some (.int .i64 q2))
                    (first
                      | ((with_reducible show World.cell? (World.setCell _ _ _) _ = _ ∧ _); have HK9 := HS16.out _ (grew_put wr.heap.size (Nat.le_refl _) [.int .i64 t1, .int .i64 t2, .int .i64 t3, .int .i64 t4, .int .i64 t5, .int .i64 t6, .int .i64 s1, .int .i64 s2, .int .i64 s3, .int .i64 s4, .int .i64 s5, .int .i64 s6] 0 _ HG2.out); simp only [putC, Nat.zero_add, Nat.reduceAdd] at HK9; with_reducible exact HK9)
                      | (with_reducible exact HS16.out _ (grew_drew (grew_refl _)))
                      | (with_reducible exact HS16.out _ (grew_trans (grew_drew (grew_refl _)) (grew_alloc _ _ _)))
                      | (with_reducible exact HS16.out _ (grew_drew (grew_alloc _ _ _)))
                      | (with_reducible exact HS16.out _ HG2.out)
                      | (with_reducible exact HS16.out _ (grew_trans HG2.out (grew_alloc _ _ _))))
                    (first
                      | (go_at_call 49; (with_reducible refine (CI2.out _ (grew_drew (grew_refl _))).mono ?_); rintro e w2 ⟨rfl, hg⟩; have HG2 : Hid (Grew wr w2) := grew_trans (grew_drew (grew_refl _)) hg; clear hg)
                      | (go_at_call 49; (with_reducible refine (CI2.out _ (grew_drew (grew_alloc _ _ _))).mono ?_); rintro e w2 ⟨rfl, hg⟩; have HG2 : Hid (Grew wr w2) := grew_trans (grew_drew (grew_alloc _ _ _)) hg; have HB2 : Hid (OwnC w2 wr.heap.size [.int .i64 0, .int .i64 0, .int .i64 0, .int .i64 0, .int .i64 0, .int .i64 0, .int .i64 0, .int .i64 0, .int .i64 0, .int .i64 0, .int .i64 0, .int .i64 0]) := ((OwnC.new wr [.int .i64 0, .int .i64 0, .int .i64 0, .int .i64 0, .int .i64 0, .int .i64 0, .int .i64 0, .int .i64 0, .int .i64 0, .int .i64 0, .int .i64 0, .int .i64 0] _ _ rfl).drew).keep hg; have y0 := HB2.out.at 0 (.int .i64 0) rfl; have f0 := HB2.out.fr 0 (by simp); have y1 := HB2.out.at 1 (.int .i64 0) rfl; have f1 := HB2.out.fr 1 (by simp); have y2 := HB2.out.at 2 (.int .i64 0) rfl; have f2 := HB2.out.fr 2 (by simp); have y3 := HB2.out.at 3 (.int .i64 0) rfl; have f3 := HB2.out.fr 3 (by simp); have y4 := HB2.out.at 4 (.int .i64 0) rfl; have f4 := HB2.out.fr 4 (by simp); have y5 := HB2.out.at 5 (.int .i64 0) rfl; have f5 := HB2.out.fr 5 (by simp); have y6 := HB2.out.at 6 (.int .i64 0) rfl; have f6 := HB2.out.fr 6 (by simp); have y7 := HB2.out.at 7 (.int .i64 0) rfl; have f7 := HB2.out.fr 7 (by simp); have y8 := HB2.out.at 8 (.int .i64 0) rfl; have f8 := HB2.out.fr 8 (by simp); have y9 := HB2.out.at 9 (.int .i64 0) rfl; have f9 := HB2.out.fr 9 (by simp); have y10 := HB2.out.at 10 (.int .i64 0) rfl; have f10 := HB2.out.fr 10 (by simp); have y11 := HB2.out.at 11 (.int .i64 0) rfl; have f11 := HB2.out.fr 11 (by simp); clear hg))
                  all_goals
                    (first
                      | (have hh1 := HB2.out.all [.int .i64 t1, .int .i64 t2, .int .i64 t3, .int .i64 t4, .int .i64 t5, .int .i64 t6, .int .i64 s1, .int .i64 s2, .int .i64 s3, .int .i64 s4, .int .i64 s5, .int .i64 s6] rfl
                         have hh2 := grew_put wr.heap.size (Nat.le_refl _) [.int .i64 t1, .int .i64 t2, .int .i64 t3, .int .i64 t4, .int .i64 t5, .int .i64 t6, .int .i64 s1, .int .i64 s2, .int .i64 s3, .int .i64 s4, .int .i64 s5, .int .i64 s6] 0 _ HG2.out
                         simp only [putC, Nat.zero_add, Nat.reduceAdd] at hh1 hh2
                         refine end_eq (P := Exit.then _ _ Exit.normal _) ?_
                         intro w5 hw5
                         rw [← hw5] at hh1 hh2
                         obtain ⟨ib, hibe⟩ : ∃ b, wr.heap.size = b := ⟨_, rfl⟩
                         have hib9 : wr.heap.size ≤ ib := Nat.le_of_eq hibe
                         rw [hibe] at hh1 ⊢
                         have h5 := hh1
                         have g5 := hh2
                         clear hw5 hh1 hh2 hibe)
                      | (refine end_new (w := wr) (P := Exit.then _ _ Exit.normal _) [.int .i64 t1, .int .i64 t2, .int .i64 t3, .int .i64 t4, .int .i64 t5, .int .i64 t6, .int .i64 s1, .int .i64 s2, .int .i64 s3, .int .i64 s4, .int .i64 s5, .int .i64 s6] 105 HG2.out ?_
                         intro w5 h5 g5
                         obtain ⟨ib, hibe⟩ : ∃ b, w2.heap.size = b := ⟨_, rfl⟩
                         have hib9 : wr.heap.size ≤ ib := by rw [← hibe]; exact HG2.out.size
                         rw [hibe] at h5 ⊢
                         clear hibe)
                     have HI5 := Lib.hid h5
                     have HG5 := Lib.hid g5
                     clear h5 g5
                     apply_assumption
                     go_wp2
                     go_roundw
                     case rel => exact ⟨i + 1, by go_num, by omega, (by rw [HLS.out]; exact HO.out.keep HG5.out), grew_trans HGw.out HG5.out⟩
                     case measure => simp only [intOf]; omega
                  )
                · by_cases hw : q1 = who
                  · have d1 : (q1 == who) = true := by rw [hw]; simp
                    rw [decide_eq_true hw, Bool.true_and, Bool.true_and] at hcnt
                    clear hw
                    by_cases hcu : t2 = cur
                    · have d2 : (t2 == cur) = true := by rw [hcu]; simp
                      have HLS : Hid (parL (lossI j) r who cur (l.take (i + 1)) = parL (lossI j) r who cur (l.take i) ++ [V]) := by show _ = _; rw [HT.out, hcnt, decide_eq_true hcu]; simp
                      obtain ⟨⟨m1, m2⟩, _, _⟩ := hbnd rfl
                      obtain ⟨u1, u2⟩ := hbS rfl
                      have hq3 : q3.natAbs ≤ 1099511627776 := by simp only [okQ, wi, Bool.and_eq_true, decide_eq_true_eq] at hok; omega
                      have hts := mul_abs (a := t3) (b := S) (A := 1024) (B := 1073741824) (by omega) (by omega)
                      have C1 := fun w => refTimes_any (-q3) (t3 * S) w (by omega) (by omega)
                      rw [← hVd] at C1
                      have HM : IntKind.i64.wrap (-q3) = -q3 := by rw [IntKind.wrap_i64]; omega
                      have HM2 : IntKind.i64.wrap (t3 * S) = t3 * S := by rw [IntKind.wrap_i64]; omega
                      rw [← HM, ← HM2] at C1
                      obtain ⟨v1, hv1⟩ : ∃ y, hi64 V = y := ⟨_, rfl⟩
                      obtain ⟨v2, hv2⟩ : ∃ y, lo64 V = y := ⟨_, rfl⟩
                      rw [hv1, hv2] at C1
                      have HONE := Lib.hid (fun w N hN => one_wd V v1 v2 hv1 hv2 w N hN)
                      have HSJ : Hid (([.int .i64 t1, .int .i64 t2, .int .i64 t3, .int .i64 t4, .int .i64 t5, .int .i64 t6, .int .i64 s1, .int .i64 s2, .int .i64 s3, .int .i64 s4, .int .i64 s5, .int .i64 s6] : List Value)[6 + j]? = some (.int .i64 S)) := by
                        show ([Value.int .i64 t1, .int .i64 t2, .int .i64 t3, .int .i64 t4, .int .i64 t5, .int .i64 t6] ++ (shIn ((t1, t2, t3, t4, t5, t6), (s1, s2, s3, s4, s5, s6))).map (Value.int .i64))[6 + j]? = _
                        rw [List.getElem?_append_right (by simp), List.getElem?_map]
                        simp only [List.length_cons, List.length_nil, Nat.add_sub_cancel_left, Nat.zero_add]
                        rw [hSJ]; rfl
                      clear HT hcnt hbnd hbS hVd hSJ hcu HM HM2 hts hq3 hv1 hv2 u1 u2 m1 m2 hok
                      go_upto_region 16 with (fail)
                      go_region_held3 (fun w' => w'.cell? ⟨w.heap.size, 0, none⟩ = some (.slice A1 n1 c1) ∧ w'.cell? ⟨w.heap.size, 1, none⟩ = some (.slice A2 n2 c2) ∧ w'.cell? ⟨w.heap.size, 2, none⟩ = some (.slice A3 n3 c3) ∧ w'.cell? ⟨b, o + i * 4 + 1, none⟩ = some (.int .i64 q2))
                        (first
                          | ((with_reducible show World.cell? (World.setCell _ _ _) _ = _ ∧ _); have HK9 := HS16.out _ (grew_put wr.heap.size (Nat.le_refl _) [.int .i64 t1, .int .i64 t2, .int .i64 t3, .int .i64 t4, .int .i64 t5, .int .i64 t6, .int .i64 s1, .int .i64 s2, .int .i64 s3, .int .i64 s4, .int .i64 s5, .int .i64 s6] 0 _ HG2.out); simp only [putC, Nat.zero_add, Nat.reduceAdd] at HK9; with_reducible exact HK9)
                          | (with_reducible exact HS16.out _ (grew_drew (grew_refl _)))
                          | (with_reducible exact HS16.out _ (grew_trans (grew_drew (grew_refl _)) (grew_alloc _ _ _)))
                          | (with_reducible exact HS16.out _ (grew_drew (grew_alloc _ _ _)))
                          | (with_reducible exact HS16.out _ HG2.out)
                          | (with_reducible exact HS16.out _ (grew_trans HG2.out (grew_alloc _ _ _))))
                        (first
                          | (go_at_call 49; (with_reducible refine (CI2.out _ (grew_drew (grew_refl _))).mono ?_); rintro e w2 ⟨rfl, hg⟩; have HG2 : Hid (Grew wr w2) := grew_trans (grew_drew (grew_refl _)) hg; clear hg)
                          | (go_at_call 49; (with_reducible refine (CI2.out _ (grew_drew (grew_alloc _ _ _))).mono ?_); rintro e w2 ⟨rfl, hg⟩; have HG2 : Hid (Grew wr w2) := grew_trans (grew_drew (grew_alloc _ _ _)) hg; have HB2 : Hid (OwnC w2 wr.heap.size [.int .i64 0, .int .i64 0, .int .i64 0, .int .i64 0, .int .i64 0, .int .i64 0, .int .i64 0, .int .i64 0, .int .i64 0, .int .i64 0, .int .i64 0, .int .i64 0]) := ((OwnC.new wr [.int .i64 0, .int .i64 0, .int .i64 0, .int .i64 0, .int .i64 0, .int .i64 0, .int .i64 0, .int .i64 0, .int .i64 0, .int .i64 0, .int .i64 0, .int .i64 0] _ _ rfl).drew).keep hg; have y0 := HB2.out.at 0 (.int .i64 0) rfl; have f0 := HB2.out.fr 0 (by simp); have y1 := HB2.out.at 1 (.int .i64 0) rfl; have f1 := HB2.out.fr 1 (by simp); have y2 := HB2.out.at 2 (.int .i64 0) rfl; have f2 := HB2.out.fr 2 (by simp); have y3 := HB2.out.at 3 (.int .i64 0) rfl; have f3 := HB2.out.fr 3 (by simp); have y4 := HB2.out.at 4 (.int .i64 0) rfl; have f4 := HB2.out.fr 4 (by simp); have y5 := HB2.out.at 5 (.int .i64 0) rfl; have f5 := HB2.out.fr 5 (by simp); have y6 := HB2.out.at 6 (.int .i64 0) rfl; have f6 := HB2.out.fr 6 (by simp); have y7 := HB2.out.at 7 (.int .i64 0) rfl; have f7 := HB2.out.fr 7 (by simp); have y8 := HB2.out.at 8 (.int .i64 0) rfl; have f8 := HB2.out.fr 8 (by simp); have y9 := HB2.out.at 9 (.int .i64 0) rfl; have f9 := HB2.out.fr 9 (by simp); have y10 := HB2.out.at 10 (.int .i64 0) rfl; have f10 := HB2.out.fr 10 (by simp); have y11 := HB2.out.at 11 (.int .i64 0) rfl; have f11 := HB2.out.fr 11 (by simp); clear hg))
                      all_goals
                        (first
                          | (have hh1 := HB2.out.all [.int .i64 t1, .int .i64 t2, .int .i64 t3, .int .i64 t4, .int .i64 t5, .int .i64 t6, .int .i64 s1, .int .i64 s2, .int .i64 s3, .int .i64 s4, .int .i64 s5, .int .i64 s6] rfl
                             have hh2 := grew_put wr.heap.size (Nat.le_refl _) [.int .i64 t1, .int .i64 t2, .int .i64 t3, .int .i64 t4, .int .i64 t5, .int .i64 t6, .int .i64 s1, .int .i64 s2, .int .i64 s3, .int .i64 s4, .int .i64 s5, .int .i64 s6] 0 _ HG2.out
                             simp only [putC, Nat.zero_add, Nat.reduceAdd] at hh1 hh2
                             refine end_eq (P := Exit.then _ _ Exit.normal _) ?_
                             intro w5 hw5
                             rw [← hw5] at hh1 hh2
                             obtain ⟨ib, hibe⟩ : ∃ b, wr.heap.size = b := ⟨_, rfl⟩
                             have hib9 : wr.heap.size ≤ ib := Nat.le_of_eq hibe
                             rw [hibe] at hh1 ⊢
                             have h5 := hh1
                             have g5 := hh2
                             clear hw5 hh1 hh2 hibe)
                          | (refine end_new (w := wr) (P := Exit.then _ _ Exit.normal _) [.int .i64 t1, .int .i64 t2, .int .i64 t3, .int .i64 t4, .int .i64 t5, .int .i64 t6, .int .i64 s1, .int .i64 s2, .int .i64 s3, .int .i64 s4, .int .i64 s5, .int .i64 s6] 105 HG2.out ?_
                             intro w5 h5 g5
                             obtain ⟨ib, hibe⟩ : ∃ b, w2.heap.size = b := ⟨_, rfl⟩
                             have hib9 : wr.heap.size ≤ ib := by rw [← hibe]; exact HG2.out.size
                             rw [hibe] at h5 ⊢
                             clear hibe)
                         have HI5 := Lib.hid h5
                         have HG5 := Lib.hid g5
                         clear h5 g5
                         apply_assumption
                         have a0 := HQ0.out _ HG5.out
                         have l2 := HI5.out.at 1 (.int .i64 t2) rfl
                         have HIB := HI5.out.lt
                         have HNE := Lib.hid (own_ne HO.out hib9)
                         have HS18 : Hid (∀ w', OwnC w' ib [.int .i64 t1, .int .i64 t2, .int .i64 t3, .int .i64 t4, .int .i64 t5, .int .i64 t6, .int .i64 s1, .int .i64 s2, .int .i64 s3, .int .i64 s4, .int .i64 s5, .int .i64 s6] → w'.cell? ⟨b, o + i * 4 + 2, none⟩ = some (.int .i64 q3) → w'.cell? ⟨b, o + i * 4 + 2, none⟩ = some (.int .i64 q3) ∧ w'.cell? ⟨ib, 2, none⟩ = some (.int .i64 t3) ∧ w'.cell? ⟨ib, 6 + j, none⟩ = some (.int .i64 S)) := fun w' h hq => ⟨hq, h.at 2 _ rfl, h.at (6 + j) _ HSJ.out⟩
                         go_upto_region 18 with (fail)
                         clear CI2 HS16
                         go_region_held3 (fun w' => w'.cell? ⟨b, o + i * 4 + 2, none⟩ = some (.int .i64 q3) ∧ w'.cell? ⟨ib, 2, none⟩ = some (.int .i64 t3) ∧ w'.cell? ⟨ib, 6 + j, none⟩ = some (.int .i64 S))
                           (first
                             | (with_reducible exact HS18.out _ HI5.out.drew (HQ.out _ (grew_drew HG5.out)))
                             | (with_reducible exact HS18.out _ HI6.out (HQ.out _ HG6.out))
                             | (with_reducible exact HS18.out _ (HI6.out.keep (grew_alloc _ _ _)) (HQ.out _ (grew_trans HG6.out (grew_alloc _ _ _))))
                             | (exact HS18.out _ HI9.out (HQB.out _ HG9.out)))
                           (first
                             | (go_at_call 50; (with_reducible refine (C1 _).mono ?_); rintro e w6 ⟨rfl, hg⟩; have HG6 : Hid (Grew wr w6) := grew_trans (grew_drew HG5.out) hg; have HI6 := Lib.hid (HI5.out.drew.keep hg); clear hg)
                             | (refine step_append_G (E := enWd) rfl _ _ 103 101 (.agg #[.int .i64 0, .int .u64 0]) 16 rfl Tryz.underlying103 info_wide rfl wj.heap.size _ _ rfl (HO.out.keep (grew_trans HG6.out (grew_alloc _ _ _))) _ 1 1 [V] rfl (HONE.out _ _ rfl) (by have := HLN.out; unfold maxLen; omega) (by have := HLN.out; omega) (Nat.le_trans HGw.out.size (grew_trans HG6.out (grew_alloc _ _ _)).size) ?_; intro v9 w9 hv hb hgb; rw [← HLS.out] at hv; have HV9 := Lib.hid hv; have HI9 := Lib.hid ((HI6.out.keep (grew_alloc _ _ _)).grown hgb HNE.out); have HG9 : Hid (Below wj.heap.size wr w9) := Below.trans (Below.mono (grew_trans HG6.out (grew_alloc _ _ _)) HGw.out.size) hb; have HGx : Hid (Grew wj w9) := Below.trans (grew_trans (grew_trans HGw.out HG6.out) (grew_alloc _ _ _)) hb; clear hv hb hgb))
                         all_goals
                           (go_wp2
                            go_roundw
                            case rel => exact ⟨i + 1, by go_num, by omega, HV9.out, HGx.out⟩
                            case measure => simp only [intOf]; omega)
                      )
                    · have d2 : (t2 == cur) = false := by simpa using hcu
                      have HLS : Hid (parL (lossI j) r who cur (l.take (i + 1)) = parL (lossI j) r who cur (l.take i)) := by show _ = _; rw [HT.out, hcnt, decide_eq_false hcu]; simp
                      clear HT hcnt hbnd hbS hVd hSJ HQ HQB HLN hcu
                      go_upto_region 16 with (fail)
                      go_region_held3 (fun w' => w'.cell? ⟨w.heap.size, 0, none⟩ = some (.slice A1 n1 c1) ∧ w'.cell? ⟨w.heap.size, 1, none⟩ = some (.slice A2 n2 c2) ∧ w'.cell? ⟨w.heap.size, 2, none⟩ = some (.slice A3 n3 c3) ∧ w'.cell? ⟨b, o + i * 4 + 1, none⟩ = some (.int .i64 q2))
                        (first
                          | ((with_reducible show World.cell? (World.setCell _ _ _) _ = _ ∧ _); have HK9 := HS16.out _ (grew_put wr.heap.size (Nat.le_refl _) [.int .i64 t1, .int .i64 t2, .int .i64 t3, .int .i64 t4, .int .i64 t5, .int .i64 t6, .int .i64 s1, .int .i64 s2, .int .i64 s3, .int .i64 s4, .int .i64 s5, .int .i64 s6] 0 _ HG2.out); simp only [putC, Nat.zero_add, Nat.reduceAdd] at HK9; with_reducible exact HK9)
                          | (with_reducible exact HS16.out _ (grew_drew (grew_refl _)))
                          | (with_reducible exact HS16.out _ (grew_trans (grew_drew (grew_refl _)) (grew_alloc _ _ _)))
                          | (with_reducible exact HS16.out _ (grew_drew (grew_alloc _ _ _)))
                          | (with_reducible exact HS16.out _ HG2.out)
                          | (with_reducible exact HS16.out _ (grew_trans HG2.out (grew_alloc _ _ _))))
                        (first
                          | (go_at_call 49; (with_reducible refine (CI2.out _ (grew_drew (grew_refl _))).mono ?_); rintro e w2 ⟨rfl, hg⟩; have HG2 : Hid (Grew wr w2) := grew_trans (grew_drew (grew_refl _)) hg; clear hg)
                          | (go_at_call 49; (with_reducible refine (CI2.out _ (grew_drew (grew_alloc _ _ _))).mono ?_); rintro e w2 ⟨rfl, hg⟩; have HG2 : Hid (Grew wr w2) := grew_trans (grew_drew (grew_alloc _ _ _)) hg; have HB2 : Hid (OwnC w2 wr.heap.size [.int .i64 0, .int .i64 0, .int .i64 0, .int .i64 0, .int .i64 0, .int .i64 0, .int .i64 0, .int .i64 0, .int .i64 0, .int .i64 0, .int .i64 0, .int .i64 0]) := ((OwnC.new wr [.int .i64 0, .int .i64 0, .int .i64 0, .int .i64 0, .int .i64 0, .int .i64 0, .int .i64 0, .int .i64 0, .int .i64 0, .int .i64 0, .int .i64 0, .int .i64 0] _ _ rfl).drew).keep hg; have y0 := HB2.out.at 0 (.int .i64 0) rfl; have f0 := HB2.out.fr 0 (by simp); have y1 := HB2.out.at 1 (.int .i64 0) rfl; have f1 := HB2.out.fr 1 (by simp); have y2 := HB2.out.at 2 (.int .i64 0) rfl; have f2 := HB2.out.fr 2 (by simp); have y3 := HB2.out.at 3 (.int .i64 0) rfl; have f3 := HB2.out.fr 3 (by simp); have y4 := HB2.out.at 4 (.int .i64 0) rfl; have f4 := HB2.out.fr 4 (by simp); have y5 := HB2.out.at 5 (.int .i64 0) rfl; have f5 := HB2.out.fr 5 (by simp); have y6 := HB2.out.at 6 (.int .i64 0) rfl; have f6 := HB2.out.fr 6 (by simp); have y7 := HB2.out.at 7 (.int .i64 0) rfl; have f7 := HB2.out.fr 7 (by simp); have y8 := HB2.out.at 8 (.int .i64 0) rfl; have f8 := HB2.out.fr 8 (by simp); have y9 := HB2.out.at 9 (.int .i64 0) rfl; have f9 := HB2.out.fr 9 (by simp); have y10 := HB2.out.at 10 (.int .i64 0) rfl; have f10 := HB2.out.fr 10 (by simp); have y11 := HB2.out.at 11 (.int .i64 0) rfl; have f11 := HB2.out.fr 11 (by simp); clear hg))
                      all_goals
                        (first
                          | (have hh1 := HB2.out.all [.int .i64 t1, .int .i64 t2, .int .i64 t3, .int .i64 t4, .int .i64 t5, .int .i64 t6, .int .i64 s1, .int .i64 s2, .int .i64 s3, .int .i64 s4, .int .i64 s5, .int .i64 s6] rfl
                             have hh2 := grew_put wr.heap.size (Nat.le_refl _) [.int .i64 t1, .int .i64 t2, .int .i64 t3, .int .i64 t4, .int .i64 t5, .int .i64 t6, .int .i64 s1, .int .i64 s2, .int .i64 s3, .int .i64 s4, .int .i64 s5, .int .i64 s6] 0 _ HG2.out
                             simp only [putC, Nat.zero_add, Nat.reduceAdd] at hh1 hh2
                             refine end_eq (P := Exit.then _ _ Exit.normal _) ?_
                             intro w5 hw5
                             rw [← hw5] at hh1 hh2
                             obtain ⟨ib, hibe⟩ : ∃ b, wr.heap.size = b := ⟨_, rfl⟩
                             have hib9 : wr.heap.size ≤ ib := Nat.le_of_eq hibe
                             rw [hibe] at hh1 ⊢
                             have h5 := hh1
                             have g5 := hh2
                             clear hw5 hh1 hh2 hibe)
                          | (refine end_new (w := wr) (P := Exit.then _ _ Exit.normal _) [.int .i64 t1, .int .i64 t2, .int .i64 t3, .int .i64 t4, .int .i64 t5, .int .i64 t6, .int .i64 s1, .int .i64 s2, .int .i64 s3, .int .i64 s4, .int .i64 s5, .int .i64 s6] 105 HG2.out ?_
                             intro w5 h5 g5
                             obtain ⟨ib, hibe⟩ : ∃ b, w2.heap.size = b := ⟨_, rfl⟩
                             have hib9 : wr.heap.size ≤ ib := by rw [← hibe]; exact HG2.out.size
                             rw [hibe] at h5 ⊢
                             clear hibe)
                         have HI5 := Lib.hid h5
                         have HG5 := Lib.hid g5
                         clear h5 g5
                         apply_assumption
                         have a0 := HQ0.out _ HG5.out
                         have l2 := HI5.out.at 1 (.int .i64 t2) rfl
                         go_wp2
                         go_roundw
                         case rel => exact ⟨i + 1, by go_num, by omega, (by rw [HLS.out]; exact HO.out.keep HG5.out), grew_trans HGw.out HG5.out⟩
                         case measure => simp only [intOf]; omega
                      )
                  · have d1 : (q1 == who) = false := by simpa using hw
                    have HLS : Hid (parL (lossI j) r who cur (l.take (i + 1)) = parL (lossI j) r who cur (l.take i)) := by show _ = _; rw [HT.out, hcnt, decide_eq_false hw]; simp
                    clear HT hcnt hbnd hbS hVd hSJ HQ HQB HLN hw
                    go_upto_region 16 with (fail)
                    go_region_held3 (fun w' => w'.cell? ⟨w.heap.size, 0, none⟩ = some (.slice A1 n1 c1) ∧ w'.cell? ⟨w.heap.size, 1, none⟩ = some (.slice A2 n2 c2) ∧ w'.cell? ⟨w.heap.size, 2, none⟩ = some (.slice A3 n3 c3) ∧ w'.cell? ⟨b, o + i * 4 + 1, none⟩ = some (.int .i64 q2))
                      (first
                        | ((with_reducible show World.cell? (World.setCell _ _ _) _ = _ ∧ _); have HK9 := HS16.out _ (grew_put wr.heap.size (Nat.le_refl _) [.int .i64 t1, .int .i64 t2, .int .i64 t3, .int .i64 t4, .int .i64 t5, .int .i64 t6, .int .i64 s1, .int .i64 s2, .int .i64 s3, .int .i64 s4, .int .i64 s5, .int .i64 s6] 0 _ HG2.out); simp only [putC, Nat.zero_add, Nat.reduceAdd] at HK9; with_reducible exact HK9)
                        | (with_reducible exact HS16.out _ (grew_drew (grew_refl _)))
                        | (with_reducible exact HS16.out _ (grew_trans (grew_drew (grew_refl _)) (grew_alloc _ _ _)))
                        | (with_reducible exact HS16.out _ (grew_drew (grew_alloc _ _ _)))
                        | (with_reducible exact HS16.out _ HG2.out)
                        | (with_reducible exact HS16.out _ (grew_trans HG2.out (grew_alloc _ _ _))))
                      (first
                        | (go_at_call 49; (with_reducible refine (CI2.out _ (grew_drew (grew_refl _))).mono ?_); rintro e w2 ⟨rfl, hg⟩; have HG2 : Hid (Grew wr w2) := grew_trans (grew_drew (grew_refl _)) hg; clear hg)
                        | (go_at_call 49; (with_reducible refine (CI2.out _ (grew_drew (grew_alloc _ _ _))).mono ?_); rintro e w2 ⟨rfl, hg⟩; have HG2 : Hid (Grew wr w2) := grew_trans (grew_drew (grew_alloc _ _ _)) hg; have HB2 : Hid (OwnC w2 wr.heap.size [.int .i64 0, .int .i64 0, .int .i64 0, .int .i64 0, .int .i64 0, .int .i64 0, .int .i64 0, .int .i64 0, .int .i64 0, .int .i64 0, .int .i64 0, .int .i64 0]) := ((OwnC.new wr [.int .i64 0, .int .i64 0, .int .i64 0, .int .i64 0, .int .i64 0, .int .i64 0, .int .i64 0, .int .i64 0, .int .i64 0, .int .i64 0, .int .i64 0, .int .i64 0] _ _ rfl).drew).keep hg; have y0 := HB2.out.at 0 (.int .i64 0) rfl; have f0 := HB2.out.fr 0 (by simp); have y1 := HB2.out.at 1 (.int .i64 0) rfl; have f1 := HB2.out.fr 1 (by simp); have y2 := HB2.out.at 2 (.int .i64 0) rfl; have f2 := HB2.out.fr 2 (by simp); have y3 := HB2.out.at 3 (.int .i64 0) rfl; have f3 := HB2.out.fr 3 (by simp); have y4 := HB2.out.at 4 (.int .i64 0) rfl; have f4 := HB2.out.fr 4 (by simp); have y5 := HB2.out.at 5 (.int .i64 0) rfl; have f5 := HB2.out.fr 5 (by simp); have y6 := HB2.out.at 6 (.int .i64 0) rfl; have f6 := HB2.out.fr 6 (by simp); have y7 := HB2.out.at 7 (.int .i64 0) rfl; have f7 := HB2.out.fr 7 (by simp); have y8 := HB2.out.at 8 (.int .i64 0) rfl; have f8 := HB2.out.fr 8 (by simp); have y9 := HB2.out.at 9 (.int .i64 0) rfl; have f9 := HB2.out.fr 9 (by simp); have y10 := HB2.out.at 10 (.int .i64 0) rfl; have f10 := HB2.out.fr 10 (by simp); have y11 := HB2.out.at 11 (.int .i64 0) rfl; have f11 := HB2.out.fr 11 (by simp); clear hg))
                    all_goals
                      (first
                        | (have hh1 := HB2.out.all [.int .i64 t1, .int .i64 t2, .int .i64 t3, .int .i64 t4, .int .i64 t5, .int .i64 t6, .int .i64 s1, .int .i64 s2, .int .i64 s3, .int .i64 s4, .int .i64 s5, .int .i64 s6] rfl
                           have hh2 := grew_put wr.heap.size (Nat.le_refl _) [.int .i64 t1, .int .i64 t2, .int .i64 t3, .int .i64 t4, .int .i64 t5, .int .i64 t6, .int .i64 s1, .int .i64 s2, .int .i64 s3, .int .i64 s4, .int .i64 s5, .int .i64 s6] 0 _ HG2.out
                           simp only [putC, Nat.zero_add, Nat.reduceAdd] at hh1 hh2
                           refine end_eq (P := Exit.then _ _ Exit.normal _) ?_
                           intro w5 hw5
                           rw [← hw5] at hh1 hh2
                           obtain ⟨ib, hibe⟩ : ∃ b, wr.heap.size = b := ⟨_, rfl⟩
                           have hib9 : wr.heap.size ≤ ib := Nat.le_of_eq hibe
                           rw [hibe] at hh1 ⊢
                           have h5 := hh1
                           have g5 := hh2
                           clear hw5 hh1 hh2 hibe)
                        | (refine end_new (w := wr) (P := Exit.then _ _ Exit.normal _) [.int .i64 t1, .int .i64 t2, .int .i64 t3, .int .i64 t4, .int .i64 t5, .int .i64 t6, .int .i64 s1, .int .i64 s2, .int .i64 s3, .int .i64 s4, .int .i64 s5, .int .i64 s6] 105 HG2.out ?_
                           intro w5 h5 g5
                           obtain ⟨ib, hibe⟩ : ∃ b, w2.heap.size = b := ⟨_, rfl⟩
                           have hib9 : wr.heap.size ≤ ib := by rw [← hibe]; exact HG2.out.size
                           rw [hibe] at h5 ⊢
                           clear hibe)
                       have HI5 := Lib.hid h5
                       have HG5 := Lib.hid g5
                       clear h5 g5
                       apply_assumption
                       have a0 := HQ0.out _ HG5.out
                       go_wp2
                       go_roundw
                       case rel => exact ⟨i + 1, by go_num, by omega, (by rw [HLS.out]; exact HO.out.keep HG5.out), grew_trans HGw.out HG5.out⟩
                       case measure => simp only [intOf]; omega
                    )
              · obtain rfl : n = i := by omega
                rw [List.take_of_length_le (Nat.le_of_eq HL.out)] at HO
                obtain ⟨A9, c9, rfl, hrow, -⟩ := HO.out.form
                have hlen := par_len (lossI j) r who cur l
                have CSm := refSum_any A9 _ c9 (parL (lossI j) r who cur l) wr (wides_of_E hrow) HW.out (by omega)
                rw [par_sum, tot_loss, wsV, if_pos HSW.out, HSW.out] at CSm
                have hHS := c6_set (lossV r who cur l) j hlt
                have HA := Lib.hid (c6_at (lossV r who cur l) j hlt)
                have hlen6 : j < (c6 (lossV r who cur l) j).length := hlt
                have CI := fun w => refInt_any (lossV r who cur l j) w
                generalize hV : lossV r who cur l j = V at CSm CI hHS
                have HS := Lib.hid hHS
                have HVe := Lib.hid hV
                clear hHS hV hlen hrow HO
                have HR9 := Lib.hid (HR.out.keep HGw.out)
                have HY9 := Lib.hid (HY.out.keep HGw.out)
                have HX9 := Lib.hid (HX.out.keep HGw.out)
                have HG9 := Lib.hid (grew_trans HG.out HGw.out)
                clear HR HY HX HG HGw
                generalize hi64 V = v1 at *
                generalize lo64 V = v2 at *
                generalize (parL (lossI j) r who cur l).length = pn at *
                by_cases hm : isMoney V = true
                · rw [intV_in hm, hm] at CI
                  have HM2 : Hid (∀ i, i < j + 1 → isMoney (lossV r who cur l i) = true) := fun i hi => by
                    rcases Nat.lt_or_ge i j with h1 | h1
                    · exact HM.out i h1
                    · obtain rfl : i = j := by omega
                      rw [HVe.out]; exact hm
                  clear hm HM HVe HW HB HSW HCI
                  go_wp2_with (first
                    | (go_at_call 51; ((with_reducible refine CSm.mono ?_); rintro e w7 ⟨rfl, hg⟩; have HR7 := Lib.hid (HR9.out.keep hg); have HY7 := Lib.hid (HY9.out.keep hg); have HX7 := Lib.hid (HX9.out.keep hg); have HG7 := Lib.hid (grew_trans HG9.out hg); clear hg HR9 HY9 HX9 HG9))
                    | (go_at_call 52; ((with_reducible refine (CI _).mono ?_); rintro e w8 ⟨rfl, hg⟩; have HR8 := Lib.hid ((HR7.out.keep (grew_alloc _ _ _)).keep hg); have HY8 := Lib.hid ((HY7.out.keep (grew_alloc _ _ _)).keep hg); have HX8 := Lib.hid ((HX7.out.keep (grew_alloc _ _ _)).keep hg); have HG8 := Lib.hid (grew_trans (grew_trans HG7.out (grew_alloc _ _ _)) hg); clear hg HR7 HY7 HX7 HG7; have l0 := HX8.out.at j _ HA.out; have lf := HX8.out.fr j hlen6)))
                  have HXs := Lib.hid (HX8.out.set j (.int .i64 V) hlen6)
                  rw [HS.out] at HXs
                  have HRs := Lib.hid (HR8.out.other ⟨w.heap.size + 1 + 1, j, none⟩ (.int .i64 V) (by show w.heap.size + 1 + 1 ≠ _; omega))
                  have HYs := Lib.hid (HY8.out.other ⟨w.heap.size + 1 + 1, j, none⟩ (.int .i64 V) (by show w.heap.size + 1 + 1 ≠ _; omega))
                  have HGs := Lib.hid (grew_set HG8.out (p := ⟨w.heap.size + 1 + 1, j, none⟩) (.int .i64 V) (by show _ ≤ w.heap.size + 1 + 1; omega))
                  go_roundw
                  case rel => exact ⟨j + 1, by go_num, by omega, HM2.out, HRs.out, HYs.out, HXs.out, HGs.out⟩
                  case measure => simp only [intOf]; omega
                · have hm := Bool.eq_false_iff.2 hm
                  rw [intV_out hm, hm] at CI
                  have hE : lossE r who cur l = 1 := lossE_1 hr hq hlt (by rw [HVe.out]; exact hm)
                  have HEe := Lib.hid hE
                  have HAe := Lib.hid (lossA_no 1 (by decide) hE)
                  clear hm HM HVe HW HB HSW HCI hE HS HA
                  go_wp2_with (first
                    | (go_at_call 51; ((with_reducible refine CSm.mono ?_); rintro e w7 ⟨rfl, hg⟩; have HY7 := Lib.hid (HY9.out.keep hg); have HG7 := Lib.hid (grew_trans HG9.out hg); clear hg HR9 HY9 HX9 HG9))
                    | (go_at_call 52; ((with_reducible refine (CI _).mono ?_); rintro e w8 ⟨rfl, hg⟩; have HY8 := Lib.hid ((HY7.out.keep (grew_alloc _ _ _)).keep hg); have HG8 := Lib.hid (grew_trans (grew_trans HG7.out (grew_alloc _ _ _)) hg); clear hg HY7 HG7; have y0 := HY8.out.at 0 (.int .i64 0) rfl; have f0 := HY8.out.fr 0 (by simp); have y1 := HY8.out.at 1 (.int .i64 0) rfl; have f1 := HY8.out.fr 1 (by simp); have y2 := HY8.out.at 2 (.int .i64 0) rfl; have f2 := HY8.out.fr 2 (by simp); have y3 := HY8.out.at 3 (.int .i64 0) rfl; have f3 := HY8.out.fr 3 (by simp); have y4 := HY8.out.at 4 (.int .i64 0) rfl; have f4 := HY8.out.fr 4 (by simp); have y5 := HY8.out.at 5 (.int .i64 0) rfl; have f5 := HY8.out.fr 5 (by simp))))
                  refine end_put (w := w) (P := bodyPost _ _ _ _ _) [.int .i64 0, .int .i64 0, .int .i64 0, .int .i64 0, .int .i64 0, .int .i64 0] (by rfl) HY8.out HG8.out (by omega) ?_
                  intro w9 h9 g9
                  have z0 := h9.at 0 (.int .i64 0) rfl; have z1 := h9.at 1 (.int .i64 0) rfl; have z2 := h9.at 2 (.int .i64 0) rfl; have z3 := h9.at 3 (.int .i64 0) rfl; have z4 := h9.at 4 (.int .i64 0) rfl; have z5 := h9.at 5 (.int .i64 0) rfl
                  exact bodyPost_ret (v := .tuple #[.agg #[.int .i64 0, .int .i64 0, .int .i64 0, .int .i64 0, .int .i64 0, .int .i64 0], .int .i64 1]) (by simp [results, Tryz.results47, go_sem, z0, z1, z2, z3, z4, z5]) rfl ⟨by rw [HEe.out, HAe.out], g9⟩
          · obtain rfl : 6 = j := by omega
            obtain ⟨hE, hA⟩ := lossA_ok hr hq HM.out
            have HEe := Lib.hid hE
            have HAe := Lib.hid hA
            clear hE hA
            have HX9 := Lib.hid HX.out
            rw [c6_all] at HX9
            have x0 := HX9.out.at 0 (.int .i64 (lossV r who cur l 0)) rfl; have x1 := HX9.out.at 1 (.int .i64 (lossV r who cur l 1)) rfl; have x2 := HX9.out.at 2 (.int .i64 (lossV r who cur l 2)) rfl; have x3 := HX9.out.at 3 (.int .i64 (lossV r who cur l 3)) rfl; have x4 := HX9.out.at 4 (.int .i64 (lossV r who cur l 4)) rfl; have x5 := HX9.out.at 5 (.int .i64 (lossV r who cur l 5)) rfl
            have y0 := HY.out.at 0 (.int .i64 0) rfl; have f0 := HY.out.fr 0 (by simp); have y1 := HY.out.at 1 (.int .i64 0) rfl; have f1 := HY.out.fr 1 (by simp); have y2 := HY.out.at 2 (.int .i64 0) rfl; have f2 := HY.out.fr 2 (by simp); have y3 := HY.out.at 3 (.int .i64 0) rfl; have f3 := HY.out.fr 3 (by simp); have y4 := HY.out.at 4 (.int .i64 0) rfl; have f4 := HY.out.fr 4 (by simp); have y5 := HY.out.at 5 (.int .i64 0) rfl; have f5 := HY.out.fr 5 (by simp)
            go_wp2
            refine end_put (w := w) (P := bodyPost _ _ _ _ _) [.int .i64 (lossV r who cur l 0), .int .i64 (lossV r who cur l 1), .int .i64 (lossV r who cur l 2), .int .i64 (lossV r who cur l 3), .int .i64 (lossV r who cur l 4), .int .i64 (lossV r who cur l 5)] (by rfl) HY.out HG.out (by omega) ?_
            intro w9 h9 g9
            have z0 := h9.at 0 (.int .i64 (lossV r who cur l 0)) rfl; have z1 := h9.at 1 (.int .i64 (lossV r who cur l 1)) rfl; have z2 := h9.at 2 (.int .i64 (lossV r who cur l 2)) rfl; have z3 := h9.at 3 (.int .i64 (lossV r who cur l 3)) rfl; have z4 := h9.at 4 (.int .i64 (lossV r who cur l 4)) rfl; have z5 := h9.at 5 (.int .i64 (lossV r who cur l 5)) rfl
            exact bodyPost_ret (v := .tuple #[.agg #[.int .i64 (lossV r who cur l 0), .int .i64 (lossV r who cur l 1), .int .i64 (lossV r who cur l 2), .int .i64 (lossV r who cur l 3), .int .i64 (lossV r who cur l 4), .int .i64 (lossV r who cur l 5)], .int .i64 0]) (by simp [results, Tryz.results47, go_sem, z0, z1, z2, z3, z4, z5]) rfl ⟨by rw [HEe.out, HAe.out], g9⟩
  · have hr := Bool.eq_false_iff.2 hr
    rw [hr] at HC1
    have HEe := Lib.hid (lossE_14 (who := who) (cur := cur) (l := l) hr)
    have HAe := Lib.hid (lossA_no 14 (by decide) HEe.out)
    go_wp2_with (go_at_call 29; ((with_reducible refine (HC1.out _ HG0.out).mono ?_); rintro e w1 ⟨rfl, hg⟩; have HY1 := Lib.hid (HY0.out.keep hg); have HX1 := Lib.hid (HX0.out.keep hg); have HG1 := Lib.hid (grew_trans HG0.out hg); clear hg HR0 HY0 HX0 HG0 r0 r1 r2; have x0 := HX1.out.at 0 (.int .i64 0) rfl; have x1 := HX1.out.at 1 (.int .i64 0) rfl; have x2 := HX1.out.at 2 (.int .i64 0) rfl; have x3 := HX1.out.at 3 (.int .i64 0) rfl; have x4 := HX1.out.at 4 (.int .i64 0) rfl; have x5 := HX1.out.at 5 (.int .i64 0) rfl; have y0 := HY1.out.at 0 (.int .i64 0) rfl; have f0 := HY1.out.fr 0 (by simp); have y1 := HY1.out.at 1 (.int .i64 0) rfl; have f1 := HY1.out.fr 1 (by simp); have y2 := HY1.out.at 2 (.int .i64 0) rfl; have f2 := HY1.out.fr 2 (by simp); have y3 := HY1.out.at 3 (.int .i64 0) rfl; have f3 := HY1.out.fr 3 (by simp); have y4 := HY1.out.at 4 (.int .i64 0) rfl; have f4 := HY1.out.fr 4 (by simp); have y5 := HY1.out.at 5 (.int .i64 0) rfl; have f5 := HY1.out.fr 5 (by simp)))
    refine end_put (w := w) (P := bodyPost _ _ _ _ _) [.int .i64 0, .int .i64 0, .int .i64 0, .int .i64 0, .int .i64 0, .int .i64 0] (by rfl) HY1.out HG1.out (by omega) ?_
    intro w9 h9 g9
    have z0 := h9.at 0 (.int .i64 0) rfl; have z1 := h9.at 1 (.int .i64 0) rfl; have z2 := h9.at 2 (.int .i64 0) rfl; have z3 := h9.at 3 (.int .i64 0) rfl; have z4 := h9.at 4 (.int .i64 0) rfl; have z5 := h9.at 5 (.int .i64 0) rfl
    exact bodyPost_ret (v := .tuple #[.agg #[.int .i64 0, .int .i64 0, .int .i64 0, .int .i64 0, .int .i64 0, .int .i64 0], .int .i64 14]) (by simp [results, Tryz.results47, go_sem, z0, z1, z2, z3, z4, z5]) rfl ⟨by rw [HEe.out, HAe.out], g9⟩
end Go.Proofs.YtodnllopokoicaaGreat.NumK
