/- grid's total: the sum of what a part tells of each position that counts. -/
import Derived.Test.YtodnllopokoicaaGreatRG41
import Derived.Test.YtodnllopokoicaaGreatRG42
import Derived.Deep.RegionHeld3
import Derived.Deep.RegionWith
import Derived.Deep.CutBlock
namespace Go.Proofs.YtodnllopokoicaaGreat.NumK
open Go.RowKit
set_option linter.unusedVariables false

def totV (part : Po → In → Int) (r : Rl) (who cur : Int) (l : List Po) : Int := ((l.filter (cntG r who cur)).map fun p => part p (instOf r p)).sum
theorem tot_loss (r : Rl) (who cur : Int) (l : List Po) (j : Nat) : totV (lossI j) r who cur l = lossV r who cur l j := rfl
theorem tot_add (r : Rl) (who cur : Int) (l : List Po) : totV addI r who cur l = addG r who cur l := rfl
theorem tot_snoc (part : Po → In → Int) (r : Rl) (who cur : Int) (l : List Po) (p : Po) : totV part r who cur (l ++ [p]) = totV part r who cur l + if cntG r who cur p then part p (instOf r p) else 0 := by
  unfold totV
  rw [List.filter_append, List.map_append, sum_app, List.filter_cons]
  split <;> simp
theorem tot_succ (part : Po → In → Int) (r : Rl) (who cur : Int) (l : List Po) {k : Nat} (hk : k < l.length) : totV part r who cur (l.take (k + 1)) = totV part r who cur (l.take k) + if cntG r who cur (l.getD k po0) then part (l.getD k po0) (instOf r (l.getD k po0)) else 0 := by
  rw [List.take_succ_eq_append_getElem hk, tot_snoc, getD_at _ _ _ hk]
theorem tot_le (part : Po → In → Int) (r : Rl) (who cur : Int) (l : List Po) (B : Nat) (h : ∀ p ∈ l, cntG r who cur p = true → (part p (instOf r p)).natAbs ≤ B) : (totV part r who cur l).natAbs ≤ l.length * B := by
  induction l with
  | nil => exact Nat.zero_le _
  | cons p l ih =>
    have e : totV part r who cur (p :: l) = (if cntG r who cur p then part p (instOf r p) else 0) + totV part r who cur l := by
      unfold totV; rw [List.filter_cons]; split <;> simp
    have h1 := ih fun q hq => h q (List.mem_cons_of_mem _ hq)
    have h2 := h p List.mem_cons_self
    rw [e, List.length_cons, Nat.succ_mul]
    by_cases hc : cntG r who cur p = true
    · rw [if_pos hc]; have := h2 hc; omega
    · rw [if_neg hc]; omega

theorem end_keep {w w4 : World} {P : World → Prop} {b c d : Nat} {cs ds es : List Value} (vs : List Value) (hl : vs.length = cs.length) (h : OwnC w4 b cs) (g : Grew w w4) (hb : w.heap.size ≤ b) (hc : OwnC w4 c ds) (hn : c ≠ b) (hd : OwnC w4 d es) (hm : d ≠ b) (k : ∀ w5, OwnC w5 b vs → OwnC w5 c ds → OwnC w5 d es → Grew w w5 → P w5) : P (putC w4 b 0 vs) :=
  k _ (h.all vs hl) (OwnC.putO (Ne.symm hn) vs 0 _ hc) (OwnC.putO (Ne.symm hm) vs 0 _ hd) (grew_put b hb vs 0 _ g)

/-- A part of a position, by a function literal of whatever number. -/
def PartOK (g : Nat) (cb : Array Value) (part : Po → In → Int) (r : Rl) (l : List Po) (w : World) : Prop :=
  ∀ p ∈ l, hasI r p = true → ∀ w', Grew w w' → Calls Tryz.prog g (#[vPo p, vIn (instOf r p)] ++ cb) w' fun e w'' => e = .returned (wvV (part p (instOf r p))) ∧ Grew w' w''
theorem PartOK.keep {g : Nat} {cb : Array Value} {part : Po → In → Int} {r : Rl} {l : List Po} {w w1 : World} (h : PartOK g cb part r l w) (hg : Grew w w1) : PartOK g cb part r l w1 := fun p hp hi w' g' => h p hp hi w' (grew_trans hg g')

set_option maxRecDepth 100000 in
set_option maxHeartbeats 4000000 in
theorem total_any (g : Nat) (cb : Array Value) (part : Po → In → Int) (eg : ∀ args w, (callFunc g args).run Tryz.prog w = .ok (.enter g args) w)
    (r : Rl) (A1 A2 A3 B : Option Addr) (n1 n2 n3 c1 c2 c3 n c : Nat) (who cur : Int) (l : List Po) (w : World) (h3 : Rows3 w r A1 A2 A3 n1 n2 n3) (hn2 : n2 ≤ 1000000) (h : RowE enPo w B n l) (hn : n ≤ 1000000)
    (hC : PartOK g cb part r l w) (hB : ∀ p ∈ l, cntG r who cur p = true → (part p (instOf r p)).natAbs ≤ 1208925819614629174706176) :
    Calls Tryz.prog 90 #[rlV A1 A2 A3 n1 n2 n3 c1 c2 c3, .int .i64 who, .int .i64 cur, .slice B n c, .func (.func g) #[] cb] w fun e w' => e = .returned (wvV (totV part r who cur l)) ∧ Grew w w' := by
  have HI := Lib.hid h
  have HL := Lib.hid h.len
  have HC := Lib.hid hC
  have HB : Hid (∀ k, k ≤ n → (totV part r who cur (l.take k)).natAbs ≤ 1000000 * 1208925819614629174706176) := fun k hk => by
    have h1 := tot_le part r who cur (l.take k) 1208925819614629174706176 fun p hp => hB p (List.take_subset _ _ hp)
    have h2 : (l.take k).length ≤ 1000000 := by rw [List.length_take]; omega
    exact Nat.le_trans h1 (Nat.mul_le_mul_right _ h2)
  have HPB := Lib.hid hB
  have HCI := Lib.hid (fun (m : Int) w' (g : Grew w w') => pfindIn_any A1 A2 A3 n1 n2 n3 c1 c2 c3 r.2.1 m w' (h3.i.keep g) hn2 (fun w h => firstIn_any A2 n2 c2 r.2.1 m w h hn2))
  have HR0 : Hid (OwnC (((w.alloc (.cells #[.slice A1 n1 c1, .slice A2 n2 c2, .slice A3 n3 c3] 28)).alloc (.cells #[.int .i64 0, .int .u64 0] 101)).alloc (.cells #[.int .i64 0, .int .u64 0] 101)) w.heap.size [.slice A1 n1 c1, .slice A2 n2 c2, .slice A3 n3 c3]) := ((OwnC.new w [.slice A1 n1 c1, .slice A2 n2 c2, .slice A3 n3 c3] _ _ rfl).keep (grew_alloc _ _ _)).keep (grew_alloc _ _ _)
  have HY0 : Hid (OwnC (((w.alloc (.cells #[.slice A1 n1 c1, .slice A2 n2 c2, .slice A3 n3 c3] 28)).alloc (.cells #[.int .i64 0, .int .u64 0] 101)).alloc (.cells #[.int .i64 0, .int .u64 0] 101)) (w.heap.size + 1) [.int .i64 0, .int .u64 0]) := (OwnC.new _ [.int .i64 0, .int .u64 0] _ _ (by simp)).keep (grew_alloc _ _ _)
  have HZ0 : Hid (OwnC (((w.alloc (.cells #[.slice A1 n1 c1, .slice A2 n2 c2, .slice A3 n3 c3] 28)).alloc (.cells #[.int .i64 0, .int .u64 0] 101)).alloc (.cells #[.int .i64 0, .int .u64 0] 101)) (w.heap.size + 1 + 1) [.int .i64 0, .int .u64 0]) := OwnC.new _ [.int .i64 0, .int .u64 0] _ _ (by simp)
  have HG0 : Hid (Grew w (((w.alloc (.cells #[.slice A1 n1 c1, .slice A2 n2 c2, .slice A3 n3 c3] 28)).alloc (.cells #[.int .i64 0, .int .u64 0] 101)).alloc (.cells #[.int .i64 0, .int .u64 0] 101))) := grew_trans (grew_trans (grew_alloc _ _ _) (grew_alloc _ _ _)) (grew_alloc _ _ _)
  dsimp only [rlV]
  clear h h3 hC hB hn2
  go_enter Tryz.func90, Tryz.ntmps90
  go_upto_region 2 with (fail)
  generalize (((w.alloc (.cells #[.slice A1 n1 c1, .slice A2 n2 c2, .slice A3 n3 c3] 28)).alloc (.cells #[.int .i64 0, .int .u64 0] 101)).alloc (.cells #[.int .i64 0, .int .u64 0] 101)) = w0 at *
  go_wp2
  go_loopw [18] (fun v wr => ∃ k : Nat, v = .int .i64 k ∧ k ≤ n ∧ Hid (OwnC wr w.heap.size [.slice A1 n1 c1, .slice A2 n2 c2, .slice A3 n3 c3]) ∧ Hid (OwnC wr (w.heap.size + 1) [.int .i64 0, .int .u64 0]) ∧ Hid (OwnC wr (w.heap.size + 1 + 1) [.int .i64 (hi64 (totV part r who cur (l.take k))), .int .u64 (lo64 (totV part r who cur (l.take k)))]) ∧ Hid (Grew w wr)) (fun v _ => n - (intOf v).toNat)
  case atStart => exact ⟨0, rfl, by omega, HR0.out, HY0.out, HZ0.out, HG0.out⟩
  case round =>
    clear HR0 HY0 HZ0 HG0
    obtain ⟨k, rfl, hk, HR, HY, HZ, HG⟩ := hrel
    by_cases hlt : k < n
    · have hkl : k < l.length := by rw [HL.out]; exact hlt
      have HT := Lib.hid (tot_succ part r who cur l hkl)
      have hb1 := HB.out (k + 1) hlt
      have hb0 := HB.out k hk
      obtain ⟨b, o, rfl, hb, hc⟩ := (HI.out.keep HG.out).po hlt
      obtain ⟨a0, a1, a2, a3⟩ := hc k hlt
      have HCC := Lib.hid (HC.out (l.getD k po0) (getD_mem l po0 k hkl))
      have HPK := Lib.hid (HPB.out (l.getD k po0) (getD_mem l po0 k hkl))
      have i0 : (0 : Int) ≤ (k : Int) := by omega
      have i1 : (k : Int) < (n : Int) := by omega
      have HI2 := Lib.hid (fun w' (g : Grew w w') => HCI.out (l.getD k po0).2.1 w' g)
      have hlt2 : w.heap.size + 1 + 1 < wr.heap.size := HZ.out.lt
      have HE1 : Hid (totV part r who cur (l.take (k + 1)) = totV part r who cur (l.take (k + 1))) := rfl
      generalize hS1 : totV part r who cur (l.take (k + 1)) = S1 at HT hb1
      clear HE1
      have HE1 := Lib.hid hS1
      clear hS1
      generalize totV part r who cur (l.take k) = S0 at *
      clear hc hb HC HPB HB HCI hkl
      have hcnt : cntG r who cur (l.getD k po0) = (hasI r (l.getD k po0) && (decide ((l.getD k po0).1 = who) && decide ((instOf r (l.getD k po0)).1.2.1 = cur))) := rfl
      generalize cntG r who cur (l.getD k po0) = CN at *
      change Hid (∀ w', Grew w w' → Calls _ _ #[_, .int .i64 (l.getD k po0).2.1] w' fun e w'' => e = .returned (.tuple #[vIn (instOf r (l.getD k po0)), .bool (hasI r (l.getD k po0))]) ∧ Grew w' w'') at HI2
      generalize hasI r (l.getD k po0) = HS at *
      generalize instOf r (l.getD k po0) = x at *
      generalize l.getD k po0 = p at *
      obtain ⟨q1, q2, q3, q4⟩ := p
      have HPV : Hid (part (q1, q2, q3, q4) x = part (q1, q2, q3, q4) x) := rfl
      generalize part (q1, q2, q3, q4) x = V at *
      clear HPV
      obtain ⟨⟨t1, t2, t3, t4, t5, t6⟩, ⟨s1, s2, s3, s4, s5, s6⟩⟩ := x
      dsimp only [vPo, vIn, wvV] at a0 a1 a2 a3 HT HCC HI2 hcnt HPK
      have z0 := HZ.out.at 0 (.int .i64 (hi64 S0)) rfl
      have z1 := HZ.out.at 1 (.int .u64 (lo64 S0)) rfl
      have r0 := HR.out.at 0 (.slice A1 n1 c1) rfl; have r1 := HR.out.at 1 (.slice A2 n2 c2) rfl; have r2 := HR.out.at 2 (.slice A3 n3 c3) rfl
      by_cases hw : q1 = who
      · have d1 : (q1 != who) = false := by rw [hw]; simp
        rw [decide_eq_true hw, Bool.true_and] at hcnt
        clear hw
        have HR1 := Lib.hid (HR.out.keep (grew_alloc wr #[.int .i64 q1, .int .i64 q2, .int .i64 q3, .int .i64 q4] 111))
        have HY1 := Lib.hid (HY.out.keep (grew_alloc wr #[.int .i64 q1, .int .i64 q2, .int .i64 q3, .int .i64 q4] 111))
        have HZ1 := Lib.hid (HZ.out.keep (grew_alloc wr #[.int .i64 q1, .int .i64 q2, .int .i64 q3, .int .i64 q4] 111))
        have HP1 : Hid (OwnC (wr.alloc (.cells #[.int .i64 q1, .int .i64 q2, .int .i64 q3, .int .i64 q4] 111)) wr.heap.size [.int .i64 q1, .int .i64 q2, .int .i64 q3, .int .i64 q4]) := OwnC.new wr [.int .i64 q1, .int .i64 q2, .int .i64 q3, .int .i64 q4] _ _ rfl
        have HG1 := Lib.hid (grew_trans HG.out (grew_alloc wr #[.int .i64 q1, .int .i64 q2, .int .i64 q3, .int .i64 q4] 111))
        clear HR HY HZ HG
        go_upto_region 5 with (fail)
        generalize hwp : (wr.alloc (.cells #[.int .i64 q1, .int .i64 q2, .int .i64 q3, .int .i64 q4] 111)) = wp at *
        have hpb : w.heap.size + 1 + 1 < wr.heap.size := hlt2
        clear hwp z0 z1 r0 r1 r2 hlt2
        generalize wr.heap.size = pb at *
        have r0 := HR1.out.at 0 (.slice A1 n1 c1) rfl; have r1 := HR1.out.at 1 (.slice A2 n2 c2) rfl; have r2 := HR1.out.at 2 (.slice A3 n3 c3) rfl
        have p0 := HP1.out.at 0 (.int .i64 q1) rfl; have p1 := HP1.out.at 1 (.int .i64 q2) rfl
        cases HS
        · have hS : S1 = S0 := by rw [HT.out, hcnt]; simp
          subst hS
          clear HT HCC HPK hcnt
          go_wp2_with (go_at_call 132; ((with_reducible refine (HI2.out _ HG1.out).mono ?_); rintro e w1 ⟨rfl, hg⟩; have HR2 := Lib.hid (HR1.out.keep hg); have HY2 := Lib.hid (HY1.out.keep hg); have HZ2 := Lib.hid (HZ1.out.keep hg); have HP2 := Lib.hid (HP1.out.keep hg); have HG2 := Lib.hid (grew_trans HG1.out hg); have hl2 := HP2.out.lt; clear hg HR1 HY1 HZ1 HP1 HG1))
          have HR3 := Lib.hid (HR2.out.keep (grew_alloc w1 #[.int .i64 t1, .int .i64 t2, .int .i64 t3, .int .i64 t4, .int .i64 t5, .int .i64 t6, .int .i64 s1, .int .i64 s2, .int .i64 s3, .int .i64 s4, .int .i64 s5, .int .i64 s6] 105))
          have HY3 := Lib.hid (HY2.out.keep (grew_alloc w1 #[.int .i64 t1, .int .i64 t2, .int .i64 t3, .int .i64 t4, .int .i64 t5, .int .i64 t6, .int .i64 s1, .int .i64 s2, .int .i64 s3, .int .i64 s4, .int .i64 s5, .int .i64 s6] 105))
          have HZ3 := Lib.hid (HZ2.out.keep (grew_alloc w1 #[.int .i64 t1, .int .i64 t2, .int .i64 t3, .int .i64 t4, .int .i64 t5, .int .i64 t6, .int .i64 s1, .int .i64 s2, .int .i64 s3, .int .i64 s4, .int .i64 s5, .int .i64 s6] 105))
          have HG3 := Lib.hid (grew_trans HG2.out (grew_alloc w1 #[.int .i64 t1, .int .i64 t2, .int .i64 t3, .int .i64 t4, .int .i64 t5, .int .i64 t6, .int .i64 s1, .int .i64 s2, .int .i64 s3, .int .i64 s4, .int .i64 s5, .int .i64 s6] 105))
          clear HR2 HY2 HZ2 HG2 HP2
          go_roundw
          case rel => exact ⟨k + 1, by go_num, by omega, HR3.out, HY3.out, (by rw [HE1.out]; exact HZ3.out), HG3.out⟩
          case measure => simp only [intOf]; omega
        · by_cases hcu : t2 = cur
          · have d2 : (t2 == cur) = true := by rw [hcu]; simp
            have hS : S1 = S0 + V := by rw [HT.out, hcnt, decide_eq_true hcu]; simp
            rw [decide_eq_true hcu, Bool.true_and] at hcnt
            have hV := HPK.out hcnt
            clear HPK hcnt HT hcu
            have CF := fun w' g => HCC.out rfl w' g
            have wX : isWide S0 = true := isWide_abs (by omega)
            have wY : isWide V = true := isWide_abs (by omega)
            have wV : isWide S1 = true := isWide_abs (by omega)
            have CS := fun w w' N hN g => wsum2_any S0 V S1 _ _ _ _ _ _ w w' N hN g wX wY wV hS.symm rfl rfl rfl rfl rfl rfl
            clear wX wY wV hS hV hb0 hb1 HCC
            generalize hi64 V = v1 at *
            generalize lo64 V = v2 at *
            generalize hi64 S0 = x1 at *
            generalize lo64 S0 = x2 at *
            obtain ⟨y1, hy1⟩ : ∃ y, hi64 S1 = y := ⟨_, rfl⟩
            obtain ⟨y2, hy2⟩ : ∃ y, lo64 S1 = y := ⟨_, rfl⟩
            rw [hy1, hy2] at CS
            have HY9 := Lib.hid hy1
            have HY8 := Lib.hid hy2
            clear hy1 hy2
            go_upto_region 8 with (go_at_call 132; ((with_reducible refine (HI2.out _ HG1.out).mono ?_); rintro e w1 ⟨rfl, hg⟩; have HR2 := Lib.hid (HR1.out.keep hg); have HY2 := Lib.hid (HY1.out.keep hg); have HZ2 := Lib.hid (HZ1.out.keep hg); have HP2 := Lib.hid (HP1.out.keep hg); have HG2 := Lib.hid (grew_trans HG1.out hg); have hl2 := HP2.out.lt; clear hg HR1 HY1 HZ1 HP1 HG1))
            have HR3 := Lib.hid (HR2.out.keep (grew_alloc w1 #[.int .i64 t1, .int .i64 t2, .int .i64 t3, .int .i64 t4, .int .i64 t5, .int .i64 t6, .int .i64 s1, .int .i64 s2, .int .i64 s3, .int .i64 s4, .int .i64 s5, .int .i64 s6] 105))
            have HY3 := Lib.hid (HY2.out.keep (grew_alloc w1 #[.int .i64 t1, .int .i64 t2, .int .i64 t3, .int .i64 t4, .int .i64 t5, .int .i64 t6, .int .i64 s1, .int .i64 s2, .int .i64 s3, .int .i64 s4, .int .i64 s5, .int .i64 s6] 105))
            have HZ3 := Lib.hid (HZ2.out.keep (grew_alloc w1 #[.int .i64 t1, .int .i64 t2, .int .i64 t3, .int .i64 t4, .int .i64 t5, .int .i64 t6, .int .i64 s1, .int .i64 s2, .int .i64 s3, .int .i64 s4, .int .i64 s5, .int .i64 s6] 105))
            have HP3 := Lib.hid (HP2.out.keep (grew_alloc w1 #[.int .i64 t1, .int .i64 t2, .int .i64 t3, .int .i64 t4, .int .i64 t5, .int .i64 t6, .int .i64 s1, .int .i64 s2, .int .i64 s3, .int .i64 s4, .int .i64 s5, .int .i64 s6] 105))
            have HG3 := Lib.hid (grew_trans HG2.out (grew_alloc w1 #[.int .i64 t1, .int .i64 t2, .int .i64 t3, .int .i64 t4, .int .i64 t5, .int .i64 t6, .int .i64 s1, .int .i64 s2, .int .i64 s3, .int .i64 s4, .int .i64 s5, .int .i64 s6] 105))
            have HI3 : Hid (OwnC (w1.alloc (.cells #[.int .i64 t1, .int .i64 t2, .int .i64 t3, .int .i64 t4, .int .i64 t5, .int .i64 t6, .int .i64 s1, .int .i64 s2, .int .i64 s3, .int .i64 s4, .int .i64 s5, .int .i64 s6] 105)) w1.heap.size [.int .i64 t1, .int .i64 t2, .int .i64 t3, .int .i64 t4, .int .i64 t5, .int .i64 t6, .int .i64 s1, .int .i64 s2, .int .i64 s3, .int .i64 s4, .int .i64 s5, .int .i64 s6]) := OwnC.new w1 [.int .i64 t1, .int .i64 t2, .int .i64 t3, .int .i64 t4, .int .i64 t5, .int .i64 t6, .int .i64 s1, .int .i64 s2, .int .i64 s3, .int .i64 s4, .int .i64 s5, .int .i64 s6] _ _ rfl
            clear HR2 HY2 HZ2 HG2 HP2 p0 p1 r0 r1 r2
            generalize (w1.alloc (.cells #[.int .i64 t1, .int .i64 t2, .int .i64 t3, .int .i64 t4, .int .i64 t5, .int .i64 t6, .int .i64 s1, .int .i64 s2, .int .i64 s3, .int .i64 s4, .int .i64 s5, .int .i64 s6] 105)) = w3 at *
            have hib : w.heap.size + 1 + 1 < w1.heap.size := by have := hl2; omega
            clear hl2
            generalize w1.heap.size = ib at *
            have HSO : Hid (∀ w', OwnC w' pb [.int .i64 q1, .int .i64 q2, .int .i64 q3, .int .i64 q4] → OwnC w' ib [.int .i64 t1, .int .i64 t2, .int .i64 t3, .int .i64 t4, .int .i64 t5, .int .i64 t6, .int .i64 s1, .int .i64 s2, .int .i64 s3, .int .i64 s4, .int .i64 s5, .int .i64 s6] → w'.cell? ⟨pb, 0, none⟩ = some (.int .i64 q1) ∧ w'.cell? ⟨pb, 1, none⟩ = some (.int .i64 q2) ∧ w'.cell? ⟨pb, 2, none⟩ = some (.int .i64 q3) ∧ w'.cell? ⟨pb, 3, none⟩ = some (.int .i64 q4) ∧ w'.cell? ⟨ib, 0, none⟩ = some (.int .i64 t1) ∧ w'.cell? ⟨ib, 1, none⟩ = some (.int .i64 t2) ∧ w'.cell? ⟨ib, 2, none⟩ = some (.int .i64 t3) ∧ w'.cell? ⟨ib, 3, none⟩ = some (.int .i64 t4) ∧ w'.cell? ⟨ib, 4, none⟩ = some (.int .i64 t5) ∧ w'.cell? ⟨ib, 5, none⟩ = some (.int .i64 t6) ∧ w'.cell? ⟨ib, 6, none⟩ = some (.int .i64 s1) ∧ w'.cell? ⟨ib, 7, none⟩ = some (.int .i64 s2) ∧ w'.cell? ⟨ib, 8, none⟩ = some (.int .i64 s3) ∧ w'.cell? ⟨ib, 9, none⟩ = some (.int .i64 s4) ∧ w'.cell? ⟨ib, 10, none⟩ = some (.int .i64 s5) ∧ w'.cell? ⟨ib, 11, none⟩ = some (.int .i64 s6)) := fun w' h1 h2 => ⟨h1.at 0 _ rfl, h1.at 1 _ rfl, h1.at 2 _ rfl, h1.at 3 _ rfl, h2.at 0 _ rfl, h2.at 1 _ rfl, h2.at 2 _ rfl, h2.at 3 _ rfl, h2.at 4 _ rfl, h2.at 5 _ rfl, h2.at 6 _ rfl, h2.at 7 _ rfl, h2.at 8 _ rfl, h2.at 9 _ rfl, h2.at 10 _ rfl, h2.at 11 _ rfl⟩
            have HS : Hid (∀ w', Grew w3 w' → w'.cell? ⟨pb, 0, none⟩ = some (.int .i64 q1) ∧ w'.cell? ⟨pb, 1, none⟩ = some (.int .i64 q2) ∧ w'.cell? ⟨pb, 2, none⟩ = some (.int .i64 q3) ∧ w'.cell? ⟨pb, 3, none⟩ = some (.int .i64 q4) ∧ w'.cell? ⟨ib, 0, none⟩ = some (.int .i64 t1) ∧ w'.cell? ⟨ib, 1, none⟩ = some (.int .i64 t2) ∧ w'.cell? ⟨ib, 2, none⟩ = some (.int .i64 t3) ∧ w'.cell? ⟨ib, 3, none⟩ = some (.int .i64 t4) ∧ w'.cell? ⟨ib, 4, none⟩ = some (.int .i64 t5) ∧ w'.cell? ⟨ib, 5, none⟩ = some (.int .i64 t6) ∧ w'.cell? ⟨ib, 6, none⟩ = some (.int .i64 s1) ∧ w'.cell? ⟨ib, 7, none⟩ = some (.int .i64 s2) ∧ w'.cell? ⟨ib, 8, none⟩ = some (.int .i64 s3) ∧ w'.cell? ⟨ib, 9, none⟩ = some (.int .i64 s4) ∧ w'.cell? ⟨ib, 10, none⟩ = some (.int .i64 s5) ∧ w'.cell? ⟨ib, 11, none⟩ = some (.int .i64 s6)) := fun w' g => HSO.out w' (HP3.out.keep g) (HI3.out.keep g)
            have HNP : Hid (pb ≠ w.heap.size + 1 + 1) := by show _ ≠ _; omega
            have HNI : Hid (ib ≠ w.heap.size + 1 + 1) := by show _ ≠ _; omega
            have z0 := HZ3.out.drew.at 0 (.int .i64 x1) rfl
            have z1 := HZ3.out.drew.at 1 (.int .u64 x2) rfl
            obtain ⟨p0, p1, p2, p3, i0', i1', i2', i3', i4', i5', i6', i7', i8', i9', i10', i11'⟩ := HS.out _ (grew_drew (grew_refl w3))
            go_region_with (first
              | ((with_reducible refine (CF _ (grew_trans HG3.out (grew_drew (grew_refl _)))).mono ?_); rintro e w4 ⟨rfl, hg⟩; have HG4 : Hid (Grew w3 w4) := grew_trans (grew_drew (grew_refl _)) hg; have HZ4 := Lib.hid (HZ3.out.keep HG4.out); have z0' := HZ4.out.at 0 (.int .i64 x1) rfl; have z1' := HZ4.out.at 1 (.int .u64 x2) rfl; clear hg)
              | (go_at_call 94; (with_reducible refine (CS _ _ _ rfl (grew_refl _)).mono ?_); rintro e w5 ⟨rfl, hg⟩; have HG5 : Hid (Grew w3 w5) := grew_trans HG4.out (grew_trans (grew_alloc _ _ _) hg); have HZ5 := Lib.hid (HZ3.out.keep HG5.out); have y0 := HZ5.out.at 0 (.int .i64 x1) rfl; have y1' := HZ5.out.at 1 (.int .u64 x2) rfl; have f0 := HZ5.out.fr 0 (by simp); have f1 := HZ5.out.fr 1 (by simp); clear hg))
            all_goals
              (refine end_keep (w := w) (c := w.heap.size) (d := w.heap.size + 1) (P := Exit.inBlock 1 _ Exit.normal _) [.int .i64 y1, .int .u64 y2] (by rfl) HZ5.out (grew_trans HG3.out HG5.out) (by omega) (HR3.out.keep HG5.out) (by omega) (HY3.out.keep HG5.out) (by omega) ?_
               intro w6 h6 hr6 hy6 g6
               have HZ6 := Lib.hid h6
               have HR6 := Lib.hid hr6
               have HY6 := Lib.hid hy6
               have HG6 := Lib.hid g6
               clear h6 hr6 hy6 g6
               simp only [Exit.inBlock, Exit.then]
               apply_assumption
               go_wp2
               go_roundw
               case rel => exact ⟨k + 1, by go_num, by omega, HR6.out, HY6.out, (by rw [HE1.out, HY9.out, HY8.out]; exact HZ6.out), HG6.out⟩
               case measure => simp only [intOf]; omega)
          · have d2 : (t2 == cur) = false := by simpa using hcu
            have hS : S1 = S0 := by rw [HT.out, hcnt, decide_eq_false hcu]; simp
            subst hS
            clear HT HCC HPK hcnt hcu
            go_wp2_with (go_at_call 132; ((with_reducible refine (HI2.out _ HG1.out).mono ?_); rintro e w1 ⟨rfl, hg⟩; have HR2 := Lib.hid (HR1.out.keep hg); have HY2 := Lib.hid (HY1.out.keep hg); have HZ2 := Lib.hid (HZ1.out.keep hg); have HP2 := Lib.hid (HP1.out.keep hg); have HG2 := Lib.hid (grew_trans HG1.out hg); have hl2 := HP2.out.lt; clear hg HR1 HY1 HZ1 HP1 HG1))
            have HR3 := Lib.hid (HR2.out.keep (grew_alloc w1 #[.int .i64 t1, .int .i64 t2, .int .i64 t3, .int .i64 t4, .int .i64 t5, .int .i64 t6, .int .i64 s1, .int .i64 s2, .int .i64 s3, .int .i64 s4, .int .i64 s5, .int .i64 s6] 105))
            have HY3 := Lib.hid (HY2.out.keep (grew_alloc w1 #[.int .i64 t1, .int .i64 t2, .int .i64 t3, .int .i64 t4, .int .i64 t5, .int .i64 t6, .int .i64 s1, .int .i64 s2, .int .i64 s3, .int .i64 s4, .int .i64 s5, .int .i64 s6] 105))
            have HZ3 := Lib.hid (HZ2.out.keep (grew_alloc w1 #[.int .i64 t1, .int .i64 t2, .int .i64 t3, .int .i64 t4, .int .i64 t5, .int .i64 t6, .int .i64 s1, .int .i64 s2, .int .i64 s3, .int .i64 s4, .int .i64 s5, .int .i64 s6] 105))
            have HG3 := Lib.hid (grew_trans HG2.out (grew_alloc w1 #[.int .i64 t1, .int .i64 t2, .int .i64 t3, .int .i64 t4, .int .i64 t5, .int .i64 t6, .int .i64 s1, .int .i64 s2, .int .i64 s3, .int .i64 s4, .int .i64 s5, .int .i64 s6] 105))
            clear HR2 HY2 HZ2 HG2 HP2
            go_roundw
            case rel => exact ⟨k + 1, by go_num, by omega, HR3.out, HY3.out, (by rw [HE1.out]; exact HZ3.out), HG3.out⟩
            case measure => simp only [intOf]; omega
      · have d1 : (q1 != who) = true := bne_iff_ne.2 hw
        have hS : S1 = S0 := by rw [HT.out, hcnt, decide_eq_false hw]; simp
        subst hS
        have HR1 := Lib.hid (HR.out.keep (grew_alloc wr #[.int .i64 q1, .int .i64 q2, .int .i64 q3, .int .i64 q4] 111))
        have HY1 := Lib.hid (HY.out.keep (grew_alloc wr #[.int .i64 q1, .int .i64 q2, .int .i64 q3, .int .i64 q4] 111))
        have HZ1 := Lib.hid (HZ.out.keep (grew_alloc wr #[.int .i64 q1, .int .i64 q2, .int .i64 q3, .int .i64 q4] 111))
        have HG1 := Lib.hid (grew_trans HG.out (grew_alloc wr #[.int .i64 q1, .int .i64 q2, .int .i64 q3, .int .i64 q4] 111))
        clear HT HCC HI2 HPK hcnt
        go_wp2
        go_roundw
        case rel => exact ⟨k + 1, by go_num, by omega, HR1.out, HY1.out, (by rw [HE1.out]; exact HZ1.out), HG1.out⟩
        case measure => simp only [intOf]; omega
    · obtain rfl : k = n := by omega
      have hz := HZ.out
      rw [List.take_of_length_le (Nat.le_of_eq HL.out)] at hz
      clear HB HPB HC HCI HZ
      obtain ⟨S, hSe⟩ : ∃ S, totV part r who cur l = S := ⟨_, rfl⟩
      rw [hSe] at hz
      have HSe := Lib.hid hSe
      clear hSe
      have z0 := hz.at 0 _ rfl
      have z1 := hz.at 1 _ rfl
      have y0 := HY.out.at 0 _ rfl
      have y1 := HY.out.at 1 _ rfl
      have f0 := HY.out.fr 0 (by simp)
      have f1 := HY.out.fr 1 (by simp)
      go_wp2
      refine end_put (w := w) (P := bodyPost _ _ _ _ _) [.int .i64 (hi64 S), .int .u64 (lo64 S)] (by rfl) HY.out HG.out (by omega) ?_
      intro w5 h5 g5
      have z0 := h5.at 0 _ rfl
      have z1 := h5.at 1 _ rfl
      exact bodyPost_ret (v := .agg #[.int .i64 (hi64 S), .int .u64 (lo64 S)]) (by simp [results, Tryz.results90, go_sem, z0, z1]) rfl ⟨by rw [HSe.out], g5⟩
end Go.Proofs.YtodnllopokoicaaGreat.NumK
