/- call.Meet: what is brought. -/
import Derived.Test.YtaipgcckafbgeaaRG5
import Derived.Deep.RegionHeld3
import Derived.Test.YtaipgcckafbgeaaRG4
import Derived.Test.YtaipgcckafbgeaaRG2
import Derived.Deep.CutBlock
import Derived.Deep.Slices
import Derived.Deep.RegionWith
import Derived.Test.YtaipgcckafbgeaaRG3
import Derived.Lib.Walk
import Derived.Lib.SliceRun
namespace Go.Proofs.Ytaipgcckafbgeaa.NumK
open Go.RowKit
set_option linter.unusedVariables false

def MeetPost (l : List Ca) (d : Du) (w : World) (e : Ending) (w' : World) : Prop := ∃ v, e = .returned (.tuple #[v, .int .i64 (meetE l d)]) ∧ OwnE enC4 w' w.heap.size 32 v (meetL l d) ∧ Grew w w'
theorem meet_14 {l : List Ca} {d : Du} (h : rightCa l = false) : meetE l d = 14 := by unfold meetE; rw [h]; rfl
theorem meet_3 {l : List Ca} {d : Du} (h : rightCa l = true) (h2 : okDu d = false) : meetE l d = 3 := by
  unfold meetE; rw [if_pos h, if_neg]
  rw [h2]; decide
theorem meet_0 {l : List Ca} {d : Du} (h : rightCa l = true) (h2 : okDu d = true) : meetE l d = 0 := by
  unfold meetE; rw [if_pos h, if_pos h2]
theorem meetL_no {l : List Ca} {d : Du} (h : meetE l d ≠ 0) : meetL l d = [] := by unfold meetL; rw [if_neg h]
theorem MeetPost.no {l : List Ca} {d : Du} {k : Int} {w w' : World} (h : meetE l d = k) (hk : k ≠ 0) (g : Grew w w') : MeetPost l d w (.returned (.tuple #[.slice none 0 0, .int .i64 k])) w' :=
  ⟨_, by rw [h], by rw [meetL_no (by rw [h]; exact hk)]; exact OwnE.nil _ _ _ _, g⟩
theorem of_in {l : List Ca} (h : rightCa l = true) (w c : Int) : 0 ≤ ofC l w c ∧ ofC l w c ≤ 4611686018427387904 := by
  unfold ofC amC
  cases e : findC l w c with
  | none => simp
  | some x => have := (okCa_iff x).1 (((rightCa_iff l).1 h).1 x (find_in e).1); simp only; omega
/-- What is brought is what is asked, less it. -/
theorem ask_meet {l : List Ca} {q1 q2 q3 m : Int} (h : rightCa l = true) (h2 : okDu (q1, q2, q3) = true) (hm : m = max0 (ofC l q1 q2 - q3)) : askE l (q1, q2, m) 0 = 0 ∧ askL l (q1, q2, m) 0 = meetL l (q1, q2, q3) := by
  have h3 := (okDu_iff _).1 h2
  have h4 := of_in h q1 q2
  have hm2 : 0 ≤ m ∧ m ≤ 4611686018427387904 := by rw [hm]; unfold max0; simp only at h3; split <;> omega
  have h5 : askE l (q1, q2, m) 0 = 0 := askE_ok.2 ⟨h, (okDu_iff _).2 ⟨h3.1, hm2⟩, by decide⟩
  refine ⟨h5, ?_⟩
  unfold askL meetL
  rw [if_pos h5, if_pos (meet_0 h h2)]
  congr 1
  unfold askO meetO
  simp only
  unfold ofC amC at hm
  cases e : findC l q1 q2 with
  | none =>
    rw [e] at hm
    simp only at hm h3
    rw [if_pos (by rw [hm]; unfold max0; rw [if_pos (by omega)])]
  | some y =>
    rw [e] at hm
    obtain ⟨f1, f2, f3⟩ := find_in e
    simp only at hm f2 f3
    simp only
    unfold max0 at hm
    by_cases hc : y.2.2.1 - q3 ≤ 0
    · rw [if_pos hc] at hm
      rw [if_pos hm, if_pos hc]
    · rw [if_neg hc] at hm
      rw [if_neg (by omega), if_neg hc, f2, f3, hm]

set_option maxRecDepth 100000 in
set_option maxHeartbeats 4000000 in
theorem clmeet_any (A : Option Addr) (n c : Nat) (l : List Ca) (d : Du) (w : World) (h : RowE enC4 w A n l) (hA : A = none → c = 0) (hnc : n ≤ c) (hc : c ≤ 9223372036854775807) (hn : n ≤ 1000) :
    Calls Try.prog 17 #[.slice A n c, vDe d] w (MeetPost l d w) := by
  have HI := Lib.hid h
  have CK := fun w' (g : Grew w w') => clcheck_any A n c l w' (h.keep g) (by omega)
  have CP := fun w => clpermitted_any d w
  have CF := fun w' (g : Grew w w') => clof_any A n c l d.1 d.2.1 w' (h.keep g) (by omega)
  have CA := fun m w' (g : Grew w w') => clask_any A n c l (d.1, d.2.1, m) 0 w' (h.keep g) hA hnc hc hn
  have HE14 := Lib.hid (@meet_14 l d)
  have HE3 := Lib.hid (@meet_3 l d)
  have HE0 := Lib.hid (@meet_0 l d)
  have HNO := Lib.hid (fun k w' => @MeetPost.no l d k w w')
  have HOI := Lib.hid (fun (hr : rightCa l = true) => of_in hr d.1 d.2.1)
  have HAM := Lib.hid (fun (hr : rightCa l = true) (h2 : okDu (d.1, d.2.1, d.2.2) = true) m hm => @ask_meet l d.1 d.2.1 d.2.2 m hr h2 hm)
  have HDU := Lib.hid ((okDu_iff d).1)
  have HOK : Hid (meetE l d = 0 → ∀ v w', OwnE enC4 w' w.heap.size 32 v (meetL l d) → Grew w w' → MeetPost l d w (.returned (.tuple #[v, .int .i64 0])) w') := fun he v w' ho g => ⟨v, by rw [he], ho, g⟩
  generalize MeetPost l d w = Q at *
  clear h hA
  obtain ⟨q1, q2, q3⟩ := d
  dsimp only [vDe] at *
  have HX0 : Hid (OwnC (w.alloc (.cells #[.int .i64 q1, .int .i64 q2, .int .i64 q3] 24)) w.heap.size [.int .i64 q1, .int .i64 q2, .int .i64 q3]) := OwnC.new w [.int .i64 q1, .int .i64 q2, .int .i64 q3] _ _ rfl
  have HG0 : Hid (Grew w (w.alloc (.cells #[.int .i64 q1, .int .i64 q2, .int .i64 q3] 24))) := grew_alloc _ _ _
  go_enter Try.func17, Try.ntmps17
  go_upto_region 1 with (fail)
  generalize w.alloc (.cells #[.int .i64 q1, .int .i64 q2, .int .i64 q3] 24) = w0 at *
  have CK1 := CK w0 HG0.out
  clear CK
  by_cases h1 : rightCa l = true
  · rw [show chkC l = 0 by unfold chkC; rw [if_pos h1]] at CK1
    go_upto_region 4 with (go_at_call 9; ((with_reducible refine CK1.mono ?_); rintro e w2 ⟨rfl, hg⟩; have HX2 := Lib.hid (HX0.out.keep hg); have HG2 := Lib.hid (grew_trans HG0.out hg); clear hg CK1 HX0 HG0))
    have x0 := HX2.out.at 0 (.int .i64 q1) rfl; have x1 := HX2.out.at 1 (.int .i64 q2) rfl; have x2 := HX2.out.at 2 (.int .i64 q3) rfl
    by_cases h2 : okDu (q1, q2, q3) = true
    · rw [h2] at CP
      have hdu := HDU.out h2
      have HOK2 := Lib.hid (HOK.out (HE0.out h1 h2))
      have hoi := HOI.out h1
      have HAM2 := Lib.hid (HAM.out h1 h2)
      clear HE14 HE3 HE0 HNO HOI HAM HDU HOK h1 h2
      generalize ofC l q1 q2 = ul at *
      obtain ⟨nu, hnu⟩ : ∃ nu, nu = ul - q3 := ⟨_, rfl⟩
      have q5 : IntKind.i64.wrap (ul - q3) = nu := by rw [IntKind.wrap_i64, hnu]; omega
      go_upto_region 6 with (go_at_call 25; ((with_reducible refine (CP _).mono ?_); rintro e w3 ⟨rfl, hg⟩; have HX3 := Lib.hid (HX2.out.keep hg); have HG3 := Lib.hid (grew_trans HG2.out hg); clear hg CP HX2 HG2 x0 x1 x2))
      have HK : Hid (∀ w', Grew w3 w' → (w'.cell? ⟨w.heap.size, 0, none⟩ = some (.int .i64 q1) ∧ w'.cell? ⟨w.heap.size, 1, none⟩ = some (.int .i64 q2) ∧ w'.cell? ⟨w.heap.size, 2, none⟩ = some (.int .i64 q3) ∧ w'.frozen? ⟨w.heap.size, 2, none⟩ = false)) := fun w' g => ⟨(HX3.out.keep g).at 0 _ rfl, (HX3.out.keep g).at 1 _ rfl, (HX3.out.keep g).at 2 _ rfl, (HX3.out.keep g).fr 2 (by simp)⟩
      have HXK : Hid (∀ w' v, Grew w3 w' → OwnC (w'.setCell ⟨w.heap.size, 2, none⟩ v) w.heap.size [.int .i64 q1, .int .i64 q2, v] ∧ Grew w (w'.setCell ⟨w.heap.size, 2, none⟩ v)) := fun w' v g => ⟨(HX3.out.keep g).set 2 v (by simp), grew_set (grew_trans HG3.out g) v (Nat.le_refl _)⟩
      obtain ⟨y0, y1, y2, g2⟩ := HK.out _ (grew_refl _)
      have C1 := fun w' (g : Grew w3 w') => CF w' (grew_trans HG3.out g)
      clear CF HX3
      have CAM := fun m (hm : m = max0 (ul - q3)) w' (g : Grew w w') => CA m w' g
      clear CA
      rw [← hnu] at HAM2 CAM
      by_cases hz : (0 : Int) < nu
      · have HM := HAM2.out nu (by unfold max0; rw [if_neg (by omega)])
        have CA1 := CAM nu (by unfold max0; rw [if_neg (by omega)])
        rw [show (AskPost l (q1, q2, nu) 0) = (AskPost l (q1, q2, nu) 0) from rfl] at CA1
        have HEND : Hid (Hid True) := trivial
        clear HEND
        have HPO : Hid (∀ w5 e w6, Grew w w5 → AskPost l (q1, q2, nu) 0 w5 e w6 → ∃ v6, e = .returned (.tuple #[v6, .int .i64 0]) ∧ Q (.returned (.tuple #[v6, .int .i64 0])) w6) := fun w5 e w6 g hp => by
          obtain ⟨v6, rfl, ho, hg⟩ := hp
          rw [HM.1]
          rw [HM.2] at ho
          exact ⟨v6, rfl, HOK2.out v6 _ (ho.mono (grew_size g)) (grew_trans g hg)⟩
        clear HAM2 CAM HOK2 HM hnu
        have hmx : max 0 nu = nu := by omega
        generalize AskPost l (q1, q2, nu) 0 = AP at *
        refine wp_region_noPanic ?_
        generalize hN : w.heap.size = N at *
        refine wp_region_held_drew (S := fun w' => w'.cell? ⟨N, 0, none⟩ = some (.int .i64 q1) ∧ w'.cell? ⟨N, 1, none⟩ = some (.int .i64 q2)) (by kernel_rfl) ⟨y0, y1⟩ (fun hHeld => ?_)
        (refine wpAnyH_take (i := 0) (oi := { dst := some 15, op := Op.fieldAddr 24 (Operand.tmp 3) 0, type := 0, pos := "call.go:62", after := #[], guard := none }) (v := ?_) rfl (by kernel_rfl) (by kernel_rfl) (by kernel_rfl) (fun _ _ _ h => h) (Or.inl ⟨by rfl, ?_⟩) (by assumption) ?_; rotate_left; · (intro w hSw; (try dsimp only at hSw); skip; go_simp; (first | done | with_reducible rfl)))
        try simp only [Act.put, List.setIfInBounds_toArray, List.set_cons_zero, List.set_cons_succ]
        (refine wpAnyH_take (i := 1) (oi := { dst := some 16, op := Op.load 3 (Operand.tmp 15), type := 3, pos := "call.go:62", after := #[{ on := 0, ground := Ground.data }], guard := none }) (v := ?_) rfl (by kernel_rfl) (by kernel_rfl) (by kernel_rfl) (fun _ _ _ h => h) (Or.inl ⟨by rfl, ?_⟩) (by assumption) ?_; rotate_left; · (intro w hSw; (try dsimp only at hSw); skip; go_simp; (first | done | with_reducible rfl)))
        try simp only [Act.put, List.setIfInBounds_toArray, List.set_cons_zero, List.set_cons_succ]
        (refine wpAnyH_take (i := 2) (oi := { dst := some 17, op := Op.fieldAddr 24 (Operand.tmp 3) 1, type := 0, pos := "call.go:62", after := #[], guard := none }) (v := ?_) rfl (by kernel_rfl) (by kernel_rfl) (by kernel_rfl) (fun _ _ _ h => h) (Or.inl ⟨by rfl, ?_⟩) (by assumption) ?_; rotate_left; · (intro w hSw; (try dsimp only at hSw); skip; go_simp; (first | done | with_reducible rfl)))
        try simp only [Act.put, List.setIfInBounds_toArray, List.set_cons_zero, List.set_cons_succ]
        (refine wpAnyH_take (i := 3) (oi := { dst := some 18, op := Op.load 3 (Operand.tmp 17), type := 3, pos := "call.go:62", after := #[{ on := 2, ground := Ground.data }], guard := none }) (v := ?_) rfl (by kernel_rfl) (by kernel_rfl) (by kernel_rfl) (fun _ _ _ h => h) (Or.inl ⟨by rfl, ?_⟩) (by assumption) ?_; rotate_left; · (intro w hSw; (try dsimp only at hSw); skip; go_simp; (first | done | with_reducible rfl)))
        try simp only [Act.put, List.setIfInBounds_toArray, List.set_cons_zero, List.set_cons_succ]
        (refine wpAnyH_take (i := 4) (oi := { dst := some 19, op := Op.move (Operand.tmp 0), type := 22, pos := "call.go:62", after := #[], guard := none }) (v := ?_) rfl (by kernel_rfl) (by kernel_rfl) (by kernel_rfl) (fun _ _ _ h => h) (Or.inl ⟨by rfl, ?_⟩) (by assumption) ?_; rotate_left; · (intro w hSw; (try dsimp only at hSw); skip; go_simp; (first | done | with_reducible rfl)))
        try simp only [Act.put, List.setIfInBounds_toArray, List.set_cons_zero, List.set_cons_succ]
        (refine wpAnyH_take (i := 6) (oi := { dst := some 21, op := Op.fieldAddr 24 (Operand.tmp 3) 2, type := 0, pos := "call.go:62", after := #[], guard := none }) (v := ?_) rfl (by kernel_rfl) (by kernel_rfl) (by kernel_rfl) (fun _ _ _ h => h) (Or.inl ⟨by rfl, ?_⟩) (by assumption) ?_; rotate_left; · (intro w hSw; (try dsimp only at hSw); skip; go_simp; (first | done | with_reducible rfl)))
        try simp only [Act.put, List.setIfInBounds_toArray, List.set_cons_zero, List.set_cons_succ]
        refine wpAnyH_ready (rs := [5, 7]) (by kernel_rfl) (by simp) ?_
        refine (AllReadyH.cons (o := { dst := some 20, op := Op.call { callee := Callee.value (Operand.func 12), args := #[Operand.tmp 16, Operand.tmp 18, Operand.tmp 19], argTypes := #[3, 3, 22] }, type := 3, pos := "call.go:62", after := #[{ on := 1, ground := Ground.data }, { on := 3, ground := Ground.data }, { on := 4, ground := Ground.data }], guard := none }) rfl (fun K hK => ?_) (AllReadyH.cons (o := { dst := some 22, op := Op.load 3 (Operand.tmp 21), type := 3, pos := "call.go:62", after := #[{ on := 6, ground := Ground.data }], guard := none }) rfl (fun K hK => ?_) AllReadyH.nil))
        · go_simp
          (go_at_call 12; (with_reducible refine (C1 _ (grew_drew (grew_refl _))).mono ?_); rintro e w4 ⟨rfl, hg⟩)
          obtain ⟨x0, x1, x2, f2⟩ := HK.out _ (grew_trans (grew_drew (grew_refl _)) hg)
          have HG4 := Lib.hid (grew_trans (grew_drew (grew_refl _)) hg)
          clear hg
          refine hK.out _ _ ?_ (fun hHeld => ?_)
          · first
            | exact ⟨x0, x1⟩
          clear hK K
          try simp only [Act.put, List.setIfInBounds_toArray, List.set_cons_zero, List.set_cons_succ]
          refine wpAnyH_ready (rs := [7]) (by kernel_rfl) (by simp) ?_
          refine (AllReadyH.cons (o := { dst := some 22, op := Op.load 3 (Operand.tmp 21), type := 3, pos := "call.go:62", after := #[{ on := 6, ground := Ground.data }], guard := none }) rfl (fun K hK => ?_) AllReadyH.nil)
          go_simp
          refine hK.out _ _ ?_ (fun hHeld => ?_)
          · first
            | exact ⟨x0, x1⟩
            | exact ⟨y0, y1⟩
          clear hK K
          try simp only [Act.put, List.setIfInBounds_toArray, List.set_cons_zero, List.set_cons_succ]
          (refine wpAnyH_take (i := 8) (oi := { dst := some 23, op := Op.binOp BinOp.sub 3 (Operand.tmp 20) (Operand.tmp 22) 3, type := 3, pos := "call.go:62", after := #[{ on := 5, ground := Ground.data }, { on := 7, ground := Ground.data }], guard := none }) (v := ?_) rfl (by kernel_rfl) (by kernel_rfl) (by kernel_rfl) (fun _ _ _ h => h) (Or.inl ⟨by rfl, ?_⟩) (by assumption) ?_; rotate_left; · (intro w hSw; (try dsimp only at hSw); skip; go_simp; (first | done | with_reducible rfl)))
          try simp only [Act.put, List.setIfInBounds_toArray, List.set_cons_zero, List.set_cons_succ]
          refine wpAnyH_ready (rs := [9]) (by kernel_rfl) (by simp) ?_
          refine (AllReadyH.cons (o := { dst := some 24, op := Op.call { callee := Callee.builtin Builtin.max, args := #[Operand.const (Value.int IntKind.i64 0), Operand.tmp 23], argTypes := #[3, 3] }, type := 3, pos := "call.go:62", after := #[{ on := 8, ground := Ground.data }], guard := none }) rfl (fun K hK => ?_) AllReadyH.nil)
          go_simp
          try simp only [hmx]
          refine hK.out _ _ ?_ (fun hHeld => ?_)
          · first
            | exact ⟨x0, x1⟩
            | exact ⟨y0, y1⟩
          clear hK K
          try simp only [Act.put, List.setIfInBounds_toArray, List.set_cons_zero, List.set_cons_succ]
          (refine wpAnyH_take (i := 10) (oi := { dst := some 25, op := Op.fieldAddr 24 (Operand.tmp 3) 2, type := 0, pos := "call.go:62", after := #[{ on := 0, ground := Ground.phase }, { on := 1, ground := Ground.phase }, { on := 2, ground := Ground.phase }, { on := 3, ground := Ground.phase }, { on := 4, ground := Ground.phase }, { on := 5, ground := Ground.phase }, { on := 6, ground := Ground.phase }, { on := 7, ground := Ground.phase }, { on := 8, ground := Ground.phase }, { on := 9, ground := Ground.phase }], guard := none }) (v := ?_) rfl (by kernel_rfl) (by kernel_rfl) (by kernel_rfl) (fun _ _ _ h => h) (Or.inl ⟨by rfl, ?_⟩) (by assumption) ?_; rotate_left; · (intro w hSw; (try dsimp only at hSw); skip; go_simp; (first | done | with_reducible rfl)))
          try simp only [Act.put, List.setIfInBounds_toArray, List.set_cons_zero, List.set_cons_succ]
          refine wpAnyH_ready (rs := [11]) (by kernel_rfl) (by simp) ?_
          refine (AllReadyH.cons (o := { dst := none, op := Op.store 3 (Operand.tmp 25) (Operand.tmp 24), type := 0, pos := "call.go:62", after := #[{ on := 10, ground := Ground.data }, { on := 9, ground := Ground.data }, { on := 5, ground := Ground.chain }, { on := 0, ground := Ground.phase }, { on := 1, ground := Ground.phase }, { on := 2, ground := Ground.phase }, { on := 3, ground := Ground.phase }, { on := 4, ground := Ground.phase }, { on := 5, ground := Ground.phase }, { on := 6, ground := Ground.phase }, { on := 7, ground := Ground.phase }, { on := 8, ground := Ground.phase }, { on := 9, ground := Ground.phase }], guard := none }) rfl (fun K hK => ?_) AllReadyH.nil)
          go_simp
          refine hK.out _ _ ?_ (fun hHeld => ?_)
          · first
            | exact ⟨(World.cell?_setCell_other _ _ _ _ (by intro e; simp only [Addr.mk.injEq] at e; omega)).trans x0, (World.cell?_setCell_other _ _ _ _ (by intro e; simp only [Addr.mk.injEq] at e; omega)).trans x1⟩
          clear hK K
          try simp only [Act.put, List.setIfInBounds_toArray, List.set_cons_zero, List.set_cons_succ]
          refine wpAnyH_done (by kernel_rfl) ?_ _
          clear hHeld
          obtain ⟨HXE, HGE⟩ := HXK.out w4 (.int .i64 nu) HG4.out
          generalize w4.setCell ⟨N, 2, none⟩ (.int .i64 nu) = w5 at *
          clear x0 x1 x2 f2 y0 y1 y2 g2 HXK HK HG4
          have HXE := Lib.hid HXE
          have HGE := Lib.hid HGE
          have x0 := HXE.out.at 0 _ rfl; have x1 := HXE.out.at 1 _ rfl; have x2 := HXE.out.at 2 _ rfl
          apply_assumption
          go_wp2_with (go_at_call 13; ((with_reducible refine (CA1 _ HGE.out).mono ?_); intro e w6 hp; obtain ⟨v6, rfl, hq⟩ := HPO.out _ _ _ HGE.out hp; have HQ := Lib.hid hq; clear hp hq))
          exact HQ.out
        · go_simp
          refine hK.out _ _ ?_ (fun hHeld => ?_)
          · first
            | exact ⟨x0, x1⟩
            | exact ⟨y0, y1⟩
          clear hK K
          try simp only [Act.put, List.setIfInBounds_toArray, List.set_cons_zero, List.set_cons_succ]
          refine wpAnyH_ready (rs := [5]) (by kernel_rfl) (by simp) ?_
          refine (AllReadyH.cons (o := { dst := some 20, op := Op.call { callee := Callee.value (Operand.func 12), args := #[Operand.tmp 16, Operand.tmp 18, Operand.tmp 19], argTypes := #[3, 3, 22] }, type := 3, pos := "call.go:62", after := #[{ on := 1, ground := Ground.data }, { on := 3, ground := Ground.data }, { on := 4, ground := Ground.data }], guard := none }) rfl (fun K hK => ?_) AllReadyH.nil)
          go_simp
          (go_at_call 12; (with_reducible refine (C1 _ (grew_drew (grew_refl _))).mono ?_); rintro e w4 ⟨rfl, hg⟩)
          obtain ⟨x0, x1, x2, f2⟩ := HK.out _ (grew_trans (grew_drew (grew_refl _)) hg)
          have HG4 := Lib.hid (grew_trans (grew_drew (grew_refl _)) hg)
          clear hg
          refine hK.out _ _ ?_ (fun hHeld => ?_)
          · first
            | exact ⟨x0, x1⟩
          clear hK K
          try simp only [Act.put, List.setIfInBounds_toArray, List.set_cons_zero, List.set_cons_succ]
          (refine wpAnyH_take (i := 8) (oi := { dst := some 23, op := Op.binOp BinOp.sub 3 (Operand.tmp 20) (Operand.tmp 22) 3, type := 3, pos := "call.go:62", after := #[{ on := 5, ground := Ground.data }, { on := 7, ground := Ground.data }], guard := none }) (v := ?_) rfl (by kernel_rfl) (by kernel_rfl) (by kernel_rfl) (fun _ _ _ h => h) (Or.inl ⟨by rfl, ?_⟩) (by assumption) ?_; rotate_left; · (intro w hSw; (try dsimp only at hSw); skip; go_simp; (first | done | with_reducible rfl)))
          try simp only [Act.put, List.setIfInBounds_toArray, List.set_cons_zero, List.set_cons_succ]
          refine wpAnyH_ready (rs := [9]) (by kernel_rfl) (by simp) ?_
          refine (AllReadyH.cons (o := { dst := some 24, op := Op.call { callee := Callee.builtin Builtin.max, args := #[Operand.const (Value.int IntKind.i64 0), Operand.tmp 23], argTypes := #[3, 3] }, type := 3, pos := "call.go:62", after := #[{ on := 8, ground := Ground.data }], guard := none }) rfl (fun K hK => ?_) AllReadyH.nil)
          go_simp
          try simp only [hmx]
          refine hK.out _ _ ?_ (fun hHeld => ?_)
          · first
            | exact ⟨x0, x1⟩
            | exact ⟨y0, y1⟩
          clear hK K
          try simp only [Act.put, List.setIfInBounds_toArray, List.set_cons_zero, List.set_cons_succ]
          (refine wpAnyH_take (i := 10) (oi := { dst := some 25, op := Op.fieldAddr 24 (Operand.tmp 3) 2, type := 0, pos := "call.go:62", after := #[{ on := 0, ground := Ground.phase }, { on := 1, ground := Ground.phase }, { on := 2, ground := Ground.phase }, { on := 3, ground := Ground.phase }, { on := 4, ground := Ground.phase }, { on := 5, ground := Ground.phase }, { on := 6, ground := Ground.phase }, { on := 7, ground := Ground.phase }, { on := 8, ground := Ground.phase }, { on := 9, ground := Ground.phase }], guard := none }) (v := ?_) rfl (by kernel_rfl) (by kernel_rfl) (by kernel_rfl) (fun _ _ _ h => h) (Or.inl ⟨by rfl, ?_⟩) (by assumption) ?_; rotate_left; · (intro w hSw; (try dsimp only at hSw); skip; go_simp; (first | done | with_reducible rfl)))
          try simp only [Act.put, List.setIfInBounds_toArray, List.set_cons_zero, List.set_cons_succ]
          refine wpAnyH_ready (rs := [11]) (by kernel_rfl) (by simp) ?_
          refine (AllReadyH.cons (o := { dst := none, op := Op.store 3 (Operand.tmp 25) (Operand.tmp 24), type := 0, pos := "call.go:62", after := #[{ on := 10, ground := Ground.data }, { on := 9, ground := Ground.data }, { on := 5, ground := Ground.chain }, { on := 0, ground := Ground.phase }, { on := 1, ground := Ground.phase }, { on := 2, ground := Ground.phase }, { on := 3, ground := Ground.phase }, { on := 4, ground := Ground.phase }, { on := 5, ground := Ground.phase }, { on := 6, ground := Ground.phase }, { on := 7, ground := Ground.phase }, { on := 8, ground := Ground.phase }, { on := 9, ground := Ground.phase }], guard := none }) rfl (fun K hK => ?_) AllReadyH.nil)
          go_simp
          refine hK.out _ _ ?_ (fun hHeld => ?_)
          · first
            | exact ⟨(World.cell?_setCell_other _ _ _ _ (by intro e; simp only [Addr.mk.injEq] at e; omega)).trans x0, (World.cell?_setCell_other _ _ _ _ (by intro e; simp only [Addr.mk.injEq] at e; omega)).trans x1⟩
          clear hK K
          try simp only [Act.put, List.setIfInBounds_toArray, List.set_cons_zero, List.set_cons_succ]
          refine wpAnyH_done (by kernel_rfl) ?_ _
          clear hHeld
          obtain ⟨HXE, HGE⟩ := HXK.out w4 (.int .i64 nu) HG4.out
          generalize w4.setCell ⟨N, 2, none⟩ (.int .i64 nu) = w5 at *
          clear x0 x1 x2 f2 y0 y1 y2 g2 HXK HK HG4
          have HXE := Lib.hid HXE
          have HGE := Lib.hid HGE
          have x0 := HXE.out.at 0 _ rfl; have x1 := HXE.out.at 1 _ rfl; have x2 := HXE.out.at 2 _ rfl
          apply_assumption
          go_wp2_with (go_at_call 13; ((with_reducible refine (CA1 _ HGE.out).mono ?_); intro e w6 hp; obtain ⟨v6, rfl, hq⟩ := HPO.out _ _ _ HGE.out hp; have HQ := Lib.hid hq; clear hp hq))
          exact HQ.out
      · have HM := HAM2.out 0 (by unfold max0; rw [if_pos (by omega)])
        have CA1 := CAM 0 (by unfold max0; rw [if_pos (by omega)])
        rw [show (AskPost l (q1, q2, 0) 0) = (AskPost l (q1, q2, 0) 0) from rfl] at CA1
        have HEND : Hid (Hid True) := trivial
        clear HEND
        have HPO : Hid (∀ w5 e w6, Grew w w5 → AskPost l (q1, q2, 0) 0 w5 e w6 → ∃ v6, e = .returned (.tuple #[v6, .int .i64 0]) ∧ Q (.returned (.tuple #[v6, .int .i64 0])) w6) := fun w5 e w6 g hp => by
          obtain ⟨v6, rfl, ho, hg⟩ := hp
          rw [HM.1]
          rw [HM.2] at ho
          exact ⟨v6, rfl, HOK2.out v6 _ (ho.mono (grew_size g)) (grew_trans g hg)⟩
        clear HAM2 CAM HOK2 HM hnu
        have hmx : max 0 nu = 0 := by omega
        generalize AskPost l (q1, q2, 0) 0 = AP at *
        refine wp_region_noPanic ?_
        generalize hN : w.heap.size = N at *
        refine wp_region_held_drew (S := fun w' => w'.cell? ⟨N, 0, none⟩ = some (.int .i64 q1) ∧ w'.cell? ⟨N, 1, none⟩ = some (.int .i64 q2)) (by kernel_rfl) ⟨y0, y1⟩ (fun hHeld => ?_)
        (refine wpAnyH_take (i := 0) (oi := { dst := some 15, op := Op.fieldAddr 24 (Operand.tmp 3) 0, type := 0, pos := "call.go:62", after := #[], guard := none }) (v := ?_) rfl (by kernel_rfl) (by kernel_rfl) (by kernel_rfl) (fun _ _ _ h => h) (Or.inl ⟨by rfl, ?_⟩) (by assumption) ?_; rotate_left; · (intro w hSw; (try dsimp only at hSw); skip; go_simp; (first | done | with_reducible rfl)))
        try simp only [Act.put, List.setIfInBounds_toArray, List.set_cons_zero, List.set_cons_succ]
        (refine wpAnyH_take (i := 1) (oi := { dst := some 16, op := Op.load 3 (Operand.tmp 15), type := 3, pos := "call.go:62", after := #[{ on := 0, ground := Ground.data }], guard := none }) (v := ?_) rfl (by kernel_rfl) (by kernel_rfl) (by kernel_rfl) (fun _ _ _ h => h) (Or.inl ⟨by rfl, ?_⟩) (by assumption) ?_; rotate_left; · (intro w hSw; (try dsimp only at hSw); skip; go_simp; (first | done | with_reducible rfl)))
        try simp only [Act.put, List.setIfInBounds_toArray, List.set_cons_zero, List.set_cons_succ]
        (refine wpAnyH_take (i := 2) (oi := { dst := some 17, op := Op.fieldAddr 24 (Operand.tmp 3) 1, type := 0, pos := "call.go:62", after := #[], guard := none }) (v := ?_) rfl (by kernel_rfl) (by kernel_rfl) (by kernel_rfl) (fun _ _ _ h => h) (Or.inl ⟨by rfl, ?_⟩) (by assumption) ?_; rotate_left; · (intro w hSw; (try dsimp only at hSw); skip; go_simp; (first | done | with_reducible rfl)))
        try simp only [Act.put, List.setIfInBounds_toArray, List.set_cons_zero, List.set_cons_succ]
        (refine wpAnyH_take (i := 3) (oi := { dst := some 18, op := Op.load 3 (Operand.tmp 17), type := 3, pos := "call.go:62", after := #[{ on := 2, ground := Ground.data }], guard := none }) (v := ?_) rfl (by kernel_rfl) (by kernel_rfl) (by kernel_rfl) (fun _ _ _ h => h) (Or.inl ⟨by rfl, ?_⟩) (by assumption) ?_; rotate_left; · (intro w hSw; (try dsimp only at hSw); skip; go_simp; (first | done | with_reducible rfl)))
        try simp only [Act.put, List.setIfInBounds_toArray, List.set_cons_zero, List.set_cons_succ]
        (refine wpAnyH_take (i := 4) (oi := { dst := some 19, op := Op.move (Operand.tmp 0), type := 22, pos := "call.go:62", after := #[], guard := none }) (v := ?_) rfl (by kernel_rfl) (by kernel_rfl) (by kernel_rfl) (fun _ _ _ h => h) (Or.inl ⟨by rfl, ?_⟩) (by assumption) ?_; rotate_left; · (intro w hSw; (try dsimp only at hSw); skip; go_simp; (first | done | with_reducible rfl)))
        try simp only [Act.put, List.setIfInBounds_toArray, List.set_cons_zero, List.set_cons_succ]
        (refine wpAnyH_take (i := 6) (oi := { dst := some 21, op := Op.fieldAddr 24 (Operand.tmp 3) 2, type := 0, pos := "call.go:62", after := #[], guard := none }) (v := ?_) rfl (by kernel_rfl) (by kernel_rfl) (by kernel_rfl) (fun _ _ _ h => h) (Or.inl ⟨by rfl, ?_⟩) (by assumption) ?_; rotate_left; · (intro w hSw; (try dsimp only at hSw); skip; go_simp; (first | done | with_reducible rfl)))
        try simp only [Act.put, List.setIfInBounds_toArray, List.set_cons_zero, List.set_cons_succ]
        refine wpAnyH_ready (rs := [5, 7]) (by kernel_rfl) (by simp) ?_
        refine (AllReadyH.cons (o := { dst := some 20, op := Op.call { callee := Callee.value (Operand.func 12), args := #[Operand.tmp 16, Operand.tmp 18, Operand.tmp 19], argTypes := #[3, 3, 22] }, type := 3, pos := "call.go:62", after := #[{ on := 1, ground := Ground.data }, { on := 3, ground := Ground.data }, { on := 4, ground := Ground.data }], guard := none }) rfl (fun K hK => ?_) (AllReadyH.cons (o := { dst := some 22, op := Op.load 3 (Operand.tmp 21), type := 3, pos := "call.go:62", after := #[{ on := 6, ground := Ground.data }], guard := none }) rfl (fun K hK => ?_) AllReadyH.nil))
        · go_simp
          (go_at_call 12; (with_reducible refine (C1 _ (grew_drew (grew_refl _))).mono ?_); rintro e w4 ⟨rfl, hg⟩)
          obtain ⟨x0, x1, x2, f2⟩ := HK.out _ (grew_trans (grew_drew (grew_refl _)) hg)
          have HG4 := Lib.hid (grew_trans (grew_drew (grew_refl _)) hg)
          clear hg
          refine hK.out _ _ ?_ (fun hHeld => ?_)
          · first
            | exact ⟨x0, x1⟩
          clear hK K
          try simp only [Act.put, List.setIfInBounds_toArray, List.set_cons_zero, List.set_cons_succ]
          refine wpAnyH_ready (rs := [7]) (by kernel_rfl) (by simp) ?_
          refine (AllReadyH.cons (o := { dst := some 22, op := Op.load 3 (Operand.tmp 21), type := 3, pos := "call.go:62", after := #[{ on := 6, ground := Ground.data }], guard := none }) rfl (fun K hK => ?_) AllReadyH.nil)
          go_simp
          refine hK.out _ _ ?_ (fun hHeld => ?_)
          · first
            | exact ⟨x0, x1⟩
            | exact ⟨y0, y1⟩
          clear hK K
          try simp only [Act.put, List.setIfInBounds_toArray, List.set_cons_zero, List.set_cons_succ]
          (refine wpAnyH_take (i := 8) (oi := { dst := some 23, op := Op.binOp BinOp.sub 3 (Operand.tmp 20) (Operand.tmp 22) 3, type := 3, pos := "call.go:62", after := #[{ on := 5, ground := Ground.data }, { on := 7, ground := Ground.data }], guard := none }) (v := ?_) rfl (by kernel_rfl) (by kernel_rfl) (by kernel_rfl) (fun _ _ _ h => h) (Or.inl ⟨by rfl, ?_⟩) (by assumption) ?_; rotate_left; · (intro w hSw; (try dsimp only at hSw); skip; go_simp; (first | done | with_reducible rfl)))
          try simp only [Act.put, List.setIfInBounds_toArray, List.set_cons_zero, List.set_cons_succ]
          refine wpAnyH_ready (rs := [9]) (by kernel_rfl) (by simp) ?_
          refine (AllReadyH.cons (o := { dst := some 24, op := Op.call { callee := Callee.builtin Builtin.max, args := #[Operand.const (Value.int IntKind.i64 0), Operand.tmp 23], argTypes := #[3, 3] }, type := 3, pos := "call.go:62", after := #[{ on := 8, ground := Ground.data }], guard := none }) rfl (fun K hK => ?_) AllReadyH.nil)
          go_simp
          try simp only [hmx]
          refine hK.out _ _ ?_ (fun hHeld => ?_)
          · first
            | exact ⟨x0, x1⟩
            | exact ⟨y0, y1⟩
          clear hK K
          try simp only [Act.put, List.setIfInBounds_toArray, List.set_cons_zero, List.set_cons_succ]
          (refine wpAnyH_take (i := 10) (oi := { dst := some 25, op := Op.fieldAddr 24 (Operand.tmp 3) 2, type := 0, pos := "call.go:62", after := #[{ on := 0, ground := Ground.phase }, { on := 1, ground := Ground.phase }, { on := 2, ground := Ground.phase }, { on := 3, ground := Ground.phase }, { on := 4, ground := Ground.phase }, { on := 5, ground := Ground.phase }, { on := 6, ground := Ground.phase }, { on := 7, ground := Ground.phase }, { on := 8, ground := Ground.phase }, { on := 9, ground := Ground.phase }], guard := none }) (v := ?_) rfl (by kernel_rfl) (by kernel_rfl) (by kernel_rfl) (fun _ _ _ h => h) (Or.inl ⟨by rfl, ?_⟩) (by assumption) ?_; rotate_left; · (intro w hSw; (try dsimp only at hSw); skip; go_simp; (first | done | with_reducible rfl)))
          try simp only [Act.put, List.setIfInBounds_toArray, List.set_cons_zero, List.set_cons_succ]
          refine wpAnyH_ready (rs := [11]) (by kernel_rfl) (by simp) ?_
          refine (AllReadyH.cons (o := { dst := none, op := Op.store 3 (Operand.tmp 25) (Operand.tmp 24), type := 0, pos := "call.go:62", after := #[{ on := 10, ground := Ground.data }, { on := 9, ground := Ground.data }, { on := 5, ground := Ground.chain }, { on := 0, ground := Ground.phase }, { on := 1, ground := Ground.phase }, { on := 2, ground := Ground.phase }, { on := 3, ground := Ground.phase }, { on := 4, ground := Ground.phase }, { on := 5, ground := Ground.phase }, { on := 6, ground := Ground.phase }, { on := 7, ground := Ground.phase }, { on := 8, ground := Ground.phase }, { on := 9, ground := Ground.phase }], guard := none }) rfl (fun K hK => ?_) AllReadyH.nil)
          go_simp
          refine hK.out _ _ ?_ (fun hHeld => ?_)
          · first
            | exact ⟨(World.cell?_setCell_other _ _ _ _ (by intro e; simp only [Addr.mk.injEq] at e; omega)).trans x0, (World.cell?_setCell_other _ _ _ _ (by intro e; simp only [Addr.mk.injEq] at e; omega)).trans x1⟩
          clear hK K
          try simp only [Act.put, List.setIfInBounds_toArray, List.set_cons_zero, List.set_cons_succ]
          refine wpAnyH_done (by kernel_rfl) ?_ _
          clear hHeld
          obtain ⟨HXE, HGE⟩ := HXK.out w4 (.int .i64 0) HG4.out
          generalize w4.setCell ⟨N, 2, none⟩ (.int .i64 0) = w5 at *
          clear x0 x1 x2 f2 y0 y1 y2 g2 HXK HK HG4
          have HXE := Lib.hid HXE
          have HGE := Lib.hid HGE
          have x0 := HXE.out.at 0 _ rfl; have x1 := HXE.out.at 1 _ rfl; have x2 := HXE.out.at 2 _ rfl
          apply_assumption
          go_wp2_with (go_at_call 13; ((with_reducible refine (CA1 _ HGE.out).mono ?_); intro e w6 hp; obtain ⟨v6, rfl, hq⟩ := HPO.out _ _ _ HGE.out hp; have HQ := Lib.hid hq; clear hp hq))
          exact HQ.out
        · go_simp
          refine hK.out _ _ ?_ (fun hHeld => ?_)
          · first
            | exact ⟨x0, x1⟩
            | exact ⟨y0, y1⟩
          clear hK K
          try simp only [Act.put, List.setIfInBounds_toArray, List.set_cons_zero, List.set_cons_succ]
          refine wpAnyH_ready (rs := [5]) (by kernel_rfl) (by simp) ?_
          refine (AllReadyH.cons (o := { dst := some 20, op := Op.call { callee := Callee.value (Operand.func 12), args := #[Operand.tmp 16, Operand.tmp 18, Operand.tmp 19], argTypes := #[3, 3, 22] }, type := 3, pos := "call.go:62", after := #[{ on := 1, ground := Ground.data }, { on := 3, ground := Ground.data }, { on := 4, ground := Ground.data }], guard := none }) rfl (fun K hK => ?_) AllReadyH.nil)
          go_simp
          (go_at_call 12; (with_reducible refine (C1 _ (grew_drew (grew_refl _))).mono ?_); rintro e w4 ⟨rfl, hg⟩)
          obtain ⟨x0, x1, x2, f2⟩ := HK.out _ (grew_trans (grew_drew (grew_refl _)) hg)
          have HG4 := Lib.hid (grew_trans (grew_drew (grew_refl _)) hg)
          clear hg
          refine hK.out _ _ ?_ (fun hHeld => ?_)
          · first
            | exact ⟨x0, x1⟩
          clear hK K
          try simp only [Act.put, List.setIfInBounds_toArray, List.set_cons_zero, List.set_cons_succ]
          (refine wpAnyH_take (i := 8) (oi := { dst := some 23, op := Op.binOp BinOp.sub 3 (Operand.tmp 20) (Operand.tmp 22) 3, type := 3, pos := "call.go:62", after := #[{ on := 5, ground := Ground.data }, { on := 7, ground := Ground.data }], guard := none }) (v := ?_) rfl (by kernel_rfl) (by kernel_rfl) (by kernel_rfl) (fun _ _ _ h => h) (Or.inl ⟨by rfl, ?_⟩) (by assumption) ?_; rotate_left; · (intro w hSw; (try dsimp only at hSw); skip; go_simp; (first | done | with_reducible rfl)))
          try simp only [Act.put, List.setIfInBounds_toArray, List.set_cons_zero, List.set_cons_succ]
          refine wpAnyH_ready (rs := [9]) (by kernel_rfl) (by simp) ?_
          refine (AllReadyH.cons (o := { dst := some 24, op := Op.call { callee := Callee.builtin Builtin.max, args := #[Operand.const (Value.int IntKind.i64 0), Operand.tmp 23], argTypes := #[3, 3] }, type := 3, pos := "call.go:62", after := #[{ on := 8, ground := Ground.data }], guard := none }) rfl (fun K hK => ?_) AllReadyH.nil)
          go_simp
          try simp only [hmx]
          refine hK.out _ _ ?_ (fun hHeld => ?_)
          · first
            | exact ⟨x0, x1⟩
            | exact ⟨y0, y1⟩
          clear hK K
          try simp only [Act.put, List.setIfInBounds_toArray, List.set_cons_zero, List.set_cons_succ]
          (refine wpAnyH_take (i := 10) (oi := { dst := some 25, op := Op.fieldAddr 24 (Operand.tmp 3) 2, type := 0, pos := "call.go:62", after := #[{ on := 0, ground := Ground.phase }, { on := 1, ground := Ground.phase }, { on := 2, ground := Ground.phase }, { on := 3, ground := Ground.phase }, { on := 4, ground := Ground.phase }, { on := 5, ground := Ground.phase }, { on := 6, ground := Ground.phase }, { on := 7, ground := Ground.phase }, { on := 8, ground := Ground.phase }, { on := 9, ground := Ground.phase }], guard := none }) (v := ?_) rfl (by kernel_rfl) (by kernel_rfl) (by kernel_rfl) (fun _ _ _ h => h) (Or.inl ⟨by rfl, ?_⟩) (by assumption) ?_; rotate_left; · (intro w hSw; (try dsimp only at hSw); skip; go_simp; (first | done | with_reducible rfl)))
          try simp only [Act.put, List.setIfInBounds_toArray, List.set_cons_zero, List.set_cons_succ]
          refine wpAnyH_ready (rs := [11]) (by kernel_rfl) (by simp) ?_
          refine (AllReadyH.cons (o := { dst := none, op := Op.store 3 (Operand.tmp 25) (Operand.tmp 24), type := 0, pos := "call.go:62", after := #[{ on := 10, ground := Ground.data }, { on := 9, ground := Ground.data }, { on := 5, ground := Ground.chain }, { on := 0, ground := Ground.phase }, { on := 1, ground := Ground.phase }, { on := 2, ground := Ground.phase }, { on := 3, ground := Ground.phase }, { on := 4, ground := Ground.phase }, { on := 5, ground := Ground.phase }, { on := 6, ground := Ground.phase }, { on := 7, ground := Ground.phase }, { on := 8, ground := Ground.phase }, { on := 9, ground := Ground.phase }], guard := none }) rfl (fun K hK => ?_) AllReadyH.nil)
          go_simp
          refine hK.out _ _ ?_ (fun hHeld => ?_)
          · first
            | exact ⟨(World.cell?_setCell_other _ _ _ _ (by intro e; simp only [Addr.mk.injEq] at e; omega)).trans x0, (World.cell?_setCell_other _ _ _ _ (by intro e; simp only [Addr.mk.injEq] at e; omega)).trans x1⟩
          clear hK K
          try simp only [Act.put, List.setIfInBounds_toArray, List.set_cons_zero, List.set_cons_succ]
          refine wpAnyH_done (by kernel_rfl) ?_ _
          clear hHeld
          obtain ⟨HXE, HGE⟩ := HXK.out w4 (.int .i64 0) HG4.out
          generalize w4.setCell ⟨N, 2, none⟩ (.int .i64 0) = w5 at *
          clear x0 x1 x2 f2 y0 y1 y2 g2 HXK HK HG4
          have HXE := Lib.hid HXE
          have HGE := Lib.hid HGE
          have x0 := HXE.out.at 0 _ rfl; have x1 := HXE.out.at 1 _ rfl; have x2 := HXE.out.at 2 _ rfl
          apply_assumption
          go_wp2_with (go_at_call 13; ((with_reducible refine (CA1 _ HGE.out).mono ?_); intro e w6 hp; obtain ⟨v6, rfl, hq⟩ := HPO.out _ _ _ HGE.out hp; have HQ := Lib.hid hq; clear hp hq))
          exact HQ.out
    · have h2 : okDu (q1, q2, q3) = false := by simpa using h2
      have he := HE3.out h1 h2
      rw [h2] at CP
      clear HE3 HE14 HE0 HOK HOI HAM HDU h1 h2 CA CF
      go_wp2_with (go_at_call 25; ((with_reducible refine (CP _).mono ?_); rintro e w3 ⟨rfl, hg⟩; have HG3 := Lib.hid (grew_trans HG2.out hg); clear hg CP))
      exact HNO.out 3 _ he (by decide) HG3.out
  · have h1 : rightCa l = false := by simpa using h1
    have he := HE14.out h1
    rw [show chkC l = 14 by unfold chkC; rw [h1]; rfl] at CK1
    clear HE3 HE14 HE0 HOK HOI HAM HDU h1 CP CA CF
    go_wp2_with (go_at_call 9; ((with_reducible refine CK1.mono ?_); rintro e w2 ⟨rfl, hg⟩; have HG2 := Lib.hid (grew_trans HG0.out hg); clear hg CK1))
    exact HNO.out 14 _ he (by decide) HG2.out
end Go.Proofs.Ytaipgcckafbgeaa.NumK
namespace Go.Proofs.Ytaipgcckafbgeaa.NumK
open Go.RowKit
set_option linter.unusedVariables false

set_option maxRecDepth 100000 in
theorem rcallable_any (d : Du) (w : World) : Calls Try.prog 34 #[vDe d] w fun e w' => e = .returned (.bool (okDu d)) ∧ Grew w w' := by
  obtain ⟨q1, q2, q3⟩ := d
  have HV : Hid (okDu (q1, q2, q3) = ((wi q1 1 16 && wi q2 0 2) && wi q3 0 4611686018427387904)) := rfl
  have C1 := fun w => rwho_any q1 w
  have C2 := fun w => rcur_any q2 w
  have C3 := fun w => gwithin_any q3 0 4611686018427387904 w
  generalize okDu (q1, q2, q3) = V at *
  generalize wi q1 1 16 = R1 at *
  generalize wi q2 0 2 = R2 at *
  generalize wi q3 0 4611686018427387904 = R3 at *
  dsimp only [vDe]
  have H : (R1 = false) ∨ (R1 = true ∧ R2 = false) ∨ (R1 = true ∧ R2 = true) := by cases R1 <;> cases R2 <;> simp
  rcases H with rfl | ⟨rfl, rfl⟩ | ⟨rfl, rfl⟩
  · have HF : Hid (V = false) := by show _ = _; rw [HV.out]; rfl
    clear HV
    go_enter Try.func34, Try.ntmps34
    go_wp2_with (go_at_call 28; ((with_reducible refine (C1 _).mono ?_); rintro e w1 ⟨rfl, rfl⟩))
    go_ret
    exact ⟨ret_b HF.out.symm, grew_alloc _ _ _⟩
  · have HF : Hid (V = false) := by show _ = _; rw [HV.out]; rfl
    clear HV
    go_enter Try.func34, Try.ntmps34
    go_wp2_with (first
      | (go_at_call 28; ((with_reducible refine (C1 _).mono ?_); rintro e w1 ⟨rfl, rfl⟩))
      | (go_at_call 29; ((with_reducible refine (C2 _).mono ?_); rintro e w1 ⟨rfl, rfl⟩)))
    go_ret
    exact ⟨ret_b HF.out.symm, grew_alloc _ _ _⟩
  · have HF : Hid (V = R3) := by show _ = _; rw [HV.out]; rfl
    clear HV
    go_enter Try.func34, Try.ntmps34
    go_wp2_with (first
      | (go_at_call 28; ((with_reducible refine (C1 _).mono ?_); rintro e w1 ⟨rfl, rfl⟩))
      | (go_at_call 29; ((with_reducible refine (C2 _).mono ?_); rintro e w1 ⟨rfl, rfl⟩))
      | (go_at_call 30; ((with_reducible refine (C3 _).mono ?_); rintro e w1 ⟨rfl, rfl⟩)))
    go_ret
    exact ⟨ret_b HF.out.symm, grew_alloc _ _ _⟩

/-! ### all keys, one by one -/
def setO (c : Ca) : Option Ca := if c.2.2.1 ≤ 0 then none else some c
def ckG (l : List Ca) (c : Ca) (s : Nat) : Option Ca :=
  if ((s / 3 + 1 : Nat) : Int) = c.1 ∧ ((s % 3 : Nat) : Int) = c.2.1 then setO c else findC l ((s / 3 + 1 : Nat) : Int) ((s % 3 : Nat) : Int)
def accC (l : List Ca) (c : Ca) (t : Nat) : List Ca := (List.range t).filterMap (ckG l c)
theorem accC_succ (l : List Ca) (c : Ca) (t : Nat) : accC l c (t + 1) = accC l c t ++ (ckG l c t).toList := by
  unfold accC; rw [List.range_succ, List.filterMap_append]
  rfl
theorem accC_len (l : List Ca) (c : Ca) (t : Nat) : (accC l c t).length ≤ t := by
  induction t with
  | zero => exact Nat.le_refl _
  | succ t ih =>
    rw [accC_succ, List.length_append]
    have : (ckG l c t).toList.length ≤ 1 := by cases ckG l c t <;> simp
    omega
theorem accC_all {l : List Ca} (h1 : rightCa l = true) {c : Ca} (h2 : okCK c.1 c.2.1 = true) : accC l c 48 = setL noCa l (noCa c) (setO c) := by
  have g := (okCK_iff _ _).1 h2
  have hc := keys_set (no := noCa) (nk := fun s : Nat => ((s / 3 + 1 : Nat) : Int) * 4 + ((s % 3 : Nat) : Int)) (l := l) (ks := List.range 48) (g := ckG l c) ((rightCa_iff l).1 h1).2
    (List.pairwise_lt_range.imp (fun {a b} h => by omega))
    (fun x hx => by
      have := (okCK_iff _ _).1 ((okCa_iff x).1 (((rightCa_iff l).1 h1).1 x hx)).1
      refine ⟨((x.1 - 1) * 3 + x.2.1).toNat, List.mem_range.2 (by omega), ?_⟩
      unfold noCa
      omega)
    ((c.1 - 1) * 3 + c.2.1).toNat (List.mem_range.2 (by omega)) (setO c) (fun x hx => by
      unfold setO at hx
      split at hx
      · cases hx
      · cases hx; unfold noCa; omega)
    (fun s hs => by
      have hs := List.mem_range.1 hs
      unfold ckG
      by_cases he : ((s / 3 + 1 : Nat) : Int) = c.1 ∧ ((s % 3 : Nat) : Int) = c.2.1
      · rw [if_pos he, if_pos (by omega)]
      · rw [if_neg he, if_neg (by omega)]
        exact find_get h1 ((okCK_iff _ _).2 (by omega)))
  unfold accC
  rw [hc]
  congr 1
  unfold noCa
  omega
theorem ckG_at (l : List Ca) (c : Ca) (i j : Nat) (hi : 1 ≤ i) (hj : j < 3) : ckG l c ((i - 1) * 3 + j) = if (i : Int) = c.1 ∧ (j : Int) = c.2.1 then setO c else findC l (i : Int) (j : Int) := by
  have e1 : ((i - 1) * 3 + j) / 3 + 1 = i := by omega
  have e2 : ((i - 1) * 3 + j) % 3 = j := by omega
  unfold ckG
  rw [e1, e2]

set_option maxRecDepth 100000 in
set_option maxHeartbeats 8000000 in
theorem rset_any (A : Option Addr) (n cc : Nat) (l : List Ca) (x : Ca) (w : World) (h : RowE enC4 w A n l) (hr : rightCa l = true) (hx : okCK x.1 x.2.1 = true) (hn : n ≤ 1000) :
    Calls Try.prog 35 #[.slice A n cc, vCa x] w fun e w' => ∃ v, e = .returned v ∧ OwnE enC4 w' w.heap.size 32 v (setL noCa l (noCa x) (setO x)) ∧ Grew w w' := by
  have HI := Lib.hid h
  have HL := Lib.hid h.len
  have HU := Lib.hid (fun (a b : Int) w' (g : Grew w w') => rcalled_any A n cc l a b w' (h.keep g) (by omega))
  rw [← accC_all hr hx]
  clear h hr hx
  obtain ⟨q1, q2, q3, q4⟩ := x
  dsimp only [vCa]
  have HX0 : Hid (OwnC (w.alloc (.cells #[.int .i64 q1, .int .i64 q2, .int .i64 q3, .int .i64 q4] 32)) w.heap.size [.int .i64 q1, .int .i64 q2, .int .i64 q3, .int .i64 q4]) := OwnC.new w [.int .i64 q1, .int .i64 q2, .int .i64 q3, .int .i64 q4] _ _ rfl
  have HG0 : Hid (Grew w (w.alloc (.cells #[.int .i64 q1, .int .i64 q2, .int .i64 q3, .int .i64 q4] 32))) := grew_alloc _ _ _
  go_enter Try.func35, Try.ntmps35
  go_upto_region 1 with (fail)
  generalize (w.alloc (.cells #[.int .i64 q1, .int .i64 q2, .int .i64 q3, .int .i64 q4] 32)) = w0 at *
  have HN0 : Hid (w.heap.size ≤ w0.heap.size) := HG0.out.size
  generalize w.heap.size = N at *
  go_wp2
  go_loopw [5, 6] (fun v5 v6 wr => ∃ i : Nat, v6 = .int .i64 i ∧ 1 ≤ i ∧ i ≤ 17 ∧ Hid (OwnE enC4 wr w0.heap.size 32 v5 (accC l (q1, q2, q3, q4) ((i - 1) * 3))) ∧ Hid (Grew w0 wr)) (fun _ v6 _ => 17 - (intOf v6).toNat)
  case atStart => exact ⟨1, rfl, by omega, by omega, OwnE.nil _ _ _ _, grew_refl _⟩
  case round =>
    obtain ⟨i, rfl, hi1, hi, HO0, HGA⟩ := hrel
    by_cases hi16 : i ≤ 16
    · have i1 : (i : Int) ≤ 16 := by omega
      go_wp2
      generalize wr = wB at *
      go_loopw [5, 7] (fun v5 v7 wr => ∃ j : Nat, v7 = .int .i64 j ∧ j ≤ 3 ∧ Hid (OwnE enC4 wr w0.heap.size 32 v5 (accC l (q1, q2, q3, q4) ((i - 1) * 3 + j))) ∧ Hid (Grew w0 wr)) (fun _ v7 _ => 3 - (intOf v7).toNat)
      case atStart => exact ⟨0, rfl, by omega, HO0.out, HGA.out⟩
      case round =>
        clear HO0 HGA
        obtain ⟨j, rfl, hj, HO, HG⟩ := hrel
        by_cases hj6 : j < 3
        · have i2 : (j : Int) < 3 := by omega
          have HSS : Hid (accC l (q1, q2, q3, q4) ((i - 1) * 3 + (j + 1)) = accC l (q1, q2, q3, q4) ((i - 1) * 3 + j) ++ (if (i : Int) = q1 ∧ (j : Int) = q2 then setO (q1, q2, q3, q4) else findC l (i : Int) (j : Int)).toList) := by
            show _ = _
            rw [← ckG_at l (q1, q2, q3, q4) i j hi1 hj6, ← accC_succ]
            congr 1
          have HAL : Hid ((accC l (q1, q2, q3, q4) ((i - 1) * 3 + j)).length ≤ 1000) := by
            have := accC_len l (q1, q2, q3, q4) ((i - 1) * 3 + j)
            show _ ≤ _; omega
          have HXR := Lib.hid (HX0.out.keep HG.out)
          have x0 := HXR.out.at 0 _ rfl; have x1 := HXR.out.at 1 _ rfl; have x2 := HXR.out.at 2 _ rfl; have x3 := HXR.out.at 3 _ rfl
          have HGW := Lib.hid (grew_trans HG0.out HG.out)
          have CU := HU.out (i : Int) (j : Int) wr HGW.out
          by_cases h2 : (i : Int) = q1 ∧ (j : Int) = q2
          · obtain ⟨rfl, rfl⟩ := h2
            by_cases h7 : q3 > 0
            · have HAS : Hid (accC l ((i : Int), (j : Int), q3, q4) ((i - 1) * 3 + (j + 1)) = accC l ((i : Int), (j : Int), q3, q4) ((i - 1) * 3 + j) ++ [((i : Int), (j : Int), q3, q4)]) := by show _ = _; rw [HSS.out, if_pos ⟨rfl, rfl⟩]; unfold setO; rw [if_neg (by simp only; omega)]; rfl
              clear HSS CU
              go_wp2_with (at_builtin; refine (wpList_append_E rfl _ _ 22 32 (vCa ca0) 32 rfl Try.underlying22 info_ca rfl w0.heap.size _ _ rfl (HO.out.keep (grew_alloc _ _ _)) (some ⟨wr.heap.size, 0, none⟩) 1 1 [((i : Int), (j : Int), q3, q4)] rfl (by intro h; cases h) (RowE.one enC4 wr ((i : Int), (j : Int), q3, q4) 32 _ rfl) (by have := HAL.out; simp; unfold maxLen; omega) (by have := HAL.out; simp; omega) (Nat.le_trans (grew_size HG.out) (by simp)) ?_); intro v' w6 ho hb; have HO6 := Lib.hid ho; have HG6 : Hid (Grew w0 w6) := Below.trans (grew_trans HG.out (grew_alloc _ _ _)) hb; clear ho hb)
              go_roundw
              case rel => exact ⟨j + 1, by go_num, by omega, by rw [HAS.out]; exact HO6.out, HG6.out⟩
              case measure => simp only [intOf]; omega
            · have HAS : Hid (accC l ((i : Int), (j : Int), q3, q4) ((i - 1) * 3 + (j + 1)) = accC l ((i : Int), (j : Int), q3, q4) ((i - 1) * 3 + j)) := by show _ = _; rw [HSS.out, if_pos ⟨rfl, rfl⟩]; unfold setO; rw [if_pos (by simp only; omega)]; simp
              clear HSS CU
              go_wp2
              go_roundw
              case rel => exact ⟨j + 1, by go_num, by omega, by rw [HAS.out]; exact HO.out, HG.out⟩
              case measure => simp only [intOf]; omega
          · rw [if_neg h2] at HSS
            have hd : ((i : Int) = q1 ∧ ((j : Int) == q2) = false) ∨ ((i : Int) == q1) = false := by
              by_cases e : (i : Int) = q1
              · left; refine ⟨e, ?_⟩; rw [beq_eq_false_iff_ne]; exact fun e2 => h2 ⟨e, e2⟩
              · right; rw [beq_eq_false_iff_ne]; exact e
            rcases hd with ⟨rfl, d1⟩ | d1
            · clear h2
              go_upto_region 12 with (go_at_call 11; ((with_reducible refine CU.mono ?_); rintro e w5 ⟨r, rfl, hp, hg⟩; have HP := Lib.hid hp; have HO5 := Lib.hid (HO.out.keep hg); have HG5 := Lib.hid (grew_trans HG.out hg); clear hg hp CU HO x0 x1 x2 x3))
              rcases HP.out with ⟨rfl, hf⟩ | ⟨k, rfl, hk, hf⟩
              · have HAS : Hid (accC l ((i : Int), q2, q3, q4) ((i - 1) * 3 + (j + 1)) = accC l ((i : Int), q2, q3, q4) ((i - 1) * 3 + j)) := by show _ = _; rw [HSS.out, hf]; simp
                clear HSS HP hf
                go_wp2
                go_roundw
                case rel => exact ⟨j + 1, by go_num, by omega, by rw [HAS.out]; exact HO5.out, HG5.out⟩
                case measure => simp only [intOf]; omega
              · have HAS : Hid (accC l ((i : Int), q2, q3, q4) ((i - 1) * 3 + (j + 1)) = accC l ((i : Int), q2, q3, q4) ((i - 1) * 3 + j) ++ [l.getD k ca0]) := by show _ = _; rw [HSS.out, hf]; rfl
                have hkn : k < n := by rw [← HL.out]; exact hk
                have HGW5 := Lib.hid (grew_trans HG0.out HG5.out)
                obtain ⟨b, o, rfl, hb, hc⟩ := (HI.out.keep HGW5.out).ca hkn
                obtain ⟨a0, a1, a2, a3⟩ := hc k hkn
                clear HSS HP hf hc HU HI
                have k0 : (0 : Int) ≤ (k : Int) := by omega
                have k1 : (k : Int) < (n : Int) := by omega
                generalize l.getD k ca0 = y at *
                obtain ⟨y1, y2, y3, y4⟩ := y
                dsimp only at a0 a1 a2 a3
                go_wp2_with (at_builtin; refine (wpList_append_E rfl _ _ 22 32 (vCa ca0) 32 rfl Try.underlying22 info_ca rfl w0.heap.size _ _ rfl (HO5.out.keep (grew_alloc _ _ _)) (some ⟨w5.heap.size, 0, none⟩) 1 1 [(y1, y2, y3, y4)] rfl (by intro h; cases h) (RowE.one enC4 w5 (y1, y2, y3, y4) 32 _ rfl) (by have := HAL.out; simp; unfold maxLen; omega) (by have := HAL.out; simp; omega) (Nat.le_trans (grew_size HG5.out) (by simp)) ?_); intro v' w6 ho hb; have HO6 := Lib.hid ho; have HG6 : Hid (Grew w0 w6) := Below.trans (grew_trans HG5.out (grew_alloc _ _ _)) hb; clear ho hb)
                go_roundw
                case rel => exact ⟨j + 1, by go_num, by omega, by rw [HAS.out]; exact HO6.out, HG6.out⟩
                case measure => simp only [intOf]; omega
            · clear h2
              go_upto_region 12 with (go_at_call 11; ((with_reducible refine CU.mono ?_); rintro e w5 ⟨r, rfl, hp, hg⟩; have HP := Lib.hid hp; have HO5 := Lib.hid (HO.out.keep hg); have HG5 := Lib.hid (grew_trans HG.out hg); clear hg hp CU HO x0 x1 x2 x3))
              rcases HP.out with ⟨rfl, hf⟩ | ⟨k, rfl, hk, hf⟩
              · have HAS : Hid (accC l (q1, q2, q3, q4) ((i - 1) * 3 + (j + 1)) = accC l (q1, q2, q3, q4) ((i - 1) * 3 + j)) := by show _ = _; rw [HSS.out, hf]; simp
                clear HSS HP hf
                go_wp2
                go_roundw
                case rel => exact ⟨j + 1, by go_num, by omega, by rw [HAS.out]; exact HO5.out, HG5.out⟩
                case measure => simp only [intOf]; omega
              · have HAS : Hid (accC l (q1, q2, q3, q4) ((i - 1) * 3 + (j + 1)) = accC l (q1, q2, q3, q4) ((i - 1) * 3 + j) ++ [l.getD k ca0]) := by show _ = _; rw [HSS.out, hf]; rfl
                have hkn : k < n := by rw [← HL.out]; exact hk
                have HGW5 := Lib.hid (grew_trans HG0.out HG5.out)
                obtain ⟨b, o, rfl, hb, hc⟩ := (HI.out.keep HGW5.out).ca hkn
                obtain ⟨a0, a1, a2, a3⟩ := hc k hkn
                clear HSS HP hf hc HU HI
                have k0 : (0 : Int) ≤ (k : Int) := by omega
                have k1 : (k : Int) < (n : Int) := by omega
                generalize l.getD k ca0 = y at *
                obtain ⟨y1, y2, y3, y4⟩ := y
                dsimp only at a0 a1 a2 a3
                go_wp2_with (at_builtin; refine (wpList_append_E rfl _ _ 22 32 (vCa ca0) 32 rfl Try.underlying22 info_ca rfl w0.heap.size _ _ rfl (HO5.out.keep (grew_alloc _ _ _)) (some ⟨w5.heap.size, 0, none⟩) 1 1 [(y1, y2, y3, y4)] rfl (by intro h; cases h) (RowE.one enC4 w5 (y1, y2, y3, y4) 32 _ rfl) (by have := HAL.out; simp; unfold maxLen; omega) (by have := HAL.out; simp; omega) (Nat.le_trans (grew_size HG5.out) (by simp)) ?_); intro v' w6 ho hb; have HO6 := Lib.hid ho; have HG6 : Hid (Grew w0 w6) := Below.trans (grew_trans HG5.out (grew_alloc _ _ _)) hb; clear ho hb)
                go_roundw
                case rel => exact ⟨j + 1, by go_num, by omega, by rw [HAS.out]; exact HO6.out, HG6.out⟩
                case measure => simp only [intOf]; omega
        · obtain rfl : j = 3 := by omega
          have HO2 : Hid (OwnE enC4 wr w0.heap.size 32 u5 (accC l (q1, q2, q3, q4) ((i + 1 - 1) * 3))) := by
            have h9 : (i + 1 - 1) * 3 = (i - 1) * 3 + 3 := by omega
            show OwnE _ _ _ _ _ _; rw [h9]; exact HO.out
          clear HO
          go_wp2
          go_roundw
          case rel => exact ⟨i + 1, by go_num, by omega, by omega, HO2.out, HG.out⟩
          case measure => simp only [intOf]; omega
    · obtain rfl : i = 17 := by omega
      have HF := Lib.hid (grew_trans HG0.out HGA.out)
      go_wp2
      go_ret
      exact ⟨_, rfl, HO0.out.mono (grew_size HG0.out), HF.out⟩
end Go.Proofs.Ytaipgcckafbgeaa.NumK
namespace Go.Proofs.Ytaipgcckafbgeaa.NumK
open Go.RowKit
set_option linter.unusedVariables false

set_option maxRecDepth 100000 in
set_option maxHeartbeats 4000000 in
theorem rask_any (A : Option Addr) (n c : Nat) (l : List Ca) (d : Du) (t : Int) (w : World) (h : RowE enC4 w A n l) (hn : n ≤ 1000) :
    Calls Try.prog 14 #[.slice A n c, vDe d, .int .i64 t] w (AskPost l d t w) := by
  have HI := Lib.hid h
  have HL := Lib.hid h.len
  have CK := fun w' (g : Grew w w') => rcalls_any A n c l w' (h.keep g) (by omega)
  have CP := fun w => rcallable_any d w
  have CW := fun w => gwithin_any t 0 1099511627776 w
  have CF := fun w' (g : Grew w w') => rcalled_any A n c l d.1 d.2.1 w' (h.keep g) (by omega)
  have HS := Lib.hid (fun (hr : rightCa l = true) (hx : okCK d.1 d.2.1 = true) (m : Int) w' (g : Grew w w') => rset_any A n c l (d.1, d.2.1, d.2.2, m) w' (h.keep g) hr hx hn)
  have HE14 := Lib.hid (@ask_14 l d t)
  have HE3 := Lib.hid (@ask_3 l d t)
  have HE0 := Lib.hid (@ask_0 l d t)
  have HNO := Lib.hid (fun k w' => @AskPost.no l d t k w w')
  have HOK : Hid (askE l d t = 0 → ∀ v w', OwnE enC4 w' w.heap.size 32 v (setL noCa l (noDu d) (askO l d t)) → Grew w w' → AskPost l d t w (.returned (.tuple #[v, .int .i64 0])) w') := fun he v w' ho g => ⟨v, by rw [he], by rw [askL_ok he]; exact ho, g⟩
  have HCO : Hid (0 ≤ d.2.2 → ∀ f, findC l d.1 d.2.1 = f → askO l d t = setO (d.1, d.2.1, d.2.2, match f with | some x => x.2.2.2 | none => t)) := fun h0 f hf => by
    rw [← hf]; unfold askO setO
    by_cases hc : d.2.2 = 0
    · rw [if_pos hc, if_pos (by simp only; omega)]
    · rw [if_neg hc, if_neg (by simp only; omega)]
      cases findC l d.1 d.2.1 <;> rfl
  have HDU := Lib.hid ((okDu_iff d).1)
  have HNX : Hid (∀ m : Int, noCa (d.1, d.2.1, d.2.2, m) = noDu d) := fun _ => rfl
  generalize AskPost l d t w = Q at *
  clear h
  obtain ⟨q1, q2, q3⟩ := d
  dsimp only [vDe, vCa] at *
  have HX0 : Hid (OwnC (w.alloc (.cells #[.int .i64 q1, .int .i64 q2, .int .i64 q3] 24)) w.heap.size [.int .i64 q1, .int .i64 q2, .int .i64 q3]) := OwnC.new w [.int .i64 q1, .int .i64 q2, .int .i64 q3] _ _ rfl
  have HG0 : Hid (Grew w (w.alloc (.cells #[.int .i64 q1, .int .i64 q2, .int .i64 q3] 24))) := grew_alloc _ _ _
  go_enter Try.func14, Try.ntmps14
  go_upto_region 1 with (fail)
  generalize w.alloc (.cells #[.int .i64 q1, .int .i64 q2, .int .i64 q3] 24) = w0 at *
  have CK1 := CK w0 HG0.out
  clear CK
  by_cases h1 : rightCa l = true
  · rw [h1] at CK1
    go_upto_region 3 with (go_at_call 10; ((with_reducible refine CK1.mono ?_); rintro e w2 ⟨rfl, hg⟩; have HX2 := Lib.hid (HX0.out.keep hg); have HG2 := Lib.hid (grew_trans HG0.out hg); clear hg CK1 HX0 HG0))
    have x0 := HX2.out.at 0 (.int .i64 q1) rfl; have x1 := HX2.out.at 1 (.int .i64 q2) rfl; have x2 := HX2.out.at 2 (.int .i64 q3) rfl
    by_cases h2 : okDu (q1, q2, q3) = true
    · rw [h2] at CP
      have hdu := HDU.out h2
      by_cases h3 : wi t 0 1099511627776 = true
      · rw [h3] at CW
        have HOK2 := Lib.hid (HOK.out (HE0.out h1 h2 h3))
        have CS := HS.out h1 hdu.1
        have HCO1 := Lib.hid (HCO.out hdu.2.1)
        clear HE14 HE3 HE0 HNO HDU HOK HS HCO h1 h2 h3
        go_upto_region 5 with (first
          | (go_at_call 34; ((with_reducible refine (CP _).mono ?_); rintro e w3 ⟨rfl, hg⟩; have HX3 := Lib.hid (HX2.out.keep hg); have HG3 := Lib.hid (grew_trans HG2.out hg); clear hg CP HX2 HG2 x0 x1 x2))
          | (go_at_call 30; ((with_reducible refine (CW _).mono ?_); rintro e w4 ⟨rfl, rfl⟩)))
        have x0 := HX3.out.at 0 (.int .i64 q1) rfl; have x1 := HX3.out.at 1 (.int .i64 q2) rfl; have x2 := HX3.out.at 2 (.int .i64 q3) rfl
        clear CW
        go_upto_region 6 with (go_at_call 11; ((with_reducible refine (CF _ HG3.out).mono ?_); rintro e w2 ⟨r, rfl, hp, hg⟩; have HP := Lib.hid hp; have HX2 := Lib.hid (HX3.out.keep hg); have HG2 := Lib.hid (grew_trans HG3.out hg); clear hg hp CF HX3 HG3 x0 x1 x2))
        have x0 := HX2.out.at 0 (.int .i64 q1) rfl; have x1 := HX2.out.at 1 (.int .i64 q2) rfl; have x2 := HX2.out.at 2 (.int .i64 q3) rfl
        rcases HP.out with ⟨rfl, hf⟩ | ⟨k, rfl, hk, hf⟩
        · have HC2 := Lib.hid (HCO1.out _ hf)
          try dsimp only at HC2
          have CS1 := CS t w2 HG2.out
          rw [HNX.out, ← HC2.out] at CS1
          clear HCO1 hf HP CS HC2 HI
          go_wp2_with (go_at_call 35; ((with_reducible refine CS1.mono ?_); rintro e w6 ⟨v6, rfl, ho, hg⟩; have HQ := Lib.hid (HOK2.out v6 w6 (ho.mono (grew_size HG2.out)) (grew_trans HG2.out hg)); clear ho hg))
          exact HQ.out
        · have hkn : k < n := by rw [← HL.out]; exact hk
          have HC2 := Lib.hid (HCO1.out _ hf)
          obtain ⟨b, o, rfl, hb, hc⟩ := (HI.out.keep HG2.out).ca hkn
          obtain ⟨a0, a1, a2, a3⟩ := hc k hkn
          try dsimp only at HC2
          have CS1 := CS (l.getD k ca0).2.2.2 w2 HG2.out
          rw [HNX.out, ← HC2.out] at CS1
          have k0 : (0 : Int) ≤ (k : Int) := by omega
          have k1 : (k : Int) < (n : Int) := by omega
          clear HCO1 hf HP CS HC2 HI hc a0 a1 a2
          generalize (l.getD k ca0).2.2.2 = ta at *
          go_wp2_with (go_at_call 35; ((with_reducible refine CS1.mono ?_); rintro e w6 ⟨v6, rfl, ho, hg⟩; have HQ := Lib.hid (HOK2.out v6 w6 (ho.mono (grew_size HG2.out)) (grew_trans HG2.out hg)); clear ho hg))
          exact HQ.out
      · have h3 : wi t 0 1099511627776 = false := by simpa using h3
        have he := HE3.out h1 (.inr h3)
        rw [h3] at CW
        clear HE3 HE14 HE0 HOK HS HDU h1 h2 h3 hdu HCO CF
        go_wp2_with (first
          | (go_at_call 34; ((with_reducible refine (CP _).mono ?_); rintro e w3 ⟨rfl, hg⟩; have HG3 := Lib.hid (grew_trans HG2.out hg); clear hg CP))
          | (go_at_call 30; ((with_reducible refine (CW _).mono ?_); rintro e w4 ⟨rfl, rfl⟩)))
        exact HNO.out 3 _ he (by decide) HG3.out
    · have h2 : okDu (q1, q2, q3) = false := by simpa using h2
      have he := HE3.out h1 (.inl h2)
      rw [h2] at CP
      clear HE3 HE14 HE0 HOK HS HDU h1 h2 CW HCO CF
      go_wp2_with (go_at_call 34; ((with_reducible refine (CP _).mono ?_); rintro e w3 ⟨rfl, hg⟩; have HG3 := Lib.hid (grew_trans HG2.out hg); clear hg CP))
      exact HNO.out 3 _ he (by decide) HG3.out
  · have h1 : rightCa l = false := by simpa using h1
    have he := HE14.out h1
    rw [h1] at CK1
    clear HE3 HE14 HE0 HOK HS HDU h1 CW CP HCO CF
    go_wp2_with (go_at_call 10; ((with_reducible refine CK1.mono ?_); rintro e w2 ⟨rfl, hg⟩; have HG2 := Lib.hid (grew_trans HG0.out hg); clear hg CK1))
    exact HNO.out 14 _ he (by decide) HG2.out

set_option maxRecDepth 100000 in
set_option maxHeartbeats 4000000 in
theorem rmeet_any (A : Option Addr) (n c : Nat) (l : List Ca) (d : Du) (w : World) (h : RowE enC4 w A n l) (hn : n ≤ 1000) :
    Calls Try.prog 18 #[.slice A n c, vDe d] w (MeetPost l d w) := by
  have HI := Lib.hid h
  have HL := Lib.hid h.len
  have CK := fun w' (g : Grew w w') => rcalls_any A n c l w' (h.keep g) (by omega)
  have CP := fun w => rcallable_any d w
  have CF := fun w' (g : Grew w w') => rcalled_any A n c l d.1 d.2.1 w' (h.keep g) (by omega)
  have HS := Lib.hid (fun (hr : rightCa l = true) (x : Ca) (hx : okCK x.1 x.2.1 = true) w' (g : Grew w w') => rset_any A n c l x w' (h.keep g) hr hx hn)
  have HE14 := Lib.hid (@meet_14 l d)
  have HE3 := Lib.hid (@meet_3 l d)
  have HE0 := Lib.hid (@meet_0 l d)
  have HNO := Lib.hid (fun k w' => @MeetPost.no l d k w w')
  have HOK : Hid (meetE l d = 0 → ∀ v w', OwnE enC4 w' w.heap.size 32 v (setL noCa l (noDu d) (meetO l d)) → Grew w w' → MeetPost l d w (.returned (.tuple #[v, .int .i64 0])) w') := fun he v w' ho g => ⟨v, by rw [he], by unfold meetL; rw [if_pos he]; exact ho, g⟩
  have HMO : Hid (∀ f, findC l d.1 d.2.1 = f → meetO l d = match f with | some x => (if x.2.2.1 - d.2.2 ≤ 0 then none else some (x.1, x.2.1, x.2.2.1 - d.2.2, x.2.2.2)) | none => none) := fun f hf => by rw [← hf]; rfl
  have HFI := Lib.hid (fun x (hr : rightCa l = true) (hf : findC l d.1 d.2.1 = some x) => And.intro ((okCa_iff x).1 (((rightCa_iff l).1 hr).1 x (find_in hf).1)).2.1 (find_in hf).2)
  have HDU := Lib.hid ((okDu_iff d).1)
  have HNX : Hid (∀ x : Ca, x.1 = d.1 → x.2.1 = d.2.1 → noCa x = noDu d) := fun x h1 h2 => by unfold noCa noDu; rw [h1, h2]
  generalize MeetPost l d w = Q at *
  clear h
  obtain ⟨q1, q2, q3⟩ := d
  dsimp only [vDe, vCa] at *
  have HX0 : Hid (OwnC (w.alloc (.cells #[.int .i64 q1, .int .i64 q2, .int .i64 q3] 24)) w.heap.size [.int .i64 q1, .int .i64 q2, .int .i64 q3]) := OwnC.new w [.int .i64 q1, .int .i64 q2, .int .i64 q3] _ _ rfl
  have HG0 : Hid (Grew w (w.alloc (.cells #[.int .i64 q1, .int .i64 q2, .int .i64 q3] 24))) := grew_alloc _ _ _
  go_enter Try.func18, Try.ntmps18
  go_upto_region 1 with (fail)
  generalize w.alloc (.cells #[.int .i64 q1, .int .i64 q2, .int .i64 q3] 24) = w0 at *
  have CK1 := CK w0 HG0.out
  clear CK
  by_cases h1 : rightCa l = true
  · rw [h1] at CK1
    go_upto_region 3 with (go_at_call 10; ((with_reducible refine CK1.mono ?_); rintro e w2 ⟨rfl, hg⟩; have HX2 := Lib.hid (HX0.out.keep hg); have HG2 := Lib.hid (grew_trans HG0.out hg); clear hg CK1 HX0 HG0))
    have x0 := HX2.out.at 0 (.int .i64 q1) rfl; have x1 := HX2.out.at 1 (.int .i64 q2) rfl; have x2 := HX2.out.at 2 (.int .i64 q3) rfl
    by_cases h2 : okDu (q1, q2, q3) = true
    · rw [h2] at CP
      have hdu := HDU.out h2
      have HOK2 := Lib.hid (HOK.out (HE0.out h1 h2))
      have CS := HS.out h1
      have HFI2 := Lib.hid (fun x => HFI.out x h1)
      clear HE14 HE3 HE0 HNO HDU HOK HS HFI h1 h2
      go_upto_region 5 with (go_at_call 34; ((with_reducible refine (CP _).mono ?_); rintro e w3 ⟨rfl, hg⟩; have HX3 := Lib.hid (HX2.out.keep hg); have HG3 := Lib.hid (grew_trans HG2.out hg); clear hg CP HX2 HG2 x0 x1 x2))
      have x0 := HX3.out.at 0 (.int .i64 q1) rfl; have x1 := HX3.out.at 1 (.int .i64 q2) rfl; have x2 := HX3.out.at 2 (.int .i64 q3) rfl
      go_upto_region 6 with (go_at_call 11; ((with_reducible refine (CF _ HG3.out).mono ?_); rintro e w2 ⟨r, rfl, hp, hg⟩; have HP := Lib.hid hp; have HX2 := Lib.hid (HX3.out.keep hg); have HG2 := Lib.hid (grew_trans HG3.out hg); clear hg hp CF HX3 HG3 x0 x1 x2))
      have x0 := HX2.out.at 0 (.int .i64 q1) rfl; have x1 := HX2.out.at 1 (.int .i64 q2) rfl; have x2 := HX2.out.at 2 (.int .i64 q3) rfl
      rcases HP.out with ⟨rfl, hf⟩ | ⟨k, rfl, hk, hf⟩
      · have HC2 := Lib.hid (HMO.out _ hf)
        try dsimp only at HC2
        have CS1 := CS (q1, q2, 0, 0) hdu.1 w2 HG2.out
        have HS0 : Hid (setO ((q1, q2, 0, 0) : Ca) = none) := rfl
        rw [HNX.out (q1, q2, 0, 0) rfl rfl, HS0.out, ← HC2.out] at CS1
        try dsimp only at CS1
        clear HMO hf HP CS HC2 HI HFI2
        go_wp2_with (go_at_call 35; ((with_reducible refine CS1.mono ?_); rintro e w6 ⟨v6, rfl, ho, hg⟩; have HQ := Lib.hid (HOK2.out v6 w6 (ho.mono (grew_size HG2.out)) (grew_trans HG2.out hg)); clear ho hg))
        exact HQ.out
      · have hkn : k < n := by rw [← HL.out]; exact hk
        have HC2 := Lib.hid (HMO.out _ hf)
        have HFX := HFI2.out _ hf
        obtain ⟨b, o, rfl, hb, hc⟩ := (HI.out.keep HG2.out).ca hkn
        obtain ⟨a0, a1, a2, a3⟩ := hc k hkn
        clear HMO hf HP HI hc HFI2
        generalize l.getD k ca0 = y at *
        obtain ⟨y1, y2, y3, y4⟩ := y
        dsimp only at a0 a1 a2 a3 HFX HC2
        obtain ⟨hy, rfl, rfl⟩ := HFX
        have k0 : (0 : Int) ≤ (k : Int) := by omega
        have k1 : (k : Int) < (n : Int) := by omega
        obtain ⟨nu, hnu⟩ : ∃ nu, nu = y3 - q3 := ⟨_, rfl⟩
        have q5 : IntKind.i64.wrap (y3 - q3) = nu := by rw [IntKind.wrap_i64, hnu]; omega
        have HX5 : Hid (OwnC (w2.alloc (.cells #[.int .i64 y1, .int .i64 y2, .int .i64 y3, .int .i64 y4] 32)) w2.heap.size [.int .i64 y1, .int .i64 y2, .int .i64 y3, .int .i64 y4]) := OwnC.new w2 [.int .i64 y1, .int .i64 y2, .int .i64 y3, .int .i64 y4] _ _ rfl
        have HX6 := Lib.hid (HX2.out.keep (grew_alloc w2 #[.int .i64 y1, .int .i64 y2, .int .i64 y3, .int .i64 y4] 32))
        have HG5 := Lib.hid (grew_trans HG2.out (grew_alloc w2 #[.int .i64 y1, .int .i64 y2, .int .i64 y3, .int .i64 y4] 32))
        have hne : w.heap.size ≠ w2.heap.size := by have := HX2.out.lt; omega
        have hnw : w.heap.size ≤ w2.heap.size := HG2.out.size
        rw [← hnu] at HC2
        clear hnu
        go_upto_region 9 with (fail)
        clear x0 x1 x2 a0 a1 a2 a3 hb HX2 HG2
        generalize w2.alloc (.cells #[.int .i64 y1, .int .i64 y2, .int .i64 y3, .int .i64 y4] 32) = w5 at *
        generalize hN2 : w2.heap.size = N2 at *
        generalize hN : w.heap.size = N at HX6 hne hnw ⊢
        have x2 := HX6.out.at 2 (.int .i64 q3) rfl
        have y0 := HX5.out.at 0 _ rfl; have y1' := HX5.out.at 1 _ rfl; have y2' := HX5.out.at 2 _ rfl; have y3' := HX5.out.at 3 _ rfl
        have f2 := HX5.out.fr 2 (by simp)
        by_cases hz : (0 : Int) < nu
        · have hmx : max nu 0 = nu := by omega
          have CS1 := fun w' g => CS (y1, y2, nu, y4) hdu.1 w' g
          have HS0 : Hid (setO ((y1, y2, nu, y4) : Ca) = some (y1, y2, nu, y4)) := by show _ = _; unfold setO; rw [if_neg (by simp only; omega)]
          have HC3 := Lib.hid (HC2.out.trans (if_neg (by omega)))
          rw [HNX.out (y1, y2, nu, y4) rfl rfl, HS0.out, ← HC3.out] at CS1
          try dsimp only at CS1
          clear CS HC2 HC3 HS0
          have HX7 := Lib.hid (HX5.out.set 2 (.int .i64 nu) (by simp))
          have HG7 : Hid (Grew w (w5.setCell ⟨N2, 2, none⟩ (.int .i64 nu))) := grew_set HG5.out _ (by rw [hN]; exact hnw)
          go_upto_region 10 with (fail)
          try simp only [hmx]
          generalize w5.setCell ⟨N2, 2, none⟩ (.int .i64 nu) = w7 at *
          clear y0 y1' y2' y3' f2 x2
          have y0 := HX7.out.at 0 (.int .i64 y1) rfl; have y1' := HX7.out.at 1 (.int .i64 y2) rfl; have y2' := HX7.out.at 2 (.int .i64 nu) rfl; have y3' := HX7.out.at 3 (.int .i64 y4) rfl
          have CS2 := CS1 w7 HG7.out
          clear CS1
          go_wp2_with (go_at_call 35; ((with_reducible refine CS2.mono ?_); rintro e w6 ⟨v6, rfl, ho, hg⟩; have HQ := Lib.hid (HOK2.out v6 w6 (ho.mono (grew_size HG7.out)) (grew_trans HG7.out hg)); clear ho hg))
          exact HQ.out
        · have hmx : max nu 0 = 0 := by omega
          have CS1 := fun w' g => CS (y1, y2, 0, y4) hdu.1 w' g
          have HS0 : Hid (setO ((y1, y2, 0, y4) : Ca) = none) := rfl
          have HC3 := Lib.hid (HC2.out.trans (if_pos (by omega)))
          rw [HNX.out (y1, y2, 0, y4) rfl rfl, HS0.out, ← HC3.out] at CS1
          try dsimp only at CS1
          clear CS HC2 HC3 HS0
          have HX7 := Lib.hid (HX5.out.set 2 (.int .i64 0) (by simp))
          have HG7 : Hid (Grew w (w5.setCell ⟨N2, 2, none⟩ (.int .i64 0))) := grew_set HG5.out _ (by rw [hN]; exact hnw)
          go_upto_region 10 with (fail)
          try simp only [hmx]
          generalize w5.setCell ⟨N2, 2, none⟩ (.int .i64 0) = w7 at *
          clear y0 y1' y2' y3' f2 x2
          have y0 := HX7.out.at 0 (.int .i64 y1) rfl; have y1' := HX7.out.at 1 (.int .i64 y2) rfl; have y2' := HX7.out.at 2 (.int .i64 0) rfl; have y3' := HX7.out.at 3 (.int .i64 y4) rfl
          have CS2 := CS1 w7 HG7.out
          clear CS1
          go_wp2_with (go_at_call 35; ((with_reducible refine CS2.mono ?_); rintro e w6 ⟨v6, rfl, ho, hg⟩; have HQ := Lib.hid (HOK2.out v6 w6 (ho.mono (grew_size HG7.out)) (grew_trans HG7.out hg)); clear ho hg))
          exact HQ.out
    · have h2 : okDu (q1, q2, q3) = false := by simpa using h2
      have he := HE3.out h1 h2
      rw [h2] at CP
      clear HE3 HE14 HE0 HOK HS HDU h1 h2 CF HFI HMO
      go_wp2_with (go_at_call 34; ((with_reducible refine (CP _).mono ?_); rintro e w3 ⟨rfl, hg⟩; have HG3 := Lib.hid (grew_trans HG2.out hg); clear hg CP))
      exact HNO.out 3 _ he (by decide) HG3.out
  · have h1 : rightCa l = false := by simpa using h1
    have he := HE14.out h1
    rw [h1] at CK1
    clear HE3 HE14 HE0 HOK HS HDU h1 CP CF HFI HMO
    go_wp2_with (go_at_call 10; ((with_reducible refine CK1.mono ?_); rintro e w2 ⟨rfl, hg⟩; have HG2 := Lib.hid (grew_trans HG0.out hg); clear hg CK1))
    exact HNO.out 14 _ he (by decide) HG2.out
end Go.Proofs.Ytaipgcckafbgeaa.NumK
namespace Go.Proofs.Ytaipgcckafbgeaa.NumK
open Go.RowKit
set_option linter.unusedVariables false

set_option maxRecDepth 100000 in
set_option maxHeartbeats 2000000 in
theorem wakes18_any (w : World) : Calls Try.prog 23 #[] w fun e w' => e = .returned (.bool true) ∧ Grew w w' := by
  have C1 := clask_any none 0 0 [] (1, 0, 50) 7 w (RowE.nil _ _ _) (fun _ => rfl) (by omega) (by omega) (by omega)
  have C2 := fun A c w' (h : RowE enC4 w' A 1 [(1, 0, 50, 7)]) (hA : A = none → c = 0) (h1 : 1 ≤ c) (h2 : c ≤ 9223372036854775807) => clask_any A 1 c [(1, 0, 50, 7)] (1, 0, 80) 9 w' h hA h1 h2 (by omega)
  unfold AskPost at C1 C2
  rw [show askE [] (1, 0, 50) 7 = 0 by decide +kernel, show askL [] (1, 0, 50) 7 = [(1, 0, 50, 7)] by decide +kernel] at C1
  rw [show askE [(1, 0, 50, 7)] (1, 0, 80) 9 = 0 by decide +kernel, show askL [(1, 0, 50, 7)] (1, 0, 80) 9 = [(1, 0, 80, 7)] by decide +kernel] at C2
  dsimp only [vDe] at C1 C2
  go_enter Try.func23, Try.ntmps23
  go_upto_region 2 with (go_at_call 13; ((with_reducible refine C1.mono ?_); rintro e w2 ⟨v2, rfl, ho, hg⟩; have HO := Lib.hid ho; have HG2 := Lib.hid hg; clear hg ho C1))
  obtain ⟨A2, c2, rfl, -⟩ := HO.out.form
  obtain ⟨hr2, hk2, hl2, hc2⟩ := own_form HO.out
  have CC := C2 A2 c2 w2 hr2 hk2 hl2 hc2
  clear C2 hr2 hk2 hl2 hc2 HO
  go_upto_region 3 with (go_at_call 13; ((with_reducible refine CC.mono ?_); rintro e w3 ⟨v3, rfl, ho, hg⟩; have HO := Lib.hid ho; have HG3 := Lib.hid (grew_trans HG2.out hg); clear hg ho CC))
  obtain ⟨A3, c3, rfl, hr3, -⟩ := HO.out.form
  obtain ⟨b, o, rfl, hb, hc⟩ := hr3.ca (j := 0) (by decide)
  obtain ⟨a0, a1, a2, a3⟩ := hc 0 (by decide)
  rw [show o + 0 * 4 = o by omega] at a0 a1 a2 a3
  have a2 : w3.cell? ⟨b, o + 2, none⟩ = some (.int .i64 80) := a2
  have a3 : w3.cell? ⟨b, o + 3, none⟩ = some (.int .i64 7) := a3
  clear a0 a1 hc hr3 HO
  go_wp2
  go_ret
  exact ⟨rfl, HG3.out⟩

set_option maxRecDepth 100000 in
set_option maxHeartbeats 2000000 in
theorem kept_any (A B : Option Addr) (n c m d : Nat) (l k : List Ca) (w : World) (h : RowE enC4 w A n l) (h2 : RowE enC4 w B m k) (hk : keptL l k) (hn : n ≤ 1000000) (hm : m ≤ 1000000) :
    Calls Try.prog 24 #[.slice A n c, .slice B m d] w fun e w' => e = .returned (.bool true) ∧ Grew w w' := by
  have HI := Lib.hid h
  have HJ := Lib.hid h2
  have HL := Lib.hid h.len
  have HM := Lib.hid h2.len
  have HK := Lib.hid hk
  clear h h2 hk
  go_enter Try.func24, Try.ntmps24
  go_wp2
  go_loopw [5] (fun v wr => ∃ j : Nat, v = .int .i64 j ∧ j ≤ n ∧ Hid (Grew w wr)) (fun v _ => n - (intOf v).toNat)
  case atStart => exact ⟨0, rfl, by omega, grew_refl _⟩
  case round =>
    obtain ⟨j, rfl, hj, HG⟩ := hrel
    by_cases hlt : j < n
    · obtain ⟨b, o, rfl, hb, hc⟩ := (HI.out.keep HG.out).ca hlt
      obtain ⟨a0, a1, a2, a3⟩ := hc j hlt
      have i0 : (0 : Int) ≤ (j : Int) := by omega
      have i1 : (j : Int) < (n : Int) := by omega
      have HKX := Lib.hid (HK.out (l.getD j ca0) (getD_mem l ca0 j (by rw [HL.out]; exact hlt)))
      have CX := fun w' (g : Grew wr w') => rcalledV_any B m d k (l.getD j ca0).1 (l.getD j ca0).2.1 w' (HJ.out.keep (grew_trans HG.out g)) hm
      have HPL := Lib.hid (placeC_P (l.getD j ca0).1 (l.getD j ca0).2.1 k)
      clear hc
      generalize l.getD j ca0 = x at *
      obtain ⟨q1, q2, q3, q4⟩ := x
      dsimp only at a0 a1 a2 a3 CX HKX HPL
      generalize placeC q1 q2 k = V at *
      have x0 := grew_every (w := wr) (S := fun w' => w'.cell? ⟨b, o + j * 4, none⟩ = some (.int .i64 q1)) (fun w' g => (grew_cell g (p := ⟨b, _, none⟩) hb).trans a0)
      have x1 := grew_every (w := wr) (S := fun w' => w'.cell? ⟨b, o + j * 4 + 1, none⟩ = some (.int .i64 q2)) (fun w' g => (grew_cell g (p := ⟨b, _, none⟩) hb).trans a1)
      go_upto_region 4 with (fail)
      refine wp_region_grew (by kernel_rfl) (by kernel_rfl) ?_
      repeat (go_big_quiet_step (with_reducible exact calls_every CX))
      refine wpQuiet_nil ?_
      intro w5 hw'
      have HG5 := Lib.hid (grew_of hw')
      have a3' : w5.cell? ⟨b, o + j * 4 + 3, none⟩ = some (.int .i64 q4) := (grew_cell HG5.out (p := ⟨b, _, none⟩) hb).trans a3
      have hb5 : b < w5.heap.size := Nat.lt_of_lt_of_le hb HG5.out.size
      clear hw' x0 x1 a0 a1 a2 a3 hb
      have HGG := Lib.hid (grew_trans HG.out HG5.out)
      have x3 := grew_every (w := w5) (S := fun w' => w'.cell? ⟨b, o + j * 4 + 3, none⟩ = some (.int .i64 q4)) (fun w' g => (grew_cell g (p := ⟨b, _, none⟩) hb5).trans a3')
      rcases HPL.out with ⟨rfl, hf⟩ | ⟨p, rfl, hp, hf⟩
      · clear HPL HKX hf CX a3' hb5
        go_upto_region 5 with (fail)
        refine wp_region_grew (by kernel_rfl) (by kernel_rfl) ?_
        repeat (go_big_quiet_step (fail))
        refine wpQuiet_nil ?_
        intro w6 hw'
        have HG6 := Lib.hid (grew_trans HGG.out (grew_of hw'))
        clear hw' x3
        go_wp2
        go_roundw
        case rel => exact ⟨j + 1, by go_num, by omega, HG6.out⟩
        case measure => simp only [intOf]; omega
      · have hpm : p < m := by rw [← HM.out]; exact hp
        have he := HKX.out _ hf
        obtain ⟨b2, o2, rfl, hb2, hc2⟩ := (HJ.out.keep HGG.out).ca hpm
        obtain ⟨-, -, -, e3⟩ := hc2 p hpm
        rw [he] at e3
        have y3 := grew_every (w := w5) (S := fun w' => w'.cell? ⟨b2, o2 + p * 4 + 3, none⟩ = some (.int .i64 q4)) (fun w' g => (grew_cell g (p := ⟨b2, _, none⟩) hb2).trans e3)
        have p0 : (0 : Int) ≤ (p : Int) := by omega
        have p1 : (p : Int) < (m : Int) := by omega
        have p2 : (p : Int) ≥ 0 := by omega
        clear HPL HKX hf CX a3' hb5 hc2 he e3 hb2
        go_upto_region 5 with (fail)
        refine wp_region_grew (by kernel_rfl) (by kernel_rfl) ?_
        repeat (go_big_quiet_step (fail))
        refine wpQuiet_nil ?_
        intro w6 hw'
        have HG6 := Lib.hid (grew_trans HGG.out (grew_of hw'))
        clear hw' x3 y3
        go_wp2
        go_roundw
        case rel => exact ⟨j + 1, by go_num, by omega, HG6.out⟩
        case measure => simp only [intOf]; omega
    · obtain rfl : j = n := by omega
      go_wp2
      go_ret
      exact ⟨rfl, HG.out⟩
end Go.Proofs.Ytaipgcckafbgeaa.NumK
namespace Go.Proofs.Ytaipgcckafbgeaa.NumK
open Go.RowKit
set_option linter.unusedVariables false

theorem setL_len {α : Type} (no : α → Int) (l : List α) (k : Int) (o : Option α) : (setL no l k o).length ≤ 2 * l.length + 1 := by
  unfold setL
  rw [List.length_append, List.length_append]
  have h1 := List.length_filter_le (fun y : α => decide (no y < k)) l
  have h2 := List.length_filter_le (fun y : α => decide (k < no y)) l
  have h3 : o.toList.length ≤ 1 := by cases o <;> simp
  omega
theorem askL_len (l : List Ca) (d : Du) (t : Int) : (askL l d t).length ≤ 2 * l.length + 1 := by
  unfold askL
  split
  · exact setL_len _ _ _ _
  · simp
theorem meetL_len (l : List Ca) (d : Du) : (meetL l d).length ≤ 2 * l.length + 1 := by
  unfold meetL
  split
  · exact setL_len _ _ _ _
  · simp

set_option maxRecDepth 100000 in
set_option maxHeartbeats 8000000 in
theorem callOthers_walk (A : Option Addr) (n c : Nat) (l : List Ca) (d : Du) (t who cur : Int) (w : World) (h : RowE enC4 w A n l) (hA : A = none → c = 0) (hnc : n ≤ c) (hc : c ≤ 9223372036854775807) :
    Calls Try.prog 7 #[.slice A n c, vDe d, .int .i64 t, .int .i64 who, .int .i64 cur] w fun e w' => e = .returned (.bool true) ∧ Grew w w' := by
  have HI := Lib.hid h
  have HL := Lib.hid h.len
  have HA := Lib.hid hA
  have CW := fun w => wakes18_any w
  have HAF := Lib.hid (fun h => @ask_find l d t h who cur)
  have HMF := Lib.hid (fun h => @meet_find l d h who cur)
  have HAL := Lib.hid (askL_len l d t)
  have HML := Lib.hid (meetL_len l d)
  clear h hA
  obtain ⟨q1, q2, q3⟩ := d
  dsimp only [vDe] at *
  have HX0 : Hid (OwnC (w.alloc (.cells #[.int .i64 q1, .int .i64 q2, .int .i64 q3] 24)) w.heap.size [.int .i64 q1, .int .i64 q2, .int .i64 q3]) := OwnC.new w [.int .i64 q1, .int .i64 q2, .int .i64 q3] _ _ rfl
  have HG0 : Hid (Grew w (w.alloc (.cells #[.int .i64 q1, .int .i64 q2, .int .i64 q3] 24))) := grew_alloc _ _ _
  go_enter Try.func7, Try.ntmps7
  go_upto_region 1 with (fail)
  generalize w.alloc (.cells #[.int .i64 q1, .int .i64 q2, .int .i64 q3] 24) = w0 at *
  by_cases hn : n > 300
  · have j1 : (n : Int) > 300 := by omega
    clear CW
    go_wp2
    go_ret
    exact ⟨rfl, HG0.out⟩
  · have j1 : ¬ (n : Int) > 300 := by omega
    have C1 := rcalls_any A n c l w0 (HI.out.keep HG0.out) (by omega)
    by_cases hr : rightCa l = true
    · rw [hr] at C1
      by_cases he : who = q1 ∧ cur = q2
      · obtain ⟨rfl, rfl⟩ := he
        clear CW HAF HMF
        go_upto_region 1 with (fail)
        go_wp2_with (go_at_call 10; ((with_reducible refine C1.mono ?_); rintro e w1 ⟨rfl, hg⟩; have HX1 := Lib.hid (HX0.out.keep hg); have HG1 := Lib.hid (grew_trans HG0.out hg); have x0 := HX1.out.at 0 _ rfl; have x1 := HX1.out.at 1 _ rfl; clear hg C1 HX0 HG0))
        go_ret
        exact ⟨rfl, HG1.out⟩
      · have HAF2 : Hid (askE l (q1, q2, q3) t = 0 → findC (askL l (q1, q2, q3) t) who cur = findC l who cur) := fun h => by rw [HAF.out h, if_neg he]
        have HMF2 : Hid (meetE l (q1, q2, q3) = 0 → findC (meetL l (q1, q2, q3)) who cur = findC l who cur) := fun h => by rw [HMF.out h, if_neg he]
        clear HAF HMF
        have hd : (who = q1 ∧ (cur == q2) = false) ∨ (who == q1) = false := by
          by_cases e : who = q1
          · left; refine ⟨e, ?_⟩; rw [beq_eq_false_iff_ne]; exact fun e2 => he ⟨e, e2⟩
          · right; rw [beq_eq_false_iff_ne]; exact e
        clear he hr
        rcases hd with ⟨rfl, d1⟩ | d1
        · have HT : True := trivial
          clear HT
          go_upto_region 3 with (go_at_call 10; ((with_reducible refine C1.mono ?_); rintro e w1 ⟨rfl, hg⟩; have HX1 := Lib.hid (HX0.out.keep hg); have HG1 := Lib.hid (grew_trans HG0.out hg); have x0 := HX1.out.at 0 _ rfl; have x1 := HX1.out.at 1 _ rfl; have x2 := HX1.out.at 2 _ rfl; clear hg C1 HX0 HG0))
          have CA := clask_any A n c l (who, q2, q3) t w1 (HI.out.keep HG1.out) HA.out hnc hc (by omega)
          unfold AskPost at CA
          dsimp only [vDe] at CA
          go_upto_region 4 with (go_at_call 13; ((with_reducible refine CA.mono ?_); rintro e w2 ⟨va, rfl, ho, hg⟩; have HOA := Lib.hid ho; have HX2 := Lib.hid (HX1.out.keep hg); have HG2 := Lib.hid (grew_trans HG1.out hg); clear hg ho CA HX1 HG1 x0 x1 x2))
          have x0 := HX2.out.at 0 _ rfl; have x1 := HX2.out.at 1 _ rfl; have x2 := HX2.out.at 2 _ rfl
          have CM := clmeet_any A n c l (who, q2, q3) w2 (HI.out.keep HG2.out) HA.out hnc hc (by omega)
          unfold MeetPost at CM
          dsimp only [vDe] at CM
          go_upto_region 5 with (go_at_call 17; ((with_reducible refine CM.mono ?_); rintro e w3 ⟨vb, rfl, ho, hg⟩; have HOB := Lib.hid ho; have HOA3 := Lib.hid (HOA.out.keep hg); have HX3 := Lib.hid (HX2.out.keep hg); have HG3 := Lib.hid (grew_trans HG2.out hg); clear hg ho CM HX2 HG2 HOA x0 x1 x2))
          have C5 := rcalled_any A n c l who cur w3 (HI.out.keep HG3.out) (by omega)
          go_upto_region 6 with (go_at_call 11; ((with_reducible refine C5.mono ?_); rintro e w4 ⟨r, rfl, hp, hg⟩; have HP := Lib.hid hp; have HOA4 := Lib.hid (HOA3.out.keep hg); have HOB4 := Lib.hid (HOB.out.keep hg); have HG4 := Lib.hid (grew_trans HG3.out hg); clear hg hp C5 HX3 HG3 HOA3 HOB))
          generalize askL l (who, q2, q3) t = La at *
          generalize meetL l (who, q2, q3) = Lb at *
          generalize askE l (who, q2, q3) t = Ea at *
          generalize meetE l (who, q2, q3) = Eb at *
          obtain ⟨Aa, ca, rfl, hra, -⟩ := HOA4.out.form
          obtain ⟨Ab, cb, rfl, hrb, -⟩ := HOB4.out.form
          have HRa := Lib.hid hra
          have HRb := Lib.hid hrb
          clear hra hrb HOA4 HOB4 hnc hc HA
          go_wp2
          go_loopw [16] (fun v wr => ∃ k : Nat, v = .int .i64 k ∧ k ≤ 2 ∧ Hid (Grew w4 wr)) (fun v _ => 2 - (intOf v).toNat)
          case atStart => exact ⟨0, rfl, by omega, grew_refl _⟩
          case round =>
            obtain ⟨k, rfl, hk, HGR⟩ := hrel
            have hk3 : k = 0 ∨ k = 1 ∨ k = 2 := by omega
            rcases hk3 with rfl | rfl | rfl
            · clear CW
              by_cases he : Ea = 0
              · have hfx := HAF2.out he
                subst he
                have CX := rcalled_any Aa _ ca La who cur wr (HRa.out.keep HGR.out) (by have := HAL.out; have := HL.out; omega)
                go_upto_region 14 with (go_at_call 11; ((with_reducible refine CX.mono ?_); rintro e w7 ⟨r2, rfl, hp2, hg⟩; have HP2 := Lib.hid hp2; have HG7 := Lib.hid (grew_trans HGR.out hg); clear hg hp2 CX))
                rcases HP.out with ⟨rfl, hf⟩ | ⟨i, rfl, hi, hf⟩
                · rcases HP2.out with ⟨rfl, hf2⟩ | ⟨j, rfl, hj, hf2⟩
                  · clear hf hf2 HP HP2 hfx
                    refine wp_region_grew (by kernel_rfl) (by kernel_rfl) ?_
                    repeat (go_big_quiet_step (fail))
                    refine wpQuiet_nil ?_
                    intro w8 hw'
                    have HG8 := Lib.hid (grew_trans HG7.out (grew_of hw'))
                    clear hw'
                    go_wp2
                    go_roundw
                    case rel => exact ⟨1, by go_num, by omega, HG8.out⟩
                    case measure => simp only [intOf]; omega
                  · exfalso
                    rw [hfx, hf] at hf2
                    cases hf2
                · rcases HP2.out with ⟨rfl, hf2⟩ | ⟨j, rfl, hj, hf2⟩
                  · exfalso
                    rw [hfx, hf] at hf2
                    cases hf2
                  · have hin : i < n := by have := HL.out; omega
                    have HGW := Lib.hid (grew_trans HG4.out HG7.out)
                    obtain ⟨b, o, rfl, hb, hcc⟩ := (HI.out.keep HGW.out).ca hin
                    obtain ⟨-, -, a2, a3⟩ := hcc i hin
                    obtain ⟨b2, o2, rfl, hb2, hcc2⟩ := (HRa.out.keep HG7.out).ca hj
                    obtain ⟨-, -, e2, e3⟩ := hcc2 j hj
                    rw [hfx, hf] at hf2
                    have hf3 := Option.some.inj hf2
                    rw [← hf3] at e2 e3
                    generalize l.getD i ca0 = y at a2 a3 e2 e3
                    obtain ⟨y1, y2, y3, y4⟩ := y
                    dsimp only at a2 a3 e2 e3
                    have z2 := grew_every (w := w7) (S := fun w' => w'.cell? ⟨b, o + i * 4 + 2, none⟩ = some (.int .i64 y3)) (fun w' g => (grew_cell g (p := ⟨b, _, none⟩) hb).trans a2)
                    have z3 := grew_every (w := w7) (S := fun w' => w'.cell? ⟨b, o + i * 4 + 3, none⟩ = some (.int .i64 y4)) (fun w' g => (grew_cell g (p := ⟨b, _, none⟩) hb).trans a3)
                    have u2 := grew_every (w := w7) (S := fun w' => w'.cell? ⟨b2, o2 + j * 4 + 2, none⟩ = some (.int .i64 y3)) (fun w' g => (grew_cell g (p := ⟨b2, _, none⟩) hb2).trans e2)
                    have u3 := grew_every (w := w7) (S := fun w' => w'.cell? ⟨b2, o2 + j * 4 + 3, none⟩ = some (.int .i64 y4)) (fun w' g => (grew_cell g (p := ⟨b2, _, none⟩) hb2).trans e3)
                    have p0 : (0 : Int) ≤ (i : Int) := by omega
                    have p1 : (i : Int) < (n : Int) := by omega
                    have p2 : (i : Int) ≥ 0 := by omega
                    have p3 : (0 : Int) ≤ (j : Int) := by omega
                    have p4 : (j : Int) < (La.length : Int) := by omega
                    have p5 : (j : Int) ≥ 0 := by omega
                    clear hf hf2 hf3 HP HP2 hfx a2 a3 e2 e3 hcc hcc2 hb hb2 HI HRa
                    refine wp_region_grew (by kernel_rfl) (by kernel_rfl) ?_
                    repeat (go_big_quiet_step (fail))
                    refine wpQuiet_nil ?_
                    intro w8 hw'
                    have HG8 := Lib.hid (grew_trans HG7.out (grew_of hw'))
                    clear hw' z2 z3 u2 u3
                    go_wp2
                    go_roundw
                    case rel => exact ⟨1, by go_num, by omega, HG8.out⟩
                    case measure => simp only [intOf]; omega
              · have d2 : (Ea == 0) = false := by simpa using he
                have d3 : (Ea != 0) = true := bne_iff_ne.2 he
                clear he HP
                go_wp2
                go_roundw
                case rel => exact ⟨1, by go_num, by omega, HGR.out⟩
                case measure => simp only [intOf]; omega
            · clear CW
              by_cases he : Eb = 0
              · have hfx := HMF2.out he
                subst he
                have CX := rcalled_any Ab _ cb Lb who cur wr (HRb.out.keep HGR.out) (by have := HML.out; have := HL.out; omega)
                go_upto_region 14 with (go_at_call 11; ((with_reducible refine CX.mono ?_); rintro e w7 ⟨r2, rfl, hp2, hg⟩; have HP2 := Lib.hid hp2; have HG7 := Lib.hid (grew_trans HGR.out hg); clear hg hp2 CX))
                rcases HP.out with ⟨rfl, hf⟩ | ⟨i, rfl, hi, hf⟩
                · rcases HP2.out with ⟨rfl, hf2⟩ | ⟨j, rfl, hj, hf2⟩
                  · clear hf hf2 HP HP2 hfx
                    refine wp_region_grew (by kernel_rfl) (by kernel_rfl) ?_
                    repeat (go_big_quiet_step (fail))
                    refine wpQuiet_nil ?_
                    intro w8 hw'
                    have HG8 := Lib.hid (grew_trans HG7.out (grew_of hw'))
                    clear hw'
                    go_wp2
                    go_roundw
                    case rel => exact ⟨2, by go_num, by omega, HG8.out⟩
                    case measure => simp only [intOf]; omega
                  · exfalso
                    rw [hfx, hf] at hf2
                    cases hf2
                · rcases HP2.out with ⟨rfl, hf2⟩ | ⟨j, rfl, hj, hf2⟩
                  · exfalso
                    rw [hfx, hf] at hf2
                    cases hf2
                  · have hin : i < n := by have := HL.out; omega
                    have HGW := Lib.hid (grew_trans HG4.out HG7.out)
                    obtain ⟨b, o, rfl, hb, hcc⟩ := (HI.out.keep HGW.out).ca hin
                    obtain ⟨-, -, a2, a3⟩ := hcc i hin
                    obtain ⟨b2, o2, rfl, hb2, hcc2⟩ := (HRb.out.keep HG7.out).ca hj
                    obtain ⟨-, -, e2, e3⟩ := hcc2 j hj
                    rw [hfx, hf] at hf2
                    have hf3 := Option.some.inj hf2
                    rw [← hf3] at e2 e3
                    generalize l.getD i ca0 = y at a2 a3 e2 e3
                    obtain ⟨y1, y2, y3, y4⟩ := y
                    dsimp only at a2 a3 e2 e3
                    have z2 := grew_every (w := w7) (S := fun w' => w'.cell? ⟨b, o + i * 4 + 2, none⟩ = some (.int .i64 y3)) (fun w' g => (grew_cell g (p := ⟨b, _, none⟩) hb).trans a2)
                    have z3 := grew_every (w := w7) (S := fun w' => w'.cell? ⟨b, o + i * 4 + 3, none⟩ = some (.int .i64 y4)) (fun w' g => (grew_cell g (p := ⟨b, _, none⟩) hb).trans a3)
                    have u2 := grew_every (w := w7) (S := fun w' => w'.cell? ⟨b2, o2 + j * 4 + 2, none⟩ = some (.int .i64 y3)) (fun w' g => (grew_cell g (p := ⟨b2, _, none⟩) hb2).trans e2)
                    have u3 := grew_every (w := w7) (S := fun w' => w'.cell? ⟨b2, o2 + j * 4 + 3, none⟩ = some (.int .i64 y4)) (fun w' g => (grew_cell g (p := ⟨b2, _, none⟩) hb2).trans e3)
                    have p0 : (0 : Int) ≤ (i : Int) := by omega
                    have p1 : (i : Int) < (n : Int) := by omega
                    have p2 : (i : Int) ≥ 0 := by omega
                    have p3 : (0 : Int) ≤ (j : Int) := by omega
                    have p4 : (j : Int) < (Lb.length : Int) := by omega
                    have p5 : (j : Int) ≥ 0 := by omega
                    clear hf hf2 hf3 HP HP2 hfx a2 a3 e2 e3 hcc hcc2 hb hb2 HI HRb
                    refine wp_region_grew (by kernel_rfl) (by kernel_rfl) ?_
                    repeat (go_big_quiet_step (fail))
                    refine wpQuiet_nil ?_
                    intro w8 hw'
                    have HG8 := Lib.hid (grew_trans HG7.out (grew_of hw'))
                    clear hw' z2 z3 u2 u3
                    go_wp2
                    go_roundw
                    case rel => exact ⟨2, by go_num, by omega, HG8.out⟩
                    case measure => simp only [intOf]; omega
              · have d2 : (Eb == 0) = false := by simpa using he
                have d3 : (Eb != 0) = true := bne_iff_ne.2 he
                clear he HP
                go_wp2
                go_roundw
                case rel => exact ⟨2, by go_num, by omega, HGR.out⟩
                case measure => simp only [intOf]; omega
            · clear HP
              go_wp2_with (go_at_call 23; ((with_reducible refine (CW _).mono ?_); rintro e wz ⟨rfl, hg⟩; have HGZ := Lib.hid (grew_trans (grew_trans HG4.out HGR.out) hg); clear hg CW))
              go_ret
              exact ⟨rfl, HGZ.out⟩
        · have HT : True := trivial
          clear HT
          go_upto_region 3 with (go_at_call 10; ((with_reducible refine C1.mono ?_); rintro e w1 ⟨rfl, hg⟩; have HX1 := Lib.hid (HX0.out.keep hg); have HG1 := Lib.hid (grew_trans HG0.out hg); have x0 := HX1.out.at 0 _ rfl; have x1 := HX1.out.at 1 _ rfl; have x2 := HX1.out.at 2 _ rfl; clear hg C1 HX0 HG0))
          have CA := clask_any A n c l (q1, q2, q3) t w1 (HI.out.keep HG1.out) HA.out hnc hc (by omega)
          unfold AskPost at CA
          dsimp only [vDe] at CA
          go_upto_region 4 with (go_at_call 13; ((with_reducible refine CA.mono ?_); rintro e w2 ⟨va, rfl, ho, hg⟩; have HOA := Lib.hid ho; have HX2 := Lib.hid (HX1.out.keep hg); have HG2 := Lib.hid (grew_trans HG1.out hg); clear hg ho CA HX1 HG1 x0 x1 x2))
          have x0 := HX2.out.at 0 _ rfl; have x1 := HX2.out.at 1 _ rfl; have x2 := HX2.out.at 2 _ rfl
          have CM := clmeet_any A n c l (q1, q2, q3) w2 (HI.out.keep HG2.out) HA.out hnc hc (by omega)
          unfold MeetPost at CM
          dsimp only [vDe] at CM
          go_upto_region 5 with (go_at_call 17; ((with_reducible refine CM.mono ?_); rintro e w3 ⟨vb, rfl, ho, hg⟩; have HOB := Lib.hid ho; have HOA3 := Lib.hid (HOA.out.keep hg); have HX3 := Lib.hid (HX2.out.keep hg); have HG3 := Lib.hid (grew_trans HG2.out hg); clear hg ho CM HX2 HG2 HOA x0 x1 x2))
          have C5 := rcalled_any A n c l who cur w3 (HI.out.keep HG3.out) (by omega)
          go_upto_region 6 with (go_at_call 11; ((with_reducible refine C5.mono ?_); rintro e w4 ⟨r, rfl, hp, hg⟩; have HP := Lib.hid hp; have HOA4 := Lib.hid (HOA3.out.keep hg); have HOB4 := Lib.hid (HOB.out.keep hg); have HG4 := Lib.hid (grew_trans HG3.out hg); clear hg hp C5 HX3 HG3 HOA3 HOB))
          generalize askL l (q1, q2, q3) t = La at *
          generalize meetL l (q1, q2, q3) = Lb at *
          generalize askE l (q1, q2, q3) t = Ea at *
          generalize meetE l (q1, q2, q3) = Eb at *
          obtain ⟨Aa, ca, rfl, hra, -⟩ := HOA4.out.form
          obtain ⟨Ab, cb, rfl, hrb, -⟩ := HOB4.out.form
          have HRa := Lib.hid hra
          have HRb := Lib.hid hrb
          clear hra hrb HOA4 HOB4 hnc hc HA
          go_wp2
          go_loopw [16] (fun v wr => ∃ k : Nat, v = .int .i64 k ∧ k ≤ 2 ∧ Hid (Grew w4 wr)) (fun v _ => 2 - (intOf v).toNat)
          case atStart => exact ⟨0, rfl, by omega, grew_refl _⟩
          case round =>
            obtain ⟨k, rfl, hk, HGR⟩ := hrel
            have hk3 : k = 0 ∨ k = 1 ∨ k = 2 := by omega
            rcases hk3 with rfl | rfl | rfl
            · clear CW
              by_cases he : Ea = 0
              · have hfx := HAF2.out he
                subst he
                have CX := rcalled_any Aa _ ca La who cur wr (HRa.out.keep HGR.out) (by have := HAL.out; have := HL.out; omega)
                go_upto_region 14 with (go_at_call 11; ((with_reducible refine CX.mono ?_); rintro e w7 ⟨r2, rfl, hp2, hg⟩; have HP2 := Lib.hid hp2; have HG7 := Lib.hid (grew_trans HGR.out hg); clear hg hp2 CX))
                rcases HP.out with ⟨rfl, hf⟩ | ⟨i, rfl, hi, hf⟩
                · rcases HP2.out with ⟨rfl, hf2⟩ | ⟨j, rfl, hj, hf2⟩
                  · clear hf hf2 HP HP2 hfx
                    refine wp_region_grew (by kernel_rfl) (by kernel_rfl) ?_
                    repeat (go_big_quiet_step (fail))
                    refine wpQuiet_nil ?_
                    intro w8 hw'
                    have HG8 := Lib.hid (grew_trans HG7.out (grew_of hw'))
                    clear hw'
                    go_wp2
                    go_roundw
                    case rel => exact ⟨1, by go_num, by omega, HG8.out⟩
                    case measure => simp only [intOf]; omega
                  · exfalso
                    rw [hfx, hf] at hf2
                    cases hf2
                · rcases HP2.out with ⟨rfl, hf2⟩ | ⟨j, rfl, hj, hf2⟩
                  · exfalso
                    rw [hfx, hf] at hf2
                    cases hf2
                  · have hin : i < n := by have := HL.out; omega
                    have HGW := Lib.hid (grew_trans HG4.out HG7.out)
                    obtain ⟨b, o, rfl, hb, hcc⟩ := (HI.out.keep HGW.out).ca hin
                    obtain ⟨-, -, a2, a3⟩ := hcc i hin
                    obtain ⟨b2, o2, rfl, hb2, hcc2⟩ := (HRa.out.keep HG7.out).ca hj
                    obtain ⟨-, -, e2, e3⟩ := hcc2 j hj
                    rw [hfx, hf] at hf2
                    have hf3 := Option.some.inj hf2
                    rw [← hf3] at e2 e3
                    generalize l.getD i ca0 = y at a2 a3 e2 e3
                    obtain ⟨y1, y2, y3, y4⟩ := y
                    dsimp only at a2 a3 e2 e3
                    have z2 := grew_every (w := w7) (S := fun w' => w'.cell? ⟨b, o + i * 4 + 2, none⟩ = some (.int .i64 y3)) (fun w' g => (grew_cell g (p := ⟨b, _, none⟩) hb).trans a2)
                    have z3 := grew_every (w := w7) (S := fun w' => w'.cell? ⟨b, o + i * 4 + 3, none⟩ = some (.int .i64 y4)) (fun w' g => (grew_cell g (p := ⟨b, _, none⟩) hb).trans a3)
                    have u2 := grew_every (w := w7) (S := fun w' => w'.cell? ⟨b2, o2 + j * 4 + 2, none⟩ = some (.int .i64 y3)) (fun w' g => (grew_cell g (p := ⟨b2, _, none⟩) hb2).trans e2)
                    have u3 := grew_every (w := w7) (S := fun w' => w'.cell? ⟨b2, o2 + j * 4 + 3, none⟩ = some (.int .i64 y4)) (fun w' g => (grew_cell g (p := ⟨b2, _, none⟩) hb2).trans e3)
                    have p0 : (0 : Int) ≤ (i : Int) := by omega
                    have p1 : (i : Int) < (n : Int) := by omega
                    have p2 : (i : Int) ≥ 0 := by omega
                    have p3 : (0 : Int) ≤ (j : Int) := by omega
                    have p4 : (j : Int) < (La.length : Int) := by omega
                    have p5 : (j : Int) ≥ 0 := by omega
                    clear hf hf2 hf3 HP HP2 hfx a2 a3 e2 e3 hcc hcc2 hb hb2 HI HRa
                    refine wp_region_grew (by kernel_rfl) (by kernel_rfl) ?_
                    repeat (go_big_quiet_step (fail))
                    refine wpQuiet_nil ?_
                    intro w8 hw'
                    have HG8 := Lib.hid (grew_trans HG7.out (grew_of hw'))
                    clear hw' z2 z3 u2 u3
                    go_wp2
                    go_roundw
                    case rel => exact ⟨1, by go_num, by omega, HG8.out⟩
                    case measure => simp only [intOf]; omega
              · have d2 : (Ea == 0) = false := by simpa using he
                have d3 : (Ea != 0) = true := bne_iff_ne.2 he
                clear he HP
                go_wp2
                go_roundw
                case rel => exact ⟨1, by go_num, by omega, HGR.out⟩
                case measure => simp only [intOf]; omega
            · clear CW
              by_cases he : Eb = 0
              · have hfx := HMF2.out he
                subst he
                have CX := rcalled_any Ab _ cb Lb who cur wr (HRb.out.keep HGR.out) (by have := HML.out; have := HL.out; omega)
                go_upto_region 14 with (go_at_call 11; ((with_reducible refine CX.mono ?_); rintro e w7 ⟨r2, rfl, hp2, hg⟩; have HP2 := Lib.hid hp2; have HG7 := Lib.hid (grew_trans HGR.out hg); clear hg hp2 CX))
                rcases HP.out with ⟨rfl, hf⟩ | ⟨i, rfl, hi, hf⟩
                · rcases HP2.out with ⟨rfl, hf2⟩ | ⟨j, rfl, hj, hf2⟩
                  · clear hf hf2 HP HP2 hfx
                    refine wp_region_grew (by kernel_rfl) (by kernel_rfl) ?_
                    repeat (go_big_quiet_step (fail))
                    refine wpQuiet_nil ?_
                    intro w8 hw'
                    have HG8 := Lib.hid (grew_trans HG7.out (grew_of hw'))
                    clear hw'
                    go_wp2
                    go_roundw
                    case rel => exact ⟨2, by go_num, by omega, HG8.out⟩
                    case measure => simp only [intOf]; omega
                  · exfalso
                    rw [hfx, hf] at hf2
                    cases hf2
                · rcases HP2.out with ⟨rfl, hf2⟩ | ⟨j, rfl, hj, hf2⟩
                  · exfalso
                    rw [hfx, hf] at hf2
                    cases hf2
                  · have hin : i < n := by have := HL.out; omega
                    have HGW := Lib.hid (grew_trans HG4.out HG7.out)
                    obtain ⟨b, o, rfl, hb, hcc⟩ := (HI.out.keep HGW.out).ca hin
                    obtain ⟨-, -, a2, a3⟩ := hcc i hin
                    obtain ⟨b2, o2, rfl, hb2, hcc2⟩ := (HRb.out.keep HG7.out).ca hj
                    obtain ⟨-, -, e2, e3⟩ := hcc2 j hj
                    rw [hfx, hf] at hf2
                    have hf3 := Option.some.inj hf2
                    rw [← hf3] at e2 e3
                    generalize l.getD i ca0 = y at a2 a3 e2 e3
                    obtain ⟨y1, y2, y3, y4⟩ := y
                    dsimp only at a2 a3 e2 e3
                    have z2 := grew_every (w := w7) (S := fun w' => w'.cell? ⟨b, o + i * 4 + 2, none⟩ = some (.int .i64 y3)) (fun w' g => (grew_cell g (p := ⟨b, _, none⟩) hb).trans a2)
                    have z3 := grew_every (w := w7) (S := fun w' => w'.cell? ⟨b, o + i * 4 + 3, none⟩ = some (.int .i64 y4)) (fun w' g => (grew_cell g (p := ⟨b, _, none⟩) hb).trans a3)
                    have u2 := grew_every (w := w7) (S := fun w' => w'.cell? ⟨b2, o2 + j * 4 + 2, none⟩ = some (.int .i64 y3)) (fun w' g => (grew_cell g (p := ⟨b2, _, none⟩) hb2).trans e2)
                    have u3 := grew_every (w := w7) (S := fun w' => w'.cell? ⟨b2, o2 + j * 4 + 3, none⟩ = some (.int .i64 y4)) (fun w' g => (grew_cell g (p := ⟨b2, _, none⟩) hb2).trans e3)
                    have p0 : (0 : Int) ≤ (i : Int) := by omega
                    have p1 : (i : Int) < (n : Int) := by omega
                    have p2 : (i : Int) ≥ 0 := by omega
                    have p3 : (0 : Int) ≤ (j : Int) := by omega
                    have p4 : (j : Int) < (Lb.length : Int) := by omega
                    have p5 : (j : Int) ≥ 0 := by omega
                    clear hf hf2 hf3 HP HP2 hfx a2 a3 e2 e3 hcc hcc2 hb hb2 HI HRb
                    refine wp_region_grew (by kernel_rfl) (by kernel_rfl) ?_
                    repeat (go_big_quiet_step (fail))
                    refine wpQuiet_nil ?_
                    intro w8 hw'
                    have HG8 := Lib.hid (grew_trans HG7.out (grew_of hw'))
                    clear hw' z2 z3 u2 u3
                    go_wp2
                    go_roundw
                    case rel => exact ⟨2, by go_num, by omega, HG8.out⟩
                    case measure => simp only [intOf]; omega
              · have d2 : (Eb == 0) = false := by simpa using he
                have d3 : (Eb != 0) = true := bne_iff_ne.2 he
                clear he HP
                go_wp2
                go_roundw
                case rel => exact ⟨2, by go_num, by omega, HGR.out⟩
                case measure => simp only [intOf]; omega
            · clear HP
              go_wp2_with (go_at_call 23; ((with_reducible refine (CW _).mono ?_); rintro e wz ⟨rfl, hg⟩; have HGZ := Lib.hid (grew_trans (grew_trans HG4.out HGR.out) hg); clear hg CW))
              go_ret
              exact ⟨rfl, HGZ.out⟩
    · have hr : rightCa l = false := by simpa using hr
      rw [hr] at C1
      clear CW HAF HMF
      go_wp2_with (go_at_call 10; ((with_reducible refine C1.mono ?_); rintro e w1 ⟨rfl, hg⟩; have HG1 := Lib.hid (grew_trans HG0.out hg); clear hg C1 HG0))
      go_ret
      exact ⟨rfl, HG1.out⟩
end Go.Proofs.Ytaipgcckafbgeaa.NumK
namespace Go.Proofs.Ytaipgcckafbgeaa.NumK
open Go.RowKit Go.ChangeShapes Go.WideShapes
set_option linter.unusedVariables false

/-! ### rolls among the arguments -/
abbrev spI : Sp Int := spInt .i64
abbrev spMb : Sp Mb := spPair spI (spPair spI spI)
abbrev spAs : Sp As := spPair spI (spPair spI (spPair spI spI))
abbrev spSh : Sp (List Int) := spArr 6 spI
abbrev spInA : Sp (Int × Int × Int × Int × Int × Int × List Int) := spPair spI (spPair spI (spPair spI (spPair spI (spPair spI (spPair spI spSh)))))
def toIn (x : Int × Int × Int × Int × Int × Int × List Int) : In :=
  ((x.1, x.2.1, x.2.2.1, x.2.2.2.1, x.2.2.2.2.1, x.2.2.2.2.2.1), (x.2.2.2.2.2.2.getD 0 0, x.2.2.2.2.2.2.getD 1 0, x.2.2.2.2.2.2.getD 2 0, x.2.2.2.2.2.2.getD 3 0, x.2.2.2.2.2.2.getD 4 0, x.2.2.2.2.2.2.getD 5 0))
theorem opens_i : Opens Try.prog 3 spI := opens_int Try.underlying3 (by kernel_rfl)
def spIn : Sp In := spMap toIn spInA
theorem rowE_of {α : Type} {A : Sp α} {E : En α} (hs : E.size = A.size) (hf : ∀ w cs a, A.rd w cs a → cs = E.cs a) {w : World} {ad : Option Addr} {n : Nat} {l : List α} (h : Row A w ad n l) : RowE E w ad n l := by
  have := Row.imp (A := A) (B := E.sp) (fun x => x) hs (fun cs a hr => hf w cs a hr) h
  rwa [List.map_id'] at this
abbrev spRl : Sp Rl := spPair (spSlice spMb) (spPair (spSlice spIn) (spSlice spAs))
/-! ### Heavy -/
def heavyR (n1 n2 n3 : Nat) : Bool := decide (n1 > 100) || (decide (n2 > 100) || decide (n3 > 100))
end Go.Proofs.Ytaipgcckafbgeaa.NumK
namespace Go.Proofs.Ytaipgcckafbgeaa.NumK
open Go.RowKit

/-! ### Int: as money -/



end Go.Proofs.Ytaipgcckafbgeaa.NumK
namespace Go.Proofs.Ytaipgcckafbgeaa.NumK
open Go.RowKit

end Go.Proofs.Ytaipgcckafbgeaa.NumK
namespace Go.Proofs.Ytaipgcckafbgeaa.NumK
open Go.RowKit

end Go.Proofs.Ytaipgcckafbgeaa.NumK
namespace Go.Proofs.Ytaipgcckafbgeaa.NumK
open Go.RowKit
set_option linter.unusedVariables false

def qtys (l : List Po) : List Int := l.map (·.2.2.1)
def csts (l : List Po) : List Int := l.map (·.2.2.2)
/-- What the sums tell. -/
def SumPost (l : List Po) (w : World) (e : Ending) (w' : World) : Prop := e = .returned (.tuple #[.int .i64 (sumPQ l), .int .i64 (sumPC l), .int .i64 (sumPE l)]) ∧ Grew w w'
end Go.Proofs.Ytaipgcckafbgeaa.NumK
namespace Go.Proofs.Ytaipgcckafbgeaa.NumK
open Go.RowKit
set_option linter.unusedVariables false

/-- The quantities of an instrument, so far. -/
def rowI (l : List Po) (k : Nat) : List Int := qtys (l.filter (isI (k : Int)))
theorem Fam.set {κ α : Type} {E : En α} {w : World} {base : Nat} {t : TypeId} {v : κ → Value} {rows : κ → List α} (h : Fam E w base t v rows) (b i : Nat) (u : Value) (hb : b < base) : Fam E (w.setCell ⟨b, i, none⟩ u) base t v rows :=
  ⟨fun k => (h.own k).set b i u hb, h.ne⟩
end Go.Proofs.Ytaipgcckafbgeaa.NumK
namespace Go.Proofs.Ytaipgcckafbgeaa.NumK
open Go.RowKit
set_option linter.unusedVariables false

end Go.Proofs.Ytaipgcckafbgeaa.NumK
namespace Go.Proofs.Ytaipgcckafbgeaa.NumK
open Go.RowKit
set_option linter.unusedVariables false

end Go.Proofs.Ytaipgcckafbgeaa.NumK
namespace Go.Proofs.Ytaipgcckafbgeaa.NumK
open Go.RowKit
set_option linter.unusedVariables false

end Go.Proofs.Ytaipgcckafbgeaa.NumK
namespace Go.Proofs.Ytaipgcckafbgeaa.NumK
open Go.RowKit
set_option linter.unusedVariables false

abbrev vBk (next : Int) (A1 A2 : Option Addr) (n1 n2 c1 c2 : Nat) : Value := .agg #[.int .i64 next, .slice A1 n1 c1, .slice A2 n2 c2]
/-- What of a book's slices is known whoever owns them. -/
structure InB (w : World) (b : Bk) (A1 A2 : Option Addr) (n1 n2 c1 c2 : Nat) : Prop where
  t : RowE enTr w A1 n1 b.2.1
  p : RowE enPo w A2 n2 b.2.2
  k1 : A1 = none → c1 = 0
  k2 : A2 = none → c2 = 0
  l1 : n1 ≤ c1 ∧ c1 ≤ 9223372036854775807
  l2 : n2 ≤ c2 ∧ c2 ≤ 9223372036854775807
section
variable {w w' : World} {base : Nat} {b : Bk} {A1 A2 : Option Addr} {n1 n2 c1 c2 : Nat}
theorem InB.keep (h : InB w b A1 A2 n1 n2 c1 c2) (g : Grew w w') : InB w' b A1 A2 n1 n2 c1 c2 := ⟨h.t.keep g, h.p.keep g, h.k1, h.k2, h.l1, h.l2⟩
end
def chkB (b : Bk) : Int := if rightB b then 0 else 14
/-! ### slices.Clone -/
end Go.Proofs.Ytaipgcckafbgeaa.NumK
namespace Go.Proofs.Ytaipgcckafbgeaa.NumK
open Go.RowKit
set_option linter.unusedVariables false

end Go.Proofs.Ytaipgcckafbgeaa.NumK
namespace Go.Proofs.Ytaipgcckafbgeaa.NumK
open Go.RowKit
set_option linter.unusedVariables false

/-- A state as a value: its clock, roll, book, ledger, and four rows. -/
abbrev stV (t1 t2 t3 nx last : Int) (A1 A2 A3 E1 E2 L P Q1 Q2 Q3 : Option Addr) (n1 n2 n3 c1 c2 c3 m1 m2 k1 k2 nl cl np cp u1 v1 u2 v2 u3 v3 : Nat) : Value :=
  .agg #[.int .i64 t1, .int .i64 t2, .int .i64 t3, .slice A1 n1 c1, .slice A2 n2 c2, .slice A3 n3 c3, .int .i64 nx, .slice E1 m1 k1, .slice E2 m2 k2, .int .i64 last, .slice L nl cl, .slice P np cp, .slice Q1 u1 v1, .slice Q2 u2 v2, .slice Q3 u3 v3]
def heavyS (n1 n2 n3 m1 m2 nl np u1 u2 u3 : Nat) : Bool :=
  heavyR n1 n2 n3 || ((decide (300 < m1) || decide (300 < m2)) || (decide (300 < nl) || (decide (300 < np) || (decide (300 < u1) || (decide (300 < u2) || decide (300 < u3))))))
end Go.Proofs.Ytaipgcckafbgeaa.NumK
namespace Go.Proofs.Ytaipgcckafbgeaa.NumK
open Go.RowKit Go.ChangeShapes Go.WideShapes
set_option linter.unusedVariables false

abbrev spTrA : Sp (Int × Int × Int × Int × Int × Int × Bool) := spPair spI (spPair spI (spPair spI (spPair spI (spPair spI (spPair spI spBool)))))
def toTr (x : Int × Int × Int × Int × Int × Int × Bool) : Tr := ((x.1, x.2.1, x.2.2.1, x.2.2.2.1, x.2.2.2.2.1, x.2.2.2.2.2.1), x.2.2.2.2.2.2)
def spTr : Sp Tr := spMap toTr spTrA
abbrev spKey : Sp (Int × Int) := spPair spI spI
abbrev spPoA : Sp ((Int × Int) × Int × Int) := spPair spKey (spPair spI spI)
def toPo (x : (Int × Int) × Int × Int) : Po := (x.1.1, x.1.2, x.2.1, x.2.2)
def spPo : Sp Po := spMap toPo spPoA
abbrev spBk : Sp Bk := spPair spI (spPair (spSlice spTr) (spSlice spPo))
end Go.Proofs.Ytaipgcckafbgeaa.NumK
