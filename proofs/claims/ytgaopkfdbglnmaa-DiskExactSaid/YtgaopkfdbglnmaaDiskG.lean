/- disk: Write, walked. -/
import Derived.Test.YtgaopkfdbglnmaaDiskF
import Derived.Deep.CutBlock
namespace Go.Proofs.Ytgaopkfdbglnmaa.NumK
open Go.RowKit

set_option maxRecDepth 100000 in
set_option maxHeartbeats 1000000 in
theorem write_ok (F : Nat → Prop) (q : Nat) (s : DS) (k : Nat) (b : Blk) (w : World) (h : DK w F q s) (hb : b.length = 64) (hn : s.opn.length ≤ 1000000) (ho : s.off = false) (hk : k < s.safe.length) :
    Calls Try.prog 19 #[.pointer (some ⟨q, 0, none⟩), .int .i64 (k : Int), blkV' b] w (DPost F q w (.int .i64 (dWrite s k b).1) (dWrite s k b).2) := by
  have hr : refI s (k : Int) = 0 := by unfold refI DS.has; rw [ho]; simp [hk]
  have hz : ∀ w : World, Grew w (w.alloc (.cells (bytesV b).toArray 40)) := fun w => grew_alloc _ _ _
  have CR := Lib.hid (refuses_any F q s (k : Int) _ (h.grew (hz w)))
  have CL := Lib.hid (fun w5 F5 h5 => isLast_any F5 q (wrS s k b) w5 h5)
  rw [hr] at CR
  rw [dWrite_of ho hk]
  have hok := Lib.hid (dok_wr (b := b) h.ok ho hk hb)
  have hfit := Lib.hid h.fit
  obtain ⟨C, Y, v, L, H, h1, h2, h3⟩ := (h.grew (hz w)).ex
  obtain ⟨A, cap0, rfl⟩ := own_form h3
  have c0 := H.c0
  have c2 := H.c2
  have f2 := H.f2
  have hth := (h1.at' k (by rw [cont_len]; exact hk)).2
  have hbl := bytesV_len b
  rw [hb] at hbl
  have hone := bytesV_one b
  have hld : ((w.alloc (.cells (bytesV b).toArray 40)).rangeAt w.heap.size 0 (bytesV b)) := load_own w _ b _ (grew_refl _)
  have i0 : (0 : Int) ≤ (k : Int) := Int.natCast_nonneg _
  have i1 : (k : Int) < (s.safe.length : Int) := by omega
  have hu := Try.underlying40
  have hi : (Try.prog.info? 40).map (·.size) = some (bytesV b).length := size40 hbl.symm
  show Calls _ _ #[_, _, .agg (bytesV b).toArray] _ _
  have hC := h.fit C L.fC
  have hq := h.fit q L.fq
  have hqC := L.qC
  have hH := Lib.hid H
  have hL := Lib.hid L
  have H1 := Lib.hid h1
  have H2 := Lib.hid h2
  have H3 := Lib.hid h3
  have hG := Lib.hid (hz w)
  clear H L h1 h2 h3 h
  obtain ⟨cs, hbv'⟩ : ∃ cs, bytesV b = cs := ⟨_, rfl⟩
  obtain ⟨n, hnn'⟩ : ∃ n, s.safe.length = n := ⟨_, rfl⟩
  have hbv := Lib.hid hbv'
  have hnn := Lib.hid hnn'
  rw [hbv'] at hbl hone hld hi hG hH H1 H2 H3 CR c0 c2 f2 hth
  rw [hnn'] at i1 hH c0 hk
  rw [hbv']
  clear hbv' hnn' hz
  go_enter Try.func19, Try.ntmps19
  go_upto_region 4 with (first
      | (go_at_call 32; ((with_reducible refine CR.out.mono ?_); rintro e w1 ⟨rfl, rfl⟩)))
  generalize w.alloc (.cells cs.toArray 40) = w1 at *
  have d0 : (w1.drew.setCells C (k * 64) cs).cell? ⟨q, 0, none⟩ = some (.slice (some ⟨C, 0, none⟩) n n) := by
    rw [World.cell?_setCells_out _ _ _ _ _ (fun h => absurd h hqC)]; exact c0
  have d1 : (w1.drew.setCells C (k * 64) cs).rangeAt w.heap.size 0 cs := World.rangeAt_setCells_apart ((World.rangeAt_drew _ _ _ _).2 hld) _ _ _ (Or.inl (by omega))
  have d2 : (w1.drew.setCells C (k * 64) cs).there C (k * 64) 64 := World.there_setCells ((World.there_drew _ _ _ _).2 hth) _ _ _
  go_region_held3 (fun w' => w'.cell? ⟨q, 0, none⟩ = some (.slice (some ⟨C, 0, none⟩) n n) ∧ w'.rangeAt w.heap.size 0 cs ∧ w'.there C (k * 64) 64) (first | exact ⟨c0, (World.rangeAt_drew _ _ _ _).2 hld, (World.there_drew _ _ _ _).2 hth⟩ | exact ⟨d0, d1, d2⟩) (fail)
  have hw2 : (w1.drew.setCells C (k * 64) cs).heap.size = w1.heap.size := setCells_size _ _ _ _
  have e2 : (w1.drew.setCells C (k * 64) cs).cell? ⟨q, 2, none⟩ = some (.slice A s.opn.length cap0) := by
    rw [World.cell?_setCells_out _ _ _ _ _ (fun h => absurd h hqC)]; exact c2
  have ef2 : (w1.drew.setCells C (k * 64) cs).frozen? ⟨q, 2, none⟩ = false := by rw [World.frozen?_setCells]; exact f2
  obtain ⟨w2, hw⟩ : ∃ w2, w2 = w1.drew.setCells C (k * 64) cs := ⟨_, rfl⟩
  have HW := Lib.hid hw
  rw [← hw] at hw2 e2 ef2 d1
  rw [← hw]
  clear hw d0 d2
  obtain ⟨i66, hi66, hz66, hs66, hb66⟩ := info_parts info66
  have D3 : Hid ((w2.drew.alloc (.cells (.int .i64 (k : Int) :: cs).toArray 66)).rangeAt w.heap.size 0 cs) := World.rangeAt_alloc ((World.rangeAt_drew _ _ _ _).2 d1) _
  have HO : Hid ((w2.drew.alloc (.cells (.int .i64 (k : Int) :: cs).toArray 66)).ownsRow 0 66 65 (.slice A s.opn.length cap0) s.opn.length (opnC s.opn)) := by
    refine World.ownsRow.alloc (ownsRow_of H3.out fun i hi => ?_) _
    rw [HW.out]
    exact (setCells_same C cs (k * 64) w1.drew).2.2.2 i (hL.out.fv i hi).2.2.1
  have HN : Hid (∀ j u, (.int .i64 (k : Int) :: cs)[j]? = some u → (w2.drew.alloc (.cells (.int .i64 (k : Int) :: cs).toArray 66)).cell? ((⟨w2.heap.size, 0, none⟩ : Addr).add j) = some u) := by
    exact World.news_of_block (heap_alloc_new w2.drew (.cells (.int .i64 (k : Int) :: cs).toArray 66))
  have HV : Hid ((Value.slice A s.opn.length cap0).ownBlock ≠ some w.heap.size) := by
    intro h
    have := hfit.out _ (hL.out.fv _ h).1
    omega
  have HVq : Hid ((Value.slice A s.opn.length cap0).ownBlock ≠ some q) := fun h => (hL.out.fv _ h).2.1 rfl
  have hw3 : (w2.drew.alloc (.cells (.int .i64 (k : Int) :: cs).toArray 66)).heap.size = w2.heap.size + 1 := by simp
  have hq2 : q < w2.heap.size := by rw [hw2]; exact hH.out.lt
  have hB : Hid (w.heap.size < (w2.drew.alloc (.cells (.int .i64 (k : Int) :: cs).toArray 66)).heap.size) := by show _ < _; rw [hw3, hw2]; have := hG.out.size; omega
  have hQ : Hid (q < (w2.drew.alloc (.cells (.int .i64 (k : Int) :: cs).toArray 66)).heap.size) := by show _ < _; rw [hw3]; omega
  have e3 : (w2.drew.alloc (.cells (.int .i64 (k : Int) :: cs).toArray 66)).cell? ⟨q, 2, none⟩ = some (.slice A s.opn.length cap0) := (World.cell?_alloc_lt _ _ _ hq2).trans e2
  have ef3 : (w2.drew.alloc (.cells (.int .i64 (k : Int) :: cs).toArray 66)).frozen? ⟨q, 2, none⟩ = false := (World.frozen?_alloc_past _ _ _ hq2).trans ef2
  have e4 : (w2.alloc (.cells (.int .i64 (k : Int) :: cs).toArray 66)).cell? ⟨q, 2, none⟩ = some (.slice A s.opn.length cap0) := (World.cell?_alloc_lt _ _ _ hq2).trans e2
  have HP : Hid (∀ g cap w4, w4.ownsRow 0 66 65 (.slice (some ⟨g, 0, none⟩) (s.opn.length + 1) cap) (s.opn.length + 1) (opnC s.opn ++ .int .i64 (k : Int) :: cs) → (w2.drew.alloc (.cells (.int .i64 (k : Int) :: cs).toArray 66)).grownBy w4 (Value.slice A s.opn.length cap0).ownBlock →
      ((Value.slice A s.opn.length cap0).ownBlock = some g ∨ g = w2.heap.size + 1) → g < w4.heap.size → Chg F w (w4.setCell ⟨q, 2, none⟩ (.slice (some ⟨g, 0, none⟩) (s.opn.length + 1) cap)) ∧ DK (w4.setCell ⟨q, 2, none⟩ (.slice (some ⟨g, 0, none⟩) (s.opn.length + 1) cap)) (FX F w (w4.setCell ⟨q, 2, none⟩ (.slice (some ⟨g, 0, none⟩) (s.opn.length + 1) cap))) q (wrS s k b)) := by
    intro g cap w4 hown hgrow hat hlt
    have hg1 : Grew w w1.drew := grew_drew hG.out
    have := dk_write (w := w1.drew) (w2 := w2) (w3 := w2.drew.alloc (.cells (.int .i64 (k : Int) :: cs).toArray 66)) (w4 := w4) (g := g) (cap := cap) (k := k) (b := b) (fun i hi => Nat.lt_of_lt_of_le (hfit.out i hi) hg1.size) hok.out hL.out (by rw [hnn.out]; exact hH.out.of (w' := w1.drew) rfl (Nat.le_refl _)) (H1.out.of (w' := w1.drew) rfl (Nat.le_refl _)) (H2.out.of (w' := w1.drew) rfl (Nat.le_refl _)) (by rw [hnn.out]; exact hk) hb (by rw [hbv.out]; exact HW.out) (grew_trans (grew_drew (grew_refl _)) (grew_alloc _ _ _)) hgrow
      (by rw [show wrC (k, b) = .int .i64 (k : Int) :: bytesV b from rfl, hbv.out]; exact hown) (hat.imp id fun h => by rw [h, hw2]; show w1.heap.size ≤ _; omega) hlt
    refine ⟨hg1.chg.then this.1 (fun i _ hF => hF), this.2.more (fun i hi => ?_) (fx_fit hfit.out (Nat.le_trans hg1.size this.1.size))⟩
    rcases hi with hi | hi
    · exact Or.inl hi
    · exact Or.inr ⟨Nat.le_trans hg1.size hi.1, hi.2⟩
  have HW2 := Lib.hid hw2
  have hw3 := Lib.hid hw3
  clear hw2
  go_upto_region 5 with (fail)
  -- REGION5
  refine wp_region_held_drew (S := fun w' => w'.rangeAt w.heap.size 0 cs) (by kernel_rfl) ((World.rangeAt_drew _ _ _ _).2 d1) (fun hHeld => ?_)
  (refine wpAnyH_take (i := 0) (oi := { dst := some 21, op := Op.move (Operand.tmp 0), type := 24, pos := "disk.go:56", after := #[], guard := none }) (v := ?_) rfl (by kernel_rfl) (by kernel_rfl) (by kernel_rfl) (fun _ _ _ h => h) (Or.inl ⟨by rfl, ?_⟩) (by assumption) ?_; rotate_left; · (intro w hSw; (try dsimp only at hSw); go_simp; (first | done | with_reducible rfl)))
  try simp only [Act.put, List.setIfInBounds_toArray, List.set_cons_zero, List.set_cons_succ]
  (refine wpAnyH_take (i := 1) (oi := { dst := some 22, op := Op.move (Operand.tmp 0), type := 24, pos := "disk.go:56", after := #[], guard := none }) (v := ?_) rfl (by kernel_rfl) (by kernel_rfl) (by kernel_rfl) (fun _ _ _ h => h) (Or.inl ⟨by rfl, ?_⟩) (by assumption) ?_; rotate_left; · (intro w hSw; (try dsimp only at hSw); go_simp; (first | done | with_reducible rfl)))
  try simp only [Act.put, List.setIfInBounds_toArray, List.set_cons_zero, List.set_cons_succ]
  (refine wpAnyH_take (i := 2) (oi := { dst := some 23, op := Op.nilCheck (Operand.tmp 22), type := 0, pos := "disk.go:56", after := #[{ on := 1, ground := Ground.data }], guard := none }) (v := ?_) rfl (by kernel_rfl) (by kernel_rfl) (by kernel_rfl) (fun _ _ _ h => h) (Or.inl ⟨by rfl, ?_⟩) (by assumption) ?_; rotate_left; · (intro w hSw; (try dsimp only at hSw); go_simp; (first | done | with_reducible rfl)))
  try simp only [Act.put, List.setIfInBounds_toArray, List.set_cons_zero, List.set_cons_succ]
  (refine wpAnyH_take (i := 3) (oi := { dst := some 24, op := Op.fieldAddr 59 (Operand.tmp 23) 2, type := 0, pos := "disk.go:56", after := #[{ on := 2, ground := Ground.data }], guard := none }) (v := ?_) rfl (by kernel_rfl) (by kernel_rfl) (by kernel_rfl) (fun _ _ _ h => h) (Or.inl ⟨by rfl, ?_⟩) (by assumption) ?_; rotate_left; · (intro w hSw; (try dsimp only at hSw); go_simp; (first | done | with_reducible rfl)))
  try simp only [Act.put, List.setIfInBounds_toArray, List.set_cons_zero, List.set_cons_succ]
  (refine wpAnyH_take (i := 5) (oi := { dst := some 26, op := Op.move (Operand.tmp 1), type := 3, pos := "disk.go:56", after := #[], guard := none }) (v := ?_) rfl (by kernel_rfl) (by kernel_rfl) (by kernel_rfl) (fun _ _ _ h => h) (Or.inl ⟨by rfl, ?_⟩) (by assumption) ?_; rotate_left; · (intro w hSw; (try dsimp only at hSw); go_simp; (first | done | with_reducible rfl)))
  try simp only [Act.put, List.setIfInBounds_toArray, List.set_cons_zero, List.set_cons_succ]
  (refine wpAnyH_take (i := 6) (oi := { dst := some 27, op := Op.load 40 (Operand.tmp 5), type := 40, pos := "disk.go:56", after := #[], guard := none }) (v := _) rfl (by kernel_rfl) (by kernel_rfl) (by kernel_rfl) (fun _ _ _ h => h) (yieldsIf_load_mid (by rfl) _ _ rfl _ _ rfl _ _ (fun w h => h) hu rfl hi) (by assumption) ?_)
  try simp only [Act.put, List.setIfInBounds_toArray, List.set_cons_zero, List.set_cons_succ]
  (refine wpAnyH_take (i := 7) (oi := { dst := some 28, op := Op.build 66 #[(0, Operand.tmp 26), (1, Operand.tmp 27)], type := 66, pos := "disk.go:56", after := #[{ on := 5, ground := Ground.data }, { on := 6, ground := Ground.data }], guard := none }) (v := _) rfl (by kernel_rfl) (by kernel_rfl) (by kernel_rfl) (fun _ _ _ h => h) (yieldsIf_build66 (by rfl) _ _ rfl (k : Int) cs (by rfl) (by rfl) hbl) (by assumption) ?_)
  try simp only [Act.put, List.setIfInBounds_toArray, List.set_cons_zero, List.set_cons_succ]
  refine wpAnyH_ready (rs := [4, 8]) (by kernel_rfl) (by simp) ?_
  refine (AllReadyH.cons (o := { dst := some 25, op := Op.load 36 (Operand.tmp 24), type := 36, pos := "disk.go:56", after := #[{ on := 3, ground := Ground.data }], guard := none }) rfl (fun K hK => ?_) (AllReadyH.cons (o := { dst := some 29, op := Op.buildSlice 36 1 #[(0, Operand.tmp 28)], type := 36, pos := "disk.go:56", after := #[{ on := 7, ground := Ground.data }], guard := none }) rfl (fun K hK => ?_) AllReadyH.nil))
  · go_simp
    refine hK.out _ _ ?_ (fun hHeld => ?_)
    · first
      | exact hHeld
    clear hK K
    try simp only [Act.put, List.setIfInBounds_toArray, List.set_cons_zero, List.set_cons_succ]
    refine wpAnyH_ready (rs := [8]) (by kernel_rfl) (by simp) ?_
    refine (AllReadyH.cons (o := { dst := some 29, op := Op.buildSlice 36 1 #[(0, Operand.tmp 28)], type := 36, pos := "disk.go:56", after := #[{ on := 7, ground := Ground.data }], guard := none }) rfl (fun K hK => ?_) AllReadyH.nil)
    refine step_slice66 (by rfl) _ (by rfl) (.int .i64 (k : Int) :: cs) (by rfl) (by simp [hbl]) ?_
    refine hK.out _ _ ?_ (fun hHeld => ?_)
    · first
      | exact D3.out
    clear hK K
    try simp only [Act.put, List.setIfInBounds_toArray, List.set_cons_zero, List.set_cons_succ]
    refine wpAnyH_ready (rs := [9]) (by kernel_rfl) (by simp) ?_
    refine (AllReadyH.cons (o := { dst := some 30, op := Op.call { callee := Callee.builtin Builtin.append, args := #[Operand.tmp 25, Operand.tmp 29], argTypes := #[36, 36] }, type := 36, pos := "disk.go:56", after := #[{ on := 4, ground := Ground.data }, { on := 8, ground := Ground.data }], guard := none }) rfl (fun K hK => ?_) AllReadyH.nil)
    (refine step_append_lies _ (by rfl) _ _ 36 (by rfl) 0 66 i66 (.agg (wrC (0, blk0)).toArray) 65 72 Try.underlying36 hi66 hz66 hs66 hb66 (by simp [Value.cells, wrC, bytesV_len, blk0]) (by decide) (.slice A s.opn.length cap0) s.opn.length _ (by rfl) HO.out ⟨w2.heap.size, 0, none⟩ 1 1 (.int .i64 (k : Int) :: cs) (by rfl) (by simp [hbl]) HN.out (by simpa [Value.oneCell'] using hone) (by omega) (by unfold maxLen; omega) (by omega) (Nat.zero_le _) _ rfl ?_; intro g cap w4 hown hgrow hat hlt)
    refine hK.out _ _ ?_ (fun hHeld => ?_)
    · first
      | exact rangeAt_of D3.out (hgrow.block _ hB.out (fun h => HV.out h.symm))
    clear hK K
    try simp only [Act.put, List.setIfInBounds_toArray, List.set_cons_zero, List.set_cons_succ]
    (refine wpAnyH_take (i := 10) (oi := { dst := some 31, op := Op.nilCheck (Operand.tmp 21), type := 0, pos := "disk.go:56", after := #[{ on := 0, ground := Ground.data }, { on := 0, ground := Ground.phase }, { on := 1, ground := Ground.phase }, { on := 2, ground := Ground.phase }, { on := 3, ground := Ground.phase }, { on := 4, ground := Ground.phase }, { on := 5, ground := Ground.phase }, { on := 6, ground := Ground.phase }, { on := 7, ground := Ground.phase }, { on := 8, ground := Ground.phase }, { on := 9, ground := Ground.phase }], guard := none }) (v := ?_) rfl (by kernel_rfl) (by kernel_rfl) (by kernel_rfl) (fun _ _ _ h => h) (Or.inl ⟨by rfl, ?_⟩) (by assumption) ?_; rotate_left; · (intro w hSw; (try dsimp only at hSw); go_simp; (first | done | with_reducible rfl)))
    try simp only [Act.put, List.setIfInBounds_toArray, List.set_cons_zero, List.set_cons_succ]
    (refine wpAnyH_take (i := 11) (oi := { dst := some 32, op := Op.fieldAddr 59 (Operand.tmp 31) 2, type := 0, pos := "disk.go:56", after := #[{ on := 10, ground := Ground.data }, { on := 0, ground := Ground.phase }, { on := 1, ground := Ground.phase }, { on := 2, ground := Ground.phase }, { on := 3, ground := Ground.phase }, { on := 4, ground := Ground.phase }, { on := 5, ground := Ground.phase }, { on := 6, ground := Ground.phase }, { on := 7, ground := Ground.phase }, { on := 8, ground := Ground.phase }, { on := 9, ground := Ground.phase }], guard := none }) (v := ?_) rfl (by kernel_rfl) (by kernel_rfl) (by kernel_rfl) (fun _ _ _ h => h) (Or.inl ⟨by rfl, ?_⟩) (by assumption) ?_; rotate_left; · (intro w hSw; (try dsimp only at hSw); go_simp; (first | done | with_reducible rfl)))
    try simp only [Act.put, List.setIfInBounds_toArray, List.set_cons_zero, List.set_cons_succ]
    refine wpAnyH_ready (rs := [12]) (by kernel_rfl) (by simp) ?_
    refine (AllReadyH.cons (o := { dst := none, op := Op.store 36 (Operand.tmp 32) (Operand.tmp 30), type := 0, pos := "disk.go:56", after := #[{ on := 11, ground := Ground.data }, { on := 9, ground := Ground.data }, { on := 9, ground := Ground.chain }, { on := 0, ground := Ground.phase }, { on := 1, ground := Ground.phase }, { on := 2, ground := Ground.phase }, { on := 3, ground := Ground.phase }, { on := 4, ground := Ground.phase }, { on := 5, ground := Ground.phase }, { on := 6, ground := Ground.phase }, { on := 7, ground := Ground.phase }, { on := 8, ground := Ground.phase }, { on := 9, ground := Ground.phase }], guard := none }) rfl (fun K hK => ?_) AllReadyH.nil)
    have g2 := (hgrow.cell_far ⟨q, 2, none⟩ hQ.out (fun h => HVq.out h.symm)).trans e3
    have g3 := (hgrow.frozen_far ⟨q, 2, none⟩ hQ.out (fun h => HVq.out h.symm)).trans ef3
    go_simp
    refine hK.out _ _ ?_ (fun hHeld => ?_)
    · first
      | exact rangeAt_of hHeld (Below.heap_setCell _ _ _ _ (by show w.heap.size ≠ q; omega))
    clear hK K
    try simp only [Act.put, List.setIfInBounds_toArray, List.set_cons_zero, List.set_cons_succ]
    refine wpAnyH_done (by kernel_rfl) ?_ _
    have HD := Lib.hid (HP.out g cap w4 hown hgrow (hat.imp id fun h => h.trans hw3.out) hlt)
    clear hgrow hat hlt hown g2 g3 hHeld
    generalize w4.setCell ⟨q, 2, none⟩ (.slice (some ⟨g, 0, none⟩) (s.opn.length + 1) cap) = w5 at *
    have CL5 := Lib.hid (CL.out w5 _ HD.out.2)
    generalize dLast (wrS s k b) = L5 at *
    obtain ⟨l5, s5⟩ := L5
    cases l5 with
    | true =>
      go_wp2_with (go_at_call 35; ((with_reducible refine CL5.out.mono ?_); rintro e w6 ⟨rfl, hd⟩; have HD6 := Lib.hid hd; clear hd))
      go_ret
      exact dpost_then hfit.out HD.out.1 ⟨rfl, HD6.out⟩
    | false =>
      go_wp2_with (go_at_call 35; ((with_reducible refine CL5.out.mono ?_); rintro e w6 ⟨rfl, hd⟩; have HD6 := Lib.hid hd; clear hd))
      go_ret
      exact dpost_then hfit.out HD.out.1 ⟨rfl, HD6.out⟩
  · refine step_slice66 (by rfl) _ (by rfl) (.int .i64 (k : Int) :: cs) (by rfl) (by simp [hbl]) ?_
    refine hK.out _ _ ?_ (fun hHeld => ?_)
    · first
      | exact D3.out
    clear hK K
    try simp only [Act.put, List.setIfInBounds_toArray, List.set_cons_zero, List.set_cons_succ]
    refine wpAnyH_ready (rs := [4]) (by kernel_rfl) (by simp) ?_
    refine (AllReadyH.cons (o := { dst := some 25, op := Op.load 36 (Operand.tmp 24), type := 36, pos := "disk.go:56", after := #[{ on := 3, ground := Ground.data }], guard := none }) rfl (fun K hK => ?_) AllReadyH.nil)
    go_simp
    refine hK.out _ _ ?_ (fun hHeld => ?_)
    · first
      | exact hHeld
    clear hK K
    try simp only [Act.put, List.setIfInBounds_toArray, List.set_cons_zero, List.set_cons_succ]
    refine wpAnyH_ready (rs := [9]) (by kernel_rfl) (by simp) ?_
    refine (AllReadyH.cons (o := { dst := some 30, op := Op.call { callee := Callee.builtin Builtin.append, args := #[Operand.tmp 25, Operand.tmp 29], argTypes := #[36, 36] }, type := 36, pos := "disk.go:56", after := #[{ on := 4, ground := Ground.data }, { on := 8, ground := Ground.data }], guard := none }) rfl (fun K hK => ?_) AllReadyH.nil)
    (refine step_append_lies _ (by rfl) _ _ 36 (by rfl) 0 66 i66 (.agg (wrC (0, blk0)).toArray) 65 72 Try.underlying36 hi66 hz66 hs66 hb66 (by simp [Value.cells, wrC, bytesV_len, blk0]) (by decide) (.slice A s.opn.length cap0) s.opn.length _ (by rfl) HO.out ⟨w2.heap.size, 0, none⟩ 1 1 (.int .i64 (k : Int) :: cs) (by rfl) (by simp [hbl]) HN.out (by simpa [Value.oneCell'] using hone) (by omega) (by unfold maxLen; omega) (by omega) (Nat.zero_le _) _ rfl ?_; intro g cap w4 hown hgrow hat hlt)
    refine hK.out _ _ ?_ (fun hHeld => ?_)
    · first
      | exact rangeAt_of D3.out (hgrow.block _ hB.out (fun h => HV.out h.symm))
    clear hK K
    try simp only [Act.put, List.setIfInBounds_toArray, List.set_cons_zero, List.set_cons_succ]
    (refine wpAnyH_take (i := 10) (oi := { dst := some 31, op := Op.nilCheck (Operand.tmp 21), type := 0, pos := "disk.go:56", after := #[{ on := 0, ground := Ground.data }, { on := 0, ground := Ground.phase }, { on := 1, ground := Ground.phase }, { on := 2, ground := Ground.phase }, { on := 3, ground := Ground.phase }, { on := 4, ground := Ground.phase }, { on := 5, ground := Ground.phase }, { on := 6, ground := Ground.phase }, { on := 7, ground := Ground.phase }, { on := 8, ground := Ground.phase }, { on := 9, ground := Ground.phase }], guard := none }) (v := ?_) rfl (by kernel_rfl) (by kernel_rfl) (by kernel_rfl) (fun _ _ _ h => h) (Or.inl ⟨by rfl, ?_⟩) (by assumption) ?_; rotate_left; · (intro w hSw; (try dsimp only at hSw); go_simp; (first | done | with_reducible rfl)))
    try simp only [Act.put, List.setIfInBounds_toArray, List.set_cons_zero, List.set_cons_succ]
    (refine wpAnyH_take (i := 11) (oi := { dst := some 32, op := Op.fieldAddr 59 (Operand.tmp 31) 2, type := 0, pos := "disk.go:56", after := #[{ on := 10, ground := Ground.data }, { on := 0, ground := Ground.phase }, { on := 1, ground := Ground.phase }, { on := 2, ground := Ground.phase }, { on := 3, ground := Ground.phase }, { on := 4, ground := Ground.phase }, { on := 5, ground := Ground.phase }, { on := 6, ground := Ground.phase }, { on := 7, ground := Ground.phase }, { on := 8, ground := Ground.phase }, { on := 9, ground := Ground.phase }], guard := none }) (v := ?_) rfl (by kernel_rfl) (by kernel_rfl) (by kernel_rfl) (fun _ _ _ h => h) (Or.inl ⟨by rfl, ?_⟩) (by assumption) ?_; rotate_left; · (intro w hSw; (try dsimp only at hSw); go_simp; (first | done | with_reducible rfl)))
    try simp only [Act.put, List.setIfInBounds_toArray, List.set_cons_zero, List.set_cons_succ]
    refine wpAnyH_ready (rs := [12]) (by kernel_rfl) (by simp) ?_
    refine (AllReadyH.cons (o := { dst := none, op := Op.store 36 (Operand.tmp 32) (Operand.tmp 30), type := 0, pos := "disk.go:56", after := #[{ on := 11, ground := Ground.data }, { on := 9, ground := Ground.data }, { on := 9, ground := Ground.chain }, { on := 0, ground := Ground.phase }, { on := 1, ground := Ground.phase }, { on := 2, ground := Ground.phase }, { on := 3, ground := Ground.phase }, { on := 4, ground := Ground.phase }, { on := 5, ground := Ground.phase }, { on := 6, ground := Ground.phase }, { on := 7, ground := Ground.phase }, { on := 8, ground := Ground.phase }, { on := 9, ground := Ground.phase }], guard := none }) rfl (fun K hK => ?_) AllReadyH.nil)
    have g2 := (hgrow.cell_far ⟨q, 2, none⟩ hQ.out (fun h => HVq.out h.symm)).trans e3
    have g3 := (hgrow.frozen_far ⟨q, 2, none⟩ hQ.out (fun h => HVq.out h.symm)).trans ef3
    go_simp
    refine hK.out _ _ ?_ (fun hHeld => ?_)
    · first
      | exact rangeAt_of hHeld (Below.heap_setCell _ _ _ _ (by show w.heap.size ≠ q; omega))
    clear hK K
    try simp only [Act.put, List.setIfInBounds_toArray, List.set_cons_zero, List.set_cons_succ]
    refine wpAnyH_done (by kernel_rfl) ?_ _
    have HD := Lib.hid (HP.out g cap w4 hown hgrow (hat.imp id fun h => h.trans hw3.out) hlt)
    clear hgrow hat hlt hown g2 g3 hHeld
    generalize w4.setCell ⟨q, 2, none⟩ (.slice (some ⟨g, 0, none⟩) (s.opn.length + 1) cap) = w5 at *
    have CL5 := Lib.hid (CL.out w5 _ HD.out.2)
    generalize dLast (wrS s k b) = L5 at *
    obtain ⟨l5, s5⟩ := L5
    cases l5 with
    | true =>
      go_wp2_with (go_at_call 35; ((with_reducible refine CL5.out.mono ?_); rintro e w6 ⟨rfl, hd⟩; have HD6 := Lib.hid hd; clear hd))
      go_ret
      exact dpost_then hfit.out HD.out.1 ⟨rfl, HD6.out⟩
    | false =>
      go_wp2_with (go_at_call 35; ((with_reducible refine CL5.out.mono ?_); rintro e w6 ⟨rfl, hd⟩; have HD6 := Lib.hid hd; clear hd))
      go_ret
      exact dpost_then hfit.out HD.out.1 ⟨rfl, HD6.out⟩
  -- END5

set_option maxRecDepth 100000 in
set_option maxHeartbeats 1000000 in
theorem write_not (F : Nat → Prop) (q : Nat) (s : DS) (at' : Int) (b : Blk) (w : World) (h : DK w F q s) (hr : refI s at' ≠ 0) :
    Calls Try.prog 19 #[.pointer (some ⟨q, 0, none⟩), .int .i64 at', blkV' b] w (DPost F q w (.int .i64 (dWrite s at' b).1) (dWrite s at' b).2) := by
  have CR := Lib.hid (refuses_any F q s at' _ (h.grew (grew_alloc w (bytesV b).toArray 40)))
  have HP : Hid (DPost F q w (.int .i64 (dWrite s at' b).1) (dWrite s at' b).2 (.returned (.int .i64 (refI s at'))) (w.alloc (.cells (bytesV b).toArray 40))) := by
    rw [dWrite_not hr]
    have := h.grew (grew_alloc w (bytesV b).toArray 40)
    exact ⟨rfl, (grew_alloc _ _ _).chg, this.more (fun k hk => Or.inl hk) (fx_fit h.fit (grew_alloc w (bytesV b).toArray 40).size)⟩
  show Calls _ _ #[_, _, .agg (bytesV b).toArray] _ _
  generalize refI s at' = r at *
  generalize bytesV b = cs at *
  have d1 : (r != 0) = true := by simpa using hr
  clear h
  go_enter Try.func19, Try.ntmps19
  go_wp2_with (first
      | (go_at_call 32; ((with_reducible refine CR.out.mono ?_); rintro e w1 ⟨rfl, rfl⟩)))
  go_ret
  exact HP.out
theorem write_any (F : Nat → Prop) (q : Nat) (s : DS) (at' : Int) (b : Blk) (w : World) (h : DK w F q s) (hb : b.length = 64) (hn : s.opn.length ≤ 1000000) :
    Calls Try.prog 19 #[.pointer (some ⟨q, 0, none⟩), .int .i64 at', blkV' b] w (DPost F q w (.int .i64 (dWrite s at' b).1) (dWrite s at' b).2) := by
  by_cases hr : refI s at' = 0
  · obtain ⟨ho, k, rfl, hk⟩ := has_of hr
    exact write_ok F q s k b w h hb hn ho hk
  · exact write_not F q s at' b w h hr
end Go.Proofs.Ytgaopkfdbglnmaa.NumK
