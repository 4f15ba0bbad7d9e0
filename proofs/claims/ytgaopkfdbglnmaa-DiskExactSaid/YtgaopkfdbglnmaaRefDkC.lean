/- The document's own disk: Write. -/
import Derived.Test.YtgaopkfdbglnmaaRefDkB
import Derived.Deep.CutBlock
namespace Go.Proofs.Ytgaopkfdbglnmaa.NumK
open Go.RowKit

theorem last_keeps (s : DS) : (dLast s).2.safe = s.safe ∧ (dLast s).2.opn = s.opn := by unfold dLast; split <;> (try split) <;> exact ⟨rfl, rfl⟩
theorem dWrite_last {s : DS} {k : Nat} {b : Blk} (ho : s.off = false) (hk : k < s.safe.length) : dWrite s (k : Int) b = (if (dLast s).1 then 7 else 0, wrS (dLast s).2 k b) := by
  unfold dWrite DS.has wrS
  rw [ho, (last_keeps s).2]
  simp [hk]
theorem dok_last_wr {s : DS} {k : Nat} {b : Blk} (h : DOK s) (ho : s.off = false) (hk : k < s.safe.length) (hb : b.length = 64) : DOK (wrS (dLast s).2 k b) := by
  have h1 := dok_last (dok_wr h ho hk hb)
  rw [(last_wr s k b).2] at h1
  have e : wrS (dLast s).2 k b = { (dLast s).2 with opn := s.opn ++ [(k, b)] } := by unfold wrS; rw [(last_keeps s).2]
  rw [e]; exact h1
/-- The worlds that a Write leaves. -/
theorem rk_write {F : Nat → Prop} {q : Nat} {s : DS} {w w3 w4 : World} {Y g cap k : Nat} {v : Value} {b : Blk} (hf : ∀ k, F k → k < w.heap.size) (ok : DOK (wrS s k b)) (L : RLie F q Y v) (H : RHead w q s.safe.length Y v s.armed s.off s.cut) (h2 : BlkRow w Y s.safe)
    (g3 : Grew w w3) (g4 : w3.grownBy w4 v.ownBlock) (ho : w4.ownsRow 0 66 65 (.slice (some ⟨g, 0, none⟩) (s.opn.length + 1) cap) (s.opn.length + 1) (opnC s.opn ++ wrC (k, b))) (hat : v.ownBlock = some g ∨ w.heap.size ≤ g) (hlt : g < w4.heap.size) :
    Chg F w (w4.setCell ⟨q, 2, none⟩ (.slice (some ⟨g, 0, none⟩) (s.opn.length + 1) cap)) ∧ RK (w4.setCell ⟨q, 2, none⟩ (.slice (some ⟨g, 0, none⟩) (s.opn.length + 1) cap)) (FX F w (w4.setCell ⟨q, 2, none⟩ (.slice (some ⟨g, 0, none⟩) (s.opn.length + 1) cap))) q (wrS s k b) := by
  have c4 : Chg (fun i => v.ownBlock = some i) w3 w4 := (Chg.refl _ _).grown g4 (fun k hk _ => hk)
  have n : ∀ i, v.ownBlock = some i → i ≠ q ∧ i ≠ Y := fun i hi => (L.fv i hi).2
  have r3 : BlkRow w4 Y s.safe := (h2.of (g3.block Y h2.lt) g3.size).chg c4 (fun h => (n _ h).2 rfl)
  have r4 : RHead w4 q s.safe.length Y v s.armed s.off s.cut := (H.of (g3.block q H.lt) g3.size).chg c4 (fun h => (n _ h).1 rfl)
  have c5 : Chg (fun i => i = q) w4 (w4.setCell ⟨q, 2, none⟩ (.slice (some ⟨g, 0, none⟩) (s.opn.length + 1) cap)) := (Chg.refl (fun i => i = q) w4).setCell ⟨q, 2, none⟩ _ (fun _ => rfl)
  have hall : Chg F w (w4.setCell ⟨q, 2, none⟩ (.slice (some ⟨g, 0, none⟩) (s.opn.length + 1) cap)) :=
    ((g3.chg (F := F)).trans (c4.mono (G := F) (fun i hi => (L.fv i hi).1))).trans (c5.mono (G := F) (fun i hi => hi ▸ L.fq))
  have hg : g ≠ q ∧ g ≠ Y ∧ (F g ∨ w.heap.size ≤ g) := by
    rcases hat with h | h
    · exact ⟨(n g h).1, (n g h).2, Or.inl (L.fv g h).1⟩
    · have := hf q L.fq; have := hf Y L.fY
      exact ⟨by omega, by omega, Or.inr h⟩
  refine ⟨hall, fx_fit hf hall.size, ok, Y, .slice (some ⟨g, 0, none⟩) (s.opn.length + 1) cap, ?_, r4.set2 _, r3.chg c5 (fun h => L.qY h.symm), ?_⟩
  · refine ⟨Or.inl L.fq, Or.inl L.fY, fun i hi => ?_, L.qY⟩
    have : i = g := by simpa [Value.ownBlock] using hi.symm
    subst this
    refine ⟨?_, hg.1, hg.2.1⟩
    rcases hg.2.2 with h | h
    · exact Or.inl h
    · exact Or.inr ⟨h, by simpa [World.setCell] using hlt⟩
  · have e : (wrS s k b).opn.length = s.opn.length + 1 := by simp [wrS]
    rw [e, show (wrS s k b).opn = s.opn ++ [(k, b)] from rfl, opnC_snoc]
    refine ownsRow_of ho fun i hi => c5.block i ?_ ?_
    · have : i = g := by simpa [Value.ownBlock] using hi.symm
      subst this; exact hlt
    · have : i = g := by simpa [Value.ownBlock] using hi.symm
      subst this; exact hg.1

set_option maxRecDepth 100000 in
set_option maxHeartbeats 1000000 in
theorem rwrite_ok (F : Nat → Prop) (q : Nat) (s : DS) (k : Nat) (b : Blk) (w : World) (h : RK w F q s) (hb : b.length = 64) (hn : s.opn.length ≤ 1000000) (ho : s.off = false) (hk : k < s.safe.length) :
    Calls Try.prog 31 #[.pointer (some ⟨q, 0, none⟩), .int .i64 (k : Int), blkV' b] w (RPost F q w (.int .i64 (dWrite s k b).1) (dWrite s k b).2) := by
  have g1 := grew_alloc w (bytesV b).toArray 40
  have h1 := h.grew g1
  have KB := Lib.hid (rblock_any F q s (k : Int) _ h1)
  have hhas : decide (s.has (k : Int)) = true := decide_eq_true (by unfold DS.has; omega)
  rw [hhas] at KB
  have KL := Lib.hid (rlast_any F q s _ h1)
  rw [dWrite_last ho hk]
  have hok := Lib.hid (dok_last_wr (b := b) h.ok ho hk hb)
  have hfit := Lib.hid h.fit
  have hop := (last_keeps s).2
  obtain ⟨Y0, v0, L0, H0, _⟩ := h1.ex
  have c3 := H0.c3
  rw [ho] at c3
  have hbl := bytesV_len b
  rw [hb] at hbl
  have hone := bytesV_one b
  have hld : ((w.alloc (.cells (bytesV b).toArray 40)).rangeAt w.heap.size 0 (bytesV b)) := load_own w _ b _ (grew_refl _)
  have HLD := Lib.hid hld
  have hu := Try.underlying40
  have hi : (Try.prog.info? 40).map (·.size) = some (bytesV b).length := size40 hbl.symm
  show Calls _ _ #[_, _, .agg (bytesV b).toArray] _ _
  have HG1 := Lib.hid g1
  have hszb : w.heap.size < (w.alloc (.cells (bytesV b).toArray 40)).heap.size := by simp
  have HSZ := Lib.hid hszb
  clear h h1 L0 H0 hhas hld hszb g1
  obtain ⟨l1, hl1⟩ : ∃ l1, (dLast s).1 = l1 := ⟨_, rfl⟩
  obtain ⟨s1, hs1⟩ : ∃ s1, (dLast s).2 = s1 := ⟨_, rfl⟩
  rw [hl1, hs1] at KL
  rw [hs1] at hok hop
  rw [hl1, hs1]
  clear hl1 hs1
  rw [← hop] at hn
  clear hop
  obtain ⟨cs, hbv'⟩ : ∃ cs, bytesV b = cs := ⟨_, rfl⟩
  have hbv := Lib.hid hbv'
  rw [hbv'] at hbl hone HLD hi KB KL c3 HG1 HSZ
  rw [hbv']
  clear hbv'
  go_enter Try.func31, Try.ntmps31
  go_upto_region 6 with (first
    | (go_at_call 33; ((with_reducible refine KB.out.mono ?_); rintro e w1 ⟨rfl, rfl⟩))
    | (go_at_call 37; ((with_reducible refine KL.out.mono ?_); rintro e w2 ⟨rfl, hc, hd⟩; have HC := Lib.hid hc; have HD := Lib.hid hd; clear hc hd)))
  obtain ⟨Y, v, L, H, h2, h3⟩ := HD.out.ex
  obtain ⟨A, cap0, rfl⟩ := own_form h3
  have e2 := H.c2
  have ef2 := H.f2
  have hH := Lib.hid H
  have hL := Lib.hid L
  have H2 := Lib.hid h2
  have H3 := Lib.hid h3
  have hfit2 := Lib.hid HD.out.fit
  have d1 : w2.rangeAt w.heap.size 0 cs := rangeAt_of HLD.out (HC.out.block _ HSZ.out (fun hF => by have := hfit.out _ hF; omega))
  have HWL : Hid (w.heap.size < w2.heap.size) := Nat.lt_of_lt_of_le HSZ.out HC.out.size
  have HFW : Hid (¬ FX F (w.alloc (.cells cs.toArray 40)) w2 w.heap.size) := fun hF => by
    rcases hF with hF | hF
    · have := hfit.out _ hF; omega
    · have := HSZ.out; omega
  clear H L h2 h3 HLD
  obtain ⟨i66, hi66, hz66, hs66, hb66⟩ := info_parts info66
  have D3 : Hid ((w2.drew.alloc (.cells (.int .i64 (k : Int) :: cs).toArray 66)).rangeAt w.heap.size 0 cs) := World.rangeAt_alloc ((World.rangeAt_drew _ _ _ _).2 d1) _
  have HO : Hid ((w2.drew.alloc (.cells (.int .i64 (k : Int) :: cs).toArray 66)).ownsRow 0 66 65 (.slice A s1.opn.length cap0) s1.opn.length (opnC s1.opn)) := World.ownsRow.alloc (ownsRow_of H3.out fun i hi => rfl) _
  have HN : Hid (∀ j u, (.int .i64 (k : Int) :: cs)[j]? = some u → (w2.drew.alloc (.cells (.int .i64 (k : Int) :: cs).toArray 66)).cell? ((⟨w2.heap.size, 0, none⟩ : Addr).add j) = some u) := by
    exact World.news_of_block (heap_alloc_new w2.drew (.cells (.int .i64 (k : Int) :: cs).toArray 66))
  have HV : Hid ((Value.slice A s1.opn.length cap0).ownBlock ≠ some w.heap.size) := fun h => HFW.out (hL.out.fv _ h).1
  have HVq : Hid ((Value.slice A s1.opn.length cap0).ownBlock ≠ some q) := fun h => (hL.out.fv _ h).2.1 rfl
  have hw3 : (w2.drew.alloc (.cells (.int .i64 (k : Int) :: cs).toArray 66)).heap.size = w2.heap.size + 1 := by simp
  have hB : Hid (w.heap.size < (w2.drew.alloc (.cells (.int .i64 (k : Int) :: cs).toArray 66)).heap.size) := by show _ < _; rw [hw3]; have := HWL.out; omega
  have hQ : Hid (q < (w2.drew.alloc (.cells (.int .i64 (k : Int) :: cs).toArray 66)).heap.size) := by show _ < _; rw [hw3]; have := hH.out.lt; omega
  have e3 : (w2.drew.alloc (.cells (.int .i64 (k : Int) :: cs).toArray 66)).cell? ⟨q, 2, none⟩ = some (.slice A s1.opn.length cap0) := (World.cell?_alloc_lt _ _ _ hH.out.lt).trans e2
  have ef3 : (w2.drew.alloc (.cells (.int .i64 (k : Int) :: cs).toArray 66)).frozen? ⟨q, 2, none⟩ = false := (World.frozen?_alloc_past _ _ _ hH.out.lt).trans ef2
  have e4 : (w2.alloc (.cells (.int .i64 (k : Int) :: cs).toArray 66)).cell? ⟨q, 2, none⟩ = some (.slice A s1.opn.length cap0) := (World.cell?_alloc_lt _ _ _ hH.out.lt).trans e2
  have HP : Hid (∀ g cap w4, w4.ownsRow 0 66 65 (.slice (some ⟨g, 0, none⟩) (s1.opn.length + 1) cap) (s1.opn.length + 1) (opnC s1.opn ++ .int .i64 (k : Int) :: cs) → (w2.drew.alloc (.cells (.int .i64 (k : Int) :: cs).toArray 66)).grownBy w4 (Value.slice A s1.opn.length cap0).ownBlock →
      ((Value.slice A s1.opn.length cap0).ownBlock = some g ∨ g = w2.heap.size + 1) → g < w4.heap.size → RPost F q w (.int .i64 0) (wrS s1 k b) (.returned (.int .i64 0)) (w4.setCell ⟨q, 2, none⟩ (.slice (some ⟨g, 0, none⟩) (s1.opn.length + 1) cap))) := by
    intro g cap w4 hown hgrow hat hlt
    have := rk_write (w := w2) (w3 := w2.drew.alloc (.cells (.int .i64 (k : Int) :: cs).toArray 66)) (w4 := w4) (g := g) (cap := cap) (k := k) (b := b) hfit2.out hok.out hL.out hH.out H2.out (grew_trans (grew_drew (grew_refl _)) (grew_alloc _ _ _)) hgrow
      (by rw [show wrC (k, b) = .int .i64 (k : Int) :: bytesV b from rfl, hbv.out]; exact hown) (hat.imp id fun h => by rw [h]; omega) hlt
    exact rpost_grew hfit.out HG1.out (rpost_then (fun i hi => Nat.lt_of_lt_of_le (hfit.out i hi) HG1.out.size) HC.out ⟨rfl, this⟩)
  have hw3 := Lib.hid hw3
  have hqW : Hid (w.heap.size ≠ q) := fun h => HFW.out (by rw [h]; exact hL.out.fq)
  -- REGION5
  refine wp_region_held_drew (S := fun w' => w'.rangeAt w.heap.size 0 cs) (by kernel_rfl) ((World.rangeAt_drew _ _ _ _).2 d1) (fun hHeld => ?_)
  (refine wpAnyH_take (i := 0) (oi := { dst := some 18, op := Op.move (Operand.tmp 0), type := 29, pos := "ref.go:69", after := #[], guard := none }) (v := ?_) rfl (by kernel_rfl) (by kernel_rfl) (by kernel_rfl) (fun _ _ _ h => h) (Or.inl ⟨by rfl, ?_⟩) (by assumption) ?_; rotate_left; · (intro w hSw; (try dsimp only at hSw); go_simp; (first | done | with_reducible rfl)))
  try simp only [Act.put, List.setIfInBounds_toArray, List.set_cons_zero, List.set_cons_succ]
  (refine wpAnyH_take (i := 1) (oi := { dst := some 19, op := Op.move (Operand.tmp 0), type := 29, pos := "ref.go:69", after := #[], guard := none }) (v := ?_) rfl (by kernel_rfl) (by kernel_rfl) (by kernel_rfl) (fun _ _ _ h => h) (Or.inl ⟨by rfl, ?_⟩) (by assumption) ?_; rotate_left; · (intro w hSw; (try dsimp only at hSw); go_simp; (first | done | with_reducible rfl)))
  try simp only [Act.put, List.setIfInBounds_toArray, List.set_cons_zero, List.set_cons_succ]
  (refine wpAnyH_take (i := 2) (oi := { dst := some 20, op := Op.nilCheck (Operand.tmp 19), type := 0, pos := "ref.go:69", after := #[{ on := 1, ground := Ground.data }], guard := none }) (v := ?_) rfl (by kernel_rfl) (by kernel_rfl) (by kernel_rfl) (fun _ _ _ h => h) (Or.inl ⟨by rfl, ?_⟩) (by assumption) ?_; rotate_left; · (intro w hSw; (try dsimp only at hSw); go_simp; (first | done | with_reducible rfl)))
  try simp only [Act.put, List.setIfInBounds_toArray, List.set_cons_zero, List.set_cons_succ]
  (refine wpAnyH_take (i := 3) (oi := { dst := some 21, op := Op.fieldAddr 38 (Operand.tmp 20) 2, type := 0, pos := "ref.go:69", after := #[{ on := 2, ground := Ground.data }], guard := none }) (v := ?_) rfl (by kernel_rfl) (by kernel_rfl) (by kernel_rfl) (fun _ _ _ h => h) (Or.inl ⟨by rfl, ?_⟩) (by assumption) ?_; rotate_left; · (intro w hSw; (try dsimp only at hSw); go_simp; (first | done | with_reducible rfl)))
  try simp only [Act.put, List.setIfInBounds_toArray, List.set_cons_zero, List.set_cons_succ]
  (refine wpAnyH_take (i := 5) (oi := { dst := some 23, op := Op.move (Operand.tmp 1), type := 3, pos := "ref.go:69", after := #[], guard := none }) (v := ?_) rfl (by kernel_rfl) (by kernel_rfl) (by kernel_rfl) (fun _ _ _ h => h) (Or.inl ⟨by rfl, ?_⟩) (by assumption) ?_; rotate_left; · (intro w hSw; (try dsimp only at hSw); go_simp; (first | done | with_reducible rfl)))
  try simp only [Act.put, List.setIfInBounds_toArray, List.set_cons_zero, List.set_cons_succ]
  (refine wpAnyH_take (i := 6) (oi := { dst := some 24, op := Op.load 40 (Operand.tmp 5), type := 40, pos := "ref.go:69", after := #[], guard := none }) (v := _) rfl (by kernel_rfl) (by kernel_rfl) (by kernel_rfl) (fun _ _ _ h => h) (yieldsIf_load_mid (by rfl) _ _ rfl _ _ rfl _ _ (fun w h => h) hu rfl hi) (by assumption) ?_)
  try simp only [Act.put, List.setIfInBounds_toArray, List.set_cons_zero, List.set_cons_succ]
  (refine wpAnyH_take (i := 7) (oi := { dst := some 25, op := Op.build 66 #[(0, Operand.tmp 23), (1, Operand.tmp 24)], type := 66, pos := "ref.go:69", after := #[{ on := 5, ground := Ground.data }, { on := 6, ground := Ground.data }], guard := none }) (v := _) rfl (by kernel_rfl) (by kernel_rfl) (by kernel_rfl) (fun _ _ _ h => h) (yieldsIf_build66 (by rfl) _ _ rfl (k : Int) cs (by rfl) (by rfl) hbl) (by assumption) ?_)
  try simp only [Act.put, List.setIfInBounds_toArray, List.set_cons_zero, List.set_cons_succ]
  refine wpAnyH_ready (rs := [4, 8]) (by kernel_rfl) (by simp) ?_
  refine (AllReadyH.cons (o := { dst := some 22, op := Op.load 36 (Operand.tmp 21), type := 36, pos := "ref.go:69", after := #[{ on := 3, ground := Ground.data }], guard := none }) rfl (fun K hK => ?_) (AllReadyH.cons (o := { dst := some 26, op := Op.buildSlice 36 1 #[(0, Operand.tmp 25)], type := 36, pos := "ref.go:69", after := #[{ on := 7, ground := Ground.data }], guard := none }) rfl (fun K hK => ?_) AllReadyH.nil))
  · go_simp
    refine hK.out _ _ ?_ (fun hHeld => ?_)
    · first
      | exact hHeld
    clear hK K
    try simp only [Act.put, List.setIfInBounds_toArray, List.set_cons_zero, List.set_cons_succ]
    refine wpAnyH_ready (rs := [8]) (by kernel_rfl) (by simp) ?_
    refine (AllReadyH.cons (o := { dst := some 26, op := Op.buildSlice 36 1 #[(0, Operand.tmp 25)], type := 36, pos := "ref.go:69", after := #[{ on := 7, ground := Ground.data }], guard := none }) rfl (fun K hK => ?_) AllReadyH.nil)
    refine step_slice66 (by rfl) _ (by rfl) (.int .i64 (k : Int) :: cs) (by rfl) (by simp [hbl]) ?_
    refine hK.out _ _ ?_ (fun hHeld => ?_)
    · first
      | exact D3.out
    clear hK K
    try simp only [Act.put, List.setIfInBounds_toArray, List.set_cons_zero, List.set_cons_succ]
    refine wpAnyH_ready (rs := [9]) (by kernel_rfl) (by simp) ?_
    refine (AllReadyH.cons (o := { dst := some 27, op := Op.call { callee := Callee.builtin Builtin.append, args := #[Operand.tmp 22, Operand.tmp 26], argTypes := #[36, 36] }, type := 36, pos := "ref.go:69", after := #[{ on := 4, ground := Ground.data }, { on := 8, ground := Ground.data }], guard := none }) rfl (fun K hK => ?_) AllReadyH.nil)
    (refine step_append_lies _ (by rfl) _ _ 36 (by rfl) 0 66 i66 (.agg (wrC (0, blk0)).toArray) 65 72 Try.underlying36 hi66 hz66 hs66 hb66 (by simp [Value.cells, wrC, bytesV_len, blk0]) (by decide) (.slice A s1.opn.length cap0) s1.opn.length _ (by rfl) HO.out ⟨w2.heap.size, 0, none⟩ 1 1 (.int .i64 (k : Int) :: cs) (by rfl) (by simp [hbl]) HN.out (by simpa [Value.oneCell'] using hone) (by omega) (by unfold maxLen; omega) (by omega) (Nat.zero_le _) _ rfl ?_; intro g cap w4 hown hgrow hat hlt)
    refine hK.out _ _ ?_ (fun hHeld => ?_)
    · first
      | exact rangeAt_of D3.out (hgrow.block _ hB.out (fun h => HV.out h.symm))
    clear hK K
    try simp only [Act.put, List.setIfInBounds_toArray, List.set_cons_zero, List.set_cons_succ]
    (refine wpAnyH_take (i := 10) (oi := { dst := some 28, op := Op.nilCheck (Operand.tmp 18), type := 0, pos := "ref.go:69", after := #[{ on := 0, ground := Ground.data }, { on := 0, ground := Ground.phase }, { on := 1, ground := Ground.phase }, { on := 2, ground := Ground.phase }, { on := 3, ground := Ground.phase }, { on := 4, ground := Ground.phase }, { on := 5, ground := Ground.phase }, { on := 6, ground := Ground.phase }, { on := 7, ground := Ground.phase }, { on := 8, ground := Ground.phase }, { on := 9, ground := Ground.phase }], guard := none }) (v := ?_) rfl (by kernel_rfl) (by kernel_rfl) (by kernel_rfl) (fun _ _ _ h => h) (Or.inl ⟨by rfl, ?_⟩) (by assumption) ?_; rotate_left; · (intro w hSw; (try dsimp only at hSw); go_simp; (first | done | with_reducible rfl)))
    try simp only [Act.put, List.setIfInBounds_toArray, List.set_cons_zero, List.set_cons_succ]
    (refine wpAnyH_take (i := 11) (oi := { dst := some 29, op := Op.fieldAddr 38 (Operand.tmp 28) 2, type := 0, pos := "ref.go:69", after := #[{ on := 10, ground := Ground.data }, { on := 0, ground := Ground.phase }, { on := 1, ground := Ground.phase }, { on := 2, ground := Ground.phase }, { on := 3, ground := Ground.phase }, { on := 4, ground := Ground.phase }, { on := 5, ground := Ground.phase }, { on := 6, ground := Ground.phase }, { on := 7, ground := Ground.phase }, { on := 8, ground := Ground.phase }, { on := 9, ground := Ground.phase }], guard := none }) (v := ?_) rfl (by kernel_rfl) (by kernel_rfl) (by kernel_rfl) (fun _ _ _ h => h) (Or.inl ⟨by rfl, ?_⟩) (by assumption) ?_; rotate_left; · (intro w hSw; (try dsimp only at hSw); go_simp; (first | done | with_reducible rfl)))
    try simp only [Act.put, List.setIfInBounds_toArray, List.set_cons_zero, List.set_cons_succ]
    refine wpAnyH_ready (rs := [12]) (by kernel_rfl) (by simp) ?_
    refine (AllReadyH.cons (o := { dst := none, op := Op.store 36 (Operand.tmp 29) (Operand.tmp 27), type := 0, pos := "ref.go:69", after := #[{ on := 11, ground := Ground.data }, { on := 9, ground := Ground.data }, { on := 9, ground := Ground.chain }, { on := 0, ground := Ground.phase }, { on := 1, ground := Ground.phase }, { on := 2, ground := Ground.phase }, { on := 3, ground := Ground.phase }, { on := 4, ground := Ground.phase }, { on := 5, ground := Ground.phase }, { on := 6, ground := Ground.phase }, { on := 7, ground := Ground.phase }, { on := 8, ground := Ground.phase }, { on := 9, ground := Ground.phase }], guard := none }) rfl (fun K hK => ?_) AllReadyH.nil)
    have g2 := (hgrow.cell_far ⟨q, 2, none⟩ hQ.out (fun h => HVq.out h.symm)).trans e3
    have g3 := (hgrow.frozen_far ⟨q, 2, none⟩ hQ.out (fun h => HVq.out h.symm)).trans ef3
    go_simp
    refine hK.out _ _ ?_ (fun hHeld => ?_)
    · first
      | exact rangeAt_of hHeld (Below.heap_setCell _ _ _ _ (by show w.heap.size ≠ q; exact hqW.out))
    clear hK K
    try simp only [Act.put, List.setIfInBounds_toArray, List.set_cons_zero, List.set_cons_succ]
    refine wpAnyH_done (by kernel_rfl) ?_ _
    have HD9 := Lib.hid (HP.out g cap w4 hown hgrow (hat.imp id fun h => h.trans hw3.out) hlt)
    clear hgrow hat hlt hown g2 g3 hHeld
    generalize w4.setCell ⟨q, 2, none⟩ (.slice (some ⟨g, 0, none⟩) (s1.opn.length + 1) cap) = w5 at *
    cases l1 with
    | true =>
      go_wp2
      go_ret
      exact ⟨rfl, HD9.out.2⟩
    | false =>
      go_wp2
      go_ret
      exact ⟨rfl, HD9.out.2⟩
  · refine step_slice66 (by rfl) _ (by rfl) (.int .i64 (k : Int) :: cs) (by rfl) (by simp [hbl]) ?_
    refine hK.out _ _ ?_ (fun hHeld => ?_)
    · first
      | exact D3.out
    clear hK K
    try simp only [Act.put, List.setIfInBounds_toArray, List.set_cons_zero, List.set_cons_succ]
    refine wpAnyH_ready (rs := [4]) (by kernel_rfl) (by simp) ?_
    refine (AllReadyH.cons (o := { dst := some 22, op := Op.load 36 (Operand.tmp 21), type := 36, pos := "ref.go:69", after := #[{ on := 3, ground := Ground.data }], guard := none }) rfl (fun K hK => ?_) AllReadyH.nil)
    go_simp
    refine hK.out _ _ ?_ (fun hHeld => ?_)
    · first
      | exact hHeld
    clear hK K
    try simp only [Act.put, List.setIfInBounds_toArray, List.set_cons_zero, List.set_cons_succ]
    refine wpAnyH_ready (rs := [9]) (by kernel_rfl) (by simp) ?_
    refine (AllReadyH.cons (o := { dst := some 27, op := Op.call { callee := Callee.builtin Builtin.append, args := #[Operand.tmp 22, Operand.tmp 26], argTypes := #[36, 36] }, type := 36, pos := "ref.go:69", after := #[{ on := 4, ground := Ground.data }, { on := 8, ground := Ground.data }], guard := none }) rfl (fun K hK => ?_) AllReadyH.nil)
    (refine step_append_lies _ (by rfl) _ _ 36 (by rfl) 0 66 i66 (.agg (wrC (0, blk0)).toArray) 65 72 Try.underlying36 hi66 hz66 hs66 hb66 (by simp [Value.cells, wrC, bytesV_len, blk0]) (by decide) (.slice A s1.opn.length cap0) s1.opn.length _ (by rfl) HO.out ⟨w2.heap.size, 0, none⟩ 1 1 (.int .i64 (k : Int) :: cs) (by rfl) (by simp [hbl]) HN.out (by simpa [Value.oneCell'] using hone) (by omega) (by unfold maxLen; omega) (by omega) (Nat.zero_le _) _ rfl ?_; intro g cap w4 hown hgrow hat hlt)
    refine hK.out _ _ ?_ (fun hHeld => ?_)
    · first
      | exact rangeAt_of D3.out (hgrow.block _ hB.out (fun h => HV.out h.symm))
    clear hK K
    try simp only [Act.put, List.setIfInBounds_toArray, List.set_cons_zero, List.set_cons_succ]
    (refine wpAnyH_take (i := 10) (oi := { dst := some 28, op := Op.nilCheck (Operand.tmp 18), type := 0, pos := "ref.go:69", after := #[{ on := 0, ground := Ground.data }, { on := 0, ground := Ground.phase }, { on := 1, ground := Ground.phase }, { on := 2, ground := Ground.phase }, { on := 3, ground := Ground.phase }, { on := 4, ground := Ground.phase }, { on := 5, ground := Ground.phase }, { on := 6, ground := Ground.phase }, { on := 7, ground := Ground.phase }, { on := 8, ground := Ground.phase }, { on := 9, ground := Ground.phase }], guard := none }) (v := ?_) rfl (by kernel_rfl) (by kernel_rfl) (by kernel_rfl) (fun _ _ _ h => h) (Or.inl ⟨by rfl, ?_⟩) (by assumption) ?_; rotate_left; · (intro w hSw; (try dsimp only at hSw); go_simp; (first | done | with_reducible rfl)))
    try simp only [Act.put, List.setIfInBounds_toArray, List.set_cons_zero, List.set_cons_succ]
    (refine wpAnyH_take (i := 11) (oi := { dst := some 29, op := Op.fieldAddr 38 (Operand.tmp 28) 2, type := 0, pos := "ref.go:69", after := #[{ on := 10, ground := Ground.data }, { on := 0, ground := Ground.phase }, { on := 1, ground := Ground.phase }, { on := 2, ground := Ground.phase }, { on := 3, ground := Ground.phase }, { on := 4, ground := Ground.phase }, { on := 5, ground := Ground.phase }, { on := 6, ground := Ground.phase }, { on := 7, ground := Ground.phase }, { on := 8, ground := Ground.phase }, { on := 9, ground := Ground.phase }], guard := none }) (v := ?_) rfl (by kernel_rfl) (by kernel_rfl) (by kernel_rfl) (fun _ _ _ h => h) (Or.inl ⟨by rfl, ?_⟩) (by assumption) ?_; rotate_left; · (intro w hSw; (try dsimp only at hSw); go_simp; (first | done | with_reducible rfl)))
    try simp only [Act.put, List.setIfInBounds_toArray, List.set_cons_zero, List.set_cons_succ]
    refine wpAnyH_ready (rs := [12]) (by kernel_rfl) (by simp) ?_
    refine (AllReadyH.cons (o := { dst := none, op := Op.store 36 (Operand.tmp 29) (Operand.tmp 27), type := 0, pos := "ref.go:69", after := #[{ on := 11, ground := Ground.data }, { on := 9, ground := Ground.data }, { on := 9, ground := Ground.chain }, { on := 0, ground := Ground.phase }, { on := 1, ground := Ground.phase }, { on := 2, ground := Ground.phase }, { on := 3, ground := Ground.phase }, { on := 4, ground := Ground.phase }, { on := 5, ground := Ground.phase }, { on := 6, ground := Ground.phase }, { on := 7, ground := Ground.phase }, { on := 8, ground := Ground.phase }, { on := 9, ground := Ground.phase }], guard := none }) rfl (fun K hK => ?_) AllReadyH.nil)
    have g2 := (hgrow.cell_far ⟨q, 2, none⟩ hQ.out (fun h => HVq.out h.symm)).trans e3
    have g3 := (hgrow.frozen_far ⟨q, 2, none⟩ hQ.out (fun h => HVq.out h.symm)).trans ef3
    go_simp
    refine hK.out _ _ ?_ (fun hHeld => ?_)
    · first
      | exact rangeAt_of hHeld (Below.heap_setCell _ _ _ _ (by show w.heap.size ≠ q; exact hqW.out))
    clear hK K
    try simp only [Act.put, List.setIfInBounds_toArray, List.set_cons_zero, List.set_cons_succ]
    refine wpAnyH_done (by kernel_rfl) ?_ _
    have HD9 := Lib.hid (HP.out g cap w4 hown hgrow (hat.imp id fun h => h.trans hw3.out) hlt)
    clear hgrow hat hlt hown g2 g3 hHeld
    generalize w4.setCell ⟨q, 2, none⟩ (.slice (some ⟨g, 0, none⟩) (s1.opn.length + 1) cap) = w5 at *
    cases l1 with
    | true =>
      go_wp2
      go_ret
      exact ⟨rfl, HD9.out.2⟩
    | false =>
      go_wp2
      go_ret
      exact ⟨rfl, HD9.out.2⟩
  -- END5

set_option maxRecDepth 100000 in
set_option maxHeartbeats 1000000 in
theorem rwrite_any (F : Nat → Prop) (q : Nat) (s : DS) (at' : Int) (b : Blk) (w : World) (h : RK w F q s) (hb : b.length = 64) (hn : s.opn.length ≤ 1000000) :
    Calls Try.prog 31 #[.pointer (some ⟨q, 0, none⟩), .int .i64 at', blkV' b] w (RPost F q w (.int .i64 (dWrite s at' b).1) (dWrite s at' b).2) := by
  by_cases hr : refI s at' = 0
  · obtain ⟨ho, k, rfl, hk⟩ := has_of hr
    exact rwrite_ok F q s k b w h hb hn ho hk
  · have g1 := grew_alloc w (bytesV b).toArray 40
    have h1 := h.grew g1
    have KB := Lib.hid (rblock_any F q s at' _ h1)
    have HP : Hid (RPost F q w (.int .i64 (dWrite s at' b).1) (dWrite s at' b).2 (.returned (.int .i64 (refI s at'))) (w.alloc (.cells (bytesV b).toArray 40))) := by
      rw [dWrite_not hr]
      exact ⟨rfl, g1.chg, h1.more (fun k hk => Or.inl hk) (fx_fit h.fit g1.size)⟩
    obtain ⟨Y, v, L, H, _⟩ := h1.ex
    have c3 := H.c3
    show Calls _ _ #[_, _, .agg (bytesV b).toArray] _ _
    have HRI : Hid ((s.off = true ∧ refI s at' = 7) ∨ (s.off = false ∧ decide (s.has at') = false ∧ refI s at' = 3)) := by
      unfold refI at hr ⊢
      cases ho : s.off with
      | true => exact Or.inl ⟨rfl, by simp⟩
      | false =>
        rw [ho] at hr
        by_cases hh : s.has at'
        · simp [hh] at hr
        · exact Or.inr ⟨rfl, decide_eq_false hh, by simp [hh]⟩
    clear L H h1 h g1 hr
    generalize refI s at' = r at *
    generalize bytesV b = cs at *
    rcases HRI.out with ⟨ho, rfl⟩ | ⟨ho, hh, rfl⟩
    · rw [ho] at c3
      go_enter Try.func31, Try.ntmps31
      go_wp2
      go_ret
      exact HP.out
    · rw [ho] at c3
      rw [hh] at KB
      go_enter Try.func31, Try.ntmps31
      go_wp2_with (go_at_call 33; ((with_reducible refine KB.out.mono ?_); rintro e w1 ⟨rfl, rfl⟩))
      go_ret
      exact HP.out
end Go.Proofs.Ytgaopkfdbglnmaa.NumK
