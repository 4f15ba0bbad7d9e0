/- The document's own disk: Write. -/
import Derived.Test.YthnhhhfjgbgpgaaRRefD
import Derived.Deep.CutBlock
import Derived.Test.YthnhhhfjgbgpgaaRGrd
namespace Go.Proofs.Ythnhhhfjgbgpgaa.NumK
open Go.RowKit

theorem last_keeps (s : DS) : (dLast s).2.safe = s.safe ∧ (dLast s).2.opn = s.opn := by unfold dLast; split <;> (try split) <;> exact ⟨rfl, rfl⟩
theorem dWrite_last {s : DS} {k : Nat} {b : Blk} (ho : s.off = false) (hk : k < s.safe.length) : dWrite s (k : Int) b = (if (dLast s).1 then 7 else 0, wrS (dLast s).2 k b) := by
  unfold dWrite DS.has wrS
  rw [ho, (last_keeps s).2]
  simp [hk]
theorem dok_last_wr {s : DS} {k : Nat} {b : Blk} (h : DOK s) (ho : s.off = false) (hk : k < s.safe.length) (hb : b.length = 64) : DOK (wrS (dLast s).2 k b) := by
  have h1 := dok_last (dok_wr h ho hk hb)
  rw [(last_wr s k b).2] at h1
  have e : wrS (dLast s).2 k b = { (dLast s).2 with opn := s.opn ++ [(k, b)] } := by unfold wrS; rw [(last_keeps s).2]
  rw [e]; exact h1
/-- The worlds that a Write leaves. -/
theorem rk_write {F : Nat → Prop} {q : Nat} {s : DS} {w w3 w4 : World} {Y g cap k : Nat} {v : Value} {b : Blk} (hf : ∀ k, F k → k < w.heap.size) (ok : DOK (wrS s k b)) (L : RLie F q Y v) (H : RHead w q s.safe.length Y v s.armed s.off s.cut) (h2 : BlkRow w Y s.safe)
    (g3 : Grew w w3) (g4 : w3.grownBy w4 v.ownBlock) (ho : w4.ownsRow 0 66 65 (.slice (some ⟨g, 0, none⟩) (s.opn.length + 1) cap) (s.opn.length + 1) (opnC s.opn ++ wrC (k, b))) (hat : v.ownBlock = some g ∨ w.heap.size ≤ g) (hlt : g < w4.heap.size) :
    Chg F w (w4.setCell ⟨q, 2, none⟩ (.slice (some ⟨g, 0, none⟩) (s.opn.length + 1) cap)) ∧ RK (w4.setCell ⟨q, 2, none⟩ (.slice (some ⟨g, 0, none⟩) (s.opn.length + 1) cap)) (FX F w (w4.setCell ⟨q, 2, none⟩ (.slice (some ⟨g, 0, none⟩) (s.opn.length + 1) cap))) q (wrS s k b) := by
  have c4 : Chg (fun i => v.ownBlock = some i) w3 w4 := (Chg.refl _ _).grown g4 (fun k hk _ => hk)
  have n : ∀ i, v.ownBlock = some i → i ≠ q ∧ i ≠ Y := fun i hi => (L.fv i hi).2
  have r3 : BlkRow w4 Y s.safe := (h2.of (g3.block Y h2.lt) g3.size).chg c4 (fun h => (n _ h).2 rfl)
  have r4 : RHead w4 q s.safe.length Y v s.armed s.off s.cut := (H.of (g3.block q H.lt) g3.size).chg c4 (fun h => (n _ h).1 rfl)
  have c5 : Chg (fun i => i = q) w4 (w4.setCell ⟨q, 2, none⟩ (.slice (some ⟨g, 0, none⟩) (s.opn.length + 1) cap)) := (Chg.refl (fun i => i = q) w4).setCell ⟨q, 2, none⟩ _ (fun _ => rfl)
  have hall : Chg F w (w4.setCell ⟨q, 2, none⟩ (.slice (some ⟨g, 0, none⟩) (s.opn.length + 1) cap)) :=
    ((g3.chg (F := F)).trans (c4.mono (G := F) (fun i hi => (L.fv i hi).1))).trans (c5.mono (G := F) (fun i hi => hi ▸ L.fq))
  have hg : g ≠ q ∧ g ≠ Y ∧ (F g ∨ w.heap.size ≤ g) := by
    rcases hat with h | h
    · exact ⟨(n g h).1, (n g h).2, Or.inl (L.fv g h).1⟩
    · have := hf q L.fq; have := hf Y L.fY
      exact ⟨by omega, by omega, Or.inr h⟩
  refine ⟨hall, fx_fit hf hall.size, ok, Y, .slice (some ⟨g, 0, none⟩) (s.opn.length + 1) cap, ?_, r4.set2 _, r3.chg c5 (fun h => L.qY h.symm), ?_⟩
  · refine ⟨Or.inl L.fq, Or.inl L.fY, fun i hi => ?_, L.qY⟩
    have : i = g := by simpa [Value.ownBlock] using hi.symm
    subst this
    refine ⟨?_, hg.1, hg.2.1⟩
    rcases hg.2.2 with h | h
    · exact Or.inl h
    · exact Or.inr ⟨h, by simpa [World.setCell] using hlt⟩
  · have e : (wrS s k b).opn.length = s.opn.length + 1 := by simp [wrS]
    rw [e, show (wrS s k b).opn = s.opn ++ [(k, b)] from rfl, opnC_snoc]
    refine ownsRow_of ho fun i hi => c5.block i ?_ ?_
    · have : i = g := by simpa [Value.ownBlock] using hi.symm
      subst this; exact hlt
    · have : i = g := by simpa [Value.ownBlock] using hi.symm
      subst this; exact hg.1

set_option maxRecDepth 100000 in
set_option maxHeartbeats 1000000 in
theorem rwrite_ok (F : Nat → Prop) (q : Nat) (s : DS) (k : Nat) (b : Blk) (w : World) (h : RK w F q s) (hb : b.length = 64) (hn : s.opn.length ≤ 1000000) (ho : s.off = false) (hk : k < s.safe.length) :
    Calls Try.prog 26 #[.pointer (some ⟨q, 0, none⟩), .int .i64 (k : Int), blkV' b] w (RPost F q w (.int .i64 (dWrite s k b).1) (dWrite s k b).2) := by
  have g1 := grew_alloc w (bytesV b).toArray 61
  have h1 := h.grew g1
  have KB := Lib.hid (rblock_any F q s (k : Int) _ h1)
  have hhas : decide (s.has (k : Int)) = true := decide_eq_true (by unfold DS.has; omega)
  rw [hhas] at KB
  have KL := Lib.hid (rlast_any F q s _ h1)
  rw [dWrite_last ho hk]
  have hok := Lib.hid (dok_last_wr (b := b) h.ok ho hk hb)
  have hfit := Lib.hid h.fit
  have hop := (last_keeps s).2
  obtain ⟨Y0, v0, L0, H0, _⟩ := h1.ex
  have c3 := H0.c3
  rw [ho] at c3
  have hbl := bytesV_len b
  rw [hb] at hbl
  have hone := bytesV_one b
  have hld : ((w.alloc (.cells (bytesV b).toArray 61)).rangeAt w.heap.size 0 (bytesV b)) := load_own w _ b _ (grew_refl _)
  have HLD := Lib.hid hld
  have hu := Try.underlying61
  have hi : (Try.prog.info? 61).map (·.size) = some (bytesV b).length := size40 hbl.symm
  show Calls _ _ #[_, _, .agg (bytesV b).toArray] _ _
  have HG1 := Lib.hid g1
  have hszb : w.heap.size < (w.alloc (.cells (bytesV b).toArray 61)).heap.size := by simp
  have HSZ := Lib.hid hszb
  clear h h1 L0 H0 hhas hld hszb g1
  obtain ⟨l1, hl1⟩ : ∃ l1, (dLast s).1 = l1 := ⟨_, rfl⟩
  obtain ⟨s1, hs1⟩ : ∃ s1, (dLast s).2 = s1 := ⟨_, rfl⟩
  rw [hl1, hs1] at KL
  rw [hs1] at hok hop
  rw [hl1, hs1]
  clear hl1 hs1
  rw [← hop] at hn
  clear hop
  obtain ⟨cs, hbv'⟩ : ∃ cs, bytesV b = cs := ⟨_, rfl⟩
  have hbv := Lib.hid hbv'
  rw [hbv'] at hbl hone HLD hi KB KL c3 HG1 HSZ
  rw [hbv']
  clear hbv'
  go_enter Try.func26, Try.ntmps26
  go_upto_region 6 with (first
    | (go_at_call 55; ((with_reducible refine KB.out.mono ?_); rintro e w1 ⟨rfl, rfl⟩))
    | (go_at_call 44; ((with_reducible refine KL.out.mono ?_); rintro e w2 ⟨rfl, hc, hd⟩; have HC := Lib.hid hc; have HD := Lib.hid hd; clear hc hd)))
  obtain ⟨Y, v, L, H, h2, h3⟩ := HD.out.ex
  obtain ⟨A, cap0, rfl⟩ := own_form h3
  have e2 := H.c2
  have ef2 := H.f2
  have hH := Lib.hid H
  have hL := Lib.hid L
  have H2 := Lib.hid h2
  have H3 := Lib.hid h3
  have hfit2 := Lib.hid HD.out.fit
  have d1 : w2.rangeAt w.heap.size 0 cs := rangeAt_of HLD.out (HC.out.block _ HSZ.out (fun hF => by have := hfit.out _ hF; omega))
  have HWL : Hid (w.heap.size < w2.heap.size) := Nat.lt_of_lt_of_le HSZ.out HC.out.size
  have HFW : Hid (¬ FX F (w.alloc (.cells cs.toArray 61)) w2 w.heap.size) := fun hF => by
    rcases hF with hF | hF
    · have := hfit.out _ hF; omega
    · have := HSZ.out; omega
  clear H L h2 h3 HLD
  obtain ⟨i66, hi66, hz66, hs66, hb66⟩ := info_parts info66
  have D3 : Hid ((w2.drew.alloc (.cells (.int .i64 (k : Int) :: cs).toArray 66)).rangeAt w.heap.size 0 cs) := World.rangeAt_alloc ((World.rangeAt_drew _ _ _ _).2 d1) _
  have HO : Hid ((w2.drew.alloc (.cells (.int .i64 (k : Int) :: cs).toArray 66)).ownsRow 0 66 65 (.slice A s1.opn.length cap0) s1.opn.length (opnC s1.opn)) := World.ownsRow.alloc (ownsRow_of H3.out fun i hi => rfl) _
  have HN : Hid (∀ j u, (.int .i64 (k : Int) :: cs)[j]? = some u → (w2.drew.alloc (.cells (.int .i64 (k : Int) :: cs).toArray 66)).cell? ((⟨w2.heap.size, 0, none⟩ : Addr).add j) = some u) := by
    exact World.news_of_block (heap_alloc_new w2.drew (.cells (.int .i64 (k : Int) :: cs).toArray 66))
  have HV : Hid ((Value.slice A s1.opn.length cap0).ownBlock ≠ some w.heap.size) := fun h => HFW.out (hL.out.fv _ h).1
  have HVq : Hid ((Value.slice A s1.opn.length cap0).ownBlock ≠ some q) := fun h => (hL.out.fv _ h).2.1 rfl
  have hw3 : (w2.drew.alloc (.cells (.int .i64 (k : Int) :: cs).toArray 66)).heap.size = w2.heap.size + 1 := by simp
  have hB : Hid (w.heap.size < (w2.drew.alloc (.cells (.int .i64 (k : Int) :: cs).toArray 66)).heap.size) := by show _ < _; rw [hw3]; have := HWL.out; omega
  have hQ : Hid (q < (w2.drew.alloc (.cells (.int .i64 (k : Int) :: cs).toArray 66)).heap.size) := by show _ < _; rw [hw3]; have := hH.out.lt; omega
  have e3 : (w2.drew.alloc (.cells (.int .i64 (k : Int) :: cs).toArray 66)).cell? ⟨q, 2, none⟩ = some (.slice A s1.opn.length cap0) := (World.cell?_alloc_lt _ _ _ hH.out.lt).trans e2
  have ef3 : (w2.drew.alloc (.cells (.int .i64 (k : Int) :: cs).toArray 66)).frozen? ⟨q, 2, none⟩ = false := (World.frozen?_alloc_past _ _ _ hH.out.lt).trans ef2
  have e4 : (w2.alloc (.cells (.int .i64 (k : Int) :: cs).toArray 66)).cell? ⟨q, 2, none⟩ = some (.slice A s1.opn.length cap0) := (World.cell?_alloc_lt _ _ _ hH.out.lt).trans e2
  have HP : Hid (∀ g cap w4, w4.ownsRow 0 66 65 (.slice (some ⟨g, 0, none⟩) (s1.opn.length + 1) cap) (s1.opn.length + 1) (opnC s1.opn ++ .int .i64 (k : Int) :: cs) → (w2.drew.alloc (.cells (.int .i64 (k : Int) :: cs).toArray 66)).grownBy w4 (Value.slice A s1.opn.length cap0).ownBlock →
      ((Value.slice A s1.opn.length cap0).ownBlock = some g ∨ g = w2.heap.size + 1) → g < w4.heap.size → RPost F q w (.int .i64 0) (wrS s1 k b) (.returned (.int .i64 0)) (w4.setCell ⟨q, 2, none⟩ (.slice (some ⟨g, 0, none⟩) (s1.opn.length + 1) cap))) := by
    intro g cap w4 hown hgrow hat hlt
    have := rk_write (w := w2) (w3 := w2.drew.alloc (.cells (.int .i64 (k : Int) :: cs).toArray 66)) (w4 := w4) (g := g) (cap := cap) (k := k) (b := b) hfit2.out hok.out hL.out hH.out H2.out (grew_trans (grew_drew (grew_refl _)) (grew_alloc _ _ _)) hgrow
      (by rw [show wrC (k, b) = .int .i64 (k : Int) :: bytesV b from rfl, hbv.out]; exact hown) (hat.imp id fun h => by rw [h]; omega) hlt
    exact rpost_grew hfit.out HG1.out (rpost_then (fun i hi => Nat.lt_of_lt_of_le (hfit.out i hi) HG1.out.size) HC.out ⟨rfl, this⟩)
  have hw3 := Lib.hid hw3
  have hqW : Hid (w.heap.size ≠ q) := fun h => HFW.out (by rw [h]; exact hL.out.fq)
  -- REGION5
  refine wp_region_held_drew (S := fun w' => w'.rangeAt w.heap.size 0 cs) (by kernel_rfl) ((World.rangeAt_drew _ _ _ _).2 d1) (fun hHeld => ?_)
  (refine wpAnyH_take (i := 0) (oi := { dst := some 18, op := Op.move (Operand.tmp 0), type := 29, pos := "ref.go:69", after := #[], guard := none }) (v := ?_) rfl (by kernel_rfl) (by kernel_rfl) (by kernel_rfl) (fun _ _ _ h => h) (Or.inl ⟨by rfl, ?_⟩) (by assumption) ?_; rotate_left; · (intro w hSw; (try dsimp only at hSw); go_simp; (first | done | with_reducible rfl)))
  try simp only [Act.put, List.setIfInBounds_toArray, List.set_cons_zero, List.set_cons_succ]
  (refine wpAnyH_take (i := 1) (oi := { dst := some 19, op := Op.move (Operand.tmp 0), type := 29, pos := "ref.go:69", after := #[], guard := none }) (v := ?_) rfl (by kernel_rfl) (by kernel_rfl) (by kernel_rfl) (fun _ _ _ h => h) (Or.inl ⟨by rfl, ?_⟩) (by assumption) ?_; rotate_left; · (intro w hSw; (try dsimp only at hSw); go_simp; (first | done | with_reducible rfl)))
  try simp only [Act.put, List.setIfInBounds_toArray, List.set_cons_zero, List.set_cons_succ]
  (refine wpAnyH_take (i := 2) (oi := { dst := some 20, op := Op.nilCheck (Operand.tmp 19), type := 0, pos := "ref.go:69", after := #[{ on := 1, ground := Ground.data }], guard := none }) (v := ?_) rfl (by kernel_rfl) (by kernel_rfl) (by kernel_rfl) (fun _ _ _ h => h) (Or.inl ⟨by rfl, ?_⟩) (by assumption) ?_; rotate_left; · (intro w hSw; (try dsimp only at hSw); go_simp; (first | done | with_reducible rfl)))
  try simp only [Act.put, List.setIfInBounds_toArray, List.set_cons_zero, List.set_cons_succ]
  (refine wpAnyH_take (i := 3) (oi := { dst := some 21, op := Op.fieldAddr 45 (Operand.tmp 20) 2, type := 0, pos := "ref.go:69", after := #[{ on := 2, ground := Ground.data }], guard := none }) (v := ?_) rfl (by kernel_rfl) (by kernel_rfl) (by kernel_rfl) (fun _ _ _ h => h) (Or.inl ⟨by rfl, ?_⟩) (by assumption) ?_; rotate_left; · (intro w hSw; (try dsimp only at hSw); go_simp; (first | done | with_reducible rfl)))
  try simp only [Act.put, List.setIfInBounds_toArray, List.set_cons_zero, List.set_cons_succ]
  (refine wpAnyH_take (i := 5) (oi := { dst := some 23, op := Op.move (Operand.tmp 1), type := 3, pos := "ref.go:69", after := #[], guard := none }) (v := ?_) rfl (by kernel_rfl) (by kernel_rfl) (by kernel_rfl) (fun _ _ _ h => h) (Or.inl ⟨by rfl, ?_⟩) (by assumption) ?_; rotate_left; · (intro w hSw; (try dsimp only at hSw); go_simp; (first | done | with_reducible rfl)))
  try simp only [Act.put, List.setIfInBounds_toArray, List.set_cons_zero, List.set_cons_succ]
  (refine wpAnyH_take (i := 6) (oi := { dst := some 24, op := Op.load 61 (Operand.tmp 5), type := 61, pos := "ref.go:69", after := #[], guard := none }) (v := _) rfl (by kernel_rfl) (by kernel_rfl) (by kernel_rfl) (fun _ _ _ h => h) (yieldsIf_load_mid (by rfl) _ _ rfl _ _ rfl _ _ (fun w h => h) hu rfl hi) (by assumption) ?_)
  try simp only [Act.put, List.setIfInBounds_toArray, List.set_cons_zero, List.set_cons_succ]
  (refine wpAnyH_take (i := 7) (oi := { dst := some 25, op := Op.build 66 #[(0, Operand.tmp 23), (1, Operand.tmp 24)], type := 66, pos := "ref.go:69", after := #[{ on := 5, ground := Ground.data }, { on := 6, ground := Ground.data }], guard := none }) (v := _) rfl (by kernel_rfl) (by kernel_rfl) (by kernel_rfl) (fun _ _ _ h => h) (yieldsIf_build66 (by rfl) _ _ rfl (k : Int) cs (by rfl) (by rfl) hbl) (by assumption) ?_)
  try simp only [Act.put, List.setIfInBounds_toArray, List.set_cons_zero, List.set_cons_succ]
  refine wpAnyH_ready (rs := [4, 8]) (by kernel_rfl) (by simp) ?_
  refine (AllReadyH.cons (o := { dst := some 22, op := Op.load 43 (Operand.tmp 21), type := 43, pos := "ref.go:69", after := #[{ on := 3, ground := Ground.data }], guard := none }) rfl (fun K hK => ?_) (AllReadyH.cons (o := { dst := some 26, op := Op.buildSlice 43 1 #[(0, Operand.tmp 25)], type := 43, pos := "ref.go:69", after := #[{ on := 7, ground := Ground.data }], guard := none }) rfl (fun K hK => ?_) AllReadyH.nil))
  · go_simp
    refine hK.out _ _ ?_ (fun hHeld => ?_)
    · first
      | exact hHeld
    clear hK K
    try simp only [Act.put, List.setIfInBounds_toArray, List.set_cons_zero, List.set_cons_succ]
    refine wpAnyH_ready (rs := [8]) (by kernel_rfl) (by simp) ?_
    refine (AllReadyH.cons (o := { dst := some 26, op := Op.buildSlice 43 1 #[(0, Operand.tmp 25)], type := 43, pos := "ref.go:69", after := #[{ on := 7, ground := Ground.data }], guard := none }) rfl (fun K hK => ?_) AllReadyH.nil)
    refine step_slice66 (by rfl) _ (by rfl) (.int .i64 (k : Int) :: cs) (by rfl) (by simp [hbl]) ?_
    refine hK.out _ _ ?_ (fun hHeld => ?_)
    · first
      | exact D3.out
    clear hK K
    try simp only [Act.put, List.setIfInBounds_toArray, List.set_cons_zero, List.set_cons_succ]
    refine wpAnyH_ready (rs := [9]) (by kernel_rfl) (by simp) ?_
    refine (AllReadyH.cons (o := { dst := some 27, op := Op.call { callee := Callee.builtin Builtin.append, args := #[Operand.tmp 22, Operand.tmp 26], argTypes := #[43, 43] }, type := 43, pos := "ref.go:69", after := #[{ on := 4, ground := Ground.data }, { on := 8, ground := Ground.data }], guard := none }) rfl (fun K hK => ?_) AllReadyH.nil)
    (refine step_append_lies _ (by rfl) _ _ 43 (by rfl) 0 66 i66 (.agg (wrC (0, blk0)).toArray) 65 72 Try.underlying43 hi66 hz66 hs66 hb66 (by simp [Value.cells, wrC, bytesV_len, blk0]) (by decide) (.slice A s1.opn.length cap0) s1.opn.length _ (by rfl) HO.out ⟨w2.heap.size, 0, none⟩ 1 1 (.int .i64 (k : Int) :: cs) (by rfl) (by simp [hbl]) HN.out (by simpa [Value.oneCell'] using hone) (by omega) (by unfold maxLen; omega) (by omega) (Nat.zero_le _) _ rfl ?_; intro g cap w4 hown hgrow hat hlt)
    refine hK.out _ _ ?_ (fun hHeld => ?_)
    · first
      | exact rangeAt_of D3.out (hgrow.block _ hB.out (fun h => HV.out h.symm))
    clear hK K
    try simp only [Act.put, List.setIfInBounds_toArray, List.set_cons_zero, List.set_cons_succ]
    (refine wpAnyH_take (i := 10) (oi := { dst := some 28, op := Op.nilCheck (Operand.tmp 18), type := 0, pos := "ref.go:69", after := #[{ on := 0, ground := Ground.data }, { on := 0, ground := Ground.phase }, { on := 1, ground := Ground.phase }, { on := 2, ground := Ground.phase }, { on := 3, ground := Ground.phase }, { on := 4, ground := Ground.phase }, { on := 5, ground := Ground.phase }, { on := 6, ground := Ground.phase }, { on := 7, ground := Ground.phase }, { on := 8, ground := Ground.phase }, { on := 9, ground := Ground.phase }], guard := none }) (v := ?_) rfl (by kernel_rfl) (by kernel_rfl) (by kernel_rfl) (fun _ _ _ h => h) (Or.inl ⟨by rfl, ?_⟩) (by assumption) ?_; rotate_left; · (intro w hSw; (try dsimp only at hSw); go_simp; (first | done | with_reducible rfl)))
    try simp only [Act.put, List.setIfInBounds_toArray, List.set_cons_zero, List.set_cons_succ]
    (refine wpAnyH_take (i := 11) (oi := { dst := some 29, op := Op.fieldAddr 45 (Operand.tmp 28) 2, type := 0, pos := "ref.go:69", after := #[{ on := 10, ground := Ground.data }, { on := 0, ground := Ground.phase }, { on := 1, ground := Ground.phase }, { on := 2, ground := Ground.phase }, { on := 3, ground := Ground.phase }, { on := 4, ground := Ground.phase }, { on := 5, ground := Ground.phase }, { on := 6, ground := Ground.phase }, { on := 7, ground := Ground.phase }, { on := 8, ground := Ground.phase }, { on := 9, ground := Ground.phase }], guard := none }) (v := ?_) rfl (by kernel_rfl) (by kernel_rfl) (by kernel_rfl) (fun _ _ _ h => h) (Or.inl ⟨by rfl, ?_⟩) (by assumption) ?_; rotate_left; · (intro w hSw; (try dsimp only at hSw); go_simp; (first | done | with_reducible rfl)))
    try simp only [Act.put, List.setIfInBounds_toArray, List.set_cons_zero, List.set_cons_succ]
    refine wpAnyH_ready (rs := [12]) (by kernel_rfl) (by simp) ?_
    refine (AllReadyH.cons (o := { dst := none, op := Op.store 43 (Operand.tmp 29) (Operand.tmp 27), type := 0, pos := "ref.go:69", after := #[{ on := 11, ground := Ground.data }, { on := 9, ground := Ground.data }, { on := 9, ground := Ground.chain }, { on := 0, ground := Ground.phase }, { on := 1, ground := Ground.phase }, { on := 2, ground := Ground.phase }, { on := 3, ground := Ground.phase }, { on := 4, ground := Ground.phase }, { on := 5, ground := Ground.phase }, { on := 6, ground := Ground.phase }, { on := 7, ground := Ground.phase }, { on := 8, ground := Ground.phase }, { on := 9, ground := Ground.phase }], guard := none }) rfl (fun K hK => ?_) AllReadyH.nil)
    have g2 := (hgrow.cell_far ⟨q, 2, none⟩ hQ.out (fun h => HVq.out h.symm)).trans e3
    have g3 := (hgrow.frozen_far ⟨q, 2, none⟩ hQ.out (fun h => HVq.out h.symm)).trans ef3
    go_simp
    refine hK.out _ _ ?_ (fun hHeld => ?_)
    · first
      | exact rangeAt_of hHeld (Below.heap_setCell _ _ _ _ (by show w.heap.size ≠ q; exact hqW.out))
    clear hK K
    try simp only [Act.put, List.setIfInBounds_toArray, List.set_cons_zero, List.set_cons_succ]
    refine wpAnyH_done (by kernel_rfl) ?_ _
    have HD9 := Lib.hid (HP.out g cap w4 hown hgrow (hat.imp id fun h => h.trans hw3.out) hlt)
    clear hgrow hat hlt hown g2 g3 hHeld
    generalize w4.setCell ⟨q, 2, none⟩ (.slice (some ⟨g, 0, none⟩) (s1.opn.length + 1) cap) = w5 at *
    cases l1 with
    | true =>
      go_wp2
      go_ret
      exact ⟨rfl, HD9.out.2⟩
    | false =>
      go_wp2
      go_ret
      exact ⟨rfl, HD9.out.2⟩
  · refine step_slice66 (by rfl) _ (by rfl) (.int .i64 (k : Int) :: cs) (by rfl) (by simp [hbl]) ?_
    refine hK.out _ _ ?_ (fun hHeld => ?_)
    · first
      | exact D3.out
    clear hK K
    try simp only [Act.put, List.setIfInBounds_toArray, List.set_cons_zero, List.set_cons_succ]
    refine wpAnyH_ready (rs := [4]) (by kernel_rfl) (by simp) ?_
    refine (AllReadyH.cons (o := { dst := some 22, op := Op.load 43 (Operand.tmp 21), type := 43, pos := "ref.go:69", after := #[{ on := 3, ground := Ground.data }], guard := none }) rfl (fun K hK => ?_) AllReadyH.nil)
    go_simp
    refine hK.out _ _ ?_ (fun hHeld => ?_)
    · first
      | exact hHeld
    clear hK K
    try simp only [Act.put, List.setIfInBounds_toArray, List.set_cons_zero, List.set_cons_succ]
    refine wpAnyH_ready (rs := [9]) (by kernel_rfl) (by simp) ?_
    refine (AllReadyH.cons (o := { dst := some 27, op := Op.call { callee := Callee.builtin Builtin.append, args := #[Operand.tmp 22, Operand.tmp 26], argTypes := #[43, 43] }, type := 43, pos := "ref.go:69", after := #[{ on := 4, ground := Ground.data }, { on := 8, ground := Ground.data }], guard := none }) rfl (fun K hK => ?_) AllReadyH.nil)
    (refine step_append_lies _ (by rfl) _ _ 43 (by rfl) 0 66 i66 (.agg (wrC (0, blk0)).toArray) 65 72 Try.underlying43 hi66 hz66 hs66 hb66 (by simp [Value.cells, wrC, bytesV_len, blk0]) (by decide) (.slice A s1.opn.length cap0) s1.opn.length _ (by rfl) HO.out ⟨w2.heap.size, 0, none⟩ 1 1 (.int .i64 (k : Int) :: cs) (by rfl) (by simp [hbl]) HN.out (by simpa [Value.oneCell'] using hone) (by omega) (by unfold maxLen; omega) (by omega) (Nat.zero_le _) _ rfl ?_; intro g cap w4 hown hgrow hat hlt)
    refine hK.out _ _ ?_ (fun hHeld => ?_)
    · first
      | exact rangeAt_of D3.out (hgrow.block _ hB.out (fun h => HV.out h.symm))
    clear hK K
    try simp only [Act.put, List.setIfInBounds_toArray, List.set_cons_zero, List.set_cons_succ]
    (refine wpAnyH_take (i := 10) (oi := { dst := some 28, op := Op.nilCheck (Operand.tmp 18), type := 0, pos := "ref.go:69", after := #[{ on := 0, ground := Ground.data }, { on := 0, ground := Ground.phase }, { on := 1, ground := Ground.phase }, { on := 2, ground := Ground.phase }, { on := 3, ground := Ground.phase }, { on := 4, ground := Ground.phase }, { on := 5, ground := Ground.phase }, { on := 6, ground := Ground.phase }, { on := 7, ground := Ground.phase }, { on := 8, ground := Ground.phase }, { on := 9, ground := Ground.phase }], guard := none }) (v := ?_) rfl (by kernel_rfl) (by kernel_rfl) (by kernel_rfl) (fun _ _ _ h => h) (Or.inl ⟨by rfl, ?_⟩) (by assumption) ?_; rotate_left; · (intro w hSw; (try dsimp only at hSw); go_simp; (first | done | with_reducible rfl)))
    try simp only [Act.put, List.setIfInBounds_toArray, List.set_cons_zero, List.set_cons_succ]
    (refine wpAnyH_take (i := 11) (oi := { dst := some 29, op := Op.fieldAddr 45 (Operand.tmp 28) 2, type := 0, pos := "ref.go:69", after := #[{ on := 10, ground := Ground.data }, { on := 0, ground := Ground.phase }, { on := 1, ground := Ground.phase }, { on := 2, ground := Ground.phase }, { on := 3, ground := Ground.phase }, { on := 4, ground := Ground.phase }, { on := 5, ground := Ground.phase }, { on := 6, ground := Ground.phase }, { on := 7, ground := Ground.phase }, { on := 8, ground := Ground.phase }, { on := 9, ground := Ground.phase }], guard := none }) (v := ?_) rfl (by kernel_rfl) (by kernel_rfl) (by kernel_rfl) (fun _ _ _ h => h) (Or.inl ⟨by rfl, ?_⟩) (by assumption) ?_; rotate_left; · (intro w hSw; (try dsimp only at hSw); go_simp; (first | done | with_reducible rfl)))
    try simp only [Act.put, List.setIfInBounds_toArray, List.set_cons_zero, List.set_cons_succ]
    refine wpAnyH_ready (rs := [12]) (by kernel_rfl) (by simp) ?_
    refine (AllReadyH.cons (o := { dst := none, op := Op.store 43 (Operand.tmp 29) (Operand.tmp 27), type := 0, pos := "ref.go:69", after := #[{ on := 11, ground := Ground.data }, { on := 9, ground := Ground.data }, { on := 9, ground := Ground.chain }, { on := 0, ground := Ground.phase }, { on := 1, ground := Ground.phase }, { on := 2, ground := Ground.phase }, { on := 3, ground := Ground.phase }, { on := 4, ground := Ground.phase }, { on := 5, ground := Ground.phase }, { on := 6, ground := Ground.phase }, { on := 7, ground := Ground.phase }, { on := 8, ground := Ground.phase }, { on := 9, ground := Ground.phase }], guard := none }) rfl (fun K hK => ?_) AllReadyH.nil)
    have g2 := (hgrow.cell_far ⟨q, 2, none⟩ hQ.out (fun h => HVq.out h.symm)).trans e3
    have g3 := (hgrow.frozen_far ⟨q, 2, none⟩ hQ.out (fun h => HVq.out h.symm)).trans ef3
    go_simp
    refine hK.out _ _ ?_ (fun hHeld => ?_)
    · first
      | exact rangeAt_of hHeld (Below.heap_setCell _ _ _ _ (by show w.heap.size ≠ q; exact hqW.out))
    clear hK K
    try simp only [Act.put, List.setIfInBounds_toArray, List.set_cons_zero, List.set_cons_succ]
    refine wpAnyH_done (by kernel_rfl) ?_ _
    have HD9 := Lib.hid (HP.out g cap w4 hown hgrow (hat.imp id fun h => h.trans hw3.out) hlt)
    clear hgrow hat hlt hown g2 g3 hHeld
    generalize w4.setCell ⟨q, 2, none⟩ (.slice (some ⟨g, 0, none⟩) (s1.opn.length + 1) cap) = w5 at *
    cases l1 with
    | true =>
      go_wp2
      go_ret
      exact ⟨rfl, HD9.out.2⟩
    | false =>
      go_wp2
      go_ret
      exact ⟨rfl, HD9.out.2⟩
  -- END5

set_option maxRecDepth 100000 in
set_option maxHeartbeats 1000000 in
theorem rwrite_any (F : Nat → Prop) (q : Nat) (s : DS) (at' : Int) (b : Blk) (w : World) (h : RK w F q s) (hb : b.length = 64) (hn : s.opn.length ≤ 1000000) :
    Calls Try.prog 26 #[.pointer (some ⟨q, 0, none⟩), .int .i64 at', blkV' b] w (RPost F q w (.int .i64 (dWrite s at' b).1) (dWrite s at' b).2) := by
  by_cases hr : refI s at' = 0
  · obtain ⟨ho, k, rfl, hk⟩ := has_of hr
    exact rwrite_ok F q s k b w h hb hn ho hk
  · have g1 := grew_alloc w (bytesV b).toArray 61
    have h1 := h.grew g1
    have KB := Lib.hid (rblock_any F q s at' _ h1)
    have HP : Hid (RPost F q w (.int .i64 (dWrite s at' b).1) (dWrite s at' b).2 (.returned (.int .i64 (refI s at'))) (w.alloc (.cells (bytesV b).toArray 61))) := by
      rw [dWrite_not hr]
      exact ⟨rfl, g1.chg, h1.more (fun k hk => Or.inl hk) (fx_fit h.fit g1.size)⟩
    obtain ⟨Y, v, L, H, _⟩ := h1.ex
    have c3 := H.c3
    show Calls _ _ #[_, _, .agg (bytesV b).toArray] _ _
    have HRI : Hid ((s.off = true ∧ refI s at' = 7) ∨ (s.off = false ∧ decide (s.has at') = false ∧ refI s at' = 3)) := by
      unfold refI at hr ⊢
      cases ho : s.off with
      | true => exact Or.inl ⟨rfl, by simp⟩
      | false =>
        rw [ho] at hr
        by_cases hh : s.has at'
        · simp [hh] at hr
        · exact Or.inr ⟨rfl, decide_eq_false hh, by simp [hh]⟩
    clear L H h1 h g1 hr
    generalize refI s at' = r at *
    generalize bytesV b = cs at *
    rcases HRI.out with ⟨ho, rfl⟩ | ⟨ho, hh, rfl⟩
    · rw [ho] at c3
      go_enter Try.func26, Try.ntmps26
      go_wp2
      go_ret
      exact HP.out
    · rw [ho] at c3
      rw [hh] at KB
      go_enter Try.func26, Try.ntmps26
      go_wp2_with (go_at_call 55; ((with_reducible refine KB.out.mono ?_); rintro e w1 ⟨rfl, rfl⟩))
      go_ret
      exact HP.out
end Go.Proofs.Ythnhhhfjgbgpgaa.NumK
namespace Go.Proofs.Ythnhhhfjgbgpgaa.NumK
open Go.RowKit

theorem rk_sync {F : Nat → Prop} {q : Nat} {s : DS} {w w2 : World} {Y : Nat} {v : Value} (hf : ∀ k, F k → k < w.heap.size) (ok : DOK s) (L : RLie F q Y v) (H : RHead w q s.safe.length Y v s.armed s.off s.cut)
    (g : Chg (fun i => i = Y) w w2) (h2 : BlkRow w2 Y (applyL s.safe s.opn)) : Chg F w (w2.setCell ⟨q, 2, none⟩ (.slice none 0 0)) ∧ RK (w2.setCell ⟨q, 2, none⟩ (.slice none 0 0)) (FX F w (w2.setCell ⟨q, 2, none⟩ (.slice none 0 0))) q (syncS s) := by
  have c5 : Chg (fun i => i = q) w2 (w2.setCell ⟨q, 2, none⟩ (.slice none 0 0)) := (Chg.refl (fun i => i = q) w2).setCell ⟨q, 2, none⟩ _ (fun _ => rfl)
  have hall : Chg F w (w2.setCell ⟨q, 2, none⟩ (.slice none 0 0)) := (g.mono (G := F) (fun i hi => hi ▸ L.fY)).trans (c5.mono (G := F) (fun i hi => hi ▸ L.fq))
  have hl : (syncS s).safe.length = s.safe.length := applyL_len _ _
  refine ⟨hall, fx_fit hf hall.size, dok_sync ok, Y, .slice none 0 0, ⟨Or.inl L.fq, Or.inl L.fY, (fun i hi => by cases hi), L.qY⟩, ?_, h2.chg c5 (fun h => L.qY h.symm), World.ownsRow_nil _ _ _ _⟩
  rw [hl]; exact (H.chg g (fun h => L.qY h)).set2 _

set_option maxRecDepth 100000 in
set_option maxHeartbeats 1000000 in
theorem rsync_off (F : Nat → Prop) (q : Nat) (s : DS) (w : World) (h : RK w F q s) (ho : s.off = true) : Calls Try.prog 18 #[.pointer (some ⟨q, 0, none⟩)] w (RPost F q w (.int .i64 (dSync s).1) (dSync s).2) := by
  have HP : Hid (RPost F q w (.int .i64 (dSync s).1) (dSync s).2 (.returned (.int .i64 7)) w) := by
    have : dSync s = (7, s) := by unfold dSync; rw [ho]; rfl
    rw [this]; exact ⟨rfl, rk_same h⟩
  obtain ⟨Y, v, L, H, h1⟩ := h.ex
  have c3 := H.c3
  rw [ho] at c3
  clear H h1 L h
  go_enter Try.func18, Try.ntmps18
  go_wp2
  go_ret
  exact HP.out
set_option maxRecDepth 100000 in
set_option maxHeartbeats 1000000 in
theorem rsync_last (F : Nat → Prop) (q : Nat) (s : DS) (w : World) (h : RK w F q s) (ho : s.off = false) (hl : (dLast s).1 = true) : Calls Try.prog 18 #[.pointer (some ⟨q, 0, none⟩)] w (RPost F q w (.int .i64 (dSync s).1) (dSync s).2) := by
  have CL := Lib.hid (rlast_any F q s w h)
  have HE : Hid (dSync s = (7, (dLast s).2)) := by show _ = _; unfold dSync; rw [ho, hl]; rfl
  rw [hl] at CL
  obtain ⟨Y, v, L, H, h1⟩ := h.ex
  have c3 := H.c3
  rw [ho] at c3
  clear H h1 L h
  go_enter Try.func18, Try.ntmps18
  go_wp2_with (go_at_call 44; ((with_reducible refine CL.out.mono ?_); rintro e w6 ⟨rfl, hd⟩; have HD6 := Lib.hid hd; clear hd))
  go_ret
  rw [HE.out]
  exact ⟨rfl, HD6.out⟩

set_option maxRecDepth 100000 in
set_option maxHeartbeats 2000000 in
theorem rsync_ok (F : Nat → Prop) (q : Nat) (s : DS) (w : World) (h : RK w F q s) (ho : s.off = false) (hl : (dLast s).1 = false) (hn : s.opn.length ≤ 1000000) : Calls Try.prog 18 #[.pointer (some ⟨q, 0, none⟩)] w (RPost F q w (.int .i64 (dSync s).1) (dSync s).2) := by
  have CL := Lib.hid (rlast_any F q s w h)
  rw [dSync_of ho hl]
  have hs := (last_keeps s).2
  rw [hl] at CL
  have hfit := Lib.hid h.fit
  obtain ⟨Y0, v0, L0, H0, h10⟩ := h.ex
  have c3 := H0.c3
  rw [ho] at c3
  rw [← hs] at hn
  generalize (dLast s).2 = s1 at *
  clear H0 h10 L0 h hs ho hl
  go_enter Try.func18, Try.ntmps18
  go_wp2_with (go_at_call 44; ((with_reducible refine CL.out.mono ?_); rintro e w6 ⟨rfl, hc, hd⟩; obtain ⟨Y, v, L, H, h2, h3⟩ := hd.ex; obtain ⟨A, cap, rfl⟩ := own_form h3; have HD6 := Lib.hid hd; have HC6 := Lib.hid hc; have HL := Lib.hid L; have HH := Lib.hid H; have H2 := Lib.hid h2; have H3 := Lib.hid h3; clear hd hc L H h2 h3))
  clear CL c3
  obtain ⟨m, hm⟩ : ∃ m, s1.opn.length = m := ⟨_, rfl⟩
  have hm2 := Lib.hid hm
  rw [hm] at hn
  clear hm
  go_loopw [3] (fun v3 wr => ∃ k : Nat, v3 = .int .i64 k ∧ k ≤ m ∧ Hid (Chg (fun i => i = Y) w6 wr) ∧ Hid (BlkRow wr Y (applyL s1.safe (s1.opn.take k)))) (fun v3 _ => m - (intOf v3).toNat)
  case atStart => exact ⟨0, rfl, Nat.zero_le _, Chg.refl _ _, H2.out⟩
  case round =>
    obtain ⟨k, rfl, hk, HC, HB⟩ := hrel
    have hqY := HL.out.qY
    have d1 := (HC.out.cell (p := ⟨q, 1, none⟩) HH.out.lt hqY).trans HH.out.c1
    have d2 := (HC.out.cell (p := ⟨q, 2, none⟩) HH.out.lt hqY).trans HH.out.c2
    have f2 := (HC.out.frozen (p := ⟨q, 2, none⟩) HH.out.lt hqY).trans HH.out.f2
    rw [hm2.out] at d2
    by_cases hlt : k < m
    · have hk2 : k < s1.opn.length := by rw [hm2.out]; exact hlt
      have hall := HD6.out.ok.all
      obtain ⟨O, cap', hA, hcap, hO, hrng⟩ := opn_at H3.out (fun x hx => (hall.2 x hx).2) hk2
      obtain ⟨rfl, rfl⟩ : A = some ⟨O, 0, none⟩ ∧ cap = cap' := by simpa [hm2.out] using hA
      have hOY : O ≠ Y := (HL.out.fv O rfl).2.2
      have hrng2 := rangeAt_of hrng (HC.out.block O hO hOY)
      have HS := Lib.hid (take_snocW s1.opn k hk2)
      have hx := hall.2 s1.opn[k] (List.getElem_mem hk2)
      generalize s1.opn[k] = x at *
      obtain ⟨at', b⟩ := x
      obtain ⟨hx1, hx2⟩ := hx
      have hone := bytesV_one b
      have hbl := bytesV_len b
      rw [hx2] at hbl
      have hu := Try.underlying61
      have hi : (Try.prog.info? 61).map (·.size) = some (bytesV b).length := size40 hbl.symm
      rw [show wrC (at', b) = .int .i64 (at' : Int) :: bytesV b from rfl] at hrng2
      obtain ⟨t0, t1⟩ := range_tail hrng2
      have hLen : Hid ((applyL s1.safe (s1.opn.take k)).length = s1.safe.length) := applyL_len _ _
      have d3 := (HB.out.at' at' (by rw [hLen.out]; exact hx1)).2
      have HNB := Lib.hid (HB.out.set (k := at') (by rw [hLen.out]; exact hx1) b hx2)
      have j1 : (k : Int) < (m : Int) := by omega
      have j0 : (0 : Int) ≤ (k : Int) := Int.natCast_nonneg _
      have j2 : (at' : Int) < (s1.safe.length : Int) := by omega
      have j3 : (0 : Int) ≤ (at' : Int) := Int.natCast_nonneg _
      clear hrng hrng2 hall hA hk2 hO hx1 hx2 f2 hcap
      generalize bytesV b = cs at *
      generalize s1.safe.length = n at *
      go_upto_region 6 with (fail)
      have e1 : (wr.drew.setCells Y (at' * 64) cs).cell? ⟨q, 1, none⟩ = some (.slice (some ⟨Y, 0, none⟩) n n) := by
        rw [World.cell?_setCells_out _ _ _ _ _ (fun h => absurd h hqY)]; exact d1
      have e2 : (wr.drew.setCells Y (at' * 64) cs).cell? ⟨q, 2, none⟩ = some (.slice (some ⟨O, 0, none⟩) m cap) := by
        rw [World.cell?_setCells_out _ _ _ _ _ (fun h => absurd h hqY)]; exact d2
      have e3 : (wr.drew.setCells Y (at' * 64) cs).cell? ⟨O, k * 65, none⟩ = some (.int .i64 (at' : Int)) := by
        rw [World.cell?_setCells_out _ _ _ _ _ (fun h => absurd h hOY)]; exact t0
      have e4 : (wr.drew.setCells Y (at' * 64) cs).rangeAt O (k * 65 + 1) cs := World.rangeAt_setCells_apart ((World.rangeAt_drew _ _ _ _).2 t1) _ _ _ (Or.inl hOY)
      have e5 : (wr.drew.setCells Y (at' * 64) cs).there Y (at' * 64) 64 := World.there_setCells ((World.there_drew _ _ _ _).2 d3) _ _ _
      go_region_held3 (fun w' => w'.cell? ⟨q, 1, none⟩ = some (.slice (some ⟨Y, 0, none⟩) n n) ∧ w'.cell? ⟨q, 2, none⟩ = some (.slice (some ⟨O, 0, none⟩) m cap) ∧ w'.cell? ⟨O, k * 65, none⟩ = some (.int .i64 (at' : Int)) ∧ w'.rangeAt O (k * 65 + 1) cs ∧ w'.there Y (at' * 64) 64)
        (first | exact ⟨d1, d2, t0, (World.rangeAt_drew _ _ _ _).2 t1, (World.there_drew _ _ _ _).2 d3⟩ | exact ⟨e1, e2, e3, e4, e5⟩) (fail)
      have HCE : Hid (Chg (fun i => i = Y) w6 (wr.drew.setCells Y (at' * 64) cs)) := (HC.out.drew).setCells _ _ _ (fun _ => rfl)
      have HBE : Hid (BlkRow (wr.drew.setCells Y (at' * 64) cs) Y (applyL s1.safe (s1.opn.take (k + 1)))) := by
        rw [drew_setCells, HS.out, applyL_snoc]
        exact HNB.out.of rfl (Nat.le_refl _)
      clear e1 e2 e3 e4 e5 d1 d2 d3 t0 t1
      generalize wr.drew.setCells Y (at' * 64) cs = we at *
      go_wp2
      go_roundw
      case rel => exact ⟨k + 1, by go_num, by omega, HCE, HBE⟩
      case measure => simp only [intOf]; omega
    · obtain rfl : m = k := by omega
      have HP := Lib.hid (rk_sync HD6.out.fit HD6.out.ok HL.out HH.out HC.out (by have := HB.out; rwa [List.take_of_length_le (by rw [hm2.out]; exact Nat.le_refl _)] at this))
      go_wp2
      go_ret
      exact rpost_then hfit.out HC6.out ⟨rfl, HP.out⟩
theorem rsync_any (F : Nat → Prop) (q : Nat) (s : DS) (w : World) (h : RK w F q s) (hn : s.opn.length ≤ 1000000) : Calls Try.prog 18 #[.pointer (some ⟨q, 0, none⟩)] w (RPost F q w (.int .i64 (dSync s).1) (dSync s).2) := by
  cases ho : s.off with
  | true => exact rsync_off F q s w h ho
  | false =>
    cases hl : (dLast s).1 with
    | true => exact rsync_last F q s w h ho hl
    | false => exact rsync_ok F q s w h ho hl hn
end Go.Proofs.Ythnhhhfjgbgpgaa.NumK
namespace Go.Proofs.Ythnhhhfjgbgpgaa.NumK
open Go.RowKit

theorem BlkRow.put {w : World} {C : Nat} {bs : List Blk} (h : BlkRow w C bs) {k : Nat} (hk : k < bs.length) (j : Nat) (hj : j < 64) (x : UInt8) : BlkRow (w.setCell ⟨C, k * 64 + j, none⟩ (byv x)) C (bs.set k ((bs.getD k blk0).set j x)) := by
  have ho := h.one hk
  refine ⟨by simpa [World.setCell] using h.lt, fun y hy => ?_, fun i hi => ⟨?_, ?_⟩⟩
  · rcases List.mem_or_eq_of_mem_set hy with hy | rfl
    · exact h.len y hy
    · rw [List.length_set]; exact ho
  · have hi2 : i < bs.length := by simpa using hi
    by_cases e : k = i
    · subst e
      rw [getD_set_eq hi2]
      intro m v hv
      unfold bytesV at hv
      rw [List.getElem?_map] at hv
      obtain ⟨y, hy, rfl⟩ := Option.map_eq_some_iff.1 hv
      have hm : m < 64 := by have := (List.getElem?_eq_some_iff.1 hy).1; rw [List.length_set] at this; omega
      by_cases em : j = m
      · subst em
        rw [List.getElem?_set_self (by omega)] at hy
        cases hy
        obtain ⟨u, hu⟩ := Option.isSome_iff_exists.1 ((h.at' k hk).2 j hj).1
        exact World.cell?_setCell_same _ _ _ hu
      · rw [List.getElem?_set_ne em] at hy
        rw [World.cell?_setCell_other _ _ _ _ (by intro e; simp only [Addr.mk.injEq] at e; omega)]
        refine (h.at' k hk).1 m _ ?_
        unfold bytesV
        rw [List.getElem?_map, hy]; rfl
    · rw [getD_set_ne e]
      intro m v hv
      have hm : m < 64 := by have := (List.getElem?_eq_some_iff.1 hv).1; rw [bytesV_len, h.one hi2] at this; exact this
      rw [World.cell?_setCell_other _ _ _ _ (by intro e'; simp only [Addr.mk.injEq] at e'; omega)]
      exact (h.at' i hi2).1 m v hv
  · intro m hm
    have hi2 : i < bs.length := by simpa using hi
    obtain ⟨h1, h2⟩ := (h.at' i hi2).2 m hm
    exact ⟨World.isSome_setCells C [byv x] (k * 64 + j) w _ h1, by rw [World.frozen?_setCell]; exact h2⟩
theorem mixB_at (a b : Blk) (m i : Nat) (hb : b.length = 64) (hm : m ≤ 64) : (mixB a b m)[i]? = if i < m then b[i]? else a[i]? := by
  unfold mixB
  have hl : (b.take m).length = m := by rw [List.length_take]; omega
  by_cases h : i < m
  · rw [if_pos h, List.getElem?_append_left (by omega), List.getElem?_take, if_pos h]
  · rw [if_neg h, List.getElem?_append_right (by omega), List.getElem?_drop, hl, show m + (i - m) = i by omega]
theorem mixB_step (a b : Blk) (k : Nat) (ha : a.length = 64) (hb : b.length = 64) (hk : k < 64) : (mixB a b k).set k (b.getD k 0) = mixB a b (k + 1) := by
  have hl := mixB_len (m := k) ha hb
  apply List.ext_getElem?
  intro i
  rw [List.getElem?_set, mixB_at a b (k + 1) i hb (by omega), mixB_at a b k i hb (by omega), hl]
  by_cases e : k = i
  · subst e
    rw [if_pos rfl, if_pos hk, if_pos (by omega), List.getD_eq_getElem?_getD, List.getElem?_eq_getElem (by omega)]; rfl
  · rw [if_neg e]
    by_cases hi : i < k
    · rw [if_pos hi, if_pos (by omega)]
    · rw [if_neg hi, if_neg (by omega)]
theorem mixB_none (a b : Blk) : mixB a b 0 = a := by simp [mixB]
theorem set_same {l : List Blk} {k : Nat} (hk : k < l.length) : l.set k (l.getD k blk0) = l := by
  have : l.getD k blk0 = l[k] := by simp [List.getD, hk]
  rw [this]; exact List.set_getElem_self hk

/-- The worlds that a Crash leaves. -/
theorem rk_crash {F : Nat → Prop} {q : Nat} {s : DS} {picks : List Int} {w wA w2 : World} {Y : Nat} {v : Value} (hf : ∀ k, F k → k < w.heap.size) (ok : DOK s) (L : RLie F q Y v) (gA : Chg (fun i => i = q) w wA) (H : RHead wA q s.safe.length Y v 0 true false)
    (g : Chg (fun i => i = Y) wA w2) (h2 : BlkRow w2 Y (crashL picks 0 s.safe s.opn)) : Chg F w (w2.setCell ⟨q, 2, none⟩ (.slice none 0 0)) ∧ RK (w2.setCell ⟨q, 2, none⟩ (.slice none 0 0)) (FX F w (w2.setCell ⟨q, 2, none⟩ (.slice none 0 0))) q (dCrash s picks) := by
  have c5 : Chg (fun i => i = q) w2 (w2.setCell ⟨q, 2, none⟩ (.slice none 0 0)) := (Chg.refl (fun i => i = q) w2).setCell ⟨q, 2, none⟩ _ (fun _ => rfl)
  have hall : Chg F w (w2.setCell ⟨q, 2, none⟩ (.slice none 0 0)) := ((gA.mono (G := F) (fun i hi => hi ▸ L.fq)).trans (g.mono (G := F) (fun i hi => hi ▸ L.fY))).trans (c5.mono (G := F) (fun i hi => hi ▸ L.fq))
  have hl : (dCrash s picks).safe.length = s.safe.length := crashL_len _ _ _ _
  refine ⟨hall, fx_fit hf hall.size, dok_crash ok h2.len, Y, .slice none 0 0, ⟨Or.inl L.fq, Or.inl L.fY, (fun i hi => by cases hi), L.qY⟩, ?_, h2.chg c5 (fun h => L.qY h.symm), World.ownsRow_nil _ _ _ _⟩
  rw [hl]; exact (H.chg g (fun h => L.qY h)).set2 _

set_option maxRecDepth 100000 in
set_option maxHeartbeats 4000000 in
theorem rcrash_any (F : Nat → Prop) (q : Nat) (s : DS) (A : Option Addr) (pn pc : Nat) (zs : List Int) (w : World) (h : RK w F q s) (hp : Ints w A pn zs) (hpF : ∀ a, A = some a → 0 < pn → ¬ F a.block) (hpn : pn ≤ 9223372036854775807) (hn : s.opn.length ≤ 1000000) :
    Calls Try.prog 10 #[.pointer (some ⟨q, 0, none⟩), .slice A pn pc] w (RPost F q w (.tuple #[]) (dCrash s zs)) := by
  have HP := Lib.hid hp
  have HPF := Lib.hid hpF
  have HD := Lib.hid h
  obtain ⟨Y, v, L, H, h2, h3⟩ := h.ex
  obtain ⟨A0, cap, rfl⟩ := own_form h3
  have HL := Lib.hid L
  have H2 := Lib.hid h2
  have H3 := Lib.hid h3
  have c3 := H.c3
  have f3 := H.f3
  have c4 := H.c4
  have f4 := H.f4
  have c5 := H.c5
  have f5 := H.f5
  have HH : Hid (RHead (((w.setCell ⟨q, 3, none⟩ (.bool true)).setCell ⟨q, 5, none⟩ (.bool false)).setCell ⟨q, 4, none⟩ (.int .i64 0)) q s.safe.length Y (.slice A0 s.opn.length cap) 0 true false) := ((H.set3 true).set5 false).set4 0
  have HGA : Hid (Chg (fun i => i = q) w (((w.setCell ⟨q, 3, none⟩ (.bool true)).setCell ⟨q, 5, none⟩ (.bool false)).setCell ⟨q, 4, none⟩ (.int .i64 0))) :=
    (((Chg.refl (fun k => k = q) w).setCell ⟨q, 3, none⟩ _ (fun _ => rfl)).setCell ⟨q, 5, none⟩ _ (fun _ => rfl)).setCell ⟨q, 4, none⟩ _ (fun _ => rfl)
  clear h L H h2 h3 hp hpF
  obtain ⟨m, hm⟩ : ∃ m, s.opn.length = m := ⟨_, rfl⟩
  have hm2 := Lib.hid hm
  rw [hm] at hn
  clear hm
  go_enter Try.func10, Try.ntmps10
  go_wp2
  have HBA : Hid (BlkRow (((w.setCell ⟨q, 3, none⟩ (.bool true)).setCell ⟨q, 5, none⟩ (.bool false)).setCell ⟨q, 4, none⟩ (.int .i64 0)) Y s.safe) := H2.out.chg HGA.out (fun h => HL.out.qY h.symm)
  generalize ((w.setCell ⟨q, 3, none⟩ (.bool true)).setCell ⟨q, 5, none⟩ (.bool false)).setCell ⟨q, 4, none⟩ (.int .i64 0) = wA at *
  clear c3 f3 c4 f4 c5 f5
  go_loopw [4] (fun v4 wr => ∃ k : Nat, v4 = .int .i64 k ∧ k ≤ m ∧ Hid (Chg (fun i => i = Y) wA wr) ∧ Hid (BlkRow wr Y (crashL zs 0 s.safe (s.opn.take k)))) (fun v4 _ => m - (intOf v4).toNat)
  case atStart => exact ⟨0, rfl, Nat.zero_le _, Chg.refl _ _, HBA.out⟩
  case round =>
    obtain ⟨k, rfl, hk, HC, HB⟩ := hrel
    clear HBA
    have hqY := HL.out.qY
    have d1 := (HC.out.cell (p := ⟨q, 1, none⟩) HH.out.lt hqY).trans HH.out.c1
    have d2 := (HC.out.cell (p := ⟨q, 2, none⟩) HH.out.lt hqY).trans HH.out.c2
    have f2 := (HC.out.frozen (p := ⟨q, 2, none⟩) HH.out.lt hqY).trans HH.out.f2
    rw [hm2.out] at d2
    by_cases hlt : k < m
    · have hk2 : k < s.opn.length := by rw [hm2.out]; exact hlt
      have hall := HD.out.ok.all
      obtain ⟨O, cap', hA, hcap, hO, hrng⟩ := opn_at H3.out (fun x hx => (hall.2 x hx).2) hk2
      obtain ⟨rfl, rfl⟩ : A0 = some ⟨O, 0, none⟩ ∧ cap = cap' := by simpa [hm2.out] using hA
      have hOY : O ≠ Y := (HL.out.fv O rfl).2.2
      have hOq : O ≠ q := (HL.out.fv O rfl).2.1
      have hrng2 := rangeAt_of (rangeAt_of hrng (HGA.out.block O hO hOq)) (HC.out.block O (Nat.lt_of_lt_of_le hO HGA.out.size) hOY)
      have HS := Lib.hid (take_snocW s.opn k hk2)
      have HSL : Hid ((s.opn.take k).length = k) := by show _ = _; rw [List.length_take]; omega
      have hx := hall.2 s.opn[k] (List.getElem_mem hk2)
      generalize s.opn[k] = x at *
      obtain ⟨at', b⟩ := x
      obtain ⟨hx1, hx2⟩ := hx
      rw [show wrC (at', b) = .int .i64 (at' : Int) :: bytesV b from rfl] at hrng2
      obtain ⟨t0, t1⟩ := range_tail hrng2
      have HT1 := Lib.hid t1
      have hLen : Hid ((crashL zs 0 s.safe (s.opn.take k)).length = s.safe.length) := crashL_len _ _ _ _
      have hob := HB.out.one (k := at') (by rw [hLen.out]; exact hx1)
      have HX2 := Lib.hid hx2
      have HOB := Lib.hid hob
      have HX1 : Hid (at' < (crashL zs 0 s.safe (s.opn.take k)).length) := by show _ < _; rw [hLen.out]; exact hx1
      have j1 : (k : Int) < (m : Int) := by omega
      have j0 : (0 : Int) ≤ (k : Int) := Int.natCast_nonneg _
      have j2 : (at' : Int) < (s.safe.length : Int) := by omega
      have j3 : (0 : Int) ≤ (at' : Int) := Int.natCast_nonneg _
      have HPK : Hid (k < pn → ∃ b0 o0, A = some ⟨b0, o0, none⟩ ∧ wr.cell? ⟨b0, o0 + k, none⟩ = some (.int .i64 (zs.getD k 0))) := fun hkp => by
        obtain ⟨b0, o0, e0, hb0, hc0⟩ := HP.out.2 (by omega)
        have hnF := HPF.out _ e0 (by omega)
        have e1 := (HGA.out.cell (p := ⟨b0, o0 + k, none⟩) hb0 (fun e => hnF (by rw [show (⟨b0, o0, none⟩ : Addr).block = q from e]; exact HL.out.fq))).trans (hc0 k hkp)
        exact ⟨b0, o0, e0, (HC.out.cell (p := ⟨b0, o0 + k, none⟩) (Nat.lt_of_lt_of_le hb0 HGA.out.size) (fun e => hnF (by rw [show (⟨b0, o0, none⟩ : Addr).block = Y from e]; exact HL.out.fY))).trans e1⟩
      have HPZ : Hid (¬ k < pn → zs.getD k 0 = 0) := fun hkp => by
        have := HP.out.1
        rw [List.getD_eq_getElem?_getD, List.getElem?_eq_none (by omega)]; rfl
      have HST := Lib.hid (stay_stN zs k)
      generalize zs.getD k 0 = p at *
      have hst := stN_le p
      have HSI := Lib.hid hst
      clear hrng hrng2 hall hA hk2 hO hx1 hx2 hcap hob t1 hst f2
      generalize s.safe.length = n at *
      obtain ⟨wb, rfl⟩ : ∃ wb, wb = wr := ⟨_, rfl⟩
      go_upto_if 29 with fail
      go_cut [5] from 17 to 73 (fun s5 wx => s5 = .int .i64 (p % 66) ∧ wb = wx)
      case first =>
        by_cases hkp : k < pn
        · obtain ⟨b0, o0, rfl, hpc⟩ := HPK.out hkp
          have k1 : (k : Int) < (pn : Int) := by omega
          have hf := tdiv_facts p 66 (by omega)
          by_cases h3 : p.tmod 66 < 0
          · have h4 : IntKind.i64.wrap (p.tmod 66 + 66) = p % 66 := by rw [IntKind.wrap_i64]; omega
            clear hf
            go_wp2
            go_meet
            case rel => exact ⟨rfl, rfl⟩
          · have h4 : p.tmod 66 = p % 66 := by omega
            have h5 : ¬ p % 66 < 0 := by omega
            clear hf h3
            go_wp2
            go_meet
            case rel => exact ⟨rfl, rfl⟩
        · have hp0 := HPZ.out hkp
          have k1 : ¬ (k : Int) < (pn : Int) := by omega
          subst hp0
          go_wp2
          go_meet
          case rel => exact ⟨rfl, rfl⟩
      case rest =>
        obtain ⟨rfl, rfl⟩ := hcut
        clear HPK HPZ
        go_upto_if 40 with fail
        go_cut [6] from 17 to 73 (fun s6 wx => s6 = .int .i64 (stN p : Int) ∧ wb = wx)
        case first =>
          have h1 : (stN p : Int) = if p % 66 = 65 then 64 else if p % 66 = 0 then 0 else p % 66 - 1 := (stN_I p).symm
          have h2 : 0 ≤ p % 66 ∧ p % 66 < 66 := by omega
          generalize p % 66 = u at *
          have h3 : IntKind.i64.wrap (u - 1) = u - 1 := by rw [IntKind.wrap_i64]; omega
          by_cases h4 : u < 65
          · by_cases h5 : u = 0
            · have HE : Hid ((stN p : Int) = 0) := by show _ = _; rw [h1, if_neg (by omega), if_pos h5]
              subst h5
              clear h1
              go_wp2
              go_meet
              case rel => exact ⟨by rw [HE.out], rfl⟩
            · have HE : Hid ((stN p : Int) = u - 1) := by show _ = _; rw [h1, if_neg (by omega), if_neg h5]
              have h6 : ¬ u - 1 < 0 := by omega
              clear h1
              go_wp2
              go_meet
              case rel => exact ⟨by rw [HE.out], rfl⟩
          · have HE : Hid ((stN p : Int) = 64) := by show _ = _; rw [h1, if_pos (by omega)]
            clear h1
            go_wp2
            go_meet
            case rel => exact ⟨by rw [HE.out], rfl⟩
        case rest =>
          obtain ⟨rfl, rfl⟩ := hcut
          obtain ⟨mm, hmm⟩ : ∃ mm, stN p = mm := ⟨_, rfl⟩
          rw [hmm] at HST HSI ⊢
          clear hmm
          have HB0 : Hid (BlkRow wb Y ((crashL zs 0 s.safe (s.opn.take k)).set at' (mixB ((crashL zs 0 s.safe (s.opn.take k)).getD at' blk0) b 0))) := by
            show BlkRow _ _ _
            rw [mixB_none, set_same HX1.out]; exact HB.out
          go_wp2
          go_loopw [7] (fun v7 wr => ∃ i : Nat, v7 = .int .i64 i ∧ i ≤ mm ∧ Hid (Chg (fun i => i = Y) wA wr) ∧ Hid (BlkRow wr Y ((crashL zs 0 s.safe (s.opn.take k)).set at' (mixB ((crashL zs 0 s.safe (s.opn.take k)).getD at' blk0) b i)))) (fun v7 _ => mm - (intOf v7).toNat)
          case atStart => exact ⟨0, rfl, Nat.zero_le _, HC.out, HB0.out⟩
          case round =>
            obtain ⟨i, rfl, hi, HC7, HB7⟩ := hrel
            clear HB0
            by_cases hlm : i < mm
            · have hi64 : i < 64 := by have := HSI.out; omega
              have x1 := (HC7.out.cell (p := ⟨q, 1, none⟩) HH.out.lt hqY).trans HH.out.c1
              have x2 := (HC7.out.cell (p := ⟨q, 2, none⟩) HH.out.lt hqY).trans HH.out.c2
              rw [hm2.out] at x2
              have hOlt : O < wA.heap.size := by
                have := World.block_lt_of_cell? _ _ t0
                have h9 := HH.out.lt
                rcases Nat.lt_or_ge O wA.heap.size with h | h
                · exact h
                · exact absurd ((HL.out.fv O rfl).1) (fun hF => by have := HD.out.fit O hF; have := HGA.out.size; omega)
              have hOwb : O < wb.heap.size := World.block_lt_of_cell? _ _ t0
              have ewb : wr.heap[O]? = wb.heap[O]? := (HC7.out.block O hOlt hOY).trans (HC.out.block O hOlt hOY).symm
              have x3 : wr.cell? ⟨O, k * 65, none⟩ = some (.int .i64 (at' : Int)) := (World.cell?_of_block (w := wb) (a := ⟨O, k * 65, none⟩) ewb).trans t0
              have hbi : (bytesV b)[i]? = some (byv (b.getD i 0)) := by
                unfold bytesV
                rw [List.getElem?_map, List.getD_eq_getElem?_getD, List.getElem?_eq_getElem (by rw [HX2.out]; exact hi64)]; rfl
              have x4 : wr.cell? ⟨O, k * 65 + 1 + i, none⟩ = some (byv (b.getD i 0)) := (World.cell?_of_block (w := wb) (a := ⟨O, k * 65 + 1 + i, none⟩) ewb).trans (HT1.out i _ hbi)
              have hlen7 : at' < ((crashL zs 0 s.safe (s.opn.take k)).set at' (mixB ((crashL zs 0 s.safe (s.opn.take k)).getD at' blk0) b i)).length := by rw [List.length_set]; exact HX1.out
              obtain ⟨y1, y2⟩ := (HB7.out.at' at' hlen7).2 i hi64
              obtain ⟨uo, y3⟩ := Option.isSome_iff_exists.1 y1
              have HN7 := Lib.hid (HB7.out.put hlen7 i hi64 (b.getD i 0))
              have HN8 : Hid (BlkRow (wr.setCell ⟨Y, at' * 64 + i, none⟩ (byv (b.getD i 0))) Y ((crashL zs 0 s.safe (s.opn.take k)).set at' (mixB ((crashL zs 0 s.safe (s.opn.take k)).getD at' blk0) b (i + 1)))) := by
                have := HN7.out
                rw [List.set_set, getD_set_eq HX1.out, mixB_step _ _ _ HOB.out HX2.out hi64] at this
                exact this
              have r1 : (i : Int) < (mm : Int) := by omega
              have r2 : (i : Int) < 64 := by omega
              have r0 : (0 : Int) ≤ (i : Int) := Int.natCast_nonneg _
              have hbv : byv (b.getD i 0) = .int .u8 ((b.getD i 0).toNat : Int) := rfl
              rw [hbv] at x4 HN8
              clear hOlt ewb hbi hlen7 y1 HN7 hbv d1 d2
              generalize (b.getD i 0).toNat = u at *
              go_upto_region 17 with (fail)
              have z1 : (wr.drew.setCell ⟨Y, at' * 64 + i, none⟩ (.int .u8 (u : Int))).cell? ⟨q, 1, none⟩ = some (.slice (some ⟨Y, 0, none⟩) n n) := (World.cell?_setCell_other _ _ _ _ (by intro e; simp only [Addr.mk.injEq] at e; omega)).trans x1
              have z2 : (wr.drew.setCell ⟨Y, at' * 64 + i, none⟩ (.int .u8 (u : Int))).cell? ⟨q, 2, none⟩ = some (.slice (some ⟨O, 0, none⟩) m cap) := (World.cell?_setCell_other _ _ _ _ (by intro e; simp only [Addr.mk.injEq] at e; omega)).trans x2
              have z3 : (wr.drew.setCell ⟨Y, at' * 64 + i, none⟩ (.int .u8 (u : Int))).cell? ⟨O, k * 65, none⟩ = some (.int .i64 (at' : Int)) := (World.cell?_setCell_other _ _ _ _ (by intro e; simp only [Addr.mk.injEq] at e; omega)).trans x3
              have z4 : (wr.drew.setCell ⟨Y, at' * 64 + i, none⟩ (.int .u8 (u : Int))).cell? ⟨O, k * 65 + 1 + i, none⟩ = some (.int .u8 (u : Int)) := (World.cell?_setCell_other _ _ _ _ (by intro e; simp only [Addr.mk.injEq] at e; omega)).trans x4
              go_region_held3 (fun w' => w'.cell? ⟨q, 1, none⟩ = some (.slice (some ⟨Y, 0, none⟩) n n) ∧ w'.cell? ⟨q, 2, none⟩ = some (.slice (some ⟨O, 0, none⟩) m cap) ∧ w'.cell? ⟨O, k * 65, none⟩ = some (.int .i64 (at' : Int)) ∧ w'.cell? ⟨O, k * 65 + 1 + i, none⟩ = some (.int .u8 (u : Int)))
                (first | exact ⟨x1, x2, x3, x4⟩ | exact ⟨z1, z2, z3, z4⟩) (fail)
              have HCE : Hid (Chg (fun i => i = Y) wA ((wr.setCell ⟨Y, at' * 64 + i, none⟩ (.int .u8 (u : Int))).drew)) := (HC7.out.setCell ⟨Y, at' * 64 + i, none⟩ (.int .u8 (u : Int)) (fun _ => rfl)).drew
              have HBE : Hid (BlkRow ((wr.setCell ⟨Y, at' * 64 + i, none⟩ (.int .u8 (u : Int))).drew) Y ((crashL zs 0 s.safe (s.opn.take k)).set at' (mixB ((crashL zs 0 s.safe (s.opn.take k)).getD at' blk0) b (i + 1)))) := HN8.out.of rfl (Nat.le_refl _)
              clear z1 z2 z3 z4 x1 x2 x3 x4 HN8 y2 y3
              go_wp2
              go_roundw
              case rel => exact ⟨i + 1, by go_num, by omega, HCE, HBE⟩
              case measure => simp only [intOf]; omega
            · obtain rfl : mm = i := by omega
              have HBE : Hid (BlkRow wr Y (crashL zs 0 s.safe (s.opn.take (k + 1)))) := by
                show BlkRow _ _ _
                rw [HS.out, crashL_snoc, HSL.out, Nat.zero_add, HST.out]
                exact HB7.out
              clear d1 d2 t0
              go_wp2
              go_roundw
              case rel => exact ⟨k + 1, by go_num, by omega, HC7, HBE⟩
              case measure => simp only [intOf]; omega
    · obtain rfl : m = k := by omega
      have HPP := Lib.hid (rk_crash (picks := zs) HD.out.fit HD.out.ok HL.out HGA.out HH.out HC.out (by have := HB.out; rwa [List.take_of_length_le (by rw [hm2.out]; exact Nat.le_refl _)] at this))
      go_wp2
      go_end0
      exact ⟨rfl, HPP.out⟩
theorem rstart_any (F : Nat → Prop) (q : Nat) (s : DS) (w : World) (h : RK w F q s) (hn : s.opn.length ≤ 1000000) : Calls Try.prog 12 #[.pointer (some ⟨q, 0, none⟩)] w (RPost F q w (.tuple #[]) (dStart s)) := by
  have hD := Lib.hid h
  obtain ⟨Y, v, L, H, h2, h3⟩ := h.ex
  have c5 := H.c5
  have c3 := H.c3
  have f3 := H.f3
  have HOK := Lib.hid (dok_start h.ok)
  cases hc : s.cut with
  | false =>
    have HS : Hid (dStart s = { s with off := false }) := by show _ = _; unfold dStart; rw [hc]; rfl
    have HP : Hid (RPost F q w (.tuple #[]) (dStart s) (.returned (.tuple #[])) (w.setCell ⟨q, 3, none⟩ (.bool false))) := by
      have hok := HOK.out
      rw [HS.out] at hok ⊢
      exact ⟨rfl, rk_head (s := s) hD.out.fit L ((Chg.refl (fun k => k = q) w).setCell ⟨q, 3, none⟩ _ (fun _ => rfl)) hok rfl rfl (H.set3 false) h2 h3⟩
    rw [hc] at c5
    clear L H h2 h3 h
    go_enter Try.func12, Try.ntmps12
    go_wp2
    go_end0
    exact HP.out
  | true =>
    rw [hc] at c5
    have CC := Lib.hid (rcrash_any F q s none 0 0 [] w h (ints0 _ _) (fun a e => by cases e) (by omega) hn)
    have HS : Hid (dStart s = { dCrash s [] with off := false }) := by show _ = _; unfold dStart; rw [hc]; rfl
    have HF := Lib.hid h.fit
    clear L H h2 h3 h c3 f3
    go_enter Try.func12, Try.ntmps12
    go_wp2_with (go_at_call 10; ((with_reducible refine CC.out.mono ?_); rintro e w6 ⟨rfl, hc, hd⟩; obtain ⟨Y', v', L', H', h2', h3'⟩ := hd.ex; have k4 := H'.c3; have f4 := H'.f3; have HC := Lib.hid hc; have HX := Lib.hid hd.fit; have HL' := Lib.hid L'; have HH' := Lib.hid H'; have H2' := Lib.hid h2'; have H3' := Lib.hid h3'; clear hc hd L' H' h2' h3'))
    go_end0
    rw [HS.out]
    refine rpost_then HF.out HC.out ⟨rfl, rk_head (s := dCrash s []) HX.out HL'.out ((Chg.refl (fun k => k = q) _).setCell ⟨q, 3, none⟩ _ (fun _ => rfl)) ?_ rfl rfl (HH'.out.set3 false) H2'.out H3'.out⟩
    rw [← HS.out]; exact HOK.out
end Go.Proofs.Ythnhhhfjgbgpgaa.NumK
namespace Go.Proofs.Ythnhhhfjgbgpgaa.NumK
open Go.RowKit

/-- The program's disk in block d reads as sd, the document's in block r as sr; both are new since w0, lie apart, and in none of the blocks N. -/
structure DX (N : Nat → Prop) (w0 w : World) (d : Nat) (sd : DS) (r : Nat) (sr : DS) : Prop where
  ex : ∃ Fd Fr, DK w Fd d sd ∧ RK w Fr r sr ∧ (∀ k, Fd k → w0.heap.size ≤ k ∧ ¬ N k ∧ ¬ Fr k) ∧ ∀ k, Fr k → w0.heap.size ≤ k ∧ ¬ N k
  grew : Grew w0 w
  nlt : ∀ k, N k → k < w.heap.size
theorem DX.grows {N : Nat → Prop} {w0 w w' : World} {d r : Nat} {sd sr : DS} (h : DX N w0 w d sd r sr) (g : Grew w w') : DX N w0 w' d sd r sr := by
  obtain ⟨Fd, Fr, h1, h2, h3, h4⟩ := h.ex
  exact ⟨⟨Fd, Fr, h1.grew g, h2.grew g, h3, h4⟩, grew_trans h.grew g, fun k hk => Nat.lt_of_lt_of_le (h.nlt k hk) g.size⟩
theorem DX.beside {N : Nat → Prop} {w0 w : World} {d r : Nat} {sd sr : DS} (h : DX N w0 w d sd r sr) (t : Obj) : DX (fun k => N k ∨ k = w.heap.size) w0 (w.alloc t) d sd r sr := by
  obtain ⟨Fd, Fr, h1, h2, h3, h4⟩ := h.ex
  have ga : Chg (fun _ => False) w (w.alloc t) := (Chg.refl _ _).alloc t
  refine ⟨⟨Fd, Fr, h1.chg ga (fun _ _ h => h), h2.chg ga (fun _ _ h => h), fun k hk => ⟨(h3 k hk).1, fun hn => ?_, (h3 k hk).2.2⟩, fun k hk => ⟨(h4 k hk).1, fun hn => ?_⟩⟩, Chg.grew h.grew ga (fun k hk => hk.elim), fun k hk => ?_⟩
  · rcases hn with hn | rfl
    · exact (h3 k hk).2.1 hn
    · have := h1.fit _ hk; omega
  · rcases hn with hn | rfl
    · exact (h4 k hk).2 hn
    · have := h2.fit _ hk; omega
  · rcases hk with hk | rfl
    · have := h.nlt k hk; simp; omega
    · simp
/-- Less beside. -/
theorem DX.less {N M : Nat → Prop} {w0 w : World} {d r : Nat} {sd sr : DS} (h : DX N w0 w d sd r sr) (hM : ∀ k, M k → N k) : DX M w0 w d sd r sr := by
  obtain ⟨Fd, Fr, h1, h2, h3, h4⟩ := h.ex
  exact ⟨⟨Fd, Fr, h1, h2, fun k hk => ⟨(h3 k hk).1, fun hn => (h3 k hk).2.1 (hM k hn), (h3 k hk).2.2⟩, fun k hk => ⟨(h4 k hk).1, fun hn => (h4 k hk).2 (hM k hn)⟩⟩, h.grew, fun k hk => h.nlt k (hM k hk)⟩
def DXStep (N : Nat → Prop) (w0 w : World) (d : Nat) (v : Value) (sd : DS) (r : Nat) (sr : DS) (e : Ending) (w' : World) : Prop := e = .returned v ∧ Hid (DX N w0 w' d sd r sr) ∧ Chg (Mine N w0) w w'
theorem DX.stepD {N : Nat → Prop} {w0 w w' : World} {d r : Nat} {sr sd' : DS} {Fd Fr : Nat → Prop} (g0 : Grew w0 w) (nlt : ∀ k, N k → k < w.heap.size) (h2 : RK w Fr r sr) (h3 : ∀ k, Fd k → w0.heap.size ≤ k ∧ ¬ N k ∧ ¬ Fr k) (h4 : ∀ k, Fr k → w0.heap.size ≤ k ∧ ¬ N k) {e : Ending} {v : Value} (p : DPost Fd d w v sd' e w') : DXStep N w0 w d v sd' r sr e w' := by
  obtain ⟨he, hc, hd⟩ := p
  refine ⟨he, ⟨⟨_, Fr, hd, h2.chg hc (fun k hk hF => (h3 k hF).2.2 hk), fun k hk => ?_, h4⟩, Chg.grew g0 hc (fun k hk => (h3 k hk).1), fun k hk => Nat.lt_of_lt_of_le (nlt k hk) hc.size⟩, hc.mono fun k hk => ⟨(h3 k hk).1, (h3 k hk).2.1⟩⟩
  rcases hk with hk | hk
  · exact h3 k hk
  · exact ⟨Nat.le_trans g0.size hk.1, fun hn => by have := nlt k hn; omega, fun hr => by have := h2.fit k hr; omega⟩
theorem DX.stepR {N : Nat → Prop} {w0 w w' : World} {d r : Nat} {sd sr' : DS} {Fd Fr : Nat → Prop} (g0 : Grew w0 w) (nlt : ∀ k, N k → k < w.heap.size) (h1 : DK w Fd d sd) (h3 : ∀ k, Fd k → w0.heap.size ≤ k ∧ ¬ N k ∧ ¬ Fr k) (h4 : ∀ k, Fr k → w0.heap.size ≤ k ∧ ¬ N k) {e : Ending} {v : Value} (p : RPost Fr r w v sr' e w') : DXStep N w0 w d v sd r sr' e w' := by
  obtain ⟨he, hc, hd⟩ := p
  refine ⟨he, ⟨⟨Fd, _, h1.chg hc (fun k hk hF => (h3 k hk).2.2 hF), hd, fun k hk => ⟨(h3 k hk).1, (h3 k hk).2.1, fun hr => ?_⟩, fun k hk => ?_⟩, Chg.grew g0 hc (fun k hk => (h4 k hk).1), fun k hk => Nat.lt_of_lt_of_le (nlt k hk) hc.size⟩, hc.mono fun k hk => h4 k hk⟩
  · rcases hr with hr | hr
    · exact (h3 k hk).2.2 hr
    · have := h1.fit k hk; omega
  · rcases hk with hk | hk
    · exact h4 k hk
    · exact ⟨Nat.le_trans g0.size hk.1, fun hn => by have := nlt k hn; omega⟩
section
variable {N : Nat → Prop} {w0 w : World} {d r : Nat} {sd sr : DS}
theorem dx_writeD (at' : Int) (b : Blk) (hb : b.length = 64) (hn : sd.opn.length ≤ 1000000) (h : Hid (DX N w0 w d sd r sr)) : Calls Try.prog 25 #[.pointer (some ⟨d, 0, none⟩), .int .i64 at', blkV' b] w (DXStep N w0 w d (.int .i64 (dWrite sd at' b).1) (dWrite sd at' b).2 r sr) := by
  obtain ⟨Fd, Fr, h1, h2, h3, h4⟩ := h.out.ex
  exact (write_any Fd d sd at' b w h1 hb hn).mono fun e w' p => DX.stepD h.out.grew h.out.nlt h2 h3 h4 p
theorem dx_writeR (at' : Int) (b : Blk) (hb : b.length = 64) (hn : sr.opn.length ≤ 1000000) (h : Hid (DX N w0 w d sd r sr)) : Calls Try.prog 26 #[.pointer (some ⟨r, 0, none⟩), .int .i64 at', blkV' b] w (DXStep N w0 w d (.int .i64 (dWrite sr at' b).1) sd r (dWrite sr at' b).2) := by
  obtain ⟨Fd, Fr, h1, h2, h3, h4⟩ := h.out.ex
  exact (rwrite_any Fr r sr at' b w h2 hb hn).mono fun e w' p => DX.stepR h.out.grew h.out.nlt h1 h3 h4 p
theorem dx_syncD (hn : sd.opn.length ≤ 1000000) (h : Hid (DX N w0 w d sd r sr)) : Calls Try.prog 27 #[.pointer (some ⟨d, 0, none⟩)] w (DXStep N w0 w d (.int .i64 (dSync sd).1) (dSync sd).2 r sr) := by
  obtain ⟨Fd, Fr, h1, h2, h3, h4⟩ := h.out.ex
  exact (sync_any Fd d sd w h1 hn).mono fun e w' p => DX.stepD h.out.grew h.out.nlt h2 h3 h4 p
theorem dx_syncR (hn : sr.opn.length ≤ 1000000) (h : Hid (DX N w0 w d sd r sr)) : Calls Try.prog 18 #[.pointer (some ⟨r, 0, none⟩)] w (DXStep N w0 w d (.int .i64 (dSync sr).1) sd r (dSync sr).2) := by
  obtain ⟨Fd, Fr, h1, h2, h3, h4⟩ := h.out.ex
  exact (rsync_any Fr r sr w h2 hn).mono fun e w' p => DX.stepR h.out.grew h.out.nlt h1 h3 h4 p
theorem dx_armD (n : Int) (hn : n ≤ 9223372036854775807) (h : Hid (DX N w0 w d sd r sr)) : Calls Try.prog 23 #[.pointer (some ⟨d, 0, none⟩), .int .i64 n] w (DXStep N w0 w d (.tuple #[]) (dArm sd n) r sr) := by
  obtain ⟨Fd, Fr, h1, h2, h3, h4⟩ := h.out.ex
  exact (arm_any Fd d sd n hn w h1).mono fun e w' p => DX.stepD h.out.grew h.out.nlt h2 h3 h4 p
theorem dx_armR (n : Int) (hn : n ≤ 9223372036854775807) (h : Hid (DX N w0 w d sd r sr)) : Calls Try.prog 24 #[.pointer (some ⟨r, 0, none⟩), .int .i64 n] w (DXStep N w0 w d (.tuple #[]) sd r (dArm sr n)) := by
  obtain ⟨Fd, Fr, h1, h2, h3, h4⟩ := h.out.ex
  exact (rarm_any Fr r sr n hn w h2).mono fun e w' p => DX.stepR h.out.grew h.out.nlt h1 h3 h4 p
theorem dx_startD (hn : sd.opn.length ≤ 1000000) (h : Hid (DX N w0 w d sd r sr)) : Calls Try.prog 11 #[.pointer (some ⟨d, 0, none⟩)] w (DXStep N w0 w d (.tuple #[]) (dStart sd) r sr) := by
  obtain ⟨Fd, Fr, h1, h2, h3, h4⟩ := h.out.ex
  exact (start_any Fd d sd w h1 hn).mono fun e w' p => DX.stepD h.out.grew h.out.nlt h2 h3 h4 p
theorem dx_startR (hn : sr.opn.length ≤ 1000000) (h : Hid (DX N w0 w d sd r sr)) : Calls Try.prog 12 #[.pointer (some ⟨r, 0, none⟩)] w (DXStep N w0 w d (.tuple #[]) sd r (dStart sr)) := by
  obtain ⟨Fd, Fr, h1, h2, h3, h4⟩ := h.out.ex
  exact (rstart_any Fr r sr w h2 hn).mono fun e w' p => DX.stepR h.out.grew h.out.nlt h1 h3 h4 p
theorem dx_crashD (A : Option Addr) (pn pc : Nat) (zs : List Int) (hp : Ints w0 A pn zs) (hpn : pn ≤ 9223372036854775807) (hn : sd.opn.length ≤ 1000000) (h : Hid (DX N w0 w d sd r sr)) : Calls Try.prog 9 #[.pointer (some ⟨d, 0, none⟩), .slice A pn pc] w (DXStep N w0 w d (.tuple #[]) (dCrash sd zs) r sr) := by
  obtain ⟨Fd, Fr, h1, h2, h3, h4⟩ := h.out.ex
  refine (crash_any Fd d sd A pn pc zs w h1 (hp.keep h.out.grew) (fun a e h0 hf => ?_) hpn hn).mono fun e w' p => DX.stepD h.out.grew h.out.nlt h2 h3 h4 p
  obtain ⟨b, o, e2, hb, _⟩ := hp.2 h0
  rw [e] at e2; cases e2
  have hb : b < w0.heap.size := hb
  have : w0.heap.size ≤ b := (h3 _ hf).1
  omega
theorem dx_crashR (A : Option Addr) (pn pc : Nat) (zs : List Int) (hp : Ints w0 A pn zs) (hpn : pn ≤ 9223372036854775807) (hn : sr.opn.length ≤ 1000000) (h : Hid (DX N w0 w d sd r sr)) : Calls Try.prog 10 #[.pointer (some ⟨r, 0, none⟩), .slice A pn pc] w (DXStep N w0 w d (.tuple #[]) sd r (dCrash sr zs)) := by
  obtain ⟨Fd, Fr, h1, h2, h3, h4⟩ := h.out.ex
  refine (rcrash_any Fr r sr A pn pc zs w h2 (hp.keep h.out.grew) (fun a e h0 hf => ?_) hpn hn).mono fun e w' p => DX.stepR h.out.grew h.out.nlt h1 h3 h4 p
  obtain ⟨b, o, e2, hb, _⟩ := hp.2 h0
  rw [e] at e2; cases e2
  have hb : b < w0.heap.size := hb
  have : w0.heap.size ≤ b := (h4 _ hf).1
  omega
theorem dx_readD (at' : Int) (h : Hid (DX N w0 w d sd r sr)) : Calls Try.prog 36 #[.pointer (some ⟨d, 0, none⟩), .int .i64 at'] w fun e w' => e = .returned (readV (dRead sd at')) ∧ Grew w w' := by
  obtain ⟨Fd, Fr, h1, h2, h3, h4⟩ := h.out.ex
  exact read_any Fd d sd at' w h1
theorem dx_readR (at' : Int) (hn : sr.opn.length ≤ 1000000) (h : Hid (DX N w0 w d sd r sr)) : Calls Try.prog 37 #[.pointer (some ⟨r, 0, none⟩), .int .i64 at'] w fun e w' => e = .returned (readV (dRead sr at')) ∧ Grew w w' := by
  obtain ⟨Fd, Fr, h1, h2, h3, h4⟩ := h.out.ex
  exact rread_any Fr r sr at' hn w h2
theorem dx_off (h : Hid (DX N w0 w d sd r sr)) : Calls Try.prog 39 #[.pointer (some ⟨d, 0, none⟩)] w fun e w' => e = .returned (.bool sd.off) ∧ w = w' := by
  obtain ⟨Fd, Fr, h1, h2, h3, h4⟩ := h.out.ex
  exact off_any Fd d sd w h1
theorem dx_open (h : Hid (DX N w0 w d sd r sr)) : Calls Try.prog 38 #[.pointer (some ⟨d, 0, none⟩)] w fun e w' => e = .returned (.int .i64 (sd.opn.length : Int)) ∧ w = w' := by
  obtain ⟨Fd, Fr, h1, h2, h3, h4⟩ := h.out.ex
  exact open_any Fd d sd w h1
theorem dx_blocks (h : Hid (DX N w0 w d sd r sr)) : Calls Try.prog 40 #[.pointer (some ⟨d, 0, none⟩)] w fun e w' => e = .returned (.int .i64 (sd.safe.length : Int)) ∧ w = w' := by
  obtain ⟨Fd, Fr, h1, h2, h3, h4⟩ := h.out.ex
  exact blocks_any Fd d sd w h1
/-- What the law reads of the document's disk. -/
theorem dx_head (h : DX N w0 w d sd r sr) : w.cell? ⟨r, 3, none⟩ = some (.bool sr.off) ∧ ∃ A c, w.cell? ⟨r, 2, none⟩ = some (.slice A sr.opn.length c) := by
  obtain ⟨Fd, Fr, h1, h2, h3, h4⟩ := h.ex
  obtain ⟨Y, v, L, H, _, h5⟩ := h2.ex
  obtain ⟨A, c, rfl⟩ := own_form h5
  exact ⟨H.c3, A, c, H.c2⟩
end
theorem DX.okD {N : Nat → Prop} {w0 w : World} {d r : Nat} {sd sr : DS} (h : DX N w0 w d sd r sr) : DOK sd := by
  obtain ⟨Fd, Fr, h1, _⟩ := h.ex
  exact h1.ok
theorem dx_new {N : Nat → Prop} {w0 w w' : World} {d : Nat} {sd : DS} (h : DI N w0 w d sd) {n : Nat} {e : Ending} (p : RNewPost n w e w') : ∃ r, e = .returned (.pointer (some ⟨r, 0, none⟩)) ∧ DX N w0 w' d sd r (dNew n) := by
  obtain ⟨hg, q, hq, he, hd⟩ := p
  obtain ⟨F, h1, h2⟩ := h.ex
  exact ⟨q, he, ⟨F, _, h1.grew hg, hd, fun k hk => ⟨(h2 k hk).1, (h2 k hk).2, fun hb => by have := h1.fit k hk; omega⟩, fun k hk => ⟨Nat.le_trans h.grew.size hk.1, fun hn => by have := h.nlt k hn; omega⟩⟩, grew_trans h.grew hg, fun k hk => Nat.lt_of_lt_of_le (h.nlt k hk) hg.size⟩
end Go.Proofs.Ythnhhhfjgbgpgaa.NumK
