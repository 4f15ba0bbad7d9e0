/- Contract of package share: Greedy. -/
import Derived.Test.YtkkemmfghjgmeaaShare4
import Derived.Test.YtkkemmfghjgmeaaRowI
import Derived.Test.YtkkemmfghjgmeaaWide0
namespace Go.Proofs.Ytkkemmfghjgmeaa.NumK
open Go.RowKit

/-- What is left behind k caps; what the cap at k takes. -/
def gr (T : Int) (c : Nat → Int) : Nat → Int
  | 0 => T
  | k + 1 => gr T c k - min (c k) (gr T c k)
def gp (T : Int) (c : Nat → Int) (k : Nat) : Int := min (c k) (gr T c k)
def capAt (l : List Int) (k : Nat) : Int := l.getD k 0

theorem gr_bd {T : Int} {c : Nat → Int} {n : Nat} (hT : 0 ≤ T) (hc : ∀ k, k < n → 0 ≤ c k) : ∀ k, k ≤ n → 0 ≤ gr T c k ∧ gr T c k ≤ T := by
  intro k
  induction k with
  | zero => intro _; exact ⟨hT, Int.le_refl _⟩
  | succ k ih =>
    intro h
    have h1 := ih (by omega)
    have h2 := hc k (by omega)
    simp only [gr]; omega

def GreedyPost (T : Int) (l : List Int) (n : Nat) (w : World) (e : Ending) (w' : World) : Prop :=
  Grew w w' ∧ ((chkE T l ≠ 0 ∧ e = .returned (.tuple #[.slice none 0 0, .int .i64 0, .int .i64 (chkE T l)])) ∨
    (chkE T l = 0 ∧ ∃ B, w.heap.size ≤ B ∧ e = .returned (.tuple #[.slice (some ⟨B, 0, none⟩) n n, .int .i64 (gr T (capAt l) n), .int .i64 0]) ∧ RowI w' B n (gp T (capAt l))))

theorem chk_ok {T : Int} {l : List Int} (h : chkE T l = 0) : 0 ≤ T ∧ T ≤ 4611686018427387904 ∧ (∀ x ∈ l, 0 ≤ x) ∧ l.all isMoney = true ∧ l.length ≤ 1024 := by
  unfold chkE at h
  split at h
  · next g =>
    simp only [Bool.and_eq_true, decide_eq_true_eq, Bool.not_eq_true'] at g
    obtain ⟨⟨⟨g1, g2⟩, g3⟩, g4⟩ := g
    split at h
    · next g5 => exact ⟨g3, ((isMoney_iff T).1 g1).2, hasNeg_no g4, g2, g5⟩
    · omega
  · omega

theorem ret_t3 {A : Value} {a b a' b' : Int} (h1 : a = a') (h2 : b = b') : Ending.returned (.tuple #[A, .int .i64 a, .int .i64 b]) = .returned (.tuple #[A, .int .i64 a', .int .i64 b']) := by rw [h1, h2]

set_option maxRecDepth 100000 in
set_option maxHeartbeats 1000000 in
theorem greedy_any (T : Int) (A : Option Addr) (n c : Nat) (zs : List Int) (w : World) (hz : Ints w A n zs) (hn : n ≤ 9223372036854775807) :
    Calls Try.prog 15 #[.int .i64 T, .slice A n c] w (GreedyPost T zs n w) := by
  have C := check_any T A n c zs w hz hn
  have HZ := Lib.hid hz
  clear hz
  generalize hE : chkE T zs = E at *
  by_cases h0 : E = 0
  · subst h0
    obtain ⟨t1, t2, t3, t4, t5⟩ := chk_ok hE
    have HE := Lib.hid hE
    have hl := HZ.out.1
    have hn2 : n ≤ 1024 := by omega
    have hcap : ∀ k, k < n → 0 ≤ capAt zs k ∧ capAt zs k ≤ 4611686018427387904 := by
      intro k hk
      have hm : zs.getD k 0 ∈ zs := by rw [List.getD_eq_getElem?_getD, List.getElem?_eq_getElem (by omega)]; exact List.getElem_mem _
      have h1 := t3 _ hm
      have h2 := (isMoney_iff _).1 ((List.all_eq_true.1 t4) _ hm)
      exact ⟨h1, h2.2⟩
    have HC := Lib.hid hcap
    have HB := Lib.hid (gr_bd (c := capAt zs) (n := n) t1 (fun k hk => (hcap k hk).1))
    have hmk := fun w => run_ints w n (by omega)
    clear hE t3 t4 t5 hl hcap
    go_enter Try.func15, Try.ntmps15
    go_wp2_with (go_at_call 24; ((with_reducible refine C.mono ?_); rintro e w1 ⟨rfl, hg1⟩; have HG1 := Lib.hid hg1; clear hg1))
    clear hmk C
    have HR : Hid (RowI (w1.alloc (.cells (madeCells #[.int .i64 0] n) 3)) w1.heap.size n (fun j => if j < 0 then gp T (capAt zs) j else 0)) := (RowI.made w1 3 n).congr (fun k _ => by rw [if_neg (by omega)])
    have HG : Hid (Grew w (w1.alloc (.cells (madeCells #[.int .i64 0] n) 3))) := grew_trans HG1.out (grew_alloc _ _ _)
    have HN : Hid (w.heap.size ≤ w1.heap.size) := HG1.out.size
    generalize hw2 : w1.alloc (.cells (madeCells #[.int .i64 0] n) 3) = w2 at HR HG ⊢
    clear hw2
    generalize hB0 : w1.heap.size = B at *
    clear hB0
    go_loopw [22, 5, 8, 9] (fun vi v5 v8 v9 wr => ∃ k : Nat, vi = .int .i64 k ∧ k ≤ n ∧ v5 = .int .i64 (gr T (capAt zs) k) ∧ Hid (RowI wr B n (fun j => if j < k then gp T (capAt zs) j else 0)) ∧ Hid (Grew w wr)) (fun vi _ _ _ _ => n - (intOf vi).toNat)
    case atStart => exact ⟨0, rfl, Nat.zero_le _, rfl, HR, HG⟩
    case round =>
      clear HR HG
      obtain ⟨k, rfl, hk, rfl, HR, HG⟩ := hrel
      by_cases hlt : k < n
      · obtain ⟨b, o, rfl, hb, hc⟩ := (HZ.out.keep HG.out).2 (by omega)
        have hcell : wr.cell? ⟨b, o + k, none⟩ = some (.int .i64 (capAt zs k)) := hc k hlt
        obtain ⟨y1, y2⟩ := HC.out k hlt
        obtain ⟨r1, r2⟩ := HB.out k hk
        have HGP : Hid (gp T (capAt zs) k = min (capAt zs k) (gr T (capAt zs) k)) := rfl
        have HGR : Hid (gr T (capAt zs) (k + 1) = gr T (capAt zs) k - min (capAt zs k) (gr T (capAt zs) k)) := rfl
        have HR2 : ∀ v, v = gp T (capAt zs) k → Hid (RowI (wr.setCell ⟨B, k, none⟩ (.int .i64 v)) B n (fun j => if j < k + 1 then gp T (capAt zs) j else 0)) := fun v hv => (HR.out.set k v).congr (fun j _ => by
          by_cases c1 : j = k
          · rw [if_pos c1, if_pos (by omega), c1, hv]
          · rw [if_neg c1]
            by_cases c2 : j < k
            · rw [if_pos c2, if_pos (by omega)]
            · rw [if_neg c2, if_neg (by omega)])
        have HRS := Lib.hid HR2
        have m1 := (HR.out.2 k hlt).1
        have m2 := (HR.out.2 k hlt).2
        generalize capAt zs k = y at *
        generalize gr T (capAt zs) k = r at *
        clear hc HR2
        go_wp2
        have hv : (if r < y then r else y) = min y r := by split <;> omega
        go_roundw
        case rel => exact ⟨k + 1, by go_num, by omega, by first | (rw [hv]; exact congrArg _ HGR.out.symm) | (rw [hv, HGR.out]) | skip, HRS.out _ (by rw [HGP.out, hv]), grew_set HG.out _ HN.out⟩
        case measure => simp only [intOf]; omega
      · obtain rfl : k = n := by omega
        have HF : Hid (RowI wr B k (gp T (capAt zs))) := HR.out.congr (fun j hj => by rw [if_pos hj])
        go_wp2
        refine bodyPost_ret (v := .tuple #[.slice (some ⟨B, 0, none⟩) k k, .int .i64 (gr T (capAt zs) k), .int .i64 0]) (by simp [results, Try.results15, go_sem]) rfl ⟨HG.out, Or.inr ⟨HE.out, B, HN.out, rfl, HF.out⟩⟩
  · have h1 : (E != 0) = true := by simpa using h0
    have HE : Hid (chkE T zs = E) := hE
    have H0 := Lib.hid h0
    clear hE h0
    go_enter Try.func15, Try.ntmps15
    go_wp2_with (go_at_call 24; ((with_reducible refine C.mono ?_); rintro e w1 ⟨rfl, hg1⟩; have HG1 := Lib.hid hg1; clear hg1))
    refine bodyPost_ret (v := .tuple #[.slice none 0 0, .int .i64 0, .int .i64 E]) (by simp [results, Try.results15, go_sem]) rfl ⟨HG1.out, Or.inl ⟨by rw [HE.out]; exact H0.out, by rw [HE.out]⟩⟩
end Go.Proofs.Ytkkemmfghjgmeaa.NumK
