/- The rows of the bands of a list, as an iterator. Conditions: the elements' cells are in memory and kept by the rounds, the rectangles are valid. -/
import Derived.Test.YtciodcknobccdaaDoorRiH
import Derived.WalkMore
namespace Go.Proofs.YtciodcknobccdaaDoor
open Go.RowKit Go.Shelf
set_option linter.unusedVariables false
set_option linter.unusedSimpArgs false
attribute [local go_sem] Oper.semAt_some

def shN (N : Nat) (f : Nat → Int) : Nat → Int := fun i => f (N + i)
/-- A row that has come: its number, its two words. -/
abbrev RowE := Int × Nat × Nat
def bandRows (y : Int) (n A B : Nat) : List RowE := (List.range n).map fun j : Nat => (y + (j : Int), A, B)
def rowsQ : Nat → (Nat → Int) → (Nat → Int) → (Nat → Int) → (Nat → Int) → Nat → List RowE
  | 0, _, _, _, _, _ => []
  | f + 1, P, Q, R, S, len => if len = 0 then [] else
      bandRows (Q 0) (S 0 - Q 0).toNat (cA P R (bandN Q S len len 1)) (cB P R (bandN Q S len len 1)) ++
      rowsQ f (shN (bandN Q S len len 1) P) (shN (bandN Q S len len 1) Q) (shN (bandN Q S len len 1) R) (shN (bandN Q S len len 1) S) (len - bandN Q S len len 1)
theorem rowsQ_nil (f : Nat) (P Q R S : Nat → Int) : rowsQ f P Q R S 0 = [] := by cases f <;> rfl
theorem bandRows_succ (y : Int) (j A B : Nat) : bandRows y (j + 1) A B = bandRows y j A B ++ [(y + (j : Int), A, B)] := by simp [bandRows, List.range_succ]
theorem bandRows_split {y : Int} {n j A B : Nat} (h : j < n) : bandRows y n A B = bandRows y j A B ++ (y + (j : Int), A, B) :: ((List.range (n - j - 1)).map (fun k => j + 1 + k)).map (fun j : Nat => (y + (j : Int), A, B)) := by
  unfold bandRows
  rw [range_split h, List.map_append, List.map_cons]

theorem RectsIs.shift {B : Nat} {w : World} {b o n : Nat} {P Q R S : Nat → Int} (h : RectsIs B w (some ⟨b, o, none⟩) n P Q R S) (N : Nat) : RectsIs B w (some ⟨b, o + N * 4, none⟩) (n - N) (shN N P) (shN N Q) (shN N R) (shN N S) := fun i hi => by
  obtain ⟨b1, o1, e, h1, c0, c1, c2, c3⟩ := h (N + i) (by omega)
  obtain ⟨rfl, rfl⟩ : b = b1 ∧ o = o1 := by simpa using e
  have e : o + (N + i) * 4 = o + N * 4 + i * 4 := by omega
  rw [e] at c0 c1 c2 c3
  exact ⟨b, o + N * 4, rfl, h1, c0, c1, c2, c3⟩
theorem RectsIs.zero {B : Nat} {w : World} {a : Option Addr} {P Q R S : Nat → Int} : RectsIs B w a 0 P Q R S := fun i hi => absurd hi (by omega)
theorem RectsIs.kept {w w' : World} {X : Nat → Prop} {a : Option Addr} {len : Nat} {P Q R S : Nat → Int} (h : RectsIs w.heap.size w a len P Q R S) (hk : Kept X w w') (hX : ∀ b off, a = some ⟨b, off, none⟩ → ¬ X b) : RectsIs w'.heap.size w' a len P Q R S := fun i hi => by
  obtain ⟨b, off, h1, h2, h3, h4, h5, h6⟩ := h i hi
  have hb := hX b off h1
  exact ⟨b, off, h1, Nat.lt_of_lt_of_le h2 hk.size, (hk.cell (p := ⟨b, off + i * 4, none⟩) h2 hb).trans h3, (hk.cell (p := ⟨b, off + i * 4 + 1, none⟩) h2 hb).trans h4, (hk.cell (p := ⟨b, off + i * 4 + 2, none⟩) h2 hb).trans h5, (hk.cell (p := ⟨b, off + i * 4 + 3, none⟩) h2 hb).trans h6⟩
theorem RectsIs.front {B : Nat} {w : World} {a : Option Addr} {n N : Nat} {P Q R S : Nat → Int} (h : RectsIs B w a n P Q R S) (hN : N ≤ n) : RectsIs B w a N P Q R S := fun i hi => h i (by omega)
theorem ColAt.keptX {w w' : World} {X : Nat → Prop} {g A B : Nat} (h : ColAt w g A B) (hk : Kept X w w') (hX : ¬ X g) : ColAt w' g A B := by
  have hl := h.lt
  exact ⟨(hk.cell (p := ⟨g, 0, none⟩) hl hX).trans h.1, (hk.cell (p := ⟨g, 1, none⟩) hl hX).trans h.2.1, (hk.frozen (p := ⟨g, 0, none⟩) hl hX).trans h.2.2.1, (hk.frozen (p := ⟨g, 1, none⟩) hl hX).trans h.2.2.2⟩

theorem rowsOf_any (a : Option Addr) (n c : Nat) (w : World) :
    Calls Tryd.prog 150 #[.slice a n c] w fun e w' => e = .returned (.func (.func 166) #[] #[.pointer (some ⟨w.heap.size, 0, none⟩)]) ∧ w' = w.alloc (.cells #[.slice a n c] 105) := by
  have hmf : ∀ (fn : Fn) (first cap : Array Value) (w : World), (Instr.makeFunc fn first cap).run Tryd.prog w = .ok (.func fn first cap) w := fun _ _ _ _ => rfl
  go_enter Tryd.func150, Tryd.ntmps150
  go_wp2
  go_ret
  exact ⟨rfl, rfl⟩

set_option maxRecDepth 100000 in
set_option maxHeartbeats 8000000 in
theorem rowsOf_seqY (X : Nat → Prop) (B0 : Nat) (a : Option Addr) (n c f : Nat) (P Q R S : Nat → Int) (W : World) (h0 : W.cell? ⟨B0, 0, none⟩ = some (.slice a n c)) (x0 : ¬ X B0) (hX : ∀ k, X k → k < W.heap.size)
    (hn : n ≤ 1048576) (hc : n ≤ c) (hf : n ≤ f) (hR : RectsIs W.heap.size W a n P Q R S) (hXa : 0 < n → ∀ b off, a = some ⟨b, off, none⟩ → ¬ X b) (hv : ∀ i, i < n → rvB (P i) (Q i) (R i) (S i) = true) :
    SeqY Tryd.prog 166 #[.pointer (some ⟨B0, 0, none⟩)] (fun e : RowE => #[.int .i64 e.1, colV e.2.1 e.2.2]) X (fun _ => False) (rowsQ f P Q R S n) W := by
  intro l J Jx hJ hJx hY hJ0
  obtain ⟨L, hL⟩ : ∃ L, L = rowsQ f P Q R S n := ⟨_, rfl⟩
  rw [← hL] at hY ⊢
  go_enter Tryd.func166, Tryd.ntmps166
  go_step3
  go_wp2_with fail
  go_step3
  go_wp2_with fail
  go_loopw [3] (fun s3 wr => ∃ (a' : Option Addr) (n' c' f' : Nat) (P' Q' R' S' : Nat → Int) (pre : List RowE), s3 = .slice a' n' c' ∧ n' ≤ 1048576 ∧ n' ≤ c' ∧ n' ≤ f' ∧ RectsIs wr.heap.size wr a' n' P' Q' R' S' ∧ (0 < n' → ∀ b off, a' = some ⟨b, off, none⟩ → ¬ X b) ∧ (∀ i, i < n' → rvB (P' i) (Q' i) (R' i) (S' i) = true) ∧
    L = pre ++ rowsQ f' P' Q' R' S' n' ∧ J pre wr ∧ W.heap.size ≤ wr.heap.size) (fun s3 _ => match s3 with | .slice _ m _ => m | _ => 0)
  case atStart => exact ⟨a, n, c, f, P, Q, R, S, [], rfl, hn, hc, hf, hR, hXa, hv, hL, hJ0, Nat.le_refl _⟩
  case round =>
    obtain ⟨a', n', c', f', P', Q', R', S', pre, rfl, g1, g2, g3, hR', hX', hv', hL', hJp, hsz⟩ := hrel
    by_cases hn0 : n' = 0
    · subst hn0
      rw [rowsQ_nil, List.append_nil] at hL'
      subst hL'
      go_wp2_with fail
      rw [Exit.noGoto_normal]
      go_end0
      exact ⟨⟨_, rfl⟩, .inl hJp⟩
    · obtain ⟨b, o, rfl, hb, t0, t1, t2, t3⟩ := hR' 0 (by omega)
      simp only [Nat.zero_mul, Nat.add_zero] at t0 t1 t2 t3
      obtain ⟨f1, rfl⟩ : ∃ f1, f' = f1 + 1 := ⟨f' - 1, by omega⟩
      have hbs := bandN_spec Q' S' n' n' 1 (by omega)
      have hfb := fun w' (hw : RectsIs w'.heap.size w' (some ⟨b, o, none⟩) n' P' Q' R' S') => firstBand_any b o n' c' P' Q' R' S' w' g1 (by omega) g2 hw
      rw [rowsQ, if_neg hn0] at hL'
      obtain ⟨N, hN⟩ : ∃ N, N = bandN Q' S' n' n' 1 := ⟨_, rfl⟩
      rw [← hN] at hL' hbs hfb
      obtain ⟨hN1, hN2, hN3⟩ := hbs
      obtain ⟨A, hA⟩ : ∃ A, A = cA P' R' N := ⟨_, rfl⟩
      obtain ⟨Bw, hB⟩ : ∃ Bw, Bw = cB P' R' N := ⟨_, rfl⟩
      have hcl := fun w' (hw : RectsIs w'.heap.size w' (some ⟨b, o, none⟩) N P' Q' R' S') => cols_any (some ⟨b, o, none⟩) N c' P' Q' R' S' w' (by omega) hw (fun i hi => hv' i (by omega))
      rw [← hA, ← hB] at hL'
      simp only [← hA, ← hB] at hcl
      have HR' := Lib.hid hR'
      have HL' := Lib.hid hL'
      have q1 : (0 : Int) < (n' : Int) := by omega
      have q2 : (0 : Int) < (N : Int) := by omega
      have hXb : ¬ X b := hX' (by omega) b o rfl
      have v0 := rvB_t (hv' 0 (by omega))
      clear hN hA hB hR' hL' hX'
      go_wp2_with (first | (go_at_call 167; refine (hfb _ HR'.out).mono ?_; rintro e w1 ⟨rfl, bw1⟩) | (go_at_call 168; refine (hcl _ ((HR'.out.ext bw1).front hN2)).mono ?_; rintro e w2 ⟨rfl, bw2⟩; have bw := Ext.trans bw1 bw2; have lb : b < w2.heap.size := Nat.lt_of_lt_of_le hb bw.size; have t1' := (bw.cell (p := ⟨b, o + 1, none⟩) hb).trans t1; have t3' := (bw.cell (p := ⟨b, o + 3, none⟩) hb).trans t3))
      have hWw : W.heap.size ≤ w2.heap.size := Nat.le_trans hsz bw.size
      have hXg : ¬ X w2.heap.size := fun h => by have := hX _ h; omega
      have hRw : RectsIs (w2.alloc (.cells #[.int .u64 (A : Int), .int .u64 (Bw : Int)] 149)).heap.size (w2.alloc (.cells #[.int .u64 (A : Int), .int .u64 (Bw : Int)] 149)) (some ⟨b, o, none⟩) n' P' Q' R' S' := HR'.out.ext (Ext.alloc bw _)
      have hCw : ColAt (w2.alloc (.cells #[.int .u64 (A : Int), .int .u64 (Bw : Int)] 149)) w2.heap.size A Bw := ColAt.new w2 A Bw _
      have hJw : J pre (w2.alloc (.cells #[.int .u64 (A : Int), .int .u64 (Bw : Int)] 149)) := hJ _ _ _ hJp (StepX.of_below hsz (Ext.alloc bw _))
      have hsw : W.heap.size ≤ (w2.alloc (.cells #[.int .u64 (A : Int), .int .u64 (Bw : Int)] 149)).heap.size := by simp; omega
      have hbw : b < (w2.alloc (.cells #[.int .u64 (A : Int), .int .u64 (Bw : Int)] 149)).heap.size := by simp; omega
      obtain ⟨g, hg⟩ : ∃ g, g = w2.heap.size := ⟨_, rfl⟩
      rw [← hg] at hXg hCw ⊢
      obtain ⟨wv, hwv⟩ : ∃ wv, wv = (w2.alloc (.cells #[.int .u64 (A : Int), .int .u64 (Bw : Int)] 149)) := ⟨_, rfl⟩
      rw [← hwv] at hRw hCw hJw hsw hbw ⊢
      have HRw := Lib.hid hRw
      have HCw := Lib.hid hCw
      clear hwv hRw hCw t1' t3' lb bw bw1 bw2 t0 t1 t2 t3 hg
      obtain ⟨M, hM⟩ : ∃ M, M = (S' 0 - Q' 0).toNat := ⟨_, rfl⟩
      have hM1 : Q' 0 + (M : Int) = S' 0 := by omega
      have HL2 : Hid (L = pre ++ (bandRows (Q' 0) M A Bw ++ rowsQ f1 (shN N P') (shN N Q') (shN N R') (shN N S') (n' - N))) := by rw [hM]; exact HL'
      have HM := Lib.hid hM1
      clear hM hM1 HL'
      go_loopw [6] (fun s6 wr => ∃ j : Nat, j ≤ M ∧ s6 = .int .i64 (Q' 0 + (j : Int)) ∧ J (pre ++ bandRows (Q' 0) j A Bw) wr ∧ W.heap.size ≤ wr.heap.size ∧ Kept X wv wr) (fun s6 _ => (S' 0 - intOf s6).toNat)
      case atStart => exact ⟨0, by omega, by simp, by simpa [bandRows] using hJw, hsw, Kept.refl _ _⟩
      case round =>
        obtain ⟨j, hj, rfl, hJq, hsq, hkq⟩ := hrel
        obtain ⟨b1, o1, hbo, hbq, -, -, -, u3⟩ := HRw.out.kept hkq (fun b' off' e => by cases e; exact hXb) 0 (by omega)
        obtain ⟨rfl, rfl⟩ : b = b1 ∧ o = o1 := by simpa using hbo
        simp only [Nat.zero_mul, Nat.add_zero] at u3
        obtain ⟨d0, d1, d2, d3⟩ := HCw.out.keptX hkq hXg
        clear hbo
        by_cases hjM : j < M
        · have q3 : Q' 0 + (j : Int) < S' 0 := by have := HM.out; omega
          have hLq : L = (pre ++ bandRows (Q' 0) j A Bw) ++ (Q' 0 + (j : Int), A, Bw) :: (((List.range (M - j - 1)).map (fun k => j + 1 + k)).map (fun j : Nat => (Q' 0 + (j : Int), A, Bw)) ++ rowsQ f1 (shN N P') (shN N Q') (shN N R') (shN N S') (n' - N)) := by
            rw [HL2.out, bandRows_split hjM]
            simp only [List.append_assoc, List.cons_append]
          obtain ⟨fn, tmps, assign, body, hy, hR8⟩ := hY _ _ _ wr hLq hJq hsq 8
          dsimp only at hy
          go_upto_region 7 with fail
          refine (wpIn_wide (n := 9)).1 ?_
          gi_wp2
          refine hR8.mono ?_
          rintro e W3 (⟨rfl, hJ3, hk3⟩ | ⟨rfl, hJx3, -⟩)
          · gi_wp2
            go_wp2_with fail
            go_roundw
            case rel => exact ⟨j + 1, hjM, by go_num, by rw [bandRows_succ, ← List.append_assoc]; exact hJ3, Nat.le_trans hsq hk3.size, hkq.trans hk3⟩
            case measure => simp [intOf]; omega
          · gi_wp2
            go_wp2_with fail
            rw [Exit.noGoto_normal]
            go_end0
            exact ⟨⟨_, rfl⟩, .inr ⟨_, ⟨_, by rw [hLq]; simp only [List.append_assoc, List.cons_append, List.nil_append]; rfl⟩, hJx3⟩⟩
        · have q3 : ¬ Q' 0 + (j : Int) < S' 0 := by have := HM.out; omega
          obtain rfl : j = M := by omega
          have HR9 := Lib.hid (HRw.out.kept hkq (fun b' off' e => by cases e; exact hXb))
          have hL9 : L = (pre ++ bandRows (Q' 0) j A Bw) ++ rowsQ f1 (shN N P') (shN N Q') (shN N R') (shN N S') (n' - N) := by rw [HL2.out, List.append_assoc]
          have HL9 := Lib.hid hL9
          clear hL9
          have q5 : (N : Int) ≤ (n' : Int) := by omega
          have q6 : (0 : Int) ≤ (N : Int) := by omega
          by_cases hNc : N = c'
          · have hn9 : n' = N := by omega
            subst hn9
            subst hNc
            go_wp2_with fail
            go_roundw
            case rel => exact ⟨some ⟨b, o, none⟩, 0, 0, f1, shN n' P', shN n' Q', shN n' R', shN n' S', _, by simp, by omega, by omega, by omega, RectsIs.zero, fun _ b' off' e => by cases e; exact hXb, fun i hi => absurd hi (by omega), by have := HL9.out; rwa [Nat.sub_self] at this, hJq, hsq⟩
            case measure => simp; omega
          · go_wp2_with fail
            go_roundw
            case rel => exact ⟨some ⟨b, o + N * 4, none⟩, n' - N, c' - N, f1, shN N P', shN N Q', shN N R', shN N S', _, by simp, by omega, by omega, by omega, HR9.out.shift N, fun _ b' off' e => by cases e; exact hXb, fun i hi => hv' (N + i) (by omega), HL9.out, hJq, hsq⟩
            case measure => simp; omega
theorem rowsOf_seq (X : Nat → Prop) (B0 : Nat) (a : Option Addr) (n c f : Nat) (P Q R S : Nat → Int) (W : World) (h0 : W.cell? ⟨B0, 0, none⟩ = some (.slice a n c)) (x0 : ¬ X B0) (hX : ∀ k, X k → k < W.heap.size)
    (hn : n ≤ 1048576) (hc : n ≤ c) (hf : n ≤ f) (hR : RectsIs W.heap.size W a n P Q R S) (hXa : 0 < n → ∀ b off, a = some ⟨b, off, none⟩ → ¬ X b) (hv : ∀ i, i < n → rvB (P i) (Q i) (R i) (S i) = true) :
    SeqX Tryd.prog 166 #[.pointer (some ⟨B0, 0, none⟩)] (fun e : RowE => #[.int .i64 e.1, colV e.2.1 e.2.2]) X (rowsQ f P Q R S n) W :=
  (rowsOf_seqY X B0 a n c f P Q R S W h0 x0 hX hn hc hf hR hXa hv).toX
end Go.Proofs.YtciodcknobccdaaDoor
