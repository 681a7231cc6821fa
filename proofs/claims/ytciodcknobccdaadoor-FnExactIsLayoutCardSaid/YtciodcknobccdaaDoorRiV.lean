/- A stronger contract of iterators: an invariant may speak of cells that rounds have made. -/
import Derived.Test.YtciodcknobccdaaDoorRiA
namespace Go.Proofs.YtciodcknobccdaaDoor
open Go.RowKit Go.Shelf
set_option linter.unusedVariables false
set_option linter.unusedSimpArgs false

/-- What an iterator does between yields: of what was there it changes nothing below n, and no cells but those of the types T. -/
structure StepX (n : Nat) (T : TypeId → Prop) (A B : World) : Prop where
  below : Below n A B
  cells : ∀ (k : Nat) (cs : Array Value) (t : TypeId), ¬ T t → A.heap[k]? = some (Obj.cells cs t) → B.heap[k]? = A.heap[k]?
theorem StepX.refl (n : Nat) (T : TypeId → Prop) (A : World) : StepX n T A A := ⟨Below.refl _ _, fun _ _ _ _ _ => rfl⟩
theorem StepX.trans {n : Nat} {T : TypeId → Prop} {A B C : World} (h : StepX n T A B) (g : StepX n T B C) : StepX n T A C :=
  ⟨h.below.trans g.below, fun k cs t ht e => (g.cells k cs t ht ((h.cells k cs t ht e).trans e)).trans (h.cells k cs t ht e)⟩
theorem StepX.mono {n m : Nat} {T U : TypeId → Prop} {A B : World} (h : StepX m U A B) (h1 : n ≤ m) (h2 : ∀ t, U t → T t) : StepX n T A B :=
  ⟨h.below.mono h1, fun k cs t ht e => h.cells k cs t (fun h' => ht (h2 t h')) e⟩
theorem StepX.of_below {n : Nat} {T : TypeId → Prop} {A B : World} (hn : n ≤ A.heap.size) (h : Below A.heap.size A B) : StepX n T A B :=
  ⟨h.mono hn, fun k cs t ht e => h.block k (Array.getElem?_eq_some_iff.1 e).1⟩
theorem StepX.putObj {n : Nat} {T : TypeId → Prop} {A : World} (k : Nat) (o : Obj) (hk : n ≤ k) (hno : ∀ (cs : Array Value) (t : TypeId), A.heap[k]? ≠ some (Obj.cells cs t)) : StepX n T A (A.putObj k o) :=
  ⟨below_putObj _ _ hk, fun j cs t ht e => World.putObj_heap_other (fun e' => hno cs t (e' ▸ e))⟩
theorem StepX.setCell {n : Nat} {T : TypeId → Prop} {A : World} (p : Addr) (v : Value) (h1 : n ≤ p.block) (hT : ∀ (cs : Array Value) (t : TypeId), A.heap[p.block]? = some (Obj.cells cs t) → T t) : StepX n T A (A.setCell p v) :=
  ⟨(Below.refl _ _).setCell h1 v, fun k cs t ht e => Below.heap_setCell _ _ _ _ (fun e' => ht (hT cs t (e' ▸ e)))⟩
theorem StepX.drew {n : Nat} {T : TypeId → Prop} (A : World) : StepX n T A A.drew := ⟨(Below.refl _ _).drew, fun _ _ _ _ _ => rfl⟩

/-- Such steps keep it. -/
def FarY {β : Type} (n : Nat) (T : TypeId → Prop) (J : β → World → Prop) : Prop := ∀ s A B, J s A → StepX n T A B → J s B
theorem FarX.far {β : Type} {n : Nat} {T : TypeId → Prop} {J : β → World → Prop} (h : FarX n J) : FarY n T J := fun s A B hs hb => h s A B hs hb.below

def SeqY {α : Type} (P : Program) (g : Nat) (lb : Array Value) (encs : α → Array Value) (X : Nat → Prop) (T : TypeId → Prop) (L : List α) (W : World) : Prop :=
  ∀ (l : Nat) (J Jx : List α → World → Prop), FarY W.heap.size T J → FarY W.heap.size T Jx →
    (∀ pre x post W1, L = pre ++ x :: post → J pre W1 → W.heap.size ≤ W1.heap.size → YieldW P l (encs x) W1 fun e W' =>
      (e = .returned (.bool true) ∧ J (pre ++ [x]) W' ∧ Kept X W1 W') ∨ (e = .returned (.bool false) ∧ Jx (pre ++ [x]) W' ∧ Kept X W1 W')) →
    J [] W →
    Calls P g (#[.func (.yield l) #[] #[]] ++ lb) W fun e W' => (∃ v, e = .returned v) ∧ (J L W' ∨ (∃ pre, pre <+: L ∧ Jx pre W'))
theorem SeqY.toX {α : Type} {P : Program} {g : Nat} {lb : Array Value} {encs : α → Array Value} {X : Nat → Prop} {T : TypeId → Prop} {L : List α} {W : World} (h : SeqY P g lb encs X T L W) : SeqX P g lb encs X L W :=
  fun l J Jx hJ hJx hY h0 => h l J Jx hJ.far hJx.far hY h0

theorem rangeY {P : Program} {α : Type} {g : Operand} {ps : Array Tmp} {assign body : Code} {Q : Exit → Act → World → Prop} {a : Act} {w : World}
    {gf : Nat} {lb : Array Value} (hg : a.eval g = .func (.func gf) #[] lb) (eg : ∀ args w, (callFunc gf args).run P w = .ok (.enter gf args) w)
    {encs : α → Array Value} {L : List α} (X : Nat → Prop) (hX : ∀ k, X k → k < w.heap.size) (T : TypeId → Prop)
    (hseq : ∀ W, Below w.heap.size w W → W.heap.size = w.heap.size + 2 → SeqY P gf lb encs (fun k => X k ∨ k = w.heap.size ∨ k = w.heap.size + 1) T L W)
    (hps : ∀ x, (encs x).size = ps.size)
    (I : List α → World → Prop) (Ix : Code → List α → World → Prop) (hI : FarY w.heap.size T I) (hIx : ∀ c, FarY w.heap.size T (Ix c)) (h0 : I [] w)
    (Ax : α → Act → World → Prop) (hAx : ∀ x a' A B, Ax x a' A → Kept (fun k => k = w.heap.size + 1) A B → Ax x a' B)
    (hassign : ∀ (l : Nat) (pre : List α) (x : α) (post : List α) (W : World) (K : Act → World → Prop), L = pre ++ x :: post → w.heap.size + 2 ≤ W.heap.size → I pre W →
      (∀ a' W', Below W.heap.size W W' → Ax x a' W' → K a' W') →
      assign.wpIn (Fence.wide.inRound l) 9 P (Exit.then K (fun _ _ _ => False)) { tmps := (ps.zip (encs x)).foldl (fun t (p, v) => t.setIfInBounds p v) a.tmps, defers := [] } W)
    (hbody : ∀ (l : Nat) (pre : List α) (x : α) (post : List α) (a' : Act) (W : World), L = pre ++ x :: post → w.heap.size + 2 ≤ W.heap.size → I pre W → Ax x a' W →
      body.wpIn (Fence.wide.inRound l) 9 P (postX X I Ix (pre ++ [x]) W) a' W)
    (hdone : ∀ (D : Nat) (W : World), w.heap.size ≤ D → I L W → W.heap[D]? = some (.deferred (some [])) → Q .normal { a with defers := { target := .collected D, args := #[] } :: a.defers } W)
    (hstop : ∀ (D : Nat) (c : Code) (pre : List α) (W : World), w.heap.size ≤ D → pre <+: L → Ix c pre W → W.heap[D]? = some (.deferred (some [])) → c.wp P Q { a with defers := { target := .collected D, args := #[] } :: a.defers } W) :
    (Code.rangeFunc g ps assign body).wp P Q a w := by
  refine (wpIn_wide (n := 11)).1 (wpIn_rangeFunc fun fn hfn => ?_)
  rw [Fence.wide_round]
  obtain ⟨rc, hrc⟩ : ∃ rc : LoopState → Option Code → Loop, rc = fun st pe => { state := st, pending := pe, fn := fn, tmps := a.tmps, params := ps, assign := assign, body := body, defers := w.heap.size } := ⟨_, rfl⟩
  obtain ⟨V, hV⟩ : ∃ V, (w.alloc (.deferred (some []))).alloc (.loop (rc .ready none)) = V := ⟨_, rfl⟩
  have vs : V.heap.size = w.heap.size + 2 := by rw [← hV]; simp
  have vb : Below w.heap.size w V := by rw [← hV]; exact ((Below.refl _ w).alloc (Nat.le_refl _) _).alloc (by simp) _
  have vl : V.heap[w.heap.size + 1]? = some (.loop (rc .ready none)) := by
    rw [← hV]; have := World.alloc_heap_new (w.alloc (.deferred (some []))) (.loop (rc .ready none)); rwa [World.size_alloc] at this
  have vd : V.heap[w.heap.size]? = some (.deferred (some [])) := by
    rw [← hV]; exact (Below.heap_alloc _ _ _ (by simp)).trans (World.alloc_heap_new w _)
  refine ⟨w.heap.size + 1, [{ target := .collected w.heap.size, args := #[] }], V, { target := .fn (.func gf) lb, args := #[.func (.yield (w.heap.size + 1)) #[] #[]] }, V, gf,
    #[.func (.yield (w.heap.size + 1)) #[] #[]] ++ lb, V, ?_, ?_, ?_, ?_, fun _ => by omega, ?_⟩
  · rw [← hV, hrc]; exact run_enterLoop_outer _ _ _ _ _
  · simp only [resolve, hg]
    simp [go_sem]
  · intro f' hf'
    trivial
  · simp [invoke, go_sem, eg]
  have far1 : ∀ {k : Nat} {A B : World}, k < w.heap.size + 2 → Below V.heap.size A B → B.heap[k]? = A.heap[k]? := fun hk hb => hb.block _ (by omega)
  refine callsIn_wide.2 ((hseq V vb vs (w.heap.size + 1)
    (fun pre W => I pre W ∧ W.heap[w.heap.size + 1]? = some (.loop (rc .ready none)) ∧ W.heap[w.heap.size]? = some (.deferred (some [])))
    (fun pre W => ∃ c, Ix c pre W ∧ W.heap[w.heap.size + 1]? = some (.loop (rc .done (some c))) ∧ W.heap[w.heap.size]? = some (.deferred (some [])))
    (fun s A B hs hb => ⟨hI s A B hs.1 (hb.mono (by omega) (fun _ h => h)), (far1 (by omega) hb.below).trans hs.2.1, (far1 (by omega) hb.below).trans hs.2.2⟩)
    (fun s A B hs hb => by
      obtain ⟨c, h₁, h₂, h₃⟩ := hs
      exact ⟨c, hIx c s A B h₁ (hb.mono (by omega) (fun _ h => h)), (far1 (by omega) hb.below).trans h₂, (far1 (by omega) hb.below).trans h₃⟩)
    ?_ ⟨hI [] w V h0 (StepX.of_below (Nat.le_refl _) vb), vl, vd⟩).mono ?_)
  · rintro pre x post W0 hL ⟨hi0, hl0, hd0⟩ hsz
    have hy := run_yield (P := P) (args := encs x) hl0 (by rw [hrc]; exact hps x)
    rw [hrc] at hy
    refine YieldW.mk (m := 9) ⟨fn, _, assign, body, hy, roundIn_of_wpIn hfn (hassign _ pre x post W0 _ hL (by omega) hi0 ?_)⟩
    intro a' W hbW hax
    have hl := (hbW.block (w.heap.size + 1) (by omega)).trans hl0
    have hd := (hbW.block w.heap.size (by omega)).trans hd0
    have hi := hI pre W0 W hi0 (StepX.of_below (by omega) hbW)
    have hszW := hbW.size
    refine ⟨_, run_beginRound hl (by rw [hrc]), ?_⟩
    obtain ⟨W2, hW2⟩ : ∃ W2, W.putObj (w.heap.size + 1) (.loop { rc .ready none with state := .busy }) = W2 := ⟨_, rfl⟩
    have l2 : W2.heap[w.heap.size + 1]? = some (.loop { rc .ready none with state := .busy }) := by rw [← hW2]; exact World.putObj_heap_same (by omega)
    have d2 : W2.heap[w.heap.size]? = some (.deferred (some [])) := by rw [← hW2]; exact (World.putObj_heap_other (by omega)).trans hd
    have k2 : Kept (fun k => X k ∨ k = w.heap.size ∨ k = w.heap.size + 1) W0 W2 := by rw [← hW2]; exact (Kept.of_below hbW).trans (Kept.putObj _ _ (.inr (.inr rfl)))
    have i2 : I pre W2 := by rw [← hW2]; exact hI pre W _ hi (StepX.putObj _ _ (by omega) (fun cs t e => by rw [hl] at e; cases e))
    have a2 : Ax x a' W2 := by rw [← hW2]; exact hAx x a' _ _ hax (Kept.putObj _ _ rfl)
    have s2 : w.heap.size + 2 ≤ W2.heap.size := by have := k2.size; omega
    rw [hW2]
    refine wpIn_mono (hbody _ pre x post a' W2 hL s2 i2 a2) ?_
    have fin : ∀ (jump : Option Code) (W3 : World), Kept X W2 W3 → ∃ W4, (Instr.endRound (w.heap.size + 1) jump).run P W3 = .ok (.bool jump.isNone) W4 ∧ StepX w.heap.size T W3 W4 ∧
        W4.heap[w.heap.size + 1]? = some (.loop (rc (if jump.isNone then .ready else .done) jump)) ∧ W4.heap[w.heap.size]? = some (.deferred (some [])) ∧ Kept (fun k => X k ∨ k = w.heap.size ∨ k = w.heap.size + 1) W0 W4 := by
      intro jump W3 h3
      have l3 := (h3.block (w.heap.size + 1) (by omega) (fun h => by have := hX _ h; omega)).trans l2
      have d3 := (h3.block w.heap.size (by omega) (fun h => by have := hX _ h; omega)).trans d2
      have hsz3 := h3.size
      refine ⟨_, run_endRound (P := P) jump l3, StepX.putObj _ _ (by omega) (fun cs t e => by rw [l3] at e; cases e), ?_, (World.putObj_heap_other (by omega)).trans d3, (k2.trans (h3.mono fun k _ hk => .inl hk)).trans (Kept.putObj _ _ (.inr (.inr rfl)))⟩
      rw [World.putObj_heap_same (by omega), hrc]
    rintro e a3 W3 hp
    cases e with
    | normal =>
      obtain ⟨h3, i3⟩ := hp
      obtain ⟨W4, hr, hb, l4, d4, k4⟩ := fin none W3 h3
      exact ⟨_, W4, hr, .inl ⟨rfl, ⟨hI _ _ _ i3 hb, l4, d4⟩, k4⟩⟩
    | ret =>
      obtain ⟨h3, i3⟩ := hp
      obtain ⟨W4, hr, hb, l4, d4, k4⟩ := fin (some .ret) W3 h3
      exact ⟨_, W4, hr, .inr ⟨rfl, ⟨_, hIx _ _ _ _ i3 hb, l4, d4⟩, k4⟩⟩
    | exit id =>
      obtain ⟨h3, i3⟩ := hp
      obtain ⟨W4, hr, hb, l4, d4, k4⟩ := fin (some (.exit id)) W3 h3
      exact ⟨_, W4, hr, .inr ⟨rfl, ⟨_, hIx _ _ _ _ i3 hb, l4, d4⟩, k4⟩⟩
    | goto t =>
      obtain ⟨h3, i3⟩ := hp
      obtain ⟨W4, hr, hb, l4, d4, k4⟩ := fin (some (.goto t)) W3 h3
      exact ⟨_, W4, hr, .inr ⟨rfl, ⟨_, hIx _ _ _ _ i3 hb, l4, d4⟩, k4⟩⟩
    | panic ch => exact hp.elim
    | outgrown => exact hp.elim
  · rintro e W2 ⟨⟨v, rfl⟩, (⟨hi, hl, hd⟩ | ⟨pre, hpre, c, hi, hl, hd⟩)⟩
    · refine ⟨none, _, by have := run_endLoop (P := P) hl (by rw [hrc]; simp); rw [hrc] at this; exact this, hdone _ _ (Nat.le_refl _) (hI _ _ _ hi (StepX.putObj _ _ (by omega) (fun cs t e => by rw [hl] at e; cases e))) ((World.putObj_heap_other (by omega)).trans hd)⟩
    · refine ⟨some c, _, by have := run_endLoop (P := P) hl (by rw [hrc]; simp); rw [hrc] at this; exact this, wpIn_wide.2 (hstop _ c pre _ (Nat.le_refl _) hpre (hIx c _ _ _ hi (StepX.putObj _ _ (by omega) (fun cs t e => by rw [hl] at e; cases e))) ((World.putObj_heap_other (by omega)).trans hd))⟩

/-- The blocks that a round may change: those of X, and from n on those with cells of a type of U. -/
def Ex (X : Nat → Prop) (n : Nat) (U : TypeId → Prop) (A : World) (k : Nat) : Prop := X k ∨ (n ≤ k ∧ ∃ (cs : Array Value) (t : TypeId), A.heap[k]? = some (Obj.cells cs t) ∧ U t)
theorem Ex.not_lt {X : Nat → Prop} {n : Nat} {U : TypeId → Prop} {A : World} {k : Nat} (hX : ¬ X k) (h : k < n) : ¬ Ex X n U A k := fun e => e.elim hX (fun e => by omega)
theorem Ex.not_type {X : Nat → Prop} {n : Nat} {U : TypeId → Prop} {A : World} {k : Nat} (hX : ¬ X k) (h : ∀ (cs : Array Value) (t : TypeId), A.heap[k]? = some (Obj.cells cs t) → ¬ U t) : ¬ Ex X n U A k := fun e => e.elim hX (fun ⟨_, cs, t, h1, h2⟩ => h cs t h1 h2)
theorem Ex.not_eq {X : Nat → Prop} {n : Nat} {U : TypeId → Prop} {A B : World} {k : Nat} (h : ¬ Ex X n U A k) (e : B.heap[k]? = A.heap[k]?) : ¬ Ex X n U B k := fun x => h (x.elim .inl (fun ⟨a, cs, t, b, c⟩ => .inr ⟨a, cs, t, e.symm.trans b, c⟩))
theorem Ex.step {X : Nat → Prop} {n : Nat} {U : TypeId → Prop} {A B : World} {k : Nat} (h : Kept (Ex X n U A) A B) (hk : k < A.heap.size) (hn : ¬ Ex X n U A k) : ¬ Ex X n U B k := Ex.not_eq hn (h.block k hk hn)
theorem Kept.transU {S X Y : Nat → Prop} {n : Nat} {U : TypeId → Prop} {A B C : World} (h : Kept S A B) (g : Kept (Ex X n U B) B C) (hS : ∀ k, S k → Ex Y n U A k) (hX : ∀ k, X k → Y k) : Kept (Ex Y n U A) A C :=
  ⟨g.os.trans h.os, g.tape.trans h.tape, g.output.trans h.output, Nat.le_trans h.size g.size, fun k hk hE => by
    have e1 := h.block k hk (fun s => hE (hS k s))
    exact (g.block k (Nat.lt_of_lt_of_le hk h.size) (fun e => hE (e.elim (fun x => .inl (hX k x)) (fun ⟨a, cs, t, b, c⟩ => .inr ⟨a, cs, t, e1.symm.trans b, c⟩)))).trans e1⟩
theorem YieldW.mono {P : Program} {l : Nat} {args : Array Value} {W : World} {R S : Ending → World → Prop} (h : YieldW P l args W R) (hRS : ∀ e w, R e w → S e w) : YieldW P l args W S := fun m => by
  obtain ⟨fn, tmps, assign, body, hy, hR⟩ := h m
  exact ⟨fn, tmps, assign, body, hy, hR.mono hRS⟩

/-- The contract with rounds that may have memory of their own: from block n on, in blocks of cells of the types U. -/
def SeqU {α : Type} (P : Program) (g : Nat) (lb : Array Value) (encs : α → Array Value) (X : Nat → Prop) (n : Nat) (U T : TypeId → Prop) (L : List α) (W : World) : Prop :=
  ∀ (l : Nat) (J Jx : List α → World → Prop), FarY W.heap.size T J → FarY W.heap.size T Jx →
    (∀ pre x post W1, L = pre ++ x :: post → J pre W1 → W.heap.size ≤ W1.heap.size → YieldW P l (encs x) W1 fun e W' =>
      (e = .returned (.bool true) ∧ J (pre ++ [x]) W' ∧ Kept (Ex X n U W1) W1 W') ∨ (e = .returned (.bool false) ∧ Jx (pre ++ [x]) W' ∧ Kept (Ex X n U W1) W1 W')) →
    J [] W →
    Calls P g (#[.func (.yield l) #[] #[]] ++ lb) W fun e W' => (∃ v, e = .returned v) ∧ (J L W' ∨ (∃ pre, pre <+: L ∧ Jx pre W'))
theorem SeqU.toY {α : Type} {P : Program} {g : Nat} {lb : Array Value} {encs : α → Array Value} {X : Nat → Prop} {n : Nat} {U T : TypeId → Prop} {L : List α} {W : World} (h : SeqU P g lb encs X n U T L W) : SeqY P g lb encs X T L W :=
  fun l J Jx hJ hJx hY h0 => h l J Jx hJ hJx (fun pre x post W1 hL hj hs => (hY pre x post W1 hL hj hs).mono (by
    rintro e W' (⟨h1, h2, h3⟩ | ⟨h1, h2, h3⟩)
    · exact .inl ⟨h1, h2, h3.mono (fun k _ hk => .inl hk)⟩
    · exact .inr ⟨h1, h2, h3.mono (fun k _ hk => .inl hk)⟩)) h0

theorem rangeU {P : Program} {α : Type} {g : Operand} {ps : Array Tmp} {assign body : Code} {Q : Exit → Act → World → Prop} {a : Act} {w : World}
    {gf : Nat} {lb : Array Value} (hg : a.eval g = .func (.func gf) #[] lb) (eg : ∀ args w, (callFunc gf args).run P w = .ok (.enter gf args) w)
    {encs : α → Array Value} {L : List α} (X : Nat → Prop) (hX : ∀ k, X k → k < w.heap.size) (n : Nat) (U T : TypeId → Prop)
    (hseq : ∀ W, Below w.heap.size w W → W.heap.size = w.heap.size + 2 → SeqU P gf lb encs (fun k => X k ∨ k = w.heap.size ∨ k = w.heap.size + 1) n U T L W)
    (hps : ∀ x, (encs x).size = ps.size)
    (I : List α → World → Prop) (Ix : Code → List α → World → Prop) (hI : FarY w.heap.size T I) (hIx : ∀ c, FarY w.heap.size T (Ix c)) (h0 : I [] w)
    (Ax : α → Act → World → Prop) (hAx : ∀ x a' A B, Ax x a' A → Kept (fun k => k = w.heap.size + 1) A B → Ax x a' B)
    (hassign : ∀ (l : Nat) (pre : List α) (x : α) (post : List α) (W : World) (K : Act → World → Prop), L = pre ++ x :: post → w.heap.size + 2 ≤ W.heap.size → I pre W →
      (∀ a' W', Below W.heap.size W W' → Ax x a' W' → K a' W') →
      assign.wpIn (Fence.wide.inRound l) 9 P (Exit.then K (fun _ _ _ => False)) { tmps := (ps.zip (encs x)).foldl (fun t (p, v) => t.setIfInBounds p v) a.tmps, defers := [] } W)
    (hbody : ∀ (l : Nat) (pre : List α) (x : α) (post : List α) (a' : Act) (W : World), L = pre ++ x :: post → w.heap.size + 2 ≤ W.heap.size → I pre W → Ax x a' W →
      body.wpIn (Fence.wide.inRound l) 9 P (postX (Ex X n U W) I Ix (pre ++ [x]) W) a' W)
    (hdone : ∀ (D : Nat) (W : World), w.heap.size ≤ D → I L W → W.heap[D]? = some (.deferred (some [])) → Q .normal { a with defers := { target := .collected D, args := #[] } :: a.defers } W)
    (hstop : ∀ (D : Nat) (c : Code) (pre : List α) (W : World), w.heap.size ≤ D → pre <+: L → Ix c pre W → W.heap[D]? = some (.deferred (some [])) → c.wp P Q { a with defers := { target := .collected D, args := #[] } :: a.defers } W) :
    (Code.rangeFunc g ps assign body).wp P Q a w := by
  refine (wpIn_wide (n := 11)).1 (wpIn_rangeFunc fun fn hfn => ?_)
  rw [Fence.wide_round]
  obtain ⟨rc, hrc⟩ : ∃ rc : LoopState → Option Code → Loop, rc = fun st pe => { state := st, pending := pe, fn := fn, tmps := a.tmps, params := ps, assign := assign, body := body, defers := w.heap.size } := ⟨_, rfl⟩
  obtain ⟨V, hV⟩ : ∃ V, (w.alloc (.deferred (some []))).alloc (.loop (rc .ready none)) = V := ⟨_, rfl⟩
  have vs : V.heap.size = w.heap.size + 2 := by rw [← hV]; simp
  have vb : Below w.heap.size w V := by rw [← hV]; exact ((Below.refl _ w).alloc (Nat.le_refl _) _).alloc (by simp) _
  have vl : V.heap[w.heap.size + 1]? = some (.loop (rc .ready none)) := by
    rw [← hV]; have := World.alloc_heap_new (w.alloc (.deferred (some []))) (.loop (rc .ready none)); rwa [World.size_alloc] at this
  have vd : V.heap[w.heap.size]? = some (.deferred (some [])) := by
    rw [← hV]; exact (Below.heap_alloc _ _ _ (by simp)).trans (World.alloc_heap_new w _)
  refine ⟨w.heap.size + 1, [{ target := .collected w.heap.size, args := #[] }], V, { target := .fn (.func gf) lb, args := #[.func (.yield (w.heap.size + 1)) #[] #[]] }, V, gf,
    #[.func (.yield (w.heap.size + 1)) #[] #[]] ++ lb, V, ?_, ?_, ?_, ?_, fun _ => by omega, ?_⟩
  · rw [← hV, hrc]; exact run_enterLoop_outer _ _ _ _ _
  · simp only [resolve, hg]
    simp [go_sem]
  · intro f' hf'
    trivial
  · simp [invoke, go_sem, eg]
  have far1 : ∀ {k : Nat} {A B : World}, k < w.heap.size + 2 → Below V.heap.size A B → B.heap[k]? = A.heap[k]? := fun hk hb => hb.block _ (by omega)
  refine callsIn_wide.2 ((hseq V vb vs (w.heap.size + 1)
    (fun pre W => I pre W ∧ W.heap[w.heap.size + 1]? = some (.loop (rc .ready none)) ∧ W.heap[w.heap.size]? = some (.deferred (some [])))
    (fun pre W => ∃ c, Ix c pre W ∧ W.heap[w.heap.size + 1]? = some (.loop (rc .done (some c))) ∧ W.heap[w.heap.size]? = some (.deferred (some [])))
    (fun s A B hs hb => ⟨hI s A B hs.1 (hb.mono (by omega) (fun _ h => h)), (far1 (by omega) hb.below).trans hs.2.1, (far1 (by omega) hb.below).trans hs.2.2⟩)
    (fun s A B hs hb => by
      obtain ⟨c, h₁, h₂, h₃⟩ := hs
      exact ⟨c, hIx c s A B h₁ (hb.mono (by omega) (fun _ h => h)), (far1 (by omega) hb.below).trans h₂, (far1 (by omega) hb.below).trans h₃⟩)
    ?_ ⟨hI [] w V h0 (StepX.of_below (Nat.le_refl _) vb), vl, vd⟩).mono ?_)
  · rintro pre x post W0 hL ⟨hi0, hl0, hd0⟩ hsz
    have hy := run_yield (P := P) (args := encs x) hl0 (by rw [hrc]; exact hps x)
    rw [hrc] at hy
    refine YieldW.mk (m := 9) ⟨fn, _, assign, body, hy, roundIn_of_wpIn hfn (hassign _ pre x post W0 _ hL (by omega) hi0 ?_)⟩
    intro a' W hbW hax
    have hl := (hbW.block (w.heap.size + 1) (by omega)).trans hl0
    have hd := (hbW.block w.heap.size (by omega)).trans hd0
    have hi := hI pre W0 W hi0 (StepX.of_below (by omega) hbW)
    have hszW := hbW.size
    refine ⟨_, run_beginRound hl (by rw [hrc]), ?_⟩
    obtain ⟨W2, hW2⟩ : ∃ W2, W.putObj (w.heap.size + 1) (.loop { rc .ready none with state := .busy }) = W2 := ⟨_, rfl⟩
    have l2 : W2.heap[w.heap.size + 1]? = some (.loop { rc .ready none with state := .busy }) := by rw [← hW2]; exact World.putObj_heap_same (by omega)
    have d2 : W2.heap[w.heap.size]? = some (.deferred (some [])) := by rw [← hW2]; exact (World.putObj_heap_other (by omega)).trans hd
    have k2 : Kept (fun k => X k ∨ k = w.heap.size ∨ k = w.heap.size + 1) W0 W2 := by rw [← hW2]; exact (Kept.of_below hbW).trans (Kept.putObj _ _ (.inr (.inr rfl)))
    have i2 : I pre W2 := by rw [← hW2]; exact hI pre W _ hi (StepX.putObj _ _ (by omega) (fun cs t e => by rw [hl] at e; cases e))
    have a2 : Ax x a' W2 := by rw [← hW2]; exact hAx x a' _ _ hax (Kept.putObj _ _ rfl)
    have s2 : w.heap.size + 2 ≤ W2.heap.size := by have := k2.size; omega
    rw [hW2]
    refine wpIn_mono (hbody _ pre x post a' W2 hL s2 i2 a2) ?_
    have fin : ∀ (jump : Option Code) (W3 : World), Kept (Ex X n U W2) W2 W3 → ∃ W4, (Instr.endRound (w.heap.size + 1) jump).run P W3 = .ok (.bool jump.isNone) W4 ∧ StepX w.heap.size T W3 W4 ∧
        W4.heap[w.heap.size + 1]? = some (.loop (rc (if jump.isNone then .ready else .done) jump)) ∧ W4.heap[w.heap.size]? = some (.deferred (some [])) ∧ Kept (Ex (fun k => X k ∨ k = w.heap.size ∨ k = w.heap.size + 1) n U W0) W0 W4 := by
      intro jump W3 h3
      have l3 := (h3.block (w.heap.size + 1) (by omega) (Ex.not_type (fun h => by have := hX _ h; omega) (fun cs t e => by rw [l2] at e; cases e))).trans l2
      have d3 := (h3.block w.heap.size (by omega) (Ex.not_type (fun h => by have := hX _ h; omega) (fun cs t e => by rw [d2] at e; cases e))).trans d2
      have hsz3 := h3.size
      refine ⟨_, run_endRound (P := P) jump l3, StepX.putObj _ _ (by omega) (fun cs t e => by rw [l3] at e; cases e), ?_, (World.putObj_heap_other (by omega)).trans d3, (k2.transU h3 (fun k hk => .inl hk) (fun k hk => .inl hk)).trans (Kept.putObj _ _ (.inl (.inr (.inr rfl))))⟩
      rw [World.putObj_heap_same (by omega), hrc]
    rintro e a3 W3 hp
    cases e with
    | normal =>
      obtain ⟨h3, i3⟩ := hp
      obtain ⟨W4, hr, hb, l4, d4, k4⟩ := fin none W3 h3
      exact ⟨_, W4, hr, .inl ⟨rfl, ⟨hI _ _ _ i3 hb, l4, d4⟩, k4⟩⟩
    | ret =>
      obtain ⟨h3, i3⟩ := hp
      obtain ⟨W4, hr, hb, l4, d4, k4⟩ := fin (some .ret) W3 h3
      exact ⟨_, W4, hr, .inr ⟨rfl, ⟨_, hIx _ _ _ _ i3 hb, l4, d4⟩, k4⟩⟩
    | exit id =>
      obtain ⟨h3, i3⟩ := hp
      obtain ⟨W4, hr, hb, l4, d4, k4⟩ := fin (some (.exit id)) W3 h3
      exact ⟨_, W4, hr, .inr ⟨rfl, ⟨_, hIx _ _ _ _ i3 hb, l4, d4⟩, k4⟩⟩
    | goto t =>
      obtain ⟨h3, i3⟩ := hp
      obtain ⟨W4, hr, hb, l4, d4, k4⟩ := fin (some (.goto t)) W3 h3
      exact ⟨_, W4, hr, .inr ⟨rfl, ⟨_, hIx _ _ _ _ i3 hb, l4, d4⟩, k4⟩⟩
    | panic ch => exact hp.elim
    | outgrown => exact hp.elim
  · rintro e W2 ⟨⟨v, rfl⟩, (⟨hi, hl, hd⟩ | ⟨pre, hpre, c, hi, hl, hd⟩)⟩
    · refine ⟨none, _, by have := run_endLoop (P := P) hl (by rw [hrc]; simp); rw [hrc] at this; exact this, hdone _ _ (Nat.le_refl _) (hI _ _ _ hi (StepX.putObj _ _ (by omega) (fun cs t e => by rw [hl] at e; cases e))) ((World.putObj_heap_other (by omega)).trans hd)⟩
    · refine ⟨some c, _, by have := run_endLoop (P := P) hl (by rw [hrc]; simp); rw [hrc] at this; exact this, wpIn_wide.2 (hstop _ c pre _ (Nat.le_refl _) hpre (hIx c _ _ _ hi (StepX.putObj _ _ (by omega) (fun cs t e => by rw [hl] at e; cases e))) ((World.putObj_heap_other (by omega)).trans hd))⟩

end Go.Proofs.YtciodcknobccdaaDoor
