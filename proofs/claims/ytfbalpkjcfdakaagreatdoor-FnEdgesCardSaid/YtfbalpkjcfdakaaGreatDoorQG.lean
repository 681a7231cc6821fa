/- A stronger contract of iterators: an invariant may speak of cells that rounds have made. -/
import Derived.Test.YtfbalpkjcfdakaaGreatDoorQD
import Derived.Test.YtfbalpkjcfdakaaGreatDoorQF
import Derived.WalkMore
import Derived.ChangeKeysEq
namespace Go.Proofs.YtfbalpkjcfdakaaGreatDoor
open Go.RowKit Go.Shelf
set_option linter.unusedVariables false
set_option linter.unusedSimpArgs false

/-- What an iterator does between yields: of what was there it changes nothing below n, and no cells but those of the types T. -/
structure StepX (n : Nat) (T : TypeId → Prop) (A B : World) : Prop where
  below : Below n A B
  cells : ∀ (k : Nat) (cs : Array Value) (t : TypeId), ¬ T t → A.heap[k]? = some (Obj.cells cs t) → B.heap[k]? = A.heap[k]?
theorem StepX.refl (n : Nat) (T : TypeId → Prop) (A : World) : StepX n T A A := ⟨Below.refl _ _, fun _ _ _ _ _ => rfl⟩
theorem StepX.trans {n : Nat} {T : TypeId → Prop} {A B C : World} (h : StepX n T A B) (g : StepX n T B C) : StepX n T A C :=
  ⟨h.below.trans g.below, fun k cs t ht e => (g.cells k cs t ht ((h.cells k cs t ht e).trans e)).trans (h.cells k cs t ht e)⟩
theorem StepX.mono {n m : Nat} {T U : TypeId → Prop} {A B : World} (h : StepX m U A B) (h1 : n ≤ m) (h2 : ∀ t, U t → T t) : StepX n T A B :=
  ⟨h.below.mono h1, fun k cs t ht e => h.cells k cs t (fun h' => ht (h2 t h')) e⟩
theorem StepX.of_below {n : Nat} {T : TypeId → Prop} {A B : World} (hn : n ≤ A.heap.size) (h : Below A.heap.size A B) : StepX n T A B :=
  ⟨h.mono hn, fun k cs t ht e => h.block k (Array.getElem?_eq_some_iff.1 e).1⟩
theorem StepX.putObj {n : Nat} {T : TypeId → Prop} {A : World} (k : Nat) (o : Obj) (hk : n ≤ k) (hno : ∀ (cs : Array Value) (t : TypeId), A.heap[k]? ≠ some (Obj.cells cs t)) : StepX n T A (A.putObj k o) :=
  ⟨below_putObj _ _ hk, fun j cs t ht e => World.putObj_heap_other (fun e' => hno cs t (e' ▸ e))⟩
theorem StepX.setCell {n : Nat} {T : TypeId → Prop} {A : World} (p : Addr) (v : Value) (h1 : n ≤ p.block) (hT : ∀ (cs : Array Value) (t : TypeId), A.heap[p.block]? = some (Obj.cells cs t) → T t) : StepX n T A (A.setCell p v) :=
  ⟨(Below.refl _ _).setCell h1 v, fun k cs t ht e => Below.heap_setCell _ _ _ _ (fun e' => ht (hT cs t (e' ▸ e)))⟩
theorem StepX.drew {n : Nat} {T : TypeId → Prop} (A : World) : StepX n T A A.drew := ⟨(Below.refl _ _).drew, fun _ _ _ _ _ => rfl⟩

/-- Such steps keep it. -/
def FarY {β : Type} (n : Nat) (T : TypeId → Prop) (J : β → World → Prop) : Prop := ∀ s A B, J s A → StepX n T A B → J s B
theorem FarX.far {β : Type} {n : Nat} {T : TypeId → Prop} {J : β → World → Prop} (h : FarX n J) : FarY n T J := fun s A B hs hb => h s A B hs hb.below

def SeqY {α : Type} (P : Program) (g : Nat) (lb : Array Value) (encs : α → Array Value) (X : Nat → Prop) (T : TypeId → Prop) (L : List α) (W : World) : Prop :=
  ∀ (l : Nat) (J Jx : List α → World → Prop), FarY W.heap.size T J → FarY W.heap.size T Jx →
    (∀ pre x post W1, L = pre ++ x :: post → J pre W1 → W.heap.size ≤ W1.heap.size → YieldW P l (encs x) W1 fun e W' =>
      (e = .returned (.bool true) ∧ J (pre ++ [x]) W' ∧ Kept X W1 W') ∨ (e = .returned (.bool false) ∧ Jx (pre ++ [x]) W' ∧ Kept X W1 W')) →
    J [] W →
    Calls P g (#[.func (.yield l) #[] #[]] ++ lb) W fun e W' => (∃ v, e = .returned v) ∧ (J L W' ∨ (∃ pre, pre <+: L ∧ Jx pre W'))
theorem SeqY.toX {α : Type} {P : Program} {g : Nat} {lb : Array Value} {encs : α → Array Value} {X : Nat → Prop} {T : TypeId → Prop} {L : List α} {W : World} (h : SeqY P g lb encs X T L W) : SeqX P g lb encs X L W :=
  fun l J Jx hJ hJx hY h0 => h l J Jx hJ.far hJx.far hY h0

theorem rangeY {P : Program} {α : Type} {g : Operand} {ps : Array Tmp} {assign body : Code} {Q : Exit → Act → World → Prop} {a : Act} {w : World}
    {gf : Nat} {lb : Array Value} (hg : a.eval g = .func (.func gf) #[] lb) (eg : ∀ args w, (callFunc gf args).run P w = .ok (.enter gf args) w)
    {encs : α → Array Value} {L : List α} (X : Nat → Prop) (hX : ∀ k, X k → k < w.heap.size) (T : TypeId → Prop)
    (hseq : ∀ W, Below w.heap.size w W → W.heap.size = w.heap.size + 2 → SeqY P gf lb encs (fun k => X k ∨ k = w.heap.size ∨ k = w.heap.size + 1) T L W)
    (hps : ∀ x, (encs x).size = ps.size)
    (I : List α → World → Prop) (Ix : Code → List α → World → Prop) (hI : FarY w.heap.size T I) (hIx : ∀ c, FarY w.heap.size T (Ix c)) (h0 : I [] w)
    (Ax : α → Act → World → Prop) (hAx : ∀ x a' A B, Ax x a' A → Kept (fun k => k = w.heap.size + 1) A B → Ax x a' B)
    (hassign : ∀ (l : Nat) (pre : List α) (x : α) (post : List α) (W : World) (K : Act → World → Prop), L = pre ++ x :: post → w.heap.size + 2 ≤ W.heap.size → I pre W →
      (∀ a' W', Below W.heap.size W W' → Ax x a' W' → K a' W') →
      assign.wpIn (Fence.wide.inRound l) 9 P (Exit.then K (fun _ _ _ => False)) { tmps := (ps.zip (encs x)).foldl (fun t (p, v) => t.setIfInBounds p v) a.tmps, defers := [] } W)
    (hbody : ∀ (l : Nat) (pre : List α) (x : α) (post : List α) (a' : Act) (W : World), L = pre ++ x :: post → w.heap.size + 2 ≤ W.heap.size → I pre W → Ax x a' W →
      body.wpIn (Fence.wide.inRound l) 9 P (postX X I Ix (pre ++ [x]) W) a' W)
    (hdone : ∀ (D : Nat) (W : World), w.heap.size ≤ D → I L W → W.heap[D]? = some (.deferred (some [])) → Q .normal { a with defers := { target := .collected D, args := #[] } :: a.defers } W)
    (hstop : ∀ (D : Nat) (c : Code) (pre : List α) (W : World), w.heap.size ≤ D → pre <+: L → Ix c pre W → W.heap[D]? = some (.deferred (some [])) → c.wp P Q { a with defers := { target := .collected D, args := #[] } :: a.defers } W) :
    (Code.rangeFunc g ps assign body).wp P Q a w := by
  refine (wpIn_wide (n := 11)).1 (wpIn_rangeFunc fun fn hfn => ?_)
  rw [Fence.wide_round]
  obtain ⟨rc, hrc⟩ : ∃ rc : LoopState → Option Code → Loop, rc = fun st pe => { state := st, pending := pe, fn := fn, tmps := a.tmps, params := ps, assign := assign, body := body, defers := w.heap.size } := ⟨_, rfl⟩
  obtain ⟨V, hV⟩ : ∃ V, (w.alloc (.deferred (some []))).alloc (.loop (rc .ready none)) = V := ⟨_, rfl⟩
  have vs : V.heap.size = w.heap.size + 2 := by rw [← hV]; simp
  have vb : Below w.heap.size w V := by rw [← hV]; exact ((Below.refl _ w).alloc (Nat.le_refl _) _).alloc (by simp) _
  have vl : V.heap[w.heap.size + 1]? = some (.loop (rc .ready none)) := by
    rw [← hV]; have := World.alloc_heap_new (w.alloc (.deferred (some []))) (.loop (rc .ready none)); rwa [World.size_alloc] at this
  have vd : V.heap[w.heap.size]? = some (.deferred (some [])) := by
    rw [← hV]; exact (Below.heap_alloc _ _ _ (by simp)).trans (World.alloc_heap_new w _)
  refine ⟨w.heap.size + 1, [{ target := .collected w.heap.size, args := #[] }], V, { target := .fn (.func gf) lb, args := #[.func (.yield (w.heap.size + 1)) #[] #[]] }, V, gf,
    #[.func (.yield (w.heap.size + 1)) #[] #[]] ++ lb, V, ?_, ?_, ?_, ?_, fun _ => by omega, ?_⟩
  · rw [← hV, hrc]; exact run_enterLoop_outer _ _ _ _ _
  · simp only [resolve, hg]
    simp [go_sem]
  · intro f' hf'
    trivial
  · simp [invoke, go_sem, eg]
  have far1 : ∀ {k : Nat} {A B : World}, k < w.heap.size + 2 → Below V.heap.size A B → B.heap[k]? = A.heap[k]? := fun hk hb => hb.block _ (by omega)
  refine callsIn_wide.2 ((hseq V vb vs (w.heap.size + 1)
    (fun pre W => I pre W ∧ W.heap[w.heap.size + 1]? = some (.loop (rc .ready none)) ∧ W.heap[w.heap.size]? = some (.deferred (some [])))
    (fun pre W => ∃ c, Ix c pre W ∧ W.heap[w.heap.size + 1]? = some (.loop (rc .done (some c))) ∧ W.heap[w.heap.size]? = some (.deferred (some [])))
    (fun s A B hs hb => ⟨hI s A B hs.1 (hb.mono (by omega) (fun _ h => h)), (far1 (by omega) hb.below).trans hs.2.1, (far1 (by omega) hb.below).trans hs.2.2⟩)
    (fun s A B hs hb => by
      obtain ⟨c, h₁, h₂, h₃⟩ := hs
      exact ⟨c, hIx c s A B h₁ (hb.mono (by omega) (fun _ h => h)), (far1 (by omega) hb.below).trans h₂, (far1 (by omega) hb.below).trans h₃⟩)
    ?_ ⟨hI [] w V h0 (StepX.of_below (Nat.le_refl _) vb), vl, vd⟩).mono ?_)
  · rintro pre x post W0 hL ⟨hi0, hl0, hd0⟩ hsz
    have hy := run_yield (P := P) (args := encs x) hl0 (by rw [hrc]; exact hps x)
    rw [hrc] at hy
    refine YieldW.mk (m := 9) ⟨fn, _, assign, body, hy, roundIn_of_wpIn hfn (hassign _ pre x post W0 _ hL (by omega) hi0 ?_)⟩
    intro a' W hbW hax
    have hl := (hbW.block (w.heap.size + 1) (by omega)).trans hl0
    have hd := (hbW.block w.heap.size (by omega)).trans hd0
    have hi := hI pre W0 W hi0 (StepX.of_below (by omega) hbW)
    have hszW := hbW.size
    refine ⟨_, run_beginRound hl (by rw [hrc]), ?_⟩
    obtain ⟨W2, hW2⟩ : ∃ W2, W.putObj (w.heap.size + 1) (.loop { rc .ready none with state := .busy }) = W2 := ⟨_, rfl⟩
    have l2 : W2.heap[w.heap.size + 1]? = some (.loop { rc .ready none with state := .busy }) := by rw [← hW2]; exact World.putObj_heap_same (by omega)
    have d2 : W2.heap[w.heap.size]? = some (.deferred (some [])) := by rw [← hW2]; exact (World.putObj_heap_other (by omega)).trans hd
    have k2 : Kept (fun k => X k ∨ k = w.heap.size ∨ k = w.heap.size + 1) W0 W2 := by rw [← hW2]; exact (Kept.of_below hbW).trans (Kept.putObj _ _ (.inr (.inr rfl)))
    have i2 : I pre W2 := by rw [← hW2]; exact hI pre W _ hi (StepX.putObj _ _ (by omega) (fun cs t e => by rw [hl] at e; cases e))
    have a2 : Ax x a' W2 := by rw [← hW2]; exact hAx x a' _ _ hax (Kept.putObj _ _ rfl)
    have s2 : w.heap.size + 2 ≤ W2.heap.size := by have := k2.size; omega
    rw [hW2]
    refine wpIn_mono (hbody _ pre x post a' W2 hL s2 i2 a2) ?_
    have fin : ∀ (jump : Option Code) (W3 : World), Kept X W2 W3 → ∃ W4, (Instr.endRound (w.heap.size + 1) jump).run P W3 = .ok (.bool jump.isNone) W4 ∧ StepX w.heap.size T W3 W4 ∧
        W4.heap[w.heap.size + 1]? = some (.loop (rc (if jump.isNone then .ready else .done) jump)) ∧ W4.heap[w.heap.size]? = some (.deferred (some [])) ∧ Kept (fun k => X k ∨ k = w.heap.size ∨ k = w.heap.size + 1) W0 W4 := by
      intro jump W3 h3
      have l3 := (h3.block (w.heap.size + 1) (by omega) (fun h => by have := hX _ h; omega)).trans l2
      have d3 := (h3.block w.heap.size (by omega) (fun h => by have := hX _ h; omega)).trans d2
      have hsz3 := h3.size
      refine ⟨_, run_endRound (P := P) jump l3, StepX.putObj _ _ (by omega) (fun cs t e => by rw [l3] at e; cases e), ?_, (World.putObj_heap_other (by omega)).trans d3, (k2.trans (h3.mono fun k _ hk => .inl hk)).trans (Kept.putObj _ _ (.inr (.inr rfl)))⟩
      rw [World.putObj_heap_same (by omega), hrc]
    rintro e a3 W3 hp
    cases e with
    | normal =>
      obtain ⟨h3, i3⟩ := hp
      obtain ⟨W4, hr, hb, l4, d4, k4⟩ := fin none W3 h3
      exact ⟨_, W4, hr, .inl ⟨rfl, ⟨hI _ _ _ i3 hb, l4, d4⟩, k4⟩⟩
    | ret =>
      obtain ⟨h3, i3⟩ := hp
      obtain ⟨W4, hr, hb, l4, d4, k4⟩ := fin (some .ret) W3 h3
      exact ⟨_, W4, hr, .inr ⟨rfl, ⟨_, hIx _ _ _ _ i3 hb, l4, d4⟩, k4⟩⟩
    | exit id =>
      obtain ⟨h3, i3⟩ := hp
      obtain ⟨W4, hr, hb, l4, d4, k4⟩ := fin (some (.exit id)) W3 h3
      exact ⟨_, W4, hr, .inr ⟨rfl, ⟨_, hIx _ _ _ _ i3 hb, l4, d4⟩, k4⟩⟩
    | goto t =>
      obtain ⟨h3, i3⟩ := hp
      obtain ⟨W4, hr, hb, l4, d4, k4⟩ := fin (some (.goto t)) W3 h3
      exact ⟨_, W4, hr, .inr ⟨rfl, ⟨_, hIx _ _ _ _ i3 hb, l4, d4⟩, k4⟩⟩
    | panic ch => exact hp.elim
    | outgrown => exact hp.elim
  · rintro e W2 ⟨⟨v, rfl⟩, (⟨hi, hl, hd⟩ | ⟨pre, hpre, c, hi, hl, hd⟩)⟩
    · refine ⟨none, _, by have := run_endLoop (P := P) hl (by rw [hrc]; simp); rw [hrc] at this; exact this, hdone _ _ (Nat.le_refl _) (hI _ _ _ hi (StepX.putObj _ _ (by omega) (fun cs t e => by rw [hl] at e; cases e))) ((World.putObj_heap_other (by omega)).trans hd)⟩
    · refine ⟨some c, _, by have := run_endLoop (P := P) hl (by rw [hrc]; simp); rw [hrc] at this; exact this, wpIn_wide.2 (hstop _ c pre _ (Nat.le_refl _) hpre (hIx c _ _ _ hi (StepX.putObj _ _ (by omega) (fun cs t e => by rw [hl] at e; cases e))) ((World.putObj_heap_other (by omega)).trans hd))⟩

/-- The blocks that a round may change: those of X, and from n on those with cells of a type of U. -/
def Ex (X : Nat → Prop) (n : Nat) (U : TypeId → Prop) (A : World) (k : Nat) : Prop := X k ∨ (n ≤ k ∧ ∃ (cs : Array Value) (t : TypeId), A.heap[k]? = some (Obj.cells cs t) ∧ U t)
theorem Ex.not_lt {X : Nat → Prop} {n : Nat} {U : TypeId → Prop} {A : World} {k : Nat} (hX : ¬ X k) (h : k < n) : ¬ Ex X n U A k := fun e => e.elim hX (fun e => by omega)
theorem Ex.not_type {X : Nat → Prop} {n : Nat} {U : TypeId → Prop} {A : World} {k : Nat} (hX : ¬ X k) (h : ∀ (cs : Array Value) (t : TypeId), A.heap[k]? = some (Obj.cells cs t) → ¬ U t) : ¬ Ex X n U A k := fun e => e.elim hX (fun ⟨_, cs, t, h1, h2⟩ => h cs t h1 h2)
theorem Ex.not_eq {X : Nat → Prop} {n : Nat} {U : TypeId → Prop} {A B : World} {k : Nat} (h : ¬ Ex X n U A k) (e : B.heap[k]? = A.heap[k]?) : ¬ Ex X n U B k := fun x => h (x.elim .inl (fun ⟨a, cs, t, b, c⟩ => .inr ⟨a, cs, t, e.symm.trans b, c⟩))
theorem Ex.step {X : Nat → Prop} {n : Nat} {U : TypeId → Prop} {A B : World} {k : Nat} (h : Kept (Ex X n U A) A B) (hk : k < A.heap.size) (hn : ¬ Ex X n U A k) : ¬ Ex X n U B k := Ex.not_eq hn (h.block k hk hn)
theorem Kept.transU {S X Y : Nat → Prop} {n : Nat} {U : TypeId → Prop} {A B C : World} (h : Kept S A B) (g : Kept (Ex X n U B) B C) (hS : ∀ k, S k → Ex Y n U A k) (hX : ∀ k, X k → Y k) : Kept (Ex Y n U A) A C :=
  ⟨g.os.trans h.os, g.tape.trans h.tape, g.output.trans h.output, Nat.le_trans h.size g.size, fun k hk hE => by
    have e1 := h.block k hk (fun s => hE (hS k s))
    exact (g.block k (Nat.lt_of_lt_of_le hk h.size) (fun e => hE (e.elim (fun x => .inl (hX k x)) (fun ⟨a, cs, t, b, c⟩ => .inr ⟨a, cs, t, e1.symm.trans b, c⟩)))).trans e1⟩
theorem YieldW.mono {P : Program} {l : Nat} {args : Array Value} {W : World} {R S : Ending → World → Prop} (h : YieldW P l args W R) (hRS : ∀ e w, R e w → S e w) : YieldW P l args W S := fun m => by
  obtain ⟨fn, tmps, assign, body, hy, hR⟩ := h m
  exact ⟨fn, tmps, assign, body, hy, hR.mono hRS⟩

/-- The contract with rounds that may have memory of their own: from block n on, in blocks of cells of the types U. -/
def SeqU {α : Type} (P : Program) (g : Nat) (lb : Array Value) (encs : α → Array Value) (X : Nat → Prop) (n : Nat) (U T : TypeId → Prop) (L : List α) (W : World) : Prop :=
  ∀ (l : Nat) (J Jx : List α → World → Prop), FarY W.heap.size T J → FarY W.heap.size T Jx →
    (∀ pre x post W1, L = pre ++ x :: post → J pre W1 → W.heap.size ≤ W1.heap.size → YieldW P l (encs x) W1 fun e W' =>
      (e = .returned (.bool true) ∧ J (pre ++ [x]) W' ∧ Kept (Ex X n U W1) W1 W') ∨ (e = .returned (.bool false) ∧ Jx (pre ++ [x]) W' ∧ Kept (Ex X n U W1) W1 W')) →
    J [] W →
    Calls P g (#[.func (.yield l) #[] #[]] ++ lb) W fun e W' => (∃ v, e = .returned v) ∧ (J L W' ∨ (∃ pre, pre <+: L ∧ Jx pre W'))
theorem SeqU.toY {α : Type} {P : Program} {g : Nat} {lb : Array Value} {encs : α → Array Value} {X : Nat → Prop} {n : Nat} {U T : TypeId → Prop} {L : List α} {W : World} (h : SeqU P g lb encs X n U T L W) : SeqY P g lb encs X T L W :=
  fun l J Jx hJ hJx hY h0 => h l J Jx hJ hJx (fun pre x post W1 hL hj hs => (hY pre x post W1 hL hj hs).mono (by
    rintro e W' (⟨h1, h2, h3⟩ | ⟨h1, h2, h3⟩)
    · exact .inl ⟨h1, h2, h3.mono (fun k _ hk => .inl hk)⟩
    · exact .inr ⟨h1, h2, h3.mono (fun k _ hk => .inl hk)⟩)) h0

theorem rangeU {P : Program} {α : Type} {g : Operand} {ps : Array Tmp} {assign body : Code} {Q : Exit → Act → World → Prop} {a : Act} {w : World}
    {gf : Nat} {lb : Array Value} (hg : a.eval g = .func (.func gf) #[] lb) (eg : ∀ args w, (callFunc gf args).run P w = .ok (.enter gf args) w)
    {encs : α → Array Value} {L : List α} (X : Nat → Prop) (hX : ∀ k, X k → k < w.heap.size) (n : Nat) (U T : TypeId → Prop)
    (hseq : ∀ W, Below w.heap.size w W → W.heap.size = w.heap.size + 2 → SeqU P gf lb encs (fun k => X k ∨ k = w.heap.size ∨ k = w.heap.size + 1) n U T L W)
    (hps : ∀ x, (encs x).size = ps.size)
    (I : List α → World → Prop) (Ix : Code → List α → World → Prop) (hI : FarY w.heap.size T I) (hIx : ∀ c, FarY w.heap.size T (Ix c)) (h0 : I [] w)
    (Ax : α → Act → World → Prop) (hAx : ∀ x a' A B, Ax x a' A → Kept (fun k => k = w.heap.size + 1) A B → Ax x a' B)
    (hassign : ∀ (l : Nat) (pre : List α) (x : α) (post : List α) (W : World) (K : Act → World → Prop), L = pre ++ x :: post → w.heap.size + 2 ≤ W.heap.size → I pre W →
      (∀ a' W', Below W.heap.size W W' → Ax x a' W' → K a' W') →
      assign.wpIn (Fence.wide.inRound l) 9 P (Exit.then K (fun _ _ _ => False)) { tmps := (ps.zip (encs x)).foldl (fun t (p, v) => t.setIfInBounds p v) a.tmps, defers := [] } W)
    (hbody : ∀ (l : Nat) (pre : List α) (x : α) (post : List α) (a' : Act) (W : World), L = pre ++ x :: post → w.heap.size + 2 ≤ W.heap.size → I pre W → Ax x a' W →
      body.wpIn (Fence.wide.inRound l) 9 P (postX (Ex X n U W) I Ix (pre ++ [x]) W) a' W)
    (hdone : ∀ (D : Nat) (W : World), w.heap.size ≤ D → I L W → W.heap[D]? = some (.deferred (some [])) → Q .normal { a with defers := { target := .collected D, args := #[] } :: a.defers } W)
    (hstop : ∀ (D : Nat) (c : Code) (pre : List α) (W : World), w.heap.size ≤ D → pre <+: L → Ix c pre W → W.heap[D]? = some (.deferred (some [])) → c.wp P Q { a with defers := { target := .collected D, args := #[] } :: a.defers } W) :
    (Code.rangeFunc g ps assign body).wp P Q a w := by
  refine (wpIn_wide (n := 11)).1 (wpIn_rangeFunc fun fn hfn => ?_)
  rw [Fence.wide_round]
  obtain ⟨rc, hrc⟩ : ∃ rc : LoopState → Option Code → Loop, rc = fun st pe => { state := st, pending := pe, fn := fn, tmps := a.tmps, params := ps, assign := assign, body := body, defers := w.heap.size } := ⟨_, rfl⟩
  obtain ⟨V, hV⟩ : ∃ V, (w.alloc (.deferred (some []))).alloc (.loop (rc .ready none)) = V := ⟨_, rfl⟩
  have vs : V.heap.size = w.heap.size + 2 := by rw [← hV]; simp
  have vb : Below w.heap.size w V := by rw [← hV]; exact ((Below.refl _ w).alloc (Nat.le_refl _) _).alloc (by simp) _
  have vl : V.heap[w.heap.size + 1]? = some (.loop (rc .ready none)) := by
    rw [← hV]; have := World.alloc_heap_new (w.alloc (.deferred (some []))) (.loop (rc .ready none)); rwa [World.size_alloc] at this
  have vd : V.heap[w.heap.size]? = some (.deferred (some [])) := by
    rw [← hV]; exact (Below.heap_alloc _ _ _ (by simp)).trans (World.alloc_heap_new w _)
  refine ⟨w.heap.size + 1, [{ target := .collected w.heap.size, args := #[] }], V, { target := .fn (.func gf) lb, args := #[.func (.yield (w.heap.size + 1)) #[] #[]] }, V, gf,
    #[.func (.yield (w.heap.size + 1)) #[] #[]] ++ lb, V, ?_, ?_, ?_, ?_, fun _ => by omega, ?_⟩
  · rw [← hV, hrc]; exact run_enterLoop_outer _ _ _ _ _
  · simp only [resolve, hg]
    simp [go_sem]
  · intro f' hf'
    trivial
  · simp [invoke, go_sem, eg]
  have far1 : ∀ {k : Nat} {A B : World}, k < w.heap.size + 2 → Below V.heap.size A B → B.heap[k]? = A.heap[k]? := fun hk hb => hb.block _ (by omega)
  refine callsIn_wide.2 ((hseq V vb vs (w.heap.size + 1)
    (fun pre W => I pre W ∧ W.heap[w.heap.size + 1]? = some (.loop (rc .ready none)) ∧ W.heap[w.heap.size]? = some (.deferred (some [])))
    (fun pre W => ∃ c, Ix c pre W ∧ W.heap[w.heap.size + 1]? = some (.loop (rc .done (some c))) ∧ W.heap[w.heap.size]? = some (.deferred (some [])))
    (fun s A B hs hb => ⟨hI s A B hs.1 (hb.mono (by omega) (fun _ h => h)), (far1 (by omega) hb.below).trans hs.2.1, (far1 (by omega) hb.below).trans hs.2.2⟩)
    (fun s A B hs hb => by
      obtain ⟨c, h₁, h₂, h₃⟩ := hs
      exact ⟨c, hIx c s A B h₁ (hb.mono (by omega) (fun _ h => h)), (far1 (by omega) hb.below).trans h₂, (far1 (by omega) hb.below).trans h₃⟩)
    ?_ ⟨hI [] w V h0 (StepX.of_below (Nat.le_refl _) vb), vl, vd⟩).mono ?_)
  · rintro pre x post W0 hL ⟨hi0, hl0, hd0⟩ hsz
    have hy := run_yield (P := P) (args := encs x) hl0 (by rw [hrc]; exact hps x)
    rw [hrc] at hy
    refine YieldW.mk (m := 9) ⟨fn, _, assign, body, hy, roundIn_of_wpIn hfn (hassign _ pre x post W0 _ hL (by omega) hi0 ?_)⟩
    intro a' W hbW hax
    have hl := (hbW.block (w.heap.size + 1) (by omega)).trans hl0
    have hd := (hbW.block w.heap.size (by omega)).trans hd0
    have hi := hI pre W0 W hi0 (StepX.of_below (by omega) hbW)
    have hszW := hbW.size
    refine ⟨_, run_beginRound hl (by rw [hrc]), ?_⟩
    obtain ⟨W2, hW2⟩ : ∃ W2, W.putObj (w.heap.size + 1) (.loop { rc .ready none with state := .busy }) = W2 := ⟨_, rfl⟩
    have l2 : W2.heap[w.heap.size + 1]? = some (.loop { rc .ready none with state := .busy }) := by rw [← hW2]; exact World.putObj_heap_same (by omega)
    have d2 : W2.heap[w.heap.size]? = some (.deferred (some [])) := by rw [← hW2]; exact (World.putObj_heap_other (by omega)).trans hd
    have k2 : Kept (fun k => X k ∨ k = w.heap.size ∨ k = w.heap.size + 1) W0 W2 := by rw [← hW2]; exact (Kept.of_below hbW).trans (Kept.putObj _ _ (.inr (.inr rfl)))
    have i2 : I pre W2 := by rw [← hW2]; exact hI pre W _ hi (StepX.putObj _ _ (by omega) (fun cs t e => by rw [hl] at e; cases e))
    have a2 : Ax x a' W2 := by rw [← hW2]; exact hAx x a' _ _ hax (Kept.putObj _ _ rfl)
    have s2 : w.heap.size + 2 ≤ W2.heap.size := by have := k2.size; omega
    rw [hW2]
    refine wpIn_mono (hbody _ pre x post a' W2 hL s2 i2 a2) ?_
    have fin : ∀ (jump : Option Code) (W3 : World), Kept (Ex X n U W2) W2 W3 → ∃ W4, (Instr.endRound (w.heap.size + 1) jump).run P W3 = .ok (.bool jump.isNone) W4 ∧ StepX w.heap.size T W3 W4 ∧
        W4.heap[w.heap.size + 1]? = some (.loop (rc (if jump.isNone then .ready else .done) jump)) ∧ W4.heap[w.heap.size]? = some (.deferred (some [])) ∧ Kept (Ex (fun k => X k ∨ k = w.heap.size ∨ k = w.heap.size + 1) n U W0) W0 W4 := by
      intro jump W3 h3
      have l3 := (h3.block (w.heap.size + 1) (by omega) (Ex.not_type (fun h => by have := hX _ h; omega) (fun cs t e => by rw [l2] at e; cases e))).trans l2
      have d3 := (h3.block w.heap.size (by omega) (Ex.not_type (fun h => by have := hX _ h; omega) (fun cs t e => by rw [d2] at e; cases e))).trans d2
      have hsz3 := h3.size
      refine ⟨_, run_endRound (P := P) jump l3, StepX.putObj _ _ (by omega) (fun cs t e => by rw [l3] at e; cases e), ?_, (World.putObj_heap_other (by omega)).trans d3, (k2.transU h3 (fun k hk => .inl hk) (fun k hk => .inl hk)).trans (Kept.putObj _ _ (.inl (.inr (.inr rfl))))⟩
      rw [World.putObj_heap_same (by omega), hrc]
    rintro e a3 W3 hp
    cases e with
    | normal =>
      obtain ⟨h3, i3⟩ := hp
      obtain ⟨W4, hr, hb, l4, d4, k4⟩ := fin none W3 h3
      exact ⟨_, W4, hr, .inl ⟨rfl, ⟨hI _ _ _ i3 hb, l4, d4⟩, k4⟩⟩
    | ret =>
      obtain ⟨h3, i3⟩ := hp
      obtain ⟨W4, hr, hb, l4, d4, k4⟩ := fin (some .ret) W3 h3
      exact ⟨_, W4, hr, .inr ⟨rfl, ⟨_, hIx _ _ _ _ i3 hb, l4, d4⟩, k4⟩⟩
    | exit id =>
      obtain ⟨h3, i3⟩ := hp
      obtain ⟨W4, hr, hb, l4, d4, k4⟩ := fin (some (.exit id)) W3 h3
      exact ⟨_, W4, hr, .inr ⟨rfl, ⟨_, hIx _ _ _ _ i3 hb, l4, d4⟩, k4⟩⟩
    | goto t =>
      obtain ⟨h3, i3⟩ := hp
      obtain ⟨W4, hr, hb, l4, d4, k4⟩ := fin (some (.goto t)) W3 h3
      exact ⟨_, W4, hr, .inr ⟨rfl, ⟨_, hIx _ _ _ _ i3 hb, l4, d4⟩, k4⟩⟩
    | panic ch => exact hp.elim
    | outgrown => exact hp.elim
  · rintro e W2 ⟨⟨v, rfl⟩, (⟨hi, hl, hd⟩ | ⟨pre, hpre, c, hi, hl, hd⟩)⟩
    · refine ⟨none, _, by have := run_endLoop (P := P) hl (by rw [hrc]; simp); rw [hrc] at this; exact this, hdone _ _ (Nat.le_refl _) (hI _ _ _ hi (StepX.putObj _ _ (by omega) (fun cs t e => by rw [hl] at e; cases e))) ((World.putObj_heap_other (by omega)).trans hd)⟩
    · refine ⟨some c, _, by have := run_endLoop (P := P) hl (by rw [hrc]; simp); rw [hrc] at this; exact this, wpIn_wide.2 (hstop _ c pre _ (Nat.le_refl _) hpre (hIx c _ _ _ hi (StepX.putObj _ _ (by omega) (fun cs t e => by rw [hl] at e; cases e))) ((World.putObj_heap_other (by omega)).trans hd))⟩

end Go.Proofs.YtfbalpkjcfdakaaGreatDoor

namespace Go.Proofs.YtfbalpkjcfdakaaGreatDoor
open Go.RowKit Go.Shelf
set_option linter.unusedVariables false
set_option linter.unusedSimpArgs false
attribute [local go_sem] Oper.semAt_some

theorem chunk_any (a : Option Addr) (n c : Nat) (w : World) :
    Calls Tryz.prog 112 #[.slice a n c, .int .i64 2] w fun e w' => e = .returned (.func (.func 140) #[] #[.pointer (some ⟨w.heap.size, 0, none⟩), .pointer (some ⟨w.heap.size + 1, 0, none⟩)]) ∧ w' = (w.alloc (.cells #[.slice a n c] 148)).alloc (.cells #[.int .i64 2] 3) := by
  have hmf : ∀ (fn : Fn) (first cap : Array Value) (w : World), (Instr.makeFunc fn first cap).run Tryz.prog w = .ok (.func fn first cap) w := fun _ _ _ _ => rfl
  go_enter Tryz.func112, Tryz.ntmps112
  go_wp2
  go_ret
  exact ⟨rfl, rfl⟩

/-- What pair i of a row is. -/
def pairV (h i : Nat) : Value := .slice (some ⟨h, i * 2, none⟩) 2 2

theorem range_split {m i : Nat} (h : i < m) : List.range m = List.range i ++ i :: (List.range (m - i - 1)).map (fun k => i + 1 + k) := by
  have e : m = (i + 1) + (m - i - 1) := by omega
  conv => lhs; rw [e, List.range_add, List.range_succ]
  simp

set_option maxRecDepth 100000 in
set_option maxHeartbeats 4000000 in
theorem chunk_seqU (X : Nat → Prop) (N : Nat) (U : TypeId → Prop) (B0 B1 h m n c : Nat) (W : World) (hn : n = m * 2) (h0 : W.cell? ⟨B0, 0, none⟩ = some (.slice (some ⟨h, 0, none⟩) n c)) (h1 : W.cell? ⟨B1, 0, none⟩ = some (.int .i64 2)) (x0 : ¬ Ex X N U W B0) (x1 : ¬ Ex X N U W B1) (hm : m ≤ 1000) (hc : n ≤ c) :
    SeqU Tryz.prog 140 #[.pointer (some ⟨B0, 0, none⟩), .pointer (some ⟨B1, 0, none⟩)] (fun i : Nat => #[pairV h i]) X N U (fun _ => False) (List.range m) W := by
  intro l J Jx hJ hJx hY hJ0
  have HN := Lib.hid hn
  have hn2 : n ≤ 2000 := by omega
  clear hn
  refine (callsIn_wide (n := 9)).1 (callsIn_of_wp Tryz.func140 rfl trivial ?_ rfl)
  simp only [Tryz.ntmps140, List.size_toArray, List.length_cons, List.length_nil, Nat.reduceAdd, Nat.reduceSub, Array.replicate_succ, Array.replicate_zero, List.push_toArray, List.append_toArray, List.nil_append, List.cons_append]
  gi_wp2
  gi_loopw [4] (fun s wr => ∃ i p : Nat, i ≤ m ∧ Hid (p = i * 2) ∧ s = .int .i64 (p : Int) ∧ J (List.range i) wr ∧ W.heap.size ≤ wr.heap.size ∧ wr.cell? ⟨B0, 0, none⟩ = some (.slice (some ⟨h, 0, none⟩) n c) ∧ wr.cell? ⟨B1, 0, none⟩ = some (.int .i64 2) ∧ Hid (wr.heap[B0]? = W.heap[B0]?) ∧ Hid (wr.heap[B1]? = W.heap[B1]?)) (fun s _ => n - (intOf s).toNat)
  case atStart => exact ⟨0, 0, by omega, Lib.hid rfl, rfl, hJ0, Nat.le_refl _, h0, h1, Lib.hid rfl, Lib.hid rfl⟩
  case round =>
    obtain ⟨i, p, hi, HP, rfl, hJi, hsz, c0, c1, E0, E1⟩ := hrel
    have X0 := Lib.hid (Ex.not_eq x0 E0.out)
    have X1 := Lib.hid (Ex.not_eq x1 E1.out)
    by_cases hlt : i < m
    · have hpn : p + 2 ≤ n := by have := HP.out; have := HN.out; omega
      obtain ⟨fn, tmps, assign, body, hy, hR⟩ := hY _ _ _ wr.drew (range_split hlt) (hJ _ _ _ hJi (StepX.drew _)) hsz 8
      unfold pairV at hy
      rw [← HP.out] at hy
      have q1 : (p : Int) < (n : Int) := by omega
      have q2 : (0 : Int) ≤ (p : Int) := by omega
      have q3 : (p : Int) ≤ (n : Int) := by omega
      have q4 : (n : Int) ≤ (c : Int) := by omega
      have q5 : (p : Int) ≤ (c : Int) := by omega
      have q6 : (p : Int) + 2 ≤ (c : Int) := by omega
      have q7 : (p : Int) ≤ (p : Int) + 2 := by omega
      have q8 : min (2 : Int) ((n - p : Nat) : Int) = 2 := by omega
      have q9 : IntKind.i64.wrap ((p : Int) + 2) = (p : Int) + 2 := by rw [IntKind.wrap_i64]; omega
      have q10 : p ≠ c := by omega
      gi_wp2
      refine wpIn_wide.2 ?_
      go_region
      all_goals gi_wp2
      refine hR.mono ?_
      rintro e W3 (⟨rfl, hJ3, hk3⟩ | ⟨rfl, hJx3, -⟩)
      · have d0 : W3.cell? ⟨B0, 0, none⟩ = some (.slice (some ⟨h, 0, none⟩) n c) := (hk3.cell (p := ⟨B0, 0, none⟩) (World.block_lt_of_cell? wr ⟨B0, 0, none⟩ c0) X0.out).trans c0
        have d1 : W3.cell? ⟨B1, 0, none⟩ = some (.int .i64 2) := (hk3.cell (p := ⟨B1, 0, none⟩) (World.block_lt_of_cell? wr ⟨B1, 0, none⟩ c1) X1.out).trans c1
        have d2 := Lib.hid ((hk3.block B0 (World.block_lt_of_cell? wr ⟨B0, 0, none⟩ c0) X0.out).trans E0.out)
        have d3 := Lib.hid ((hk3.block B1 (World.block_lt_of_cell? wr ⟨B1, 0, none⟩ c1) X1.out).trans E1.out)
        gi_wp2
        go_roundw
        case rel => exact ⟨i + 1, p + 2, hlt, Lib.hid (by have := HP.out; omega), by go_num, by rw [List.range_succ]; exact hJ3, Nat.le_trans hsz hk3.size, d0, d1, d2, d3⟩
        case measure => simp [intOf]; omega
      · gi_wp2
        refine bodyPost_ret (results_none rfl _ _ _) rfl ?_
        exact ⟨⟨_, rfl⟩, .inr ⟨_, ⟨_, by rw [List.append_assoc]; exact (range_split hlt).symm⟩, hJx3⟩⟩
    · have q1 : ¬ (p : Int) < (n : Int) := by have := HP.out; have := HN.out; omega
      obtain rfl : i = m := by omega
      gi_wp2
      go_end0
      exact ⟨⟨_, rfl⟩, .inl hJi⟩
theorem chunk_seqY (X : Nat → Prop) (B0 B1 h m n c : Nat) (W : World) (hn : n = m * 2) (h0 : W.cell? ⟨B0, 0, none⟩ = some (.slice (some ⟨h, 0, none⟩) n c)) (h1 : W.cell? ⟨B1, 0, none⟩ = some (.int .i64 2)) (x0 : ¬ X B0) (x1 : ¬ X B1) (hm : m ≤ 1000) (hc : n ≤ c) :
    SeqY Tryz.prog 140 #[.pointer (some ⟨B0, 0, none⟩), .pointer (some ⟨B1, 0, none⟩)] (fun i : Nat => #[pairV h i]) X (fun _ => False) (List.range m) W :=
  (chunk_seqU X 0 (fun _ => False) B0 B1 h m n c W hn h0 h1 (Ex.not_type x0 (fun _ _ _ h => h)) (Ex.not_type x1 (fun _ _ _ h => h)) hm hc).toY
theorem chunk_seq (X : Nat → Prop) (B0 B1 h m n c : Nat) (W : World) (hn : n = m * 2) (h0 : W.cell? ⟨B0, 0, none⟩ = some (.slice (some ⟨h, 0, none⟩) n c)) (h1 : W.cell? ⟨B1, 0, none⟩ = some (.int .i64 2)) (x0 : ¬ X B0) (x1 : ¬ X B1) (hm : m ≤ 1000) (hc : n ≤ c) :
    SeqX Tryz.prog 140 #[.pointer (some ⟨B0, 0, none⟩), .pointer (some ⟨B1, 0, none⟩)] (fun i : Nat => #[pairV h i]) X (List.range m) W :=
  (chunk_seqY X B0 B1 h m n c W hn h0 h1 x0 x1 hm hc).toX
end Go.Proofs.YtfbalpkjcfdakaaGreatDoor

namespace Go.Proofs.YtfbalpkjcfdakaaGreatDoor
open Go.RowKit Go.Shelf
set_option linter.unusedVariables false
set_option linter.unusedSimpArgs false
attribute [local go_sem] Oper.semAt_some

def shN (N : Nat) (f : Nat → Int) : Nat → Int := fun i => f (N + i)
/-- A row that has come: its number, its two words. -/
abbrev RowE := Int × Nat × Nat
def bandRows (y : Int) (n A B : Nat) : List RowE := (List.range n).map fun j : Nat => (y + (j : Int), A, B)
def rowsQ : Nat → (Nat → Int) → (Nat → Int) → (Nat → Int) → (Nat → Int) → Nat → List RowE
  | 0, _, _, _, _, _ => []
  | f + 1, P, Q, R, S, len => if len = 0 then [] else
      bandRows (Q 0) (S 0 - Q 0).toNat (cA P R (bandN Q S len len 1)) (cB P R (bandN Q S len len 1)) ++
      rowsQ f (shN (bandN Q S len len 1) P) (shN (bandN Q S len len 1) Q) (shN (bandN Q S len len 1) R) (shN (bandN Q S len len 1) S) (len - bandN Q S len len 1)
theorem rowsQ_nil (f : Nat) (P Q R S : Nat → Int) : rowsQ f P Q R S 0 = [] := by cases f <;> rfl
theorem bandRows_succ (y : Int) (j A B : Nat) : bandRows y (j + 1) A B = bandRows y j A B ++ [(y + (j : Int), A, B)] := by simp [bandRows, List.range_succ]
theorem bandRows_split {y : Int} {n j A B : Nat} (h : j < n) : bandRows y n A B = bandRows y j A B ++ (y + (j : Int), A, B) :: ((List.range (n - j - 1)).map (fun k => j + 1 + k)).map (fun j : Nat => (y + (j : Int), A, B)) := by
  unfold bandRows
  rw [range_split h, List.map_append, List.map_cons]

theorem RectsIs.shift {B : Nat} {w : World} {b o n : Nat} {P Q R S : Nat → Int} (h : RectsIs B w (some ⟨b, o, none⟩) n P Q R S) (N : Nat) : RectsIs B w (some ⟨b, o + N * 4, none⟩) (n - N) (shN N P) (shN N Q) (shN N R) (shN N S) := fun i hi => by
  obtain ⟨b1, o1, e, h1, c0, c1, c2, c3⟩ := h (N + i) (by omega)
  obtain ⟨rfl, rfl⟩ : b = b1 ∧ o = o1 := by simpa using e
  have e : o + (N + i) * 4 = o + N * 4 + i * 4 := by omega
  rw [e] at c0 c1 c2 c3
  exact ⟨b, o + N * 4, rfl, h1, c0, c1, c2, c3⟩
theorem RectsIs.zero {B : Nat} {w : World} {a : Option Addr} {P Q R S : Nat → Int} : RectsIs B w a 0 P Q R S := fun i hi => absurd hi (by omega)
theorem RectsIs.kept {w w' : World} {X : Nat → Prop} {a : Option Addr} {len : Nat} {P Q R S : Nat → Int} (h : RectsIs w.heap.size w a len P Q R S) (hk : Kept X w w') (hX : ∀ b off, a = some ⟨b, off, none⟩ → ¬ X b) : RectsIs w'.heap.size w' a len P Q R S := fun i hi => by
  obtain ⟨b, off, h1, h2, h3, h4, h5, h6⟩ := h i hi
  have hb := hX b off h1
  exact ⟨b, off, h1, Nat.lt_of_lt_of_le h2 hk.size, (hk.cell (p := ⟨b, off + i * 4, none⟩) h2 hb).trans h3, (hk.cell (p := ⟨b, off + i * 4 + 1, none⟩) h2 hb).trans h4, (hk.cell (p := ⟨b, off + i * 4 + 2, none⟩) h2 hb).trans h5, (hk.cell (p := ⟨b, off + i * 4 + 3, none⟩) h2 hb).trans h6⟩
theorem RectsIs.front {B : Nat} {w : World} {a : Option Addr} {n N : Nat} {P Q R S : Nat → Int} (h : RectsIs B w a n P Q R S) (hN : N ≤ n) : RectsIs B w a N P Q R S := fun i hi => h i (by omega)
theorem ColAt.keptX {w w' : World} {X : Nat → Prop} {g A B : Nat} (h : ColAt w g A B) (hk : Kept X w w') (hX : ¬ X g) : ColAt w' g A B := by
  have hl := h.lt
  exact ⟨(hk.cell (p := ⟨g, 0, none⟩) hl hX).trans h.1, (hk.cell (p := ⟨g, 1, none⟩) hl hX).trans h.2.1, (hk.frozen (p := ⟨g, 0, none⟩) hl hX).trans h.2.2.1, (hk.frozen (p := ⟨g, 1, none⟩) hl hX).trans h.2.2.2⟩

theorem rowsOf_any (a : Option Addr) (n c : Nat) (w : World) :
    Calls Tryz.prog 131 #[.slice a n c] w fun e w' => e = .returned (.func (.func 164) #[] #[.pointer (some ⟨w.heap.size, 0, none⟩)]) ∧ w' = w.alloc (.cells #[.slice a n c] 26) := by
  have hmf : ∀ (fn : Fn) (first cap : Array Value) (w : World), (Instr.makeFunc fn first cap).run Tryz.prog w = .ok (.func fn first cap) w := fun _ _ _ _ => rfl
  go_enter Tryz.func131, Tryz.ntmps131
  go_wp2
  go_ret
  exact ⟨rfl, rfl⟩

set_option maxRecDepth 100000 in
set_option maxHeartbeats 8000000 in
theorem rowsOf_seqY (X : Nat → Prop) (B0 : Nat) (a : Option Addr) (n c f : Nat) (P Q R S : Nat → Int) (W : World) (h0 : W.cell? ⟨B0, 0, none⟩ = some (.slice a n c)) (x0 : ¬ X B0) (hX : ∀ k, X k → k < W.heap.size)
    (hn : n ≤ 1048576) (hc : n ≤ c) (hf : n ≤ f) (hR : RectsIs W.heap.size W a n P Q R S) (hXa : 0 < n → ∀ b off, a = some ⟨b, off, none⟩ → ¬ X b) (hv : ∀ i, i < n → rvB (P i) (Q i) (R i) (S i) = true) :
    SeqY Tryz.prog 164 #[.pointer (some ⟨B0, 0, none⟩)] (fun e : RowE => #[.int .i64 e.1, colV e.2.1 e.2.2]) X (fun _ => False) (rowsQ f P Q R S n) W := by
  intro l J Jx hJ hJx hY hJ0
  obtain ⟨L, hL⟩ : ∃ L, L = rowsQ f P Q R S n := ⟨_, rfl⟩
  rw [← hL] at hY ⊢
  go_enter Tryz.func164, Tryz.ntmps164
  go_step3
  go_wp2_with fail
  go_step3
  go_wp2_with fail
  go_loopw [3] (fun s3 wr => ∃ (a' : Option Addr) (n' c' f' : Nat) (P' Q' R' S' : Nat → Int) (pre : List RowE), s3 = .slice a' n' c' ∧ n' ≤ 1048576 ∧ n' ≤ c' ∧ n' ≤ f' ∧ RectsIs wr.heap.size wr a' n' P' Q' R' S' ∧ (0 < n' → ∀ b off, a' = some ⟨b, off, none⟩ → ¬ X b) ∧ (∀ i, i < n' → rvB (P' i) (Q' i) (R' i) (S' i) = true) ∧
    L = pre ++ rowsQ f' P' Q' R' S' n' ∧ J pre wr ∧ W.heap.size ≤ wr.heap.size) (fun s3 _ => match s3 with | .slice _ m _ => m | _ => 0)
  case atStart => exact ⟨a, n, c, f, P, Q, R, S, [], rfl, hn, hc, hf, hR, hXa, hv, hL, hJ0, Nat.le_refl _⟩
  case round =>
    obtain ⟨a', n', c', f', P', Q', R', S', pre, rfl, g1, g2, g3, hR', hX', hv', hL', hJp, hsz⟩ := hrel
    by_cases hn0 : n' = 0
    · subst hn0
      rw [rowsQ_nil, List.append_nil] at hL'
      subst hL'
      go_wp2_with fail
      rw [Exit.noGoto_normal]
      go_end0
      exact ⟨⟨_, rfl⟩, .inl hJp⟩
    · obtain ⟨b, o, rfl, hb, t0, t1, t2, t3⟩ := hR' 0 (by omega)
      simp only [Nat.zero_mul, Nat.add_zero] at t0 t1 t2 t3
      obtain ⟨f1, rfl⟩ : ∃ f1, f' = f1 + 1 := ⟨f' - 1, by omega⟩
      have hbs := bandN_spec Q' S' n' n' 1 (by omega)
      have hfb := fun w' (hw : RectsIs w'.heap.size w' (some ⟨b, o, none⟩) n' P' Q' R' S') => firstBand_any b o n' c' P' Q' R' S' w' g1 (by omega) g2 hw
      rw [rowsQ, if_neg hn0] at hL'
      obtain ⟨N, hN⟩ : ∃ N, N = bandN Q' S' n' n' 1 := ⟨_, rfl⟩
      rw [← hN] at hL' hbs hfb
      obtain ⟨hN1, hN2, hN3⟩ := hbs
      obtain ⟨A, hA⟩ : ∃ A, A = cA P' R' N := ⟨_, rfl⟩
      obtain ⟨Bw, hB⟩ : ∃ Bw, Bw = cB P' R' N := ⟨_, rfl⟩
      have hcl := fun w' (hw : RectsIs w'.heap.size w' (some ⟨b, o, none⟩) N P' Q' R' S') => cols_any (some ⟨b, o, none⟩) N c' P' Q' R' S' w' (by omega) hw (fun i hi => hv' i (by omega))
      rw [← hA, ← hB] at hL'
      simp only [← hA, ← hB] at hcl
      have HR' := Lib.hid hR'
      have HL' := Lib.hid hL'
      have q1 : (0 : Int) < (n' : Int) := by omega
      have q2 : (0 : Int) < (N : Int) := by omega
      have hXb : ¬ X b := hX' (by omega) b o rfl
      have v0 := rvB_t (hv' 0 (by omega))
      clear hN hA hB hR' hL' hX'
      go_wp2_with (first | (go_at_call 165; refine (hfb _ HR'.out).mono ?_; rintro e w1 ⟨rfl, bw1⟩) | (go_at_call 166; refine (hcl _ ((HR'.out.ext bw1).front hN2)).mono ?_; rintro e w2 ⟨rfl, bw2⟩; have bw := Ext.trans bw1 bw2; have lb : b < w2.heap.size := Nat.lt_of_lt_of_le hb bw.size; have t1' := (bw.cell (p := ⟨b, o + 1, none⟩) hb).trans t1; have t3' := (bw.cell (p := ⟨b, o + 3, none⟩) hb).trans t3))
      have hWw : W.heap.size ≤ w2.heap.size := Nat.le_trans hsz bw.size
      have hXg : ¬ X w2.heap.size := fun h => by have := hX _ h; omega
      have hRw : RectsIs (w2.alloc (.cells #[.int .u64 (A : Int), .int .u64 (Bw : Int)] 84)).heap.size (w2.alloc (.cells #[.int .u64 (A : Int), .int .u64 (Bw : Int)] 84)) (some ⟨b, o, none⟩) n' P' Q' R' S' := HR'.out.ext (Ext.alloc bw _)
      have hCw : ColAt (w2.alloc (.cells #[.int .u64 (A : Int), .int .u64 (Bw : Int)] 84)) w2.heap.size A Bw := ColAt.new w2 A Bw _
      have hJw : J pre (w2.alloc (.cells #[.int .u64 (A : Int), .int .u64 (Bw : Int)] 84)) := hJ _ _ _ hJp (StepX.of_below hsz (Ext.alloc bw _))
      have hsw : W.heap.size ≤ (w2.alloc (.cells #[.int .u64 (A : Int), .int .u64 (Bw : Int)] 84)).heap.size := by simp; omega
      have hbw : b < (w2.alloc (.cells #[.int .u64 (A : Int), .int .u64 (Bw : Int)] 84)).heap.size := by simp; omega
      obtain ⟨g, hg⟩ : ∃ g, g = w2.heap.size := ⟨_, rfl⟩
      rw [← hg] at hXg hCw ⊢
      obtain ⟨wv, hwv⟩ : ∃ wv, wv = (w2.alloc (.cells #[.int .u64 (A : Int), .int .u64 (Bw : Int)] 84)) := ⟨_, rfl⟩
      rw [← hwv] at hRw hCw hJw hsw hbw ⊢
      have HRw := Lib.hid hRw
      have HCw := Lib.hid hCw
      clear hwv hRw hCw t1' t3' lb bw bw1 bw2 t0 t1 t2 t3 hg
      obtain ⟨M, hM⟩ : ∃ M, M = (S' 0 - Q' 0).toNat := ⟨_, rfl⟩
      have hM1 : Q' 0 + (M : Int) = S' 0 := by omega
      have HL2 : Hid (L = pre ++ (bandRows (Q' 0) M A Bw ++ rowsQ f1 (shN N P') (shN N Q') (shN N R') (shN N S') (n' - N))) := by rw [hM]; exact HL'
      have HM := Lib.hid hM1
      clear hM hM1 HL'
      go_loopw [6] (fun s6 wr => ∃ j : Nat, j ≤ M ∧ s6 = .int .i64 (Q' 0 + (j : Int)) ∧ J (pre ++ bandRows (Q' 0) j A Bw) wr ∧ W.heap.size ≤ wr.heap.size ∧ Kept X wv wr) (fun s6 _ => (S' 0 - intOf s6).toNat)
      case atStart => exact ⟨0, by omega, by simp, by simpa [bandRows] using hJw, hsw, Kept.refl _ _⟩
      case round =>
        obtain ⟨j, hj, rfl, hJq, hsq, hkq⟩ := hrel
        obtain ⟨b1, o1, hbo, hbq, -, -, -, u3⟩ := HRw.out.kept hkq (fun b' off' e => by cases e; exact hXb) 0 (by omega)
        obtain ⟨rfl, rfl⟩ : b = b1 ∧ o = o1 := by simpa using hbo
        simp only [Nat.zero_mul, Nat.add_zero] at u3
        obtain ⟨d0, d1, d2, d3⟩ := HCw.out.keptX hkq hXg
        clear hbo
        by_cases hjM : j < M
        · have q3 : Q' 0 + (j : Int) < S' 0 := by have := HM.out; omega
          have hLq : L = (pre ++ bandRows (Q' 0) j A Bw) ++ (Q' 0 + (j : Int), A, Bw) :: (((List.range (M - j - 1)).map (fun k => j + 1 + k)).map (fun j : Nat => (Q' 0 + (j : Int), A, Bw)) ++ rowsQ f1 (shN N P') (shN N Q') (shN N R') (shN N S') (n' - N)) := by
            rw [HL2.out, bandRows_split hjM]
            simp only [List.append_assoc, List.cons_append]
          obtain ⟨fn, tmps, assign, body, hy, hR8⟩ := hY _ _ _ wr hLq hJq hsq 8
          dsimp only at hy
          go_upto_region 7 with fail
          refine (wpIn_wide (n := 9)).1 ?_
          gi_wp2
          refine hR8.mono ?_
          rintro e W3 (⟨rfl, hJ3, hk3⟩ | ⟨rfl, hJx3, -⟩)
          · gi_wp2
            go_wp2_with fail
            go_roundw
            case rel => exact ⟨j + 1, hjM, by go_num, by rw [bandRows_succ, ← List.append_assoc]; exact hJ3, Nat.le_trans hsq hk3.size, hkq.trans hk3⟩
            case measure => simp [intOf]; omega
          · gi_wp2
            go_wp2_with fail
            rw [Exit.noGoto_normal]
            go_end0
            exact ⟨⟨_, rfl⟩, .inr ⟨_, ⟨_, by rw [hLq]; simp only [List.append_assoc, List.cons_append, List.nil_append]; rfl⟩, hJx3⟩⟩
        · have q3 : ¬ Q' 0 + (j : Int) < S' 0 := by have := HM.out; omega
          obtain rfl : j = M := by omega
          have HR9 := Lib.hid (HRw.out.kept hkq (fun b' off' e => by cases e; exact hXb))
          have hL9 : L = (pre ++ bandRows (Q' 0) j A Bw) ++ rowsQ f1 (shN N P') (shN N Q') (shN N R') (shN N S') (n' - N) := by rw [HL2.out, List.append_assoc]
          have HL9 := Lib.hid hL9
          clear hL9
          have q5 : (N : Int) ≤ (n' : Int) := by omega
          have q6 : (0 : Int) ≤ (N : Int) := by omega
          by_cases hNc : N = c'
          · have hn9 : n' = N := by omega
            subst hn9
            subst hNc
            go_wp2_with fail
            go_roundw
            case rel => exact ⟨some ⟨b, o, none⟩, 0, 0, f1, shN n' P', shN n' Q', shN n' R', shN n' S', _, by simp, by omega, by omega, by omega, RectsIs.zero, fun _ b' off' e => by cases e; exact hXb, fun i hi => absurd hi (by omega), by have := HL9.out; rwa [Nat.sub_self] at this, hJq, hsq⟩
            case measure => simp; omega
          · go_wp2_with fail
            go_roundw
            case rel => exact ⟨some ⟨b, o + N * 4, none⟩, n' - N, c' - N, f1, shN N P', shN N Q', shN N R', shN N S', _, by simp, by omega, by omega, by omega, HR9.out.shift N, fun _ b' off' e => by cases e; exact hXb, fun i hi => hv' (N + i) (by omega), HL9.out, hJq, hsq⟩
            case measure => simp; omega
theorem rowsOf_seq (X : Nat → Prop) (B0 : Nat) (a : Option Addr) (n c f : Nat) (P Q R S : Nat → Int) (W : World) (h0 : W.cell? ⟨B0, 0, none⟩ = some (.slice a n c)) (x0 : ¬ X B0) (hX : ∀ k, X k → k < W.heap.size)
    (hn : n ≤ 1048576) (hc : n ≤ c) (hf : n ≤ f) (hR : RectsIs W.heap.size W a n P Q R S) (hXa : 0 < n → ∀ b off, a = some ⟨b, off, none⟩ → ¬ X b) (hv : ∀ i, i < n → rvB (P i) (Q i) (R i) (S i) = true) :
    SeqX Tryz.prog 164 #[.pointer (some ⟨B0, 0, none⟩)] (fun e : RowE => #[.int .i64 e.1, colV e.2.1 e.2.2]) X (rowsQ f P Q R S n) W :=
  (rowsOf_seqY X B0 a n c f P Q R S W h0 x0 hX hn hc hf hR hXa hv).toX
end Go.Proofs.YtfbalpkjcfdakaaGreatDoor

namespace Go.Proofs.YtfbalpkjcfdakaaGreatDoor
open Go.RowKit Go.Shelf
set_option linter.unusedVariables false
set_option linter.unusedSimpArgs false
attribute [local go_sem] Oper.semAt_some

theorem rangeX1 {P : Program} {α : Type} {g : Operand} {ps : Array Tmp} {assign body : Code} {Q : Exit → Act → World → Prop} {a : Act} {w : World}
    {gf : Nat} {lb : Array Value} (hg : a.eval g = .func (.func gf) #[] lb) (eg : ∀ args w, (callFunc gf args).run P w = .ok (.enter gf args) w)
    {encs : α → Array Value} {L : List α} (X : Nat → Prop) (hX : ∀ k, X k → k < w.heap.size)
    (hseq : ∀ W, Below w.heap.size w W → W.heap.size = w.heap.size + 2 → SeqX P gf lb encs (fun k => X k ∨ k = w.heap.size ∨ k = w.heap.size + 1) L W)
    (hps : ∀ x, (encs x).size = ps.size)
    (I : List α → World → Prop) (Ix : Code → List α → World → Prop) (hI : FarX w.heap.size I) (hIx : ∀ c, FarX w.heap.size (Ix c)) (h0 : I [] w)
    (asg : Array Value → α → Array Value)
    (hassign : ∀ (l : Nat) (x : α) (W : World) (K : Act → World → Prop), K { tmps := asg a.tmps x, defers := [] } W →
      assign.wpIn (Fence.wide.inRound l) 9 P (Exit.then K (fun _ _ _ => False)) { tmps := (ps.zip (encs x)).foldl (fun t (p, v) => t.setIfInBounds p v) a.tmps, defers := [] } W)
    (hbody : ∀ (l : Nat) (pre : List α) (x : α) (post : List α) (W : World), L = pre ++ x :: post → w.heap.size + 2 ≤ W.heap.size → I pre W →
      body.wpIn (Fence.wide.inRound l) 9 P (postX X I Ix (pre ++ [x]) W) { tmps := asg a.tmps x, defers := [] } W)
    (hdone : ∀ (D : Nat) (W : World), w.heap.size ≤ D → I L W → W.heap[D]? = some (.deferred (some [])) → Q .normal { a with defers := { target := .collected D, args := #[] } :: a.defers } W)
    (hstop : ∀ (D : Nat) (c : Code) (pre : List α) (W : World), w.heap.size ≤ D → pre <+: L → Ix c pre W → W.heap[D]? = some (.deferred (some [])) → c.wp P Q { a with defers := { target := .collected D, args := #[] } :: a.defers } W) :
    (Code.rangeFunc g ps assign body).wp P Q a w :=
  rangeX hg eg X hX hseq hps I Ix hI hIx h0 (fun x a' _ => a' = { tmps := asg a.tmps x, defers := [] }) (fun _ _ _ _ h _ => h)
    (fun l pre x post W K _ _ _ hK => hassign l x W K (hK _ _ (Below.refl _ _) rfl)) (fun l pre x post a' W hL hs hi e => by subst e; exact hbody l pre x post W hL hs hi) hdone hstop

theorem rangeX2 {P : Program} {α : Type} {g : Operand} {ps : Array Tmp} {assign body : Code} {Q : Exit → Act → World → Prop} {a : Act} {w : World}
    {gf : Nat} {lb : Array Value} (hg : a.eval g = .func (.func gf) #[] lb) (eg : ∀ args w, (callFunc gf args).run P w = .ok (.enter gf args) w)
    {encs : α → Array Value} {L : List α} (X : Nat → Prop) (hX : ∀ k, X k → k < w.heap.size)
    (hseq : ∀ W, Below w.heap.size w W → W.heap.size = w.heap.size + 2 → SeqX P gf lb encs (fun k => X k ∨ k = w.heap.size ∨ k = w.heap.size + 1) L W)
    (hps : ∀ x, (encs x).size = ps.size)
    (I : List α → World → Prop) (Ix : Code → List α → World → Prop) (hI : FarX w.heap.size I) (hIx : ∀ c, FarX w.heap.size (Ix c)) (h0 : I [] w)
    (asg : Array Value → α → Nat → Array Value) (ob : α → Obj)
    (hassign : ∀ (l : Nat) (x : α) (W : World) (K : Act → World → Prop), K { tmps := asg a.tmps x W.heap.size, defers := [] } (W.alloc (ob x)) →
      assign.wpIn (Fence.wide.inRound l) 9 P (Exit.then K (fun _ _ _ => False)) { tmps := (ps.zip (encs x)).foldl (fun t (p, v) => t.setIfInBounds p v) a.tmps, defers := [] } W)
    (hbody : ∀ (l : Nat) (pre : List α) (x : α) (post : List α) (Bx : Nat) (W : World), L = pre ++ x :: post → w.heap.size + 2 ≤ Bx → W.heap[Bx]? = some (ob x) → I pre W →
      body.wpIn (Fence.wide.inRound l) 9 P (postX X I Ix (pre ++ [x]) W) { tmps := asg a.tmps x Bx, defers := [] } W)
    (hdone : ∀ (D : Nat) (W : World), w.heap.size ≤ D → I L W → W.heap[D]? = some (.deferred (some [])) → Q .normal { a with defers := { target := .collected D, args := #[] } :: a.defers } W)
    (hstop : ∀ (D : Nat) (c : Code) (pre : List α) (W : World), w.heap.size ≤ D → pre <+: L → Ix c pre W → W.heap[D]? = some (.deferred (some [])) → c.wp P Q { a with defers := { target := .collected D, args := #[] } :: a.defers } W) :
    (Code.rangeFunc g ps assign body).wp P Q a w :=
  rangeX hg eg X hX hseq hps I Ix hI hIx h0 (fun x a' W => ∃ Bx, w.heap.size + 2 ≤ Bx ∧ W.heap[Bx]? = some (ob x) ∧ a' = { tmps := asg a.tmps x Bx, defers := [] })
    (fun x a' A B ⟨Bx, h1, h2, h3⟩ hk => ⟨Bx, h1, (hk.block Bx (Array.getElem?_eq_some_iff.1 h2).1 (by omega)).trans h2, h3⟩)
    (fun l pre x post W K _ hs _ hK => hassign l x W K (hK _ _ ((Below.refl _ _).alloc (Nat.le_refl _) _) ⟨W.heap.size, hs, heap_alloc_last W _, rfl⟩))
    (fun l pre x post a' W hL hs hi ⟨Bx, h1, h2, e⟩ => by subst e; exact hbody l pre x post Bx W hL h1 h2 hi) hdone hstop

theorem eqCol (a b c d : Int) (w : World) : (Op.equalIn 10000 84 (.agg #[.int .u64 a, .int .u64 b]) (.agg #[.int .u64 c, .int .u64 d])).run Tryz.prog w = .ok (a == c && b == d) w := by
  have h : (Tryz.prog.info? 82).isSome = true := by kernel_rfl
  obtain ⟨i, hi⟩ := Option.isSome_iff_exists.1 h
  have c1 : Tryz.prog.cellsOf 82 = 1 := by kernel_rfl
  rw [run_equalIn_array w 9999 _ _ Tryz.underlying84 hi, c1]
  have r2 : List.range 2 = [0, 1] := rfl
  rw [r2]
  have hq : ∀ (a b : Int) (w : World), (Op.equalIn 9999 82 (.int .u64 a) (.int .u64 b)).run Tryz.prog w = .ok (a == b) w := fun a b w => run_equalIn_int w 9998 _ _ .u64 a b Tryz.underlying82
  have hp : ∀ (x0 x1 : Int) (w : World), (part 82 #[.int .u64 x0, .int .u64 x1] (0 * 1)).run Tryz.prog w = .ok (.int .u64 x0) w ∧ (part 82 #[.int .u64 x0, .int .u64 x1] (1 * 1)).run Tryz.prog w = .ok (.int .u64 x1) w :=
    fun _ _ _ => ⟨by kernel_rfl, by kernel_rfl⟩
  simp only [Op.eqItems, Sem.run_bind, (hp _ _ _).1, (hp _ _ _).2, Result.andThen_ok, hq, Sem.run_ite, Sem.run_pure]
  cases h0 : a == c <;> cases h1 : b == d <;> simp
end Go.Proofs.YtfbalpkjcfdakaaGreatDoor

namespace Go.Proofs.YtfbalpkjcfdakaaGreatDoor
open Go.RowKit
set_option linter.unusedVariables false
set_option linter.unusedSimpArgs false

/-- The words are those of the set f. -/
structure RowsOK (f : Nat → Bool) (G : Nat → Nat) : Prop where
  word : ∀ j, W64 (G j)
  high : ∀ i, i < 80 → G (i * 2 + 1) < 65536
  bits : ∀ i, i < 80 → ∀ c : Nat, c < 80 → colB (G (i * 2)) (G (i * 2 + 1)) c = hasB f ((c : Int) - 40) ((i : Int) - 40)

theorem runsTo_row {f : Nat → Bool} {y z : Int} (h : ∀ x, hasB f x y = hasB f x z) : ∀ n, runsTo f y n = runsTo f z n
  | 0 => rfl
  | n + 1 => by
    have e : chg f (-40 + (n : Int)) y = chg f (-40 + (n : Int)) z := by unfold chg; rw [h, h]
    rw [runsTo, runsTo, runsTo_row h n, e]
theorem runsL_row {f : Nat → Bool} {y z : Int} (h : ∀ x, hasB f x y = hasB f x z) : runsL f y = runsL f z := runsTo_row h 81

theorem tb0 {a n c : Nat} (h : a < 2 ^ n) (hn : n ≤ c) : a.testBit c = false := Nat.testBit_lt_two_pow (Nat.lt_of_lt_of_le h (Nat.pow_le_pow_right (by decide) hn))
theorem rows_eq {f : Nat → Bool} {G : Nat → Nat} (h : RowsOK f G) {i t : Nat} (hi : i < 80) (ht : t < 80) :
    (G (t * 2) = G (i * 2) ∧ G (t * 2 + 1) = G (i * 2 + 1)) ↔ runsL f ((t : Int) - 40) = runsL f ((i : Int) - 40) := by
  constructor
  · rintro ⟨e1, e2⟩
    refine runsL_row fun x => ?_
    by_cases hx : -40 ≤ x ∧ x ≤ 39
    · have h1 := h.bits t ht (x + 40).toNat (by omega)
      have h2 := h.bits i hi (x + 40).toNat (by omega)
      rw [e1, e2, h2] at h1
      rw [show (((x + 40).toNat : Nat) : Int) - 40 = x by omega] at h1
      exact h1.symm
    · rw [hasB_out (by omega), hasB_out (by omega)]
  · intro e
    have hb : ∀ c : Nat, c < 80 → colB (G (t * 2)) (G (t * 2 + 1)) c = colB (G (i * 2)) (G (i * 2 + 1)) c := fun c hc => by
      rw [h.bits t ht c hc, h.bits i hi c hc, ← inP_runs f _ _ (by omega) (by omega), ← inP_runs f _ _ (by omega) (by omega), e]
    constructor
    · apply Nat.eq_of_testBit_eq
      intro c
      by_cases hc : c < 64
      · have := hb c (by omega)
        unfold colB at this
        rwa [if_pos hc, if_pos hc] at this
      · rw [tb0 (n := 64) (h.word _) (by omega), tb0 (n := 64) (h.word _) (by omega)]
    · apply Nat.eq_of_testBit_eq
      intro c
      by_cases hc : c < 16
      · have := hb (c + 64) (by omega)
        unfold colB at this
        rwa [if_neg (by omega), if_neg (by omega), Nat.add_sub_cancel] at this
      · rw [tb0 (n := 16) (h.high t ht) (by omega), tb0 (n := 16) (h.high i hi) (by omega)]

theorem getD_some {l : List R4} {j : Nat} {r : R4} (h : l[j]? = some r) : l = l.take j ++ r :: l.drop (j + 1) := by
  obtain ⟨hj, e⟩ := List.getElem?_eq_some_iff.1 h
  rw [← e, List.getElem_cons_drop, List.take_append_drop]
end Go.Proofs.YtfbalpkjcfdakaaGreatDoor

namespace Go.Proofs.YtfbalpkjcfdakaaGreatDoor
open Go.RowKit
set_option linter.unusedVariables false
set_option linter.unusedSimpArgs false

section
variable {F : Fence} {n : Nat} {P : Program} {ops : Array Oper} {Q : Exit → Act → World → Prop} {md : Region.Mode} {S : World → Prop}

/-- No operation is a defer statement. -/
def noDef (ops : Array Oper) : Bool := ops.all fun o => match o.op with | .defer _ => false | _ => true
theorem noDef_sem {l : Nat} (h : noDef ops = true) {j : Nat} {o : Oper} (hj : ops[j]? = some o) (ρ : Operand → Value) : o.semAt (some l) ρ = execOp ρ o := by
  refine Oper.semAt_some l ρ o fun c hc => ?_
  have := (Array.all_eq_true_iff_forall_mem.1 h) o (Array.mem_of_getElem? hj)
  rw [hc] at this
  simp at this

/-- o yields v in every world of S, and calls nothing. -/
def YieldsR (P : Program) (ops : Array Oper) (S : World → Prop) (o : Oper) (v : Value) (a : Act) : Prop :=
  ((Region.wanted o (yielded ops a.tmps) = true ∧ ∀ w, S w → (execOp a.eval o).run P w = .ok (.value v) w) ∨ (Region.wanted o (yielded ops a.tmps) = false ∧ v = undef)) ∧ ∀ w, o.about P w a.eval = none
theorem YieldsR.of_same {o : Oper} {v : Value} {a a' : Act} (hy : YieldsR P ops S o v a) (he : execOp a'.eval o = execOp a.eval o)
    (hw : Region.wanted o (yielded ops a'.tmps) = Region.wanted o (yielded ops a.tmps)) (hb : ∀ w, o.about P w a'.eval = o.about P w a.eval) : YieldsR P ops S o v a' :=
  ⟨by rw [hw, he]; exact hy.1, fun w => by rw [hb]; exact hy.2 w⟩
theorem YieldsR.wpOp {i : Nat} {o : Oper} {v : Value} {a : Act} (hs : ∀ ρ, o.semAt F.round ρ = execOp ρ o) (hi : ops[i]? = some o) (hy : YieldsR P ops S o v a)
    {K : Act → World → Prop} {w : World} (hS : S w) (h : K (a.put o.dst v) w) : wpOpIn F n P ops Q i K a w := by
  unfold wpOpIn
  have hab : ∀ f, o.about P w a.eval = some f → F.fn f := fun f hf => by rw [hy.2 w] at hf; cases hf
  rcases hy.1 with ⟨h1, h2⟩ | ⟨h1, rfl⟩
  · simp only [hi, h1, if_true, Oper.wpIn, hs, h2 w hS, Oper.uponIn]
    exact ⟨hab, h⟩
  · simp only [hi, h1, Bool.false_eq_true, if_false]
    exact ⟨hab, h⟩

theorem wpOp_putR {j : Nat} {oi oj : Oper} {v : Value} (hs : ∀ ρ, oj.semAt F.round ρ = execOp ρ oj) (hj : ops[j]? = some oj) (hap : oi.apart ops oj = true)
    (hsi : ∀ cs b, oi.op ≠ .select cs b) (hsj : ∀ cs b, oj.op ≠ .select cs b)
    (hQ : ∀ c a w, Q (.panic c) (a.put oi.dst v) w → Q (.panic c) a w) {K : Act → World → Prop} {a : Act} {w : World}
    (hy : YieldsR P ops S oi v a) (h : wpOpIn F n P ops Q j K (a.put oi.dst v) w) :
    wpOpIn F n P ops Q j (fun a' w' => YieldsR P ops S oi v a' ∧ K (a'.put oi.dst v) w') a w := by
  obtain ⟨h1, h2, h3⟩ := Oper.apart_spec hap
  have keep : ∀ (a : Act), YieldsR P ops S oi v a → ∀ u, YieldsR P ops S oi v (a.put oj.dst u) := fun a hy u =>
    hy.of_same (execOp_put oi hsi a oj.dst u h3) (wanted_put oi a oj.dst u h3) (fun w => about_put oi w a oj.dst u h3)
  have keepD : ∀ d, YieldsR P ops S oi v { a with defers := d :: a.defers } := fun d => hy.of_same rfl rfl (fun _ => rfl)
  unfold wpOpIn at *
  simp only [hj] at *
  rw [wanted_put oj a oi.dst v h1, about_put oj w a oi.dst v h1] at h
  split
  · rename_i hw
    simp only [hw, if_true] at h
    unfold Oper.wpIn at *
    rw [about_put oj w a oi.dst v h1] at h
    refine ⟨h.1, ?_⟩
    have h := h.2
    rw [hs, execOp_put oj hsj a oi.dst v h1] at h
    rw [hs]
    generalize (execOp a.eval oj).run P w = r at *
    cases r with
    | ok x w' =>
      cases x <;> simp only [Oper.uponIn] at h ⊢
      case value u => exact ⟨keep a hy u, by rw [← Act.put_comm a v u h2]; exact h⟩
      case skip => exact ⟨keep a hy _, by rw [← Act.put_comm a v undef h2]; exact h⟩
      case defer d =>
        refine ⟨keep _ (keepD d) _, ?_⟩
        rw [← Act.put_comm _ v undef h2, ← Act.put_defers]
        exact h
      case enter f args =>
        refine ⟨h.1, CallsIn.mono h.2 fun e w'' he => ?_⟩
        cases e with
        | returned u => exact ⟨keep a hy u, by rw [← Act.put_comm a v u h2]; exact he⟩
        | panicked c => exact hQ _ _ _ he
        | outgrown => exact he
      case row row args => exact ⟨h.1, RowsIn.mono h.2 fun u w'' he => ⟨keep a hy u, by rw [← Act.put_comm a v u h2]; exact he⟩⟩
      case round l f tmps assign body =>
        refine ⟨h.1, RoundIn.mono h.2 fun e w'' he => ?_⟩
        cases e with
        | returned u => exact ⟨keep a hy u, by rw [← Act.put_comm a v u h2]; exact he⟩
        | panicked c => exact hQ _ _ _ he
        | outgrown => exact he
    | halt x w' =>
      cases x <;> simp only [Oper.uponIn] at h ⊢
      case panic u => exact hQ _ _ _ h
  · rename_i hw
    simp only [hw] at h
    exact ⟨h.1, keep a hy _, by rw [← Act.put_comm a v undef h2]; exact h.2⟩

/-- Whatever order is picked, and S holds behind each operation. -/
def wpAnyR (F : Fence) (n : Nat) (P : Program) (md : Region.Mode) (ops : Array Oper) (Q : Exit → Act → World → Prop) (S : World → Prop) : Nat → Array Bool → Act → World → Prop
  | 0, listed, a, w => Region.ready md ops listed = [] ∧ Q .normal a w
  | fuel + 1, listed, a, w =>
    (Region.ready md ops listed = [] → Q .normal a w) ∧
    ∀ i ∈ Region.ready md ops listed, wpOpIn F n P ops Q i (fun a' w' => S w' ∧ wpAnyR F n P md ops Q S fuel (listed.setIfInBounds i true) a' w') a w
theorem wpAny_of_R : ∀ (fuel : Nat) (listed : Array Bool) (a : Act) (w : World), wpAnyR F n P md ops Q S fuel listed a w → wpAnyIn F n P md ops Q fuel listed a w
  | 0, _, _, _, h => h
  | fuel + 1, _, _, _, h => ⟨h.1, fun i hi => wpOpIn_mono (fun a' w' h' => wpAny_of_R fuel _ a' w' h'.2) (h.2 i hi)⟩

theorem wpAnyR_first {i : Nat} {oi : Oper} {v : Value} (hs : ∀ (j : Nat) (o : Oper), ops[j]? = some o → ∀ ρ, o.semAt F.round ρ = execOp ρ o) (hi : ops[i]? = some oi)
    (hsel : ∀ (j : Nat) (o : Oper) cs b, ops[j]? = some o → o.op ≠ .select cs b) (hQ : ∀ c a w, Q (.panic c) (a.put oi.dst v) w → Q (.panic c) a w) :
    ∀ (fuel : Nat) (listed : Array Bool) (a : Act) (w : World),
      (∀ j oj, ops[j]? = some oj → j ≠ i → listed.getD j true = false → (∀ e ∈ oj.after, Region.binds md e = true → e.on ≠ i) → oi.apart ops oj = true) →
      i ∈ Region.ready md ops listed → YieldsR P ops S oi v a → S w →
      wpAnyR F n P md ops Q S fuel (listed.setIfInBounds i true) (a.put oi.dst v) w → wpAnyR F n P md ops Q S (fuel + 1) listed a w := by
  intro fuel
  induction fuel with
  | zero =>
    intro listed a w _ hr hy hS H
    refine ⟨fun h => (by rw [h] at hr; cases hr), fun j hj => ?_⟩
    by_cases hji : j = i
    · subst hji; exact hy.wpOp (hs _ _ hi) hi hS ⟨hS, H⟩
    · have := ready_mono hj hji
      rw [H.1] at this
      cases this
  | succ fuel ih =>
    intro listed a w hfree hr hy hS H
    refine ⟨fun h => (by rw [h] at hr; cases hr), fun j hj => ?_⟩
    by_cases hji : j = i
    · subst hji; exact hy.wpOp (hs _ _ hi) hi hS ⟨hS, H⟩
    · have h1 := H.2 j (ready_mono hj hji)
      obtain ⟨hjun, oj, hoj, hall⟩ := mem_ready.1 hj
      have hnot : ∀ e ∈ oj.after, Region.binds md e = true → e.on ≠ i := fun e he hb heq => by
        have h1 := hall e he hb
        have h0 := (mem_ready.1 hr).1
        rw [heq] at h1
        rcases Nat.lt_or_ge i listed.size with h' | h'
        · simp [h'] at h0 h1; rw [h0] at h1; cases h1
        · simp [Array.getElem?_eq_none h'] at h1
      have h2 := wpOp_putR (hs _ _ hoj) hoj (hfree j oj hoj hji hjun hnot) (fun cs b => hsel i oi cs b hi) (fun cs b => hsel j oj cs b hoj) hQ hy h1
      have hfree' : ∀ k ok, ops[k]? = some ok → k ≠ i → (listed.setIfInBounds j true).getD k true = false →
          (∀ e ∈ ok.after, Region.binds md e = true → e.on ≠ i) → oi.apart ops ok = true := fun k ok hk hki hun hno => by
        refine hfree k ok hk hki ?_ hno
        by_cases hjk : j = k
        · subst hjk; exact hjun
        · rw [getD_set_ne true hjk] at hun; exact hun
      refine wpOpIn_mono (fun a' w' h3 => ⟨h3.2.1, ih (listed.setIfInBounds j true) a' w' hfree' (ready_mono hr (Ne.symm hji)) h3.1 h3.2.1 ?_⟩) h2
      rw [Array.setIfInBounds_comm _ _ hji]
      exact h3.2.2

/-- Operation i first. -/
theorem takeR {l : Nat} {i : Nat} {oi : Oper} {fuel : Nat} {listed : Array Bool} {a : Act} {w : World} (v : Value) (hi : ops[i]? = some oi) (hd : noDef ops = true)
    (hs : Region.noSelect ops = true) (hf : Region.free md ops listed i = true) (hr : (Region.ready md ops listed).contains i = true)
    (hQ : ∀ c a w, Q (.panic c) (a.put oi.dst v) w → Q (.panic c) a w) (hw : Region.wanted oi (yielded ops a.tmps) = true) (hy : ∀ w, S w → (execOp a.eval oi).run P w = .ok (.value v) w) (hb : ∀ w, oi.about P w a.eval = none) (hS : S w)
    (h : wpAnyR (Fence.wide.inRound l) n P md ops Q S fuel (listed.setIfInBounds i true) (a.put oi.dst v) w) : wpAnyR (Fence.wide.inRound l) n P md ops Q S (fuel + 1) listed a w :=
  wpAnyR_first (fun j o hj ρ => noDef_sem hd hj ρ) hi (Region.noSelect_spec hs) hQ fuel listed a w (Region.free_spec hi hf) (by simpa using hr) ⟨.inl ⟨hw, hy⟩, hb⟩ hS h
/-- Operation i, which its guard passes over. -/
theorem passR {l : Nat} {i : Nat} {oi : Oper} {fuel : Nat} {listed : Array Bool} {a : Act} {w : World} (hi : ops[i]? = some oi) (hd : noDef ops = true)
    (hs : Region.noSelect ops = true) (hf : Region.free md ops listed i = true) (hr : (Region.ready md ops listed).contains i = true)
    (hQ : ∀ c a w, Q (.panic c) (a.put oi.dst undef) w → Q (.panic c) a w) (hw : Region.wanted oi (yielded ops a.tmps) = false) (hb : ∀ w, oi.about P w a.eval = none) (hS : S w)
    (h : wpAnyR (Fence.wide.inRound l) n P md ops Q S fuel (listed.setIfInBounds i true) (a.put oi.dst undef) w) : wpAnyR (Fence.wide.inRound l) n P md ops Q S (fuel + 1) listed a w :=
  wpAnyR_first (fun j o hj ρ => noDef_sem hd hj ρ) hi (Region.noSelect_spec hs) hQ fuel listed a w (Region.free_spec hi hf) (by simpa using hr) ⟨.inr ⟨hw, rfl⟩, hb⟩ hS h
/-- The one operation that may come up. -/
theorem oneR {i : Nat} {fuel : Nat} {listed : Array Bool} {a : Act} {w : World} (hr : Region.ready md ops listed = [i])
    (h : wpOpIn F n P ops Q i (fun a' w' => S w' ∧ wpAnyR F n P md ops Q S fuel (listed.setIfInBounds i true) a' w') a w) : wpAnyR F n P md ops Q S (fuel + 1) listed a w :=
  ⟨fun h0 => (by rw [hr] at h0; cases h0), fun j hj => (by rw [hr] at hj; rw [List.mem_singleton.1 hj]; exact h)⟩
theorem doneR {listed : Array Bool} {a : Act} {w : World} (hr : Region.ready md ops listed = []) (h : Q .normal a w) : ∀ fuel, wpAnyR F n P md ops Q S fuel listed a w
  | 0 => ⟨hr, h⟩
  | _ + 1 => ⟨fun _ => h, by rw [hr]; simp⟩
theorem regionR {id : Nat} {a : Act} {w : World} (hm : P.follows .mixedOrders = true)
    (h : wpAnyR F n P .any ops Q S ops.size (Array.replicate ops.size false) a w.drew) : (Code.region id ops true).wpIn F n P Q a w :=
  wpIn_region_any hm (wpAny_of_R _ _ _ _ h)
end
end Go.Proofs.YtfbalpkjcfdakaaGreatDoor

namespace Go.Proofs.YtfbalpkjcfdakaaGreatDoor
open Go.RowKit Go.Shelf
set_option linter.unusedVariables false
set_option linter.unusedSimpArgs false

theorem rangeY1 {P : Program} {α : Type} {g : Operand} {ps : Array Tmp} {assign body : Code} {Q : Exit → Act → World → Prop} {a : Act} {w : World}
    {gf : Nat} {lb : Array Value} (hg : a.eval g = .func (.func gf) #[] lb) (eg : ∀ args w, (callFunc gf args).run P w = .ok (.enter gf args) w)
    {encs : α → Array Value} {L : List α} (X : Nat → Prop) (hX : ∀ k, X k → k < w.heap.size) (T : TypeId → Prop)
    (hseq : ∀ W, Below w.heap.size w W → W.heap.size = w.heap.size + 2 → SeqY P gf lb encs (fun k => X k ∨ k = w.heap.size ∨ k = w.heap.size + 1) T L W)
    (hps : ∀ x, (encs x).size = ps.size)
    (I : List α → World → Prop) (Ix : Code → List α → World → Prop) (hI : FarY w.heap.size T I) (hIx : ∀ c, FarY w.heap.size T (Ix c)) (h0 : I [] w)
    (asg : Array Value → α → Array Value)
    (hassign : ∀ (l : Nat) (x : α) (W : World) (K : Act → World → Prop), K { tmps := asg a.tmps x, defers := [] } W →
      assign.wpIn (Fence.wide.inRound l) 9 P (Exit.then K (fun _ _ _ => False)) { tmps := (ps.zip (encs x)).foldl (fun t (p, v) => t.setIfInBounds p v) a.tmps, defers := [] } W)
    (hbody : ∀ (l : Nat) (pre : List α) (x : α) (post : List α) (W : World), L = pre ++ x :: post → w.heap.size + 2 ≤ W.heap.size → I pre W →
      body.wpIn (Fence.wide.inRound l) 9 P (postX X I Ix (pre ++ [x]) W) { tmps := asg a.tmps x, defers := [] } W)
    (hdone : ∀ (D : Nat) (W : World), w.heap.size ≤ D → I L W → W.heap[D]? = some (.deferred (some [])) → Q .normal { a with defers := { target := .collected D, args := #[] } :: a.defers } W)
    (hstop : ∀ (D : Nat) (c : Code) (pre : List α) (W : World), w.heap.size ≤ D → pre <+: L → Ix c pre W → W.heap[D]? = some (.deferred (some [])) → c.wp P Q { a with defers := { target := .collected D, args := #[] } :: a.defers } W) :
    (Code.rangeFunc g ps assign body).wp P Q a w :=
  rangeY hg eg X hX T hseq hps I Ix hI hIx h0 (fun x a' _ => a' = { tmps := asg a.tmps x, defers := [] }) (fun _ _ _ _ h _ => h)
    (fun l pre x post W K _ _ _ hK => hassign l x W K (hK _ _ (Below.refl _ _) rfl)) (fun l pre x post a' W hL hs hi e => by subst e; exact hbody l pre x post W hL hs hi) hdone hstop

theorem rangeU1 {P : Program} {α : Type} {g : Operand} {ps : Array Tmp} {assign body : Code} {Q : Exit → Act → World → Prop} {a : Act} {w : World}
    {gf : Nat} {lb : Array Value} (hg : a.eval g = .func (.func gf) #[] lb) (eg : ∀ args w, (callFunc gf args).run P w = .ok (.enter gf args) w)
    {encs : α → Array Value} {L : List α} (X : Nat → Prop) (hX : ∀ k, X k → k < w.heap.size) (n : Nat) (U T : TypeId → Prop)
    (hseq : ∀ W, Below w.heap.size w W → W.heap.size = w.heap.size + 2 → SeqU P gf lb encs (fun k => X k ∨ k = w.heap.size ∨ k = w.heap.size + 1) n U T L W)
    (hps : ∀ x, (encs x).size = ps.size)
    (I : List α → World → Prop) (Ix : Code → List α → World → Prop) (hI : FarY w.heap.size T I) (hIx : ∀ c, FarY w.heap.size T (Ix c)) (h0 : I [] w)
    (asg : Array Value → α → Array Value)
    (hassign : ∀ (l : Nat) (x : α) (W : World) (K : Act → World → Prop), K { tmps := asg a.tmps x, defers := [] } W →
      assign.wpIn (Fence.wide.inRound l) 9 P (Exit.then K (fun _ _ _ => False)) { tmps := (ps.zip (encs x)).foldl (fun t (p, v) => t.setIfInBounds p v) a.tmps, defers := [] } W)
    (hbody : ∀ (l : Nat) (pre : List α) (x : α) (post : List α) (W : World), L = pre ++ x :: post → w.heap.size + 2 ≤ W.heap.size → I pre W →
      body.wpIn (Fence.wide.inRound l) 9 P (postX (Ex X n U W) I Ix (pre ++ [x]) W) { tmps := asg a.tmps x, defers := [] } W)
    (hdone : ∀ (D : Nat) (W : World), w.heap.size ≤ D → I L W → W.heap[D]? = some (.deferred (some [])) → Q .normal { a with defers := { target := .collected D, args := #[] } :: a.defers } W)
    (hstop : ∀ (D : Nat) (c : Code) (pre : List α) (W : World), w.heap.size ≤ D → pre <+: L → Ix c pre W → W.heap[D]? = some (.deferred (some [])) → c.wp P Q { a with defers := { target := .collected D, args := #[] } :: a.defers } W) :
    (Code.rangeFunc g ps assign body).wp P Q a w :=
  rangeU hg eg X hX n U T hseq hps I Ix hI hIx h0 (fun x a' _ => a' = { tmps := asg a.tmps x, defers := [] }) (fun _ _ _ _ h _ => h)
    (fun l pre x post W K _ _ _ hK => hassign l x W K (hK _ _ (Below.refl _ _) rfl)) (fun l pre x post a' W hL hs hi e => by subst e; exact hbody l pre x post W hL hs hi) hdone hstop

theorem rangeY2 {P : Program} {α : Type} {g : Operand} {ps : Array Tmp} {assign body : Code} {Q : Exit → Act → World → Prop} {a : Act} {w : World}
    {gf : Nat} {lb : Array Value} (hg : a.eval g = .func (.func gf) #[] lb) (eg : ∀ args w, (callFunc gf args).run P w = .ok (.enter gf args) w)
    {encs : α → Array Value} {L : List α} (X : Nat → Prop) (hX : ∀ k, X k → k < w.heap.size) (T : TypeId → Prop)
    (hseq : ∀ W, Below w.heap.size w W → W.heap.size = w.heap.size + 2 → SeqY P gf lb encs (fun k => X k ∨ k = w.heap.size ∨ k = w.heap.size + 1) T L W)
    (hps : ∀ x, (encs x).size = ps.size)
    (I : List α → World → Prop) (Ix : Code → List α → World → Prop) (hI : FarY w.heap.size T I) (hIx : ∀ c, FarY w.heap.size T (Ix c)) (h0 : I [] w)
    (asg : Array Value → α → Nat → Array Value) (ob : α → Obj)
    (hassign : ∀ (l : Nat) (x : α) (W : World) (K : Act → World → Prop), K { tmps := asg a.tmps x W.heap.size, defers := [] } (W.alloc (ob x)) →
      assign.wpIn (Fence.wide.inRound l) 9 P (Exit.then K (fun _ _ _ => False)) { tmps := (ps.zip (encs x)).foldl (fun t (p, v) => t.setIfInBounds p v) a.tmps, defers := [] } W)
    (hbody : ∀ (l : Nat) (pre : List α) (x : α) (post : List α) (Bx : Nat) (W : World), L = pre ++ x :: post → w.heap.size + 2 ≤ Bx → W.heap[Bx]? = some (ob x) → I pre W →
      body.wpIn (Fence.wide.inRound l) 9 P (postX X I Ix (pre ++ [x]) W) { tmps := asg a.tmps x Bx, defers := [] } W)
    (hdone : ∀ (D : Nat) (W : World), w.heap.size ≤ D → I L W → W.heap[D]? = some (.deferred (some [])) → Q .normal { a with defers := { target := .collected D, args := #[] } :: a.defers } W)
    (hstop : ∀ (D : Nat) (c : Code) (pre : List α) (W : World), w.heap.size ≤ D → pre <+: L → Ix c pre W → W.heap[D]? = some (.deferred (some [])) → c.wp P Q { a with defers := { target := .collected D, args := #[] } :: a.defers } W) :
    (Code.rangeFunc g ps assign body).wp P Q a w :=
  rangeY hg eg X hX T hseq hps I Ix hI hIx h0 (fun x a' W => ∃ Bx, w.heap.size + 2 ≤ Bx ∧ W.heap[Bx]? = some (ob x) ∧ a' = { tmps := asg a.tmps x Bx, defers := [] })
    (fun x a' A B ⟨Bx, h1, h2, h3⟩ hk => ⟨Bx, h1, (hk.block Bx (Array.getElem?_eq_some_iff.1 h2).1 (by omega)).trans h2, h3⟩)
    (fun l pre x post W K _ hs _ hK => hassign l x W K (hK _ _ ((Below.refl _ _).alloc (Nat.le_refl _) _) ⟨W.heap.size, hs, heap_alloc_last W _, rfl⟩))
    (fun l pre x post a' W hL hs hi ⟨Bx, h1, h2, e⟩ => by subst e; exact hbody l pre x post Bx W hL h1 h2 hi) hdone hstop

theorem rangeU2 {P : Program} {α : Type} {g : Operand} {ps : Array Tmp} {assign body : Code} {Q : Exit → Act → World → Prop} {a : Act} {w : World}
    {gf : Nat} {lb : Array Value} (hg : a.eval g = .func (.func gf) #[] lb) (eg : ∀ args w, (callFunc gf args).run P w = .ok (.enter gf args) w)
    {encs : α → Array Value} {L : List α} (X : Nat → Prop) (hX : ∀ k, X k → k < w.heap.size) (n : Nat) (U T : TypeId → Prop)
    (hseq : ∀ W, Below w.heap.size w W → W.heap.size = w.heap.size + 2 → SeqU P gf lb encs (fun k => X k ∨ k = w.heap.size ∨ k = w.heap.size + 1) n U T L W)
    (hps : ∀ x, (encs x).size = ps.size)
    (I : List α → World → Prop) (Ix : Code → List α → World → Prop) (hI : FarY w.heap.size T I) (hIx : ∀ c, FarY w.heap.size T (Ix c)) (h0 : I [] w)
    (asg : Array Value → α → Nat → Array Value) (ob : α → Obj)
    (hassign : ∀ (l : Nat) (x : α) (W : World) (K : Act → World → Prop), K { tmps := asg a.tmps x W.heap.size, defers := [] } (W.alloc (ob x)) →
      assign.wpIn (Fence.wide.inRound l) 9 P (Exit.then K (fun _ _ _ => False)) { tmps := (ps.zip (encs x)).foldl (fun t (p, v) => t.setIfInBounds p v) a.tmps, defers := [] } W)
    (hbody : ∀ (l : Nat) (pre : List α) (x : α) (post : List α) (Bx : Nat) (W : World), L = pre ++ x :: post → w.heap.size + 2 ≤ Bx → W.heap[Bx]? = some (ob x) → I pre W →
      body.wpIn (Fence.wide.inRound l) 9 P (postX (Ex X n U W) I Ix (pre ++ [x]) W) { tmps := asg a.tmps x Bx, defers := [] } W)
    (hdone : ∀ (D : Nat) (W : World), w.heap.size ≤ D → I L W → W.heap[D]? = some (.deferred (some [])) → Q .normal { a with defers := { target := .collected D, args := #[] } :: a.defers } W)
    (hstop : ∀ (D : Nat) (c : Code) (pre : List α) (W : World), w.heap.size ≤ D → pre <+: L → Ix c pre W → W.heap[D]? = some (.deferred (some [])) → c.wp P Q { a with defers := { target := .collected D, args := #[] } :: a.defers } W) :
    (Code.rangeFunc g ps assign body).wp P Q a w :=
  rangeU hg eg X hX n U T hseq hps I Ix hI hIx h0 (fun x a' W => ∃ Bx, w.heap.size + 2 ≤ Bx ∧ W.heap[Bx]? = some (ob x) ∧ a' = { tmps := asg a.tmps x Bx, defers := [] })
    (fun x a' A B ⟨Bx, h1, h2, h3⟩ hk => ⟨Bx, h1, (hk.block Bx (Array.getElem?_eq_some_iff.1 h2).1 (by omega)).trans h2, h3⟩)
    (fun l pre x post W K _ hs _ hK => hassign l x W K (hK _ _ ((Below.refl _ _).alloc (Nat.le_refl _) _) ⟨W.heap.size, hs, heap_alloc_last W _, rfl⟩))
    (fun l pre x post a' W hL hs hi ⟨Bx, h1, h2, e⟩ => by subst e; exact hbody l pre x post Bx W hL h1 h2 hi) hdone hstop

end Go.Proofs.YtfbalpkjcfdakaaGreatDoor
