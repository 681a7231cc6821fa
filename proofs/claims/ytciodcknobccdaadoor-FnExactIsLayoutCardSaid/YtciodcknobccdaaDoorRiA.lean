/- A loop over an iterator, for an iterator that keeps variables of its own in memory: whatever a round may turn is a set X of blocks of the caller's, named ahead; everything else, the iterator's own blocks among it, lies as it lay. Condition: the caller's X lies below the heap's size where the loop begins. -/
import Derived.RangeFuncNested
import Derived.RangeFuncBound
import Derived.RangeFuncCalls
import Derived.RangeFuncLeaves
import Derived.Shelf.Abstract
import Derived.Shelf.RegionOpen
import Derived.WalkKit
import Derived.OwnWalkIn
import Derived.TacticsInMore
import Derived.LoopNIn
import Derived.LoopIn
namespace Go.Proofs.YtciodcknobccdaaDoor
open Go.RowKit
set_option linter.unusedVariables false
set_option linter.unusedSimpArgs false

/-- All blocks of w but those of X lie as they lay; none has gone. -/
structure Kept (X : Nat → Prop) (w w' : World) : Prop where
  os : w'.os = w.os
  tape : w'.tape = w.tape
  output : w'.output = w.output
  size : w.heap.size ≤ w'.heap.size
  block : ∀ k, k < w.heap.size → ¬ X k → w'.heap[k]? = w.heap[k]?

theorem Kept.refl (X : Nat → Prop) (w : World) : Kept X w w := ⟨rfl, rfl, rfl, Nat.le_refl _, fun _ _ _ => rfl⟩
theorem Kept.trans {X : Nat → Prop} {a b c : World} (h : Kept X a b) (k : Kept X b c) : Kept X a c :=
  ⟨k.os.trans h.os, k.tape.trans h.tape, k.output.trans h.output, Nat.le_trans h.size k.size, fun i hi hX => (k.block i (Nat.lt_of_lt_of_le hi h.size) hX).trans (h.block i hi hX)⟩
theorem Kept.mono {X Y : Nat → Prop} {a b : World} (h : Kept X a b) (hXY : ∀ k, k < a.heap.size → X k → Y k) : Kept Y a b :=
  ⟨h.os, h.tape, h.output, h.size, fun i hi hY => h.block i hi fun hX => hY (hXY i hi hX)⟩
theorem Kept.of_below {X : Nat → Prop} {a b : World} (h : Below a.heap.size a b) : Kept X a b := ⟨h.os, h.tape, h.output, h.size, fun i hi _ => h.block i hi⟩
theorem Kept.below {X : Nat → Prop} {a b : World} (h : Kept X a b) {n : Nat} (hn : n ≤ a.heap.size) (hX : ∀ k, k < n → ¬ X k) : Below n a b :=
  ⟨h.os, h.tape, h.output, h.size, fun i hi => h.block i (Nat.lt_of_lt_of_le hi hn) (hX i hi)⟩
theorem Kept.cell {X : Nat → Prop} {a b : World} (h : Kept X a b) {p : Addr} (hp : p.block < a.heap.size) (hX : ¬ X p.block) : b.cell? p = a.cell? p := World.cell?_of_block (w := a) (h.block p.block hp hX)
theorem Kept.frozen {X : Nat → Prop} {a b : World} (h : Kept X a b) {p : Addr} (hp : p.block < a.heap.size) (hX : ¬ X p.block) : b.frozen? p = a.frozen? p := World.frozen?_of_block (w := a) (h.block p.block hp hX)
theorem Kept.putObj {X : Nat → Prop} (w : World) {l : Nat} (o : Obj) (hX : X l) : Kept X w (w.putObj l o) :=
  ⟨rfl, rfl, rfl, by simp, fun i _ hi => World.putObj_heap_other (fun e => hi (e ▸ hX))⟩
theorem Kept.setCell {X : Nat → Prop} {a w : World} (h : Kept X a w) {p : Addr} (hX : X p.block) (u : Value) : Kept X a (w.setCell p u) :=
  h.trans ⟨rfl, rfl, rfl, by simp [World.setCell], fun k _ hk => Below.heap_setCell _ _ _ _ (fun e => hk (e ▸ hX))⟩
theorem Kept.alloc {X : Nat → Prop} {a w : World} (h : Kept X a w) (o : Obj) : Kept X a (w.alloc o) :=
  h.trans (.of_below ((Below.refl _ w).alloc (Nat.le_refl _) o))
theorem Kept.drew {X : Nat → Prop} {a w : World} (h : Kept X a w) : Kept X a w.drew := ⟨h.os, h.tape, h.output, h.size, h.block⟩

theorem below_putObj {n : Nat} (w : World) {l : Nat} (o : Obj) (h : n ≤ l) : Below n w (w.putObj l o) :=
  ⟨rfl, rfl, rfl, by simp, fun i hi => World.putObj_heap_other (by omega)⟩

/-- J looks at blocks below n alone. -/
def FarX {β : Type} (n : Nat) (J : β → World → Prop) : Prop := ∀ s A B, J s A → Below n A B → J s B

theorem FarX.and {β : Type} {n : Nat} {J K : β → World → Prop} (h : FarX n J) (k : FarX n K) : FarX n (fun s W => J s W ∧ K s W) :=
  fun s A B hs hb => ⟨h s A B hs.1 hb, k s A B hs.2 hb⟩
theorem FarX.below {β : Type} {n m : Nat} {w : World} (hm : m ≤ n) : FarX n (fun (_ : β) W => Below m w W) := fun _ A B h hb => h.trans (hb.mono hm)

/-- A call of yield, at whatever depth. -/
def YieldW (P : Program) (l : Nat) (args : Array Value) (W : World) (R : Ending → World → Prop) : Prop := ∀ m, YieldAt Fence.wide m P l args W R
theorem YieldW.mk {m : Nat} {P : Program} {l : Nat} {args : Array Value} {W : World} {R : Ending → World → Prop} (h : YieldAt Fence.wide m P l args W R) : YieldW P l args W R := fun _ => by
  obtain ⟨fn, tmps, assign, body, hy, hR⟩ := h
  exact ⟨fn, tmps, assign, body, hy, hR.1, fun c cs _ => hR.2 c cs (room_wide _)⟩
theorem YieldW.at {P : Program} {l : Nat} {args : Array Value} {W : World} {R : Ending → World → Prop} (h : YieldW P l args W R) (m : Nat) : YieldAt Fence.wide m P l args W R := h m
theorem YieldW.inRound {P : Program} {l : Nat} {args : Array Value} {W : World} {R : Ending → World → Prop} (h : YieldW P l args W R) (k m : Nat) : YieldAt (Fence.wide.inRound k) m P l args W R := h m

/-- The iterator value '.func g lb' hands over L, in its order, or stops where a round says so; a round keeps all but X. -/
def SeqX {α : Type} (P : Program) (g : Nat) (lb : Array Value) (encs : α → Array Value) (X : Nat → Prop) (L : List α) (W : World) : Prop :=
  ∀ (l : Nat) (J Jx : List α → World → Prop), FarX W.heap.size J → FarX W.heap.size Jx →
    (∀ pre x post W1, L = pre ++ x :: post → J pre W1 → W.heap.size ≤ W1.heap.size → YieldW P l (encs x) W1 fun e W' =>
      (e = .returned (.bool true) ∧ J (pre ++ [x]) W' ∧ Kept X W1 W') ∨ (e = .returned (.bool false) ∧ Jx (pre ++ [x]) W' ∧ Kept X W1 W')) →
    J [] W →
    Calls P g (#[.func (.yield l) #[] #[]] ++ lb) W fun e W' => (∃ v, e = .returned v) ∧ (J L W' ∨ (∃ pre, pre <+: L ∧ Jx pre W'))

/-- The ways out of a round's body. -/
def postX {α : Type} (X : Nat → Prop) (I : List α → World → Prop) (Ix : Code → List α → World → Prop) (xs : List α) (W : World) : Exit → Act → World → Prop
  | .normal, _, W' => Kept X W W' ∧ I xs W'
  | .ret, _, W' => Kept X W W' ∧ Ix .ret xs W'
  | .exit id, _, W' => Kept X W W' ∧ Ix (.exit id) xs W'
  | .goto t, _, W' => Kept X W W' ∧ Ix (.goto t) xs W'
  | .panic _, _, _ => False
  | .outgrown, _, _ => False

/-- **THE LOOP.** -/
theorem rangeX {P : Program} {α : Type} {g : Operand} {ps : Array Tmp} {assign body : Code} {Q : Exit → Act → World → Prop} {a : Act} {w : World}
    {gf : Nat} {lb : Array Value} (hg : a.eval g = .func (.func gf) #[] lb) (eg : ∀ args w, (callFunc gf args).run P w = .ok (.enter gf args) w)
    {encs : α → Array Value} {L : List α} (X : Nat → Prop) (hX : ∀ k, X k → k < w.heap.size)
    (hseq : ∀ W, Below w.heap.size w W → W.heap.size = w.heap.size + 2 → SeqX P gf lb encs (fun k => X k ∨ k = w.heap.size ∨ k = w.heap.size + 1) L W)
    (hps : ∀ x, (encs x).size = ps.size)
    (I : List α → World → Prop) (Ix : Code → List α → World → Prop) (hI : FarX w.heap.size I) (hIx : ∀ c, FarX w.heap.size (Ix c)) (h0 : I [] w)
    (Ax : α → Act → World → Prop) (hAx : ∀ x a' A B, Ax x a' A → Kept (fun k => k = w.heap.size + 1) A B → Ax x a' B)
    (hassign : ∀ (l : Nat) (pre : List α) (x : α) (post : List α) (W : World) (K : Act → World → Prop), L = pre ++ x :: post → w.heap.size + 2 ≤ W.heap.size → I pre W →
      (∀ a' W', Below W.heap.size W W' → Ax x a' W' → K a' W') →
      assign.wpIn (Fence.wide.inRound l) 9 P (Exit.then K (fun _ _ _ => False)) { tmps := (ps.zip (encs x)).foldl (fun t (p, v) => t.setIfInBounds p v) a.tmps, defers := [] } W)
    (hbody : ∀ (l : Nat) (pre : List α) (x : α) (post : List α) (a' : Act) (W : World), L = pre ++ x :: post → w.heap.size + 2 ≤ W.heap.size → I pre W → Ax x a' W →
      body.wpIn (Fence.wide.inRound l) 9 P (postX X I Ix (pre ++ [x]) W) a' W)
    (hdone : ∀ (D : Nat) (W : World), w.heap.size ≤ D → I L W → W.heap[D]? = some (.deferred (some [])) → Q .normal { a with defers := { target := .collected D, args := #[] } :: a.defers } W)
    (hstop : ∀ (D : Nat) (c : Code) (pre : List α) (W : World), w.heap.size ≤ D → pre <+: L → Ix c pre W → W.heap[D]? = some (.deferred (some [])) → c.wp P Q { a with defers := { target := .collected D, args := #[] } :: a.defers } W) :
    (Code.rangeFunc g ps assign body).wp P Q a w := by
  refine (wpIn_wide (n := 11)).1 (wpIn_rangeFunc fun fn hfn => ?_)
  rw [Fence.wide_round]
  obtain ⟨rc, hrc⟩ : ∃ rc : LoopState → Option Code → Loop, rc = fun st pe => { state := st, pending := pe, fn := fn, tmps := a.tmps, params := ps, assign := assign, body := body, defers := w.heap.size } := ⟨_, rfl⟩
  obtain ⟨V, hV⟩ : ∃ V, (w.alloc (.deferred (some []))).alloc (.loop (rc .ready none)) = V := ⟨_, rfl⟩
  have vs : V.heap.size = w.heap.size + 2 := by rw [← hV]; simp
  have vb : Below w.heap.size w V := by rw [← hV]; exact ((Below.refl _ w).alloc (Nat.le_refl _) _).alloc (by simp) _
  have vl : V.heap[w.heap.size + 1]? = some (.loop (rc .ready none)) := by
    rw [← hV]; have := World.alloc_heap_new (w.alloc (.deferred (some []))) (.loop (rc .ready none)); rwa [World.size_alloc] at this
  have vd : V.heap[w.heap.size]? = some (.deferred (some [])) := by
    rw [← hV]; exact (Below.heap_alloc _ _ _ (by simp)).trans (World.alloc_heap_new w _)
  refine ⟨w.heap.size + 1, [{ target := .collected w.heap.size, args := #[] }], V, { target := .fn (.func gf) lb, args := #[.func (.yield (w.heap.size + 1)) #[] #[]] }, V, gf,
    #[.func (.yield (w.heap.size + 1)) #[] #[]] ++ lb, V, ?_, ?_, ?_, ?_, fun _ => by omega, ?_⟩
  · rw [← hV, hrc]; exact run_enterLoop_outer _ _ _ _ _
  · simp only [resolve, hg]
    simp [go_sem]
  · intro f' hf'
    trivial
  · simp [invoke, go_sem, eg]
  have far1 : ∀ {k : Nat} {A B : World}, k < w.heap.size + 2 → Below V.heap.size A B → B.heap[k]? = A.heap[k]? := fun hk hb => hb.block _ (by omega)
  refine callsIn_wide.2 ((hseq V vb vs (w.heap.size + 1)
    (fun pre W => I pre W ∧ W.heap[w.heap.size + 1]? = some (.loop (rc .ready none)) ∧ W.heap[w.heap.size]? = some (.deferred (some [])))
    (fun pre W => ∃ c, Ix c pre W ∧ W.heap[w.heap.size + 1]? = some (.loop (rc .done (some c))) ∧ W.heap[w.heap.size]? = some (.deferred (some [])))
    (fun s A B hs hb => ⟨hI s A B hs.1 (hb.mono (by omega)), (far1 (by omega) hb).trans hs.2.1, (far1 (by omega) hb).trans hs.2.2⟩)
    (fun s A B hs hb => by
      obtain ⟨c, h₁, h₂, h₃⟩ := hs
      exact ⟨c, hIx c s A B h₁ (hb.mono (by omega)), (far1 (by omega) hb).trans h₂, (far1 (by omega) hb).trans h₃⟩)
    ?_ ⟨hI [] w V h0 vb, vl, vd⟩).mono ?_)
  · rintro pre x post W0 hL ⟨hi0, hl0, hd0⟩ hsz
    have hy := run_yield (P := P) (args := encs x) hl0 (by rw [hrc]; exact hps x)
    rw [hrc] at hy
    refine YieldW.mk (m := 9) ⟨fn, _, assign, body, hy, roundIn_of_wpIn hfn (hassign _ pre x post W0 _ hL (by omega) hi0 ?_)⟩
    intro a' W hbW hax
    have hl := (hbW.block (w.heap.size + 1) (by omega)).trans hl0
    have hd := (hbW.block w.heap.size (by omega)).trans hd0
    have hi := hI pre W0 W hi0 (hbW.mono (by omega))
    have hszW := hbW.size
    refine ⟨_, run_beginRound hl (by rw [hrc]), ?_⟩
    obtain ⟨W2, hW2⟩ : ∃ W2, W.putObj (w.heap.size + 1) (.loop { rc .ready none with state := .busy }) = W2 := ⟨_, rfl⟩
    have l2 : W2.heap[w.heap.size + 1]? = some (.loop { rc .ready none with state := .busy }) := by rw [← hW2]; exact World.putObj_heap_same (by omega)
    have d2 : W2.heap[w.heap.size]? = some (.deferred (some [])) := by rw [← hW2]; exact (World.putObj_heap_other (by omega)).trans hd
    have k2 : Kept (fun k => X k ∨ k = w.heap.size ∨ k = w.heap.size + 1) W0 W2 := by rw [← hW2]; exact (Kept.of_below hbW).trans (Kept.putObj _ _ (.inr (.inr rfl)))
    have i2 : I pre W2 := by rw [← hW2]; exact hI pre W _ hi (below_putObj _ _ (by omega))
    have a2 : Ax x a' W2 := by rw [← hW2]; exact hAx x a' _ _ hax (Kept.putObj _ _ rfl)
    have s2 : w.heap.size + 2 ≤ W2.heap.size := by have := k2.size; omega
    rw [hW2]
    refine wpIn_mono (hbody _ pre x post a' W2 hL s2 i2 a2) ?_
    have fin : ∀ (jump : Option Code) (W3 : World), Kept X W2 W3 → ∃ W4, (Instr.endRound (w.heap.size + 1) jump).run P W3 = .ok (.bool jump.isNone) W4 ∧ Below w.heap.size W3 W4 ∧
        W4.heap[w.heap.size + 1]? = some (.loop (rc (if jump.isNone then .ready else .done) jump)) ∧ W4.heap[w.heap.size]? = some (.deferred (some [])) ∧ Kept (fun k => X k ∨ k = w.heap.size ∨ k = w.heap.size + 1) W0 W4 := by
      intro jump W3 h3
      have l3 := (h3.block (w.heap.size + 1) (by omega) (fun h => by have := hX _ h; omega)).trans l2
      have d3 := (h3.block w.heap.size (by omega) (fun h => by have := hX _ h; omega)).trans d2
      have hsz3 := h3.size
      refine ⟨_, run_endRound (P := P) jump l3, below_putObj _ _ (by omega), ?_, (World.putObj_heap_other (by omega)).trans d3, (k2.trans (h3.mono fun k _ hk => .inl hk)).trans (Kept.putObj _ _ (.inr (.inr rfl)))⟩
      rw [World.putObj_heap_same (by omega), hrc]
    rintro e a3 W3 hp
    cases e with
    | normal =>
      obtain ⟨h3, i3⟩ := hp
      obtain ⟨W4, hr, hb, l4, d4, k4⟩ := fin none W3 h3
      exact ⟨_, W4, hr, .inl ⟨rfl, ⟨hI _ _ _ i3 hb, l4, d4⟩, k4⟩⟩
    | ret =>
      obtain ⟨h3, i3⟩ := hp
      obtain ⟨W4, hr, hb, l4, d4, k4⟩ := fin (some .ret) W3 h3
      exact ⟨_, W4, hr, .inr ⟨rfl, ⟨_, hIx _ _ _ _ i3 hb, l4, d4⟩, k4⟩⟩
    | exit id =>
      obtain ⟨h3, i3⟩ := hp
      obtain ⟨W4, hr, hb, l4, d4, k4⟩ := fin (some (.exit id)) W3 h3
      exact ⟨_, W4, hr, .inr ⟨rfl, ⟨_, hIx _ _ _ _ i3 hb, l4, d4⟩, k4⟩⟩
    | goto t =>
      obtain ⟨h3, i3⟩ := hp
      obtain ⟨W4, hr, hb, l4, d4, k4⟩ := fin (some (.goto t)) W3 h3
      exact ⟨_, W4, hr, .inr ⟨rfl, ⟨_, hIx _ _ _ _ i3 hb, l4, d4⟩, k4⟩⟩
    | panic ch => exact hp.elim
    | outgrown => exact hp.elim
  · rintro e W2 ⟨⟨v, rfl⟩, (⟨hi, hl, hd⟩ | ⟨pre, hpre, c, hi, hl, hd⟩)⟩
    · refine ⟨none, _, by have := run_endLoop (P := P) hl (by rw [hrc]; simp); rw [hrc] at this; exact this, hdone _ _ (Nat.le_refl _) (hI _ _ _ hi (below_putObj _ _ (by omega))) ((World.putObj_heap_other (by omega)).trans hd)⟩
    · refine ⟨some c, _, by have := run_endLoop (P := P) hl (by rw [hrc]; simp); rw [hrc] at this; exact this, wpIn_wide.2 (hstop _ c pre _ (Nat.le_refl _) hpre (hIx c _ _ _ hi (below_putObj _ _ (by omega))) ((World.putObj_heap_other (by omega)).trans hd))⟩

/-- A function that holds such a loop. -/
theorem calls_of_marks {P : Program} {f : FuncId} {fn : Func} {c : Code} {args : Array Value} {w : World} {R : Ending → World → Prop}
    (hf : P.funcs[f]? = some fn) (hb : fn.body = some c)
    (h : c.wp P (bodyPostM Fence.wide 9 P fn R) { tmps := args ++ Array.replicate (fn.ntmps - args.size) undef, defers := [] } w) : Calls P f args w R :=
  (callsIn_wide (n := 9)).1 (callsIn_of_wp_marks hf hb trivial ((wpIn_wide (n := 9)).2 h) rfl)
end Go.Proofs.YtciodcknobccdaaDoor
