/- Loops over an iterator of the stronger contract. No condition. -/
import Derived.Test.YtciodcknobccdaaDoorRiI
namespace Go.Proofs.YtciodcknobccdaaDoor
open Go.RowKit Go.Shelf
set_option linter.unusedVariables false
set_option linter.unusedSimpArgs false

theorem rangeY1 {P : Program} {α : Type} {g : Operand} {ps : Array Tmp} {assign body : Code} {Q : Exit → Act → World → Prop} {a : Act} {w : World}
    {gf : Nat} {lb : Array Value} (hg : a.eval g = .func (.func gf) #[] lb) (eg : ∀ args w, (callFunc gf args).run P w = .ok (.enter gf args) w)
    {encs : α → Array Value} {L : List α} (X : Nat → Prop) (hX : ∀ k, X k → k < w.heap.size) (T : TypeId → Prop)
    (hseq : ∀ W, Below w.heap.size w W → W.heap.size = w.heap.size + 2 → SeqY P gf lb encs (fun k => X k ∨ k = w.heap.size ∨ k = w.heap.size + 1) T L W)
    (hps : ∀ x, (encs x).size = ps.size)
    (I : List α → World → Prop) (Ix : Code → List α → World → Prop) (hI : FarY w.heap.size T I) (hIx : ∀ c, FarY w.heap.size T (Ix c)) (h0 : I [] w)
    (asg : Array Value → α → Array Value)
    (hassign : ∀ (l : Nat) (x : α) (W : World) (K : Act → World → Prop), K { tmps := asg a.tmps x, defers := [] } W →
      assign.wpIn (Fence.wide.inRound l) 9 P (Exit.then K (fun _ _ _ => False)) { tmps := (ps.zip (encs x)).foldl (fun t (p, v) => t.setIfInBounds p v) a.tmps, defers := [] } W)
    (hbody : ∀ (l : Nat) (pre : List α) (x : α) (post : List α) (W : World), L = pre ++ x :: post → w.heap.size + 2 ≤ W.heap.size → I pre W →
      body.wpIn (Fence.wide.inRound l) 9 P (postX X I Ix (pre ++ [x]) W) { tmps := asg a.tmps x, defers := [] } W)
    (hdone : ∀ (D : Nat) (W : World), w.heap.size ≤ D → I L W → W.heap[D]? = some (.deferred (some [])) → Q .normal { a with defers := { target := .collected D, args := #[] } :: a.defers } W)
    (hstop : ∀ (D : Nat) (c : Code) (pre : List α) (W : World), w.heap.size ≤ D → pre <+: L → Ix c pre W → W.heap[D]? = some (.deferred (some [])) → c.wp P Q { a with defers := { target := .collected D, args := #[] } :: a.defers } W) :
    (Code.rangeFunc g ps assign body).wp P Q a w :=
  rangeY hg eg X hX T hseq hps I Ix hI hIx h0 (fun x a' _ => a' = { tmps := asg a.tmps x, defers := [] }) (fun _ _ _ _ h _ => h)
    (fun l pre x post W K _ _ _ hK => hassign l x W K (hK _ _ (Below.refl _ _) rfl)) (fun l pre x post a' W hL hs hi e => by subst e; exact hbody l pre x post W hL hs hi) hdone hstop

theorem rangeU1 {P : Program} {α : Type} {g : Operand} {ps : Array Tmp} {assign body : Code} {Q : Exit → Act → World → Prop} {a : Act} {w : World}
    {gf : Nat} {lb : Array Value} (hg : a.eval g = .func (.func gf) #[] lb) (eg : ∀ args w, (callFunc gf args).run P w = .ok (.enter gf args) w)
    {encs : α → Array Value} {L : List α} (X : Nat → Prop) (hX : ∀ k, X k → k < w.heap.size) (n : Nat) (U T : TypeId → Prop)
    (hseq : ∀ W, Below w.heap.size w W → W.heap.size = w.heap.size + 2 → SeqU P gf lb encs (fun k => X k ∨ k = w.heap.size ∨ k = w.heap.size + 1) n U T L W)
    (hps : ∀ x, (encs x).size = ps.size)
    (I : List α → World → Prop) (Ix : Code → List α → World → Prop) (hI : FarY w.heap.size T I) (hIx : ∀ c, FarY w.heap.size T (Ix c)) (h0 : I [] w)
    (asg : Array Value → α → Array Value)
    (hassign : ∀ (l : Nat) (x : α) (W : World) (K : Act → World → Prop), K { tmps := asg a.tmps x, defers := [] } W →
      assign.wpIn (Fence.wide.inRound l) 9 P (Exit.then K (fun _ _ _ => False)) { tmps := (ps.zip (encs x)).foldl (fun t (p, v) => t.setIfInBounds p v) a.tmps, defers := [] } W)
    (hbody : ∀ (l : Nat) (pre : List α) (x : α) (post : List α) (W : World), L = pre ++ x :: post → w.heap.size + 2 ≤ W.heap.size → I pre W →
      body.wpIn (Fence.wide.inRound l) 9 P (postX (Ex X n U W) I Ix (pre ++ [x]) W) { tmps := asg a.tmps x, defers := [] } W)
    (hdone : ∀ (D : Nat) (W : World), w.heap.size ≤ D → I L W → W.heap[D]? = some (.deferred (some [])) → Q .normal { a with defers := { target := .collected D, args := #[] } :: a.defers } W)
    (hstop : ∀ (D : Nat) (c : Code) (pre : List α) (W : World), w.heap.size ≤ D → pre <+: L → Ix c pre W → W.heap[D]? = some (.deferred (some [])) → c.wp P Q { a with defers := { target := .collected D, args := #[] } :: a.defers } W) :
    (Code.rangeFunc g ps assign body).wp P Q a w :=
  rangeU hg eg X hX n U T hseq hps I Ix hI hIx h0 (fun x a' _ => a' = { tmps := asg a.tmps x, defers := [] }) (fun _ _ _ _ h _ => h)
    (fun l pre x post W K _ _ _ hK => hassign l x W K (hK _ _ (Below.refl _ _) rfl)) (fun l pre x post a' W hL hs hi e => by subst e; exact hbody l pre x post W hL hs hi) hdone hstop

theorem rangeY2 {P : Program} {α : Type} {g : Operand} {ps : Array Tmp} {assign body : Code} {Q : Exit → Act → World → Prop} {a : Act} {w : World}
    {gf : Nat} {lb : Array Value} (hg : a.eval g = .func (.func gf) #[] lb) (eg : ∀ args w, (callFunc gf args).run P w = .ok (.enter gf args) w)
    {encs : α → Array Value} {L : List α} (X : Nat → Prop) (hX : ∀ k, X k → k < w.heap.size) (T : TypeId → Prop)
    (hseq : ∀ W, Below w.heap.size w W → W.heap.size = w.heap.size + 2 → SeqY P gf lb encs (fun k => X k ∨ k = w.heap.size ∨ k = w.heap.size + 1) T L W)
    (hps : ∀ x, (encs x).size = ps.size)
    (I : List α → World → Prop) (Ix : Code → List α → World → Prop) (hI : FarY w.heap.size T I) (hIx : ∀ c, FarY w.heap.size T (Ix c)) (h0 : I [] w)
    (asg : Array Value → α → Nat → Array Value) (ob : α → Obj)
    (hassign : ∀ (l : Nat) (x : α) (W : World) (K : Act → World → Prop), K { tmps := asg a.tmps x W.heap.size, defers := [] } (W.alloc (ob x)) →
      assign.wpIn (Fence.wide.inRound l) 9 P (Exit.then K (fun _ _ _ => False)) { tmps := (ps.zip (encs x)).foldl (fun t (p, v) => t.setIfInBounds p v) a.tmps, defers := [] } W)
    (hbody : ∀ (l : Nat) (pre : List α) (x : α) (post : List α) (Bx : Nat) (W : World), L = pre ++ x :: post → w.heap.size + 2 ≤ Bx → W.heap[Bx]? = some (ob x) → I pre W →
      body.wpIn (Fence.wide.inRound l) 9 P (postX X I Ix (pre ++ [x]) W) { tmps := asg a.tmps x Bx, defers := [] } W)
    (hdone : ∀ (D : Nat) (W : World), w.heap.size ≤ D → I L W → W.heap[D]? = some (.deferred (some [])) → Q .normal { a with defers := { target := .collected D, args := #[] } :: a.defers } W)
    (hstop : ∀ (D : Nat) (c : Code) (pre : List α) (W : World), w.heap.size ≤ D → pre <+: L → Ix c pre W → W.heap[D]? = some (.deferred (some [])) → c.wp P Q { a with defers := { target := .collected D, args := #[] } :: a.defers } W) :
    (Code.rangeFunc g ps assign body).wp P Q a w :=
  rangeY hg eg X hX T hseq hps I Ix hI hIx h0 (fun x a' W => ∃ Bx, w.heap.size + 2 ≤ Bx ∧ W.heap[Bx]? = some (ob x) ∧ a' = { tmps := asg a.tmps x Bx, defers := [] })
    (fun x a' A B ⟨Bx, h1, h2, h3⟩ hk => ⟨Bx, h1, (hk.block Bx (Array.getElem?_eq_some_iff.1 h2).1 (by omega)).trans h2, h3⟩)
    (fun l pre x post W K _ hs _ hK => hassign l x W K (hK _ _ ((Below.refl _ _).alloc (Nat.le_refl _) _) ⟨W.heap.size, hs, heap_alloc_last W _, rfl⟩))
    (fun l pre x post a' W hL hs hi ⟨Bx, h1, h2, e⟩ => by subst e; exact hbody l pre x post Bx W hL h1 h2 hi) hdone hstop

theorem rangeU2 {P : Program} {α : Type} {g : Operand} {ps : Array Tmp} {assign body : Code} {Q : Exit → Act → World → Prop} {a : Act} {w : World}
    {gf : Nat} {lb : Array Value} (hg : a.eval g = .func (.func gf) #[] lb) (eg : ∀ args w, (callFunc gf args).run P w = .ok (.enter gf args) w)
    {encs : α → Array Value} {L : List α} (X : Nat → Prop) (hX : ∀ k, X k → k < w.heap.size) (n : Nat) (U T : TypeId → Prop)
    (hseq : ∀ W, Below w.heap.size w W → W.heap.size = w.heap.size + 2 → SeqU P gf lb encs (fun k => X k ∨ k = w.heap.size ∨ k = w.heap.size + 1) n U T L W)
    (hps : ∀ x, (encs x).size = ps.size)
    (I : List α → World → Prop) (Ix : Code → List α → World → Prop) (hI : FarY w.heap.size T I) (hIx : ∀ c, FarY w.heap.size T (Ix c)) (h0 : I [] w)
    (asg : Array Value → α → Nat → Array Value) (ob : α → Obj)
    (hassign : ∀ (l : Nat) (x : α) (W : World) (K : Act → World → Prop), K { tmps := asg a.tmps x W.heap.size, defers := [] } (W.alloc (ob x)) →
      assign.wpIn (Fence.wide.inRound l) 9 P (Exit.then K (fun _ _ _ => False)) { tmps := (ps.zip (encs x)).foldl (fun t (p, v) => t.setIfInBounds p v) a.tmps, defers := [] } W)
    (hbody : ∀ (l : Nat) (pre : List α) (x : α) (post : List α) (Bx : Nat) (W : World), L = pre ++ x :: post → w.heap.size + 2 ≤ Bx → W.heap[Bx]? = some (ob x) → I pre W →
      body.wpIn (Fence.wide.inRound l) 9 P (postX (Ex X n U W) I Ix (pre ++ [x]) W) { tmps := asg a.tmps x Bx, defers := [] } W)
    (hdone : ∀ (D : Nat) (W : World), w.heap.size ≤ D → I L W → W.heap[D]? = some (.deferred (some [])) → Q .normal { a with defers := { target := .collected D, args := #[] } :: a.defers } W)
    (hstop : ∀ (D : Nat) (c : Code) (pre : List α) (W : World), w.heap.size ≤ D → pre <+: L → Ix c pre W → W.heap[D]? = some (.deferred (some [])) → c.wp P Q { a with defers := { target := .collected D, args := #[] } :: a.defers } W) :
    (Code.rangeFunc g ps assign body).wp P Q a w :=
  rangeU hg eg X hX n U T hseq hps I Ix hI hIx h0 (fun x a' W => ∃ Bx, w.heap.size + 2 ≤ Bx ∧ W.heap[Bx]? = some (ob x) ∧ a' = { tmps := asg a.tmps x Bx, defers := [] })
    (fun x a' A B ⟨Bx, h1, h2, h3⟩ hk => ⟨Bx, h1, (hk.block Bx (Array.getElem?_eq_some_iff.1 h2).1 (by omega)).trans h2, h3⟩)
    (fun l pre x post W K _ hs _ hK => hassign l x W K (hK _ _ ((Below.refl _ _).alloc (Nat.le_refl _) _) ⟨W.heap.size, hs, heap_alloc_last W _, rfl⟩))
    (fun l pre x post a' W hL hs hi ⟨Bx, h1, h2, e⟩ => by subst e; exact hbody l pre x post Bx W hL h1 h2 hi) hdone hstop

end Go.Proofs.YtciodcknobccdaaDoor
