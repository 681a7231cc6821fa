/- Loops over iterators; rows of words; drawn regions inside a round. Conditions: those of each theorem. -/
import Derived.Test.YtciodcknobccdaaDoorRiI
import Derived.ChangeKeysEq
namespace Go.Proofs.YtciodcknobccdaaDoor
open Go.RowKit Go.Shelf
set_option linter.unusedVariables false
set_option linter.unusedSimpArgs false
attribute [local go_sem] Oper.semAt_some

theorem rangeX1 {P : Program} {α : Type} {g : Operand} {ps : Array Tmp} {assign body : Code} {Q : Exit → Act → World → Prop} {a : Act} {w : World}
    {gf : Nat} {lb : Array Value} (hg : a.eval g = .func (.func gf) #[] lb) (eg : ∀ args w, (callFunc gf args).run P w = .ok (.enter gf args) w)
    {encs : α → Array Value} {L : List α} (X : Nat → Prop) (hX : ∀ k, X k → k < w.heap.size)
    (hseq : ∀ W, Below w.heap.size w W → W.heap.size = w.heap.size + 2 → SeqX P gf lb encs (fun k => X k ∨ k = w.heap.size ∨ k = w.heap.size + 1) L W)
    (hps : ∀ x, (encs x).size = ps.size)
    (I : List α → World → Prop) (Ix : Code → List α → World → Prop) (hI : FarX w.heap.size I) (hIx : ∀ c, FarX w.heap.size (Ix c)) (h0 : I [] w)
    (asg : Array Value → α → Array Value)
    (hassign : ∀ (l : Nat) (x : α) (W : World) (K : Act → World → Prop), K { tmps := asg a.tmps x, defers := [] } W →
      assign.wpIn (Fence.wide.inRound l) 9 P (Exit.then K (fun _ _ _ => False)) { tmps := (ps.zip (encs x)).foldl (fun t (p, v) => t.setIfInBounds p v) a.tmps, defers := [] } W)
    (hbody : ∀ (l : Nat) (pre : List α) (x : α) (post : List α) (W : World), L = pre ++ x :: post → w.heap.size + 2 ≤ W.heap.size → I pre W →
      body.wpIn (Fence.wide.inRound l) 9 P (postX X I Ix (pre ++ [x]) W) { tmps := asg a.tmps x, defers := [] } W)
    (hdone : ∀ (D : Nat) (W : World), w.heap.size ≤ D → I L W → W.heap[D]? = some (.deferred (some [])) → Q .normal { a with defers := { target := .collected D, args := #[] } :: a.defers } W)
    (hstop : ∀ (D : Nat) (c : Code) (pre : List α) (W : World), w.heap.size ≤ D → pre <+: L → Ix c pre W → W.heap[D]? = some (.deferred (some [])) → c.wp P Q { a with defers := { target := .collected D, args := #[] } :: a.defers } W) :
    (Code.rangeFunc g ps assign body).wp P Q a w :=
  rangeX hg eg X hX hseq hps I Ix hI hIx h0 (fun x a' _ => a' = { tmps := asg a.tmps x, defers := [] }) (fun _ _ _ _ h _ => h)
    (fun l pre x post W K _ _ _ hK => hassign l x W K (hK _ _ (Below.refl _ _) rfl)) (fun l pre x post a' W hL hs hi e => by subst e; exact hbody l pre x post W hL hs hi) hdone hstop

theorem rangeX2 {P : Program} {α : Type} {g : Operand} {ps : Array Tmp} {assign body : Code} {Q : Exit → Act → World → Prop} {a : Act} {w : World}
    {gf : Nat} {lb : Array Value} (hg : a.eval g = .func (.func gf) #[] lb) (eg : ∀ args w, (callFunc gf args).run P w = .ok (.enter gf args) w)
    {encs : α → Array Value} {L : List α} (X : Nat → Prop) (hX : ∀ k, X k → k < w.heap.size)
    (hseq : ∀ W, Below w.heap.size w W → W.heap.size = w.heap.size + 2 → SeqX P gf lb encs (fun k => X k ∨ k = w.heap.size ∨ k = w.heap.size + 1) L W)
    (hps : ∀ x, (encs x).size = ps.size)
    (I : List α → World → Prop) (Ix : Code → List α → World → Prop) (hI : FarX w.heap.size I) (hIx : ∀ c, FarX w.heap.size (Ix c)) (h0 : I [] w)
    (asg : Array Value → α → Nat → Array Value) (ob : α → Obj)
    (hassign : ∀ (l : Nat) (x : α) (W : World) (K : Act → World → Prop), K { tmps := asg a.tmps x W.heap.size, defers := [] } (W.alloc (ob x)) →
      assign.wpIn (Fence.wide.inRound l) 9 P (Exit.then K (fun _ _ _ => False)) { tmps := (ps.zip (encs x)).foldl (fun t (p, v) => t.setIfInBounds p v) a.tmps, defers := [] } W)
    (hbody : ∀ (l : Nat) (pre : List α) (x : α) (post : List α) (Bx : Nat) (W : World), L = pre ++ x :: post → w.heap.size + 2 ≤ Bx → W.heap[Bx]? = some (ob x) → I pre W →
      body.wpIn (Fence.wide.inRound l) 9 P (postX X I Ix (pre ++ [x]) W) { tmps := asg a.tmps x Bx, defers := [] } W)
    (hdone : ∀ (D : Nat) (W : World), w.heap.size ≤ D → I L W → W.heap[D]? = some (.deferred (some [])) → Q .normal { a with defers := { target := .collected D, args := #[] } :: a.defers } W)
    (hstop : ∀ (D : Nat) (c : Code) (pre : List α) (W : World), w.heap.size ≤ D → pre <+: L → Ix c pre W → W.heap[D]? = some (.deferred (some [])) → c.wp P Q { a with defers := { target := .collected D, args := #[] } :: a.defers } W) :
    (Code.rangeFunc g ps assign body).wp P Q a w :=
  rangeX hg eg X hX hseq hps I Ix hI hIx h0 (fun x a' W => ∃ Bx, w.heap.size + 2 ≤ Bx ∧ W.heap[Bx]? = some (ob x) ∧ a' = { tmps := asg a.tmps x Bx, defers := [] })
    (fun x a' A B ⟨Bx, h1, h2, h3⟩ hk => ⟨Bx, h1, (hk.block Bx (Array.getElem?_eq_some_iff.1 h2).1 (by omega)).trans h2, h3⟩)
    (fun l pre x post W K _ hs _ hK => hassign l x W K (hK _ _ ((Below.refl _ _).alloc (Nat.le_refl _) _) ⟨W.heap.size, hs, heap_alloc_last W _, rfl⟩))
    (fun l pre x post a' W hL hs hi ⟨Bx, h1, h2, e⟩ => by subst e; exact hbody l pre x post Bx W hL h1 h2 hi) hdone hstop

theorem eqCol (a b c d : Int) (w : World) : (Op.equalIn 10000 149 (.agg #[.int .u64 a, .int .u64 b]) (.agg #[.int .u64 c, .int .u64 d])).run Tryd.prog w = .ok (a == c && b == d) w := by
  have h : (Tryd.prog.info? 41).isSome = true := by kernel_rfl
  obtain ⟨i, hi⟩ := Option.isSome_iff_exists.1 h
  have c1 : Tryd.prog.cellsOf 41 = 1 := by kernel_rfl
  rw [run_equalIn_array w 9999 _ _ Tryd.underlying149 hi, c1]
  have r2 : List.range 2 = [0, 1] := rfl
  rw [r2]
  have hq : ∀ (a b : Int) (w : World), (Op.equalIn 9999 41 (.int .u64 a) (.int .u64 b)).run Tryd.prog w = .ok (a == b) w := fun a b w => run_equalIn_int w 9998 _ _ .u64 a b Tryd.underlying41
  have hp : ∀ (x0 x1 : Int) (w : World), (part 41 #[.int .u64 x0, .int .u64 x1] (0 * 1)).run Tryd.prog w = .ok (.int .u64 x0) w ∧ (part 41 #[.int .u64 x0, .int .u64 x1] (1 * 1)).run Tryd.prog w = .ok (.int .u64 x1) w :=
    fun _ _ _ => ⟨by kernel_rfl, by kernel_rfl⟩
  simp only [Op.eqItems, Sem.run_bind, (hp _ _ _).1, (hp _ _ _).2, Result.andThen_ok, hq, Sem.run_ite, Sem.run_pure]
  cases h0 : a == c <;> cases h1 : b == d <;> simp
end Go.Proofs.YtciodcknobccdaaDoor

namespace Go.Proofs.YtciodcknobccdaaDoor
open Go.RowKit
set_option linter.unusedVariables false
set_option linter.unusedSimpArgs false

/-- The words are those of the set f. -/
structure RowsOK (f : Nat → Bool) (G : Nat → Nat) : Prop where
  word : ∀ j, W64 (G j)
  high : ∀ i, i < 80 → G (i * 2 + 1) < 65536
  bits : ∀ i, i < 80 → ∀ c : Nat, c < 80 → colB (G (i * 2)) (G (i * 2 + 1)) c = hasB f ((c : Int) - 40) ((i : Int) - 40)

theorem runsTo_row {f : Nat → Bool} {y z : Int} (h : ∀ x, hasB f x y = hasB f x z) : ∀ n, runsTo f y n = runsTo f z n
  | 0 => rfl
  | n + 1 => by
    have e : chg f (-40 + (n : Int)) y = chg f (-40 + (n : Int)) z := by unfold chg; rw [h, h]
    rw [runsTo, runsTo, runsTo_row h n, e]
theorem runsL_row {f : Nat → Bool} {y z : Int} (h : ∀ x, hasB f x y = hasB f x z) : runsL f y = runsL f z := runsTo_row h 81

theorem tb0 {a n c : Nat} (h : a < 2 ^ n) (hn : n ≤ c) : a.testBit c = false := Nat.testBit_lt_two_pow (Nat.lt_of_lt_of_le h (Nat.pow_le_pow_right (by decide) hn))
theorem rows_eq {f : Nat → Bool} {G : Nat → Nat} (h : RowsOK f G) {i t : Nat} (hi : i < 80) (ht : t < 80) :
    (G (t * 2) = G (i * 2) ∧ G (t * 2 + 1) = G (i * 2 + 1)) ↔ runsL f ((t : Int) - 40) = runsL f ((i : Int) - 40) := by
  constructor
  · rintro ⟨e1, e2⟩
    refine runsL_row fun x => ?_
    by_cases hx : -40 ≤ x ∧ x ≤ 39
    · have h1 := h.bits t ht (x + 40).toNat (by omega)
      have h2 := h.bits i hi (x + 40).toNat (by omega)
      rw [e1, e2, h2] at h1
      rw [show (((x + 40).toNat : Nat) : Int) - 40 = x by omega] at h1
      exact h1.symm
    · rw [hasB_out (by omega), hasB_out (by omega)]
  · intro e
    have hb : ∀ c : Nat, c < 80 → colB (G (t * 2)) (G (t * 2 + 1)) c = colB (G (i * 2)) (G (i * 2 + 1)) c := fun c hc => by
      rw [h.bits t ht c hc, h.bits i hi c hc, ← inP_runs f _ _ (by omega) (by omega), ← inP_runs f _ _ (by omega) (by omega), e]
    constructor
    · apply Nat.eq_of_testBit_eq
      intro c
      by_cases hc : c < 64
      · have := hb c (by omega)
        unfold colB at this
        rwa [if_pos hc, if_pos hc] at this
      · rw [tb0 (n := 64) (h.word _) (by omega), tb0 (n := 64) (h.word _) (by omega)]
    · apply Nat.eq_of_testBit_eq
      intro c
      by_cases hc : c < 16
      · have := hb (c + 64) (by omega)
        unfold colB at this
        rwa [if_neg (by omega), if_neg (by omega), Nat.add_sub_cancel] at this
      · rw [tb0 (n := 16) (h.high t ht) (by omega), tb0 (n := 16) (h.high i hi) (by omega)]

theorem getD_some {l : List R4} {j : Nat} {r : R4} (h : l[j]? = some r) : l = l.take j ++ r :: l.drop (j + 1) := by
  obtain ⟨hj, e⟩ := List.getElem?_eq_some_iff.1 h
  rw [← e, List.getElem_cons_drop, List.take_append_drop]
end Go.Proofs.YtciodcknobccdaaDoor

namespace Go.Proofs.YtciodcknobccdaaDoor
open Go.RowKit
set_option linter.unusedVariables false
set_option linter.unusedSimpArgs false

section
variable {F : Fence} {n : Nat} {P : Program} {ops : Array Oper} {Q : Exit → Act → World → Prop} {md : Region.Mode} {S : World → Prop}

/-- No operation is a defer statement. -/
def noDef (ops : Array Oper) : Bool := ops.all fun o => match o.op with | .defer _ => false | _ => true
theorem noDef_sem {l : Nat} (h : noDef ops = true) {j : Nat} {o : Oper} (hj : ops[j]? = some o) (ρ : Operand → Value) : o.semAt (some l) ρ = execOp ρ o := by
  refine Oper.semAt_some l ρ o fun c hc => ?_
  have := (Array.all_eq_true_iff_forall_mem.1 h) o (Array.mem_of_getElem? hj)
  rw [hc] at this
  simp at this

/-- o yields v in every world of S, and calls nothing. -/
def YieldsR (P : Program) (ops : Array Oper) (S : World → Prop) (o : Oper) (v : Value) (a : Act) : Prop :=
  ((Region.wanted o (yielded ops a.tmps) = true ∧ ∀ w, S w → (execOp a.eval o).run P w = .ok (.value v) w) ∨ (Region.wanted o (yielded ops a.tmps) = false ∧ v = undef)) ∧ ∀ w, o.about P w a.eval = none
theorem YieldsR.of_same {o : Oper} {v : Value} {a a' : Act} (hy : YieldsR P ops S o v a) (he : execOp a'.eval o = execOp a.eval o)
    (hw : Region.wanted o (yielded ops a'.tmps) = Region.wanted o (yielded ops a.tmps)) (hb : ∀ w, o.about P w a'.eval = o.about P w a.eval) : YieldsR P ops S o v a' :=
  ⟨by rw [hw, he]; exact hy.1, fun w => by rw [hb]; exact hy.2 w⟩
theorem YieldsR.wpOp {i : Nat} {o : Oper} {v : Value} {a : Act} (hs : ∀ ρ, o.semAt F.round ρ = execOp ρ o) (hi : ops[i]? = some o) (hy : YieldsR P ops S o v a)
    {K : Act → World → Prop} {w : World} (hS : S w) (h : K (a.put o.dst v) w) : wpOpIn F n P ops Q i K a w := by
  unfold wpOpIn
  have hab : ∀ f, o.about P w a.eval = some f → F.fn f := fun f hf => by rw [hy.2 w] at hf; cases hf
  rcases hy.1 with ⟨h1, h2⟩ | ⟨h1, rfl⟩
  · simp only [hi, h1, if_true, Oper.wpIn, hs, h2 w hS, Oper.uponIn]
    exact ⟨hab, h⟩
  · simp only [hi, h1, Bool.false_eq_true, if_false]
    exact ⟨hab, h⟩

theorem wpOp_putR {j : Nat} {oi oj : Oper} {v : Value} (hs : ∀ ρ, oj.semAt F.round ρ = execOp ρ oj) (hj : ops[j]? = some oj) (hap : oi.apart ops oj = true)
    (hsi : ∀ cs b, oi.op ≠ .select cs b) (hsj : ∀ cs b, oj.op ≠ .select cs b)
    (hQ : ∀ c a w, Q (.panic c) (a.put oi.dst v) w → Q (.panic c) a w) {K : Act → World → Prop} {a : Act} {w : World}
    (hy : YieldsR P ops S oi v a) (h : wpOpIn F n P ops Q j K (a.put oi.dst v) w) :
    wpOpIn F n P ops Q j (fun a' w' => YieldsR P ops S oi v a' ∧ K (a'.put oi.dst v) w') a w := by
  obtain ⟨h1, h2, h3⟩ := Oper.apart_spec hap
  have keep : ∀ (a : Act), YieldsR P ops S oi v a → ∀ u, YieldsR P ops S oi v (a.put oj.dst u) := fun a hy u =>
    hy.of_same (execOp_put oi hsi a oj.dst u h3) (wanted_put oi a oj.dst u h3) (fun w => about_put oi w a oj.dst u h3)
  have keepD : ∀ d, YieldsR P ops S oi v { a with defers := d :: a.defers } := fun d => hy.of_same rfl rfl (fun _ => rfl)
  unfold wpOpIn at *
  simp only [hj] at *
  rw [wanted_put oj a oi.dst v h1, about_put oj w a oi.dst v h1] at h
  split
  · rename_i hw
    simp only [hw, if_true] at h
    unfold Oper.wpIn at *
    rw [about_put oj w a oi.dst v h1] at h
    refine ⟨h.1, ?_⟩
    have h := h.2
    rw [hs, execOp_put oj hsj a oi.dst v h1] at h
    rw [hs]
    generalize (execOp a.eval oj).run P w = r at *
    cases r with
    | ok x w' =>
      cases x <;> simp only [Oper.uponIn] at h ⊢
      case value u => exact ⟨keep a hy u, by rw [← Act.put_comm a v u h2]; exact h⟩
      case skip => exact ⟨keep a hy _, by rw [← Act.put_comm a v undef h2]; exact h⟩
      case defer d =>
        refine ⟨keep _ (keepD d) _, ?_⟩
        rw [← Act.put_comm _ v undef h2, ← Act.put_defers]
        exact h
      case enter f args =>
        refine ⟨h.1, CallsIn.mono h.2 fun e w'' he => ?_⟩
        cases e with
        | returned u => exact ⟨keep a hy u, by rw [← Act.put_comm a v u h2]; exact he⟩
        | panicked c => exact hQ _ _ _ he
        | outgrown => exact he
      case row row args => exact ⟨h.1, RowsIn.mono h.2 fun u w'' he => ⟨keep a hy u, by rw [← Act.put_comm a v u h2]; exact he⟩⟩
      case round l f tmps assign body =>
        refine ⟨h.1, RoundIn.mono h.2 fun e w'' he => ?_⟩
        cases e with
        | returned u => exact ⟨keep a hy u, by rw [← Act.put_comm a v u h2]; exact he⟩
        | panicked c => exact hQ _ _ _ he
        | outgrown => exact he
    | halt x w' =>
      cases x <;> simp only [Oper.uponIn] at h ⊢
      case panic u => exact hQ _ _ _ h
  · rename_i hw
    simp only [hw] at h
    exact ⟨h.1, keep a hy _, by rw [← Act.put_comm a v undef h2]; exact h.2⟩

/-- Whatever order is picked, and S holds behind each operation. -/
def wpAnyR (F : Fence) (n : Nat) (P : Program) (md : Region.Mode) (ops : Array Oper) (Q : Exit → Act → World → Prop) (S : World → Prop) : Nat → Array Bool → Act → World → Prop
  | 0, listed, a, w => Region.ready md ops listed = [] ∧ Q .normal a w
  | fuel + 1, listed, a, w =>
    (Region.ready md ops listed = [] → Q .normal a w) ∧
    ∀ i ∈ Region.ready md ops listed, wpOpIn F n P ops Q i (fun a' w' => S w' ∧ wpAnyR F n P md ops Q S fuel (listed.setIfInBounds i true) a' w') a w
theorem wpAny_of_R : ∀ (fuel : Nat) (listed : Array Bool) (a : Act) (w : World), wpAnyR F n P md ops Q S fuel listed a w → wpAnyIn F n P md ops Q fuel listed a w
  | 0, _, _, _, h => h
  | fuel + 1, _, _, _, h => ⟨h.1, fun i hi => wpOpIn_mono (fun a' w' h' => wpAny_of_R fuel _ a' w' h'.2) (h.2 i hi)⟩

theorem wpAnyR_first {i : Nat} {oi : Oper} {v : Value} (hs : ∀ (j : Nat) (o : Oper), ops[j]? = some o → ∀ ρ, o.semAt F.round ρ = execOp ρ o) (hi : ops[i]? = some oi)
    (hsel : ∀ (j : Nat) (o : Oper) cs b, ops[j]? = some o → o.op ≠ .select cs b) (hQ : ∀ c a w, Q (.panic c) (a.put oi.dst v) w → Q (.panic c) a w) :
    ∀ (fuel : Nat) (listed : Array Bool) (a : Act) (w : World),
      (∀ j oj, ops[j]? = some oj → j ≠ i → listed.getD j true = false → (∀ e ∈ oj.after, Region.binds md e = true → e.on ≠ i) → oi.apart ops oj = true) →
      i ∈ Region.ready md ops listed → YieldsR P ops S oi v a → S w →
      wpAnyR F n P md ops Q S fuel (listed.setIfInBounds i true) (a.put oi.dst v) w → wpAnyR F n P md ops Q S (fuel + 1) listed a w := by
  intro fuel
  induction fuel with
  | zero =>
    intro listed a w _ hr hy hS H
    refine ⟨fun h => (by rw [h] at hr; cases hr), fun j hj => ?_⟩
    by_cases hji : j = i
    · subst hji; exact hy.wpOp (hs _ _ hi) hi hS ⟨hS, H⟩
    · have := ready_mono hj hji
      rw [H.1] at this
      cases this
  | succ fuel ih =>
    intro listed a w hfree hr hy hS H
    refine ⟨fun h => (by rw [h] at hr; cases hr), fun j hj => ?_⟩
    by_cases hji : j = i
    · subst hji; exact hy.wpOp (hs _ _ hi) hi hS ⟨hS, H⟩
    · have h1 := H.2 j (ready_mono hj hji)
      obtain ⟨hjun, oj, hoj, hall⟩ := mem_ready.1 hj
      have hnot : ∀ e ∈ oj.after, Region.binds md e = true → e.on ≠ i := fun e he hb heq => by
        have h1 := hall e he hb
        have h0 := (mem_ready.1 hr).1
        rw [heq] at h1
        rcases Nat.lt_or_ge i listed.size with h' | h'
        · simp [h'] at h0 h1; rw [h0] at h1; cases h1
        · simp [Array.getElem?_eq_none h'] at h1
      have h2 := wpOp_putR (hs _ _ hoj) hoj (hfree j oj hoj hji hjun hnot) (fun cs b => hsel i oi cs b hi) (fun cs b => hsel j oj cs b hoj) hQ hy h1
      have hfree' : ∀ k ok, ops[k]? = some ok → k ≠ i → (listed.setIfInBounds j true).getD k true = false →
          (∀ e ∈ ok.after, Region.binds md e = true → e.on ≠ i) → oi.apart ops ok = true := fun k ok hk hki hun hno => by
        refine hfree k ok hk hki ?_ hno
        by_cases hjk : j = k
        · subst hjk; exact hjun
        · rw [getD_set_ne true hjk] at hun; exact hun
      refine wpOpIn_mono (fun a' w' h3 => ⟨h3.2.1, ih (listed.setIfInBounds j true) a' w' hfree' (ready_mono hr (Ne.symm hji)) h3.1 h3.2.1 ?_⟩) h2
      rw [Array.setIfInBounds_comm _ _ hji]
      exact h3.2.2

/-- Operation i first. -/
theorem takeR {l : Nat} {i : Nat} {oi : Oper} {fuel : Nat} {listed : Array Bool} {a : Act} {w : World} (v : Value) (hi : ops[i]? = some oi) (hd : noDef ops = true)
    (hs : Region.noSelect ops = true) (hf : Region.free md ops listed i = true) (hr : (Region.ready md ops listed).contains i = true)
    (hQ : ∀ c a w, Q (.panic c) (a.put oi.dst v) w → Q (.panic c) a w) (hw : Region.wanted oi (yielded ops a.tmps) = true) (hy : ∀ w, S w → (execOp a.eval oi).run P w = .ok (.value v) w) (hb : ∀ w, oi.about P w a.eval = none) (hS : S w)
    (h : wpAnyR (Fence.wide.inRound l) n P md ops Q S fuel (listed.setIfInBounds i true) (a.put oi.dst v) w) : wpAnyR (Fence.wide.inRound l) n P md ops Q S (fuel + 1) listed a w :=
  wpAnyR_first (fun j o hj ρ => noDef_sem hd hj ρ) hi (Region.noSelect_spec hs) hQ fuel listed a w (Region.free_spec hi hf) (by simpa using hr) ⟨.inl ⟨hw, hy⟩, hb⟩ hS h
/-- Operation i, which its guard passes over. -/
theorem passR {l : Nat} {i : Nat} {oi : Oper} {fuel : Nat} {listed : Array Bool} {a : Act} {w : World} (hi : ops[i]? = some oi) (hd : noDef ops = true)
    (hs : Region.noSelect ops = true) (hf : Region.free md ops listed i = true) (hr : (Region.ready md ops listed).contains i = true)
    (hQ : ∀ c a w, Q (.panic c) (a.put oi.dst undef) w → Q (.panic c) a w) (hw : Region.wanted oi (yielded ops a.tmps) = false) (hb : ∀ w, oi.about P w a.eval = none) (hS : S w)
    (h : wpAnyR (Fence.wide.inRound l) n P md ops Q S fuel (listed.setIfInBounds i true) (a.put oi.dst undef) w) : wpAnyR (Fence.wide.inRound l) n P md ops Q S (fuel + 1) listed a w :=
  wpAnyR_first (fun j o hj ρ => noDef_sem hd hj ρ) hi (Region.noSelect_spec hs) hQ fuel listed a w (Region.free_spec hi hf) (by simpa using hr) ⟨.inr ⟨hw, rfl⟩, hb⟩ hS h
/-- The one operation that may come up. -/
theorem oneR {i : Nat} {fuel : Nat} {listed : Array Bool} {a : Act} {w : World} (hr : Region.ready md ops listed = [i])
    (h : wpOpIn F n P ops Q i (fun a' w' => S w' ∧ wpAnyR F n P md ops Q S fuel (listed.setIfInBounds i true) a' w') a w) : wpAnyR F n P md ops Q S (fuel + 1) listed a w :=
  ⟨fun h0 => (by rw [hr] at h0; cases h0), fun j hj => (by rw [hr] at hj; rw [List.mem_singleton.1 hj]; exact h)⟩
theorem doneR {listed : Array Bool} {a : Act} {w : World} (hr : Region.ready md ops listed = []) (h : Q .normal a w) : ∀ fuel, wpAnyR F n P md ops Q S fuel listed a w
  | 0 => ⟨hr, h⟩
  | _ + 1 => ⟨fun _ => h, by rw [hr]; simp⟩
theorem regionR {id : Nat} {a : Act} {w : World} (hm : P.follows .mixedOrders = true)
    (h : wpAnyR F n P .any ops Q S ops.size (Array.replicate ops.size false) a w.drew) : (Code.region id ops true).wpIn F n P Q a w :=
  wpIn_region_any hm (wpAny_of_R _ _ _ _ h)
end
end Go.Proofs.YtciodcknobccdaaDoor
