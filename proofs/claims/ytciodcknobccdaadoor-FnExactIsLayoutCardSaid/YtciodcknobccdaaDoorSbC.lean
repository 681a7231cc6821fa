/- The program's table of Boolean operations. No condition. -/
import Derived.Test.YtciodcknobccdaaDoorRiC
import Derived.Test.YtciodcknobccdaaDoorRiP
import Derived.StillTailTactics
import Derived.Shelf.Spec.SlicesInsert
import Derived.Test.YtciodcknobccdaaDoorSbA
import Derived.Test.YtciodcknobccdaaDoorRiT
namespace Go.Proofs.YtciodcknobccdaaDoor
open Go.RowKit Go.Lib
set_option linter.unusedVariables false
set_option linter.unusedSimpArgs false

theorem run_store_fn {P : Program} {w : World} {a : Addr} {m : Mode} (f : Fn) (c b : Array Value) : (store a (.func f c b) m).run P w = stored P w a (.func f c b) m := run_store P w a _ m rfl
attribute [local go_sem] run_store_fn
/-- A function of the table, and whether the first operand's rows stay. -/
abbrev fnV (f : Nat) : Value := .func (.func f) #[] #[]
end Go.Proofs.YtciodcknobccdaaDoor

/- The program's sweep of the rows of a region over a set. Conditions: the elements' cells are in memory, the rectangles are valid. -/
namespace Go.Proofs.YtciodcknobccdaaDoor
open Go.RowKit Go.Shelf
set_option linter.unusedVariables false
set_option linter.unusedSimpArgs false
attribute [local go_sem] Oper.semAt_some run_store_fn
/-- A function of the table and what it does to words. -/
structure CombF (f : Nat) (cw : Nat → Nat → Nat) : Prop where
  ent : ∀ args w, (callFunc f args).run Tryd.prog w = .ok (.enter f args) w
  call : ∀ (a b c d : Nat) (w : World), W64 a → W64 b → W64 c → W64 d → Calls Tryd.prog f #[colV a b, colV c d] w fun e w' => e = .returned (colV (cw a c) (cw b d)) ∧ Below w.heap.size w w'
  word : ∀ a c, W64 a → W64 c → W64 (cw a c)
def setR (H : Nat → Nat) (i A B : Nat) : Nat → Nat := upd (upd H (i * 2) A) (i * 2 + 1) B
/-- The words that a sweep begins with. -/
def swH (kf : Bool) (G : Nat → Nat) : Nat → Nat := if kf = true then G else fun _ => 0
/-- The words that a sweep makes. -/
def swG (cw : Nat → Nat → Nat) (H G : Nat → Nat) (L : List RowE) : Nat → Nat := L.foldl (fun H e => setR H (e.1 + 40).toNat (cw (G ((e.1 + 40).toNat * 2)) e.2.1) (cw (G ((e.1 + 40).toNat * 2 + 1)) e.2.2)) H
theorem swG_snoc (cw : Nat → Nat → Nat) (H G : Nat → Nat) (L : List RowE) (e : RowE) : swG cw H G (L ++ [e]) = setR (swG cw H G L) (e.1 + 40).toNat (cw (G ((e.1 + 40).toNat * 2)) e.2.1) (cw (G ((e.1 + 40).toNat * 2 + 1)) e.2.2) := by unfold swG; rw [List.foldl_append]; rfl
theorem results_one {fn : Func} {p : Tmp} {ty : TypeId} (h : fn.results = #[.cell p ty]) (tmps : Array Value) (P : Program) (w : World) :
    (results fn tmps).run P w = ((asAddr (tmps.getD p undef)).run P w).andThen fun a w₁ => (loadVar ty a).run P w₁ := by
  simp only [results, h]
  simp [Sem.run_bind, Result.andThen]
end Go.Proofs.YtciodcknobccdaaDoor

/- What a sweep makes of two sets: the words of the combined set. No run. -/
namespace Go.Proofs.YtciodcknobccdaaDoor
open Go.RowKit
set_option linter.unusedVariables false
set_option linter.unusedSimpArgs false

/-- The words' operation is the truth table's. -/
structure CombOK (op : Nat) (cw : Nat → Nat → Nat) (kf : Bool) : Prop where
  bit : ∀ a c i, W64 a → W64 c → i < 64 → (cw a c).testBit i = tt op (a.testBit i) (c.testBit i)
  high : ∀ a c, a < 65536 → c < 65536 → cw a c < 65536
  word : ∀ a c, W64 a → W64 c → W64 (cw a c)
  keep : ∀ x, tt op x false = (kf && x)
theorem combOr : CombOK 14 (fun a c => a ||| c) true :=
  ⟨fun a c i _ _ _ => by rw [Nat.testBit_or]; cases a.testBit i <;> cases c.testBit i <;> rfl, fun a c ha hc => Nat.or_lt_two_pow (n := 16) ha hc, fun a c ha hc => Nat.or_lt_two_pow (n := 64) ha hc, fun x => by cases x <;> rfl⟩
theorem combAnd : CombOK 8 (fun a c => a &&& c) false :=
  ⟨fun a c i _ _ _ => by rw [Nat.testBit_and]; cases a.testBit i <;> cases c.testBit i <;> rfl, fun a c ha hc => Nat.lt_of_le_of_lt Nat.and_le_left ha, fun a c ha hc => Nat.lt_of_le_of_lt Nat.and_le_left ha, fun x => by cases x <;> rfl⟩
theorem combNot : CombOK 4 (fun a c => a &&& (18446744073709551615 - c)) true :=
  ⟨fun a c i _ hc hi => by
      have e : 18446744073709551615 - c = 2 ^ 64 - (c + 1) := by have : (2 : Nat) ^ 64 = 18446744073709551616 := rfl; omega
      rw [Nat.testBit_and, e, Nat.testBit_two_pow_sub_succ hc, decide_eq_true hi]
      cases a.testBit i <;> cases c.testBit i <;> rfl,
    fun a c ha hc => Nat.lt_of_le_of_lt Nat.and_le_left ha, fun a c ha hc => Nat.lt_of_le_of_lt Nat.and_le_left ha, fun x => by cases x <;> rfl⟩
theorem combXor : CombOK 6 (fun a c => a ^^^ c) true :=
  ⟨fun a c i _ _ _ => by rw [Nat.testBit_xor]; cases a.testBit i <;> cases c.testBit i <;> rfl, fun a c ha hc => Nat.xor_lt_two_pow (n := 16) ha hc, fun a c ha hc => Nat.xor_lt_two_pow (n := 64) ha hc, fun x => by cases x <;> rfl⟩
theorem comb_col {op : Nat} {cw : Nat → Nat → Nat} {kf : Bool} (h : CombOK op cw kf) {a b c d : Nat} (ha : W64 a) (hb : W64 b) (hc : W64 c) (hd : W64 d) {i : Nat} (hi : i < 80) : colB (cw a c) (cw b d) i = tt op (colB a b i) (colB c d i) := by
  unfold colB
  by_cases h6 : i < 64
  · rw [if_pos h6, if_pos h6, if_pos h6, h.bit a c i ha hc h6]
  · rw [if_neg h6, if_neg h6, if_neg h6, h.bit b d (i - 64) hb hd (by omega)]

theorem setR_even (H : Nat → Nat) (i A B k : Nat) : setR H i A B (k * 2) = if k = i then A else H (k * 2) := by
  unfold setR upd
  rw [if_neg (by omega)]
  by_cases h : k = i
  · subst h; simp
  · rw [if_neg (by omega), if_neg h]
theorem setR_odd (H : Nat → Nat) (i A B k : Nat) : setR H i A B (k * 2 + 1) = if k = i then B else H (k * 2 + 1) := by
  unfold setR upd
  by_cases h : k = i
  · subst h; simp
  · rw [if_neg (by omega), if_neg (by omega), if_neg h]
theorem setR_word {H : Nat → Nat} {i A B : Nat} (hH : ∀ j, W64 (H j)) (hA : W64 A) (hB : W64 B) : ∀ j, W64 (setR H i A B j) := fun j => by
  unfold setR upd
  split
  · exact hB
  · split
    · exact hA
    · exact hH _

theorem swG_ok {op : Nat} {cw : Nat → Nat → Nat} {kf : Bool} (hc : CombOK op cw kf) {G H : Nat → Nat} (hG : ∀ j, W64 (G j)) (hH : ∀ j, W64 (H j)) (gG : ∀ i, i < 80 → G (i * 2 + 1) < 65536) (gH : ∀ i, i < 80 → H (i * 2 + 1) < 65536) :
    ∀ (L : List RowE), (∀ e, e ∈ L → (-40 ≤ e.1 ∧ e.1 ≤ 39) ∧ W64 e.2.1 ∧ e.2.2 < 65536) →
    (∀ j, W64 (swG cw H G L j)) ∧ (∀ i, i < 80 → swG cw H G L (i * 2 + 1) < 65536) ∧
    ∀ i : Nat, (∃ e, e ∈ L ∧ e.1 = (i : Int) - 40 ∧ swG cw H G L (i * 2) = cw (G (i * 2)) e.2.1 ∧ swG cw H G L (i * 2 + 1) = cw (G (i * 2 + 1)) e.2.2) ∨ ((∀ e, e ∈ L → e.1 ≠ (i : Int) - 40) ∧ swG cw H G L (i * 2) = H (i * 2) ∧ swG cw H G L (i * 2 + 1) = H (i * 2 + 1)) := by
  intro L
  rw [← List.reverse_reverse L]
  generalize L.reverse = M
  induction M with
  | nil => intro _; exact ⟨hH, gH, fun i => .inr ⟨fun e he => by simp at he, rfl, rfl⟩⟩
  | cons e M ih =>
    rw [List.reverse_cons]
    generalize M.reverse = L at ih
    intro h
    obtain ⟨h1, h2, h3⟩ := ih fun e' he => h e' (by simp [he])
    obtain ⟨v1, v2, v3⟩ := h e (by simp)
    rw [swG_snoc]
    have v4 : W64 e.2.2 := by unfold W64; omega
    refine ⟨setR_word h1 (hc.word _ _ (hG _) v2) (hc.word _ _ (hG _) v4), fun i hi => ?_, fun i => ?_⟩
    · rw [setR_odd]
      split
      · rename_i hie
        rw [← hie]
        exact hc.high _ _ (gG i hi) v3
      · exact h2 i hi
    · rw [setR_even, setR_odd]
      by_cases hi : i = (e.1 + 40).toNat
      · rw [if_pos hi, if_pos hi, ← hi]
        exact .inl ⟨e, by simp, by omega, rfl, rfl⟩
      · rw [if_neg hi, if_neg hi]
        rcases h3 i with ⟨e', a, b⟩ | ⟨a, b⟩
        · exact .inl ⟨e', by simp [a], b⟩
        · refine .inr ⟨fun e' he' => ?_, b⟩
          rcases List.mem_append.1 he' with he' | he'
          · exact a e' he'
          · rw [List.mem_singleton.1 he']
            omega

/-- The words of the combined set. -/
theorem sweep_rows {op : Nat} {cw : Nat → Nat → Nat} {kf : Bool} (hc : CombOK op cw kf) {f : Nat → Bool} {G : Nat → Nat} (hf : RowsOK f G) {P Q R S : Nat → Int} {n : Nat} (hok : okR P Q R S n = true) :
    RowsOK (fun j => tt op (f j) (covF P Q R S n j)) (swG cw (swH kf G) G (rowsQ n P Q R S n)) := by
  unfold swH
  have hk := rowsQ_ok n P Q R S n (okR_all hok)
  have hH : ∀ j, W64 ((if kf = true then G else fun _ => 0) j) := fun j => by
    split
    · exact hf.word j
    · exact (show (0 : Nat) < 18446744073709551616 by decide)
  have gH : ∀ i, i < 80 → (if kf = true then G else fun _ => 0) (i * 2 + 1) < 65536 := fun i hi => by
    split
    · exact hf.high i hi
    · exact (show (0 : Nat) < 65536 by decide)
  obtain ⟨h1, h2, h3⟩ := swG_ok hc hf.word hH hf.high gH _ hk
  refine ⟨h1, h2, fun i hi c hcc => ?_⟩
  have hin : (-40 ≤ ((c : Int) - 40) ∧ ((c : Int) - 40) ≤ 39) ∧ (-40 ≤ ((i : Int) - 40) ∧ ((i : Int) - 40) ≤ 39) := by omega
  have hb := hf.bits i hi c hcc
  rw [hasB_in hin]
  rw [hasB_in hin] at hb
  rcases h3 i with ⟨e, he, e1, e2, e3⟩ | ⟨hno, e2, e3⟩
  · obtain ⟨v1, v2, v3⟩ := hk e he
    rw [e2, e3, comb_col hc (hf.word _) (hf.word _) v2 (by unfold W64; omega) hcc, hb, rowsQ_has hok e he c hcc, e1, hasB_in hin]
  · have hz := rowsQ_all hok ((i : Int) - 40) hno ((c : Int) - 40)
    rw [hasB_in hin] at hz
    rw [e2, e3, hz, hc.keep]
    cases kf with
    | true => rw [if_pos rfl, hb, Bool.true_and]
    | false => rw [if_neg (by simp), Bool.false_and]; simp [colB]

/-- The region of no unit cells. -/
theorem canonL_none : canonL (fun _ => false) = [] := by
  have hh : ∀ x y, hasB (fun _ => false) x y = false := fun x y => by unfold hasB; rw [Bool.and_false]
  have hr : ∀ y k, runsTo (fun _ => false) y k = [] := fun y k => by
    induction k with
    | zero => rfl
    | succ k ih => rw [runsTo, if_neg (by unfold chg; rw [hh, hh]; simp), ih]
  have hc : ∀ n y, canonF (fun _ => false) n y = [] := fun n => by
    induction n with
    | zero => intro y; rfl
    | succ n ih =>
      intro y
      rw [canonF]
      split
      · rw [show runsL (fun _ => false) y = [] from hr y 81, ih]; rfl
      · rfl
  exact hc 80 (-40)
theorem rows_none : RowsOK (fun _ => false) (fun _ => 0) := ⟨fun _ => by unfold W64; omega, fun _ _ => by omega, fun i hi c hc => by unfold hasB; rw [Bool.and_false]; simp [colB]⟩
end Go.Proofs.YtciodcknobccdaaDoor

/- The program's merge of operands. Conditions: the elements' cells are in memory; the variables that regions read hold their tables. -/
namespace Go.Proofs.YtciodcknobccdaaDoor
open Go.RowKit Go.Shelf
set_option linter.unusedVariables false
set_option linter.unusedSimpArgs false
attribute [local go_sem] Oper.semAt_some run_store_fn

/-- The lists of a list. -/
def ListsIs (B : Nat) (w : World) (m : Option Addr) (k : Nat) (a : Nat → Option Addr) (n c : Nat → Nat) (P Q R S : Nat → Nat → Int) : Prop :=
  ∀ i, i < k → (∃ b off, m = some ⟨b, off, none⟩ ∧ b < B ∧ w.cell? ⟨b, off + i, none⟩ = some (.slice (a i) (n i) (c i))) ∧ n i ≤ 1048576 ∧ n i ≤ c i ∧ RectsIs B w (a i) (n i) (P i) (Q i) (R i) (S i)
theorem ListsIs.below {B : Nat} {w w' : World} {m : Option Addr} {k : Nat} {a : Nat → Option Addr} {n c : Nat → Nat} {P Q R S : Nat → Nat → Int} (h : ListsIs B w m k a n c P Q R S) (hb : Below B w w') : ListsIs B w' m k a n c P Q R S := fun i hi => by
  obtain ⟨⟨b, off, h1, h2, h3⟩, h4, h5, h6⟩ := h i hi
  exact ⟨⟨b, off, h1, h2, (hb.cell (p := ⟨b, off + i, none⟩) h2).trans h3⟩, h4, h5, h6.below hb⟩
/-- Are the first lists regions? -/
def okA (n : Nat → Nat) (P Q R S : Nat → Nat → Int) : Nat → Bool
  | 0 => true
  | i + 1 => okA n P Q R S i && okR (P i) (Q i) (R i) (S i) (n i)
/-- The flags of the first lists' combination. -/
def mgA (op : Nat) (f : Nat → Bool) (n : Nat → Nat) (P Q R S : Nat → Nat → Int) : Nat → Nat → Bool
  | 0 => f
  | i + 1 => fun j => tt op (mgA op f n P Q R S i j) (covF (P i) (Q i) (R i) (S i) (n i) j)
theorem okA_f {n : Nat → Nat} {P Q R S : Nat → Nat → Int} {i : Nat} (h : okR (P i) (Q i) (R i) (S i) (n i) = false) : ∀ k, i < k → okA n P Q R S k = false
  | 0, hk => by omega
  | k + 1, hk => by
    rw [okA]
    by_cases e : i = k
    · subst e; rw [h, Bool.and_false]
    · rw [okA_f h k (by omega), Bool.false_and]

theorem combF_with : CombF 169 (fun a c => a ||| c) := ⟨enters_of Tryd.func169 (by kernel_rfl) rfl, fun a b c d w ha hb hc hd => with_any a b c d w ha hb hc hd, combOr.word⟩
theorem combF_without : CombF 182 (fun a c => a &&& (18446744073709551615 - c)) := ⟨enters_of Tryd.func182 (by kernel_rfl) rfl, fun a b c d w ha hb hc hd => without_any a b c d w ha hb hc hd, combNot.word⟩
theorem regG_ok {P Q R S : Nat → Int} {n : Nat} (h : okR P Q R S n = true) : RowsOK (covF P Q R S n) (regG P Q R S n) := by
  unfold regG
  rw [if_pos h]
  exact rows_of_list (Nat.le_refl _) (okR_all h)

end Go.Proofs.YtciodcknobccdaaDoor
