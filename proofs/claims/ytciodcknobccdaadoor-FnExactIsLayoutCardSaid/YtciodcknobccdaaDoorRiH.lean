/- slices.Chunk in pairs, as an iterator. Conditions: the slice's length is even; its box is kept by the rounds. -/
import Derived.Test.YtciodcknobccdaaDoorRiG
import Derived.Test.YtciodcknobccdaaDoorRiV
namespace Go.Proofs.YtciodcknobccdaaDoor
open Go.RowKit Go.Shelf
set_option linter.unusedVariables false
set_option linter.unusedSimpArgs false
attribute [local go_sem] Oper.semAt_some

theorem chunk_any (a : Option Addr) (n c : Nat) (w : World) :
    Calls Tryd.prog 153 #[.slice a n c, .int .i64 2] w fun e w' => e = .returned (.func (.func 170) #[] #[.pointer (some ⟨w.heap.size, 0, none⟩), .pointer (some ⟨w.heap.size + 1, 0, none⟩)]) ∧ w' = (w.alloc (.cells #[.slice a n c] 29)).alloc (.cells #[.int .i64 2] 3) := by
  have hmf : ∀ (fn : Fn) (first cap : Array Value) (w : World), (Instr.makeFunc fn first cap).run Tryd.prog w = .ok (.func fn first cap) w := fun _ _ _ _ => rfl
  go_enter Tryd.func153, Tryd.ntmps153
  go_wp2
  go_ret
  exact ⟨rfl, rfl⟩

/-- What pair i of a row is. -/
def pairV (h i : Nat) : Value := .slice (some ⟨h, i * 2, none⟩) 2 2

theorem range_split {m i : Nat} (h : i < m) : List.range m = List.range i ++ i :: (List.range (m - i - 1)).map (fun k => i + 1 + k) := by
  have e : m = (i + 1) + (m - i - 1) := by omega
  conv => lhs; rw [e, List.range_add, List.range_succ]
  simp

set_option maxRecDepth 100000 in
set_option maxHeartbeats 4000000 in
theorem chunk_seqU (X : Nat → Prop) (N : Nat) (U : TypeId → Prop) (B0 B1 h m n c : Nat) (W : World) (hn : n = m * 2) (h0 : W.cell? ⟨B0, 0, none⟩ = some (.slice (some ⟨h, 0, none⟩) n c)) (h1 : W.cell? ⟨B1, 0, none⟩ = some (.int .i64 2)) (x0 : ¬ Ex X N U W B0) (x1 : ¬ Ex X N U W B1) (hm : m ≤ 1000) (hc : n ≤ c) :
    SeqU Tryd.prog 170 #[.pointer (some ⟨B0, 0, none⟩), .pointer (some ⟨B1, 0, none⟩)] (fun i : Nat => #[pairV h i]) X N U (fun _ => False) (List.range m) W := by
  intro l J Jx hJ hJx hY hJ0
  have HN := Lib.hid hn
  have hn2 : n ≤ 2000 := by omega
  clear hn
  refine (callsIn_wide (n := 9)).1 (callsIn_of_wp Tryd.func170 rfl trivial ?_ rfl)
  simp only [Tryd.ntmps170, List.size_toArray, List.length_cons, List.length_nil, Nat.reduceAdd, Nat.reduceSub, Array.replicate_succ, Array.replicate_zero, List.push_toArray, List.append_toArray, List.nil_append, List.cons_append]
  gi_wp2
  gi_loopw [4] (fun s wr => ∃ i p : Nat, i ≤ m ∧ Hid (p = i * 2) ∧ s = .int .i64 (p : Int) ∧ J (List.range i) wr ∧ W.heap.size ≤ wr.heap.size ∧ wr.cell? ⟨B0, 0, none⟩ = some (.slice (some ⟨h, 0, none⟩) n c) ∧ wr.cell? ⟨B1, 0, none⟩ = some (.int .i64 2) ∧ Hid (wr.heap[B0]? = W.heap[B0]?) ∧ Hid (wr.heap[B1]? = W.heap[B1]?)) (fun s _ => n - (intOf s).toNat)
  case atStart => exact ⟨0, 0, by omega, Lib.hid rfl, rfl, hJ0, Nat.le_refl _, h0, h1, Lib.hid rfl, Lib.hid rfl⟩
  case round =>
    obtain ⟨i, p, hi, HP, rfl, hJi, hsz, c0, c1, E0, E1⟩ := hrel
    have X0 := Lib.hid (Ex.not_eq x0 E0.out)
    have X1 := Lib.hid (Ex.not_eq x1 E1.out)
    by_cases hlt : i < m
    · have hpn : p + 2 ≤ n := by have := HP.out; have := HN.out; omega
      obtain ⟨fn, tmps, assign, body, hy, hR⟩ := hY _ _ _ wr.drew (range_split hlt) (hJ _ _ _ hJi (StepX.drew _)) hsz 8
      unfold pairV at hy
      rw [← HP.out] at hy
      have q1 : (p : Int) < (n : Int) := by omega
      have q2 : (0 : Int) ≤ (p : Int) := by omega
      have q3 : (p : Int) ≤ (n : Int) := by omega
      have q4 : (n : Int) ≤ (c : Int) := by omega
      have q5 : (p : Int) ≤ (c : Int) := by omega
      have q6 : (p : Int) + 2 ≤ (c : Int) := by omega
      have q7 : (p : Int) ≤ (p : Int) + 2 := by omega
      have q8 : min (2 : Int) ((n - p : Nat) : Int) = 2 := by omega
      have q9 : IntKind.i64.wrap ((p : Int) + 2) = (p : Int) + 2 := by rw [IntKind.wrap_i64]; omega
      have q10 : p ≠ c := by omega
      gi_wp2
      refine wpIn_wide.2 ?_
      go_region
      all_goals gi_wp2
      refine hR.mono ?_
      rintro e W3 (⟨rfl, hJ3, hk3⟩ | ⟨rfl, hJx3, -⟩)
      · have d0 : W3.cell? ⟨B0, 0, none⟩ = some (.slice (some ⟨h, 0, none⟩) n c) := (hk3.cell (p := ⟨B0, 0, none⟩) (World.block_lt_of_cell? wr ⟨B0, 0, none⟩ c0) X0.out).trans c0
        have d1 : W3.cell? ⟨B1, 0, none⟩ = some (.int .i64 2) := (hk3.cell (p := ⟨B1, 0, none⟩) (World.block_lt_of_cell? wr ⟨B1, 0, none⟩ c1) X1.out).trans c1
        have d2 := Lib.hid ((hk3.block B0 (World.block_lt_of_cell? wr ⟨B0, 0, none⟩ c0) X0.out).trans E0.out)
        have d3 := Lib.hid ((hk3.block B1 (World.block_lt_of_cell? wr ⟨B1, 0, none⟩ c1) X1.out).trans E1.out)
        gi_wp2
        go_roundw
        case rel => exact ⟨i + 1, p + 2, hlt, Lib.hid (by have := HP.out; omega), by go_num, by rw [List.range_succ]; exact hJ3, Nat.le_trans hsz hk3.size, d0, d1, d2, d3⟩
        case measure => simp [intOf]; omega
      · gi_wp2
        refine bodyPost_ret (results_none rfl _ _ _) rfl ?_
        exact ⟨⟨_, rfl⟩, .inr ⟨_, ⟨_, by rw [List.append_assoc]; exact (range_split hlt).symm⟩, hJx3⟩⟩
    · have q1 : ¬ (p : Int) < (n : Int) := by have := HP.out; have := HN.out; omega
      obtain rfl : i = m := by omega
      gi_wp2
      go_end0
      exact ⟨⟨_, rfl⟩, .inl hJi⟩
theorem chunk_seqY (X : Nat → Prop) (B0 B1 h m n c : Nat) (W : World) (hn : n = m * 2) (h0 : W.cell? ⟨B0, 0, none⟩ = some (.slice (some ⟨h, 0, none⟩) n c)) (h1 : W.cell? ⟨B1, 0, none⟩ = some (.int .i64 2)) (x0 : ¬ X B0) (x1 : ¬ X B1) (hm : m ≤ 1000) (hc : n ≤ c) :
    SeqY Tryd.prog 170 #[.pointer (some ⟨B0, 0, none⟩), .pointer (some ⟨B1, 0, none⟩)] (fun i : Nat => #[pairV h i]) X (fun _ => False) (List.range m) W :=
  (chunk_seqU X 0 (fun _ => False) B0 B1 h m n c W hn h0 h1 (Ex.not_type x0 (fun _ _ _ h => h)) (Ex.not_type x1 (fun _ _ _ h => h)) hm hc).toY
theorem chunk_seq (X : Nat → Prop) (B0 B1 h m n c : Nat) (W : World) (hn : n = m * 2) (h0 : W.cell? ⟨B0, 0, none⟩ = some (.slice (some ⟨h, 0, none⟩) n c)) (h1 : W.cell? ⟨B1, 0, none⟩ = some (.int .i64 2)) (x0 : ¬ X B0) (x1 : ¬ X B1) (hm : m ≤ 1000) (hc : n ≤ c) :
    SeqX Tryd.prog 170 #[.pointer (some ⟨B0, 0, none⟩), .pointer (some ⟨B1, 0, none⟩)] (fun i : Nat => #[pairV h i]) X (List.range m) W :=
  (chunk_seqY X B0 B1 h m n c W hn h0 h1 x0 x1 hm hc).toX
end Go.Proofs.YtciodcknobccdaaDoor
