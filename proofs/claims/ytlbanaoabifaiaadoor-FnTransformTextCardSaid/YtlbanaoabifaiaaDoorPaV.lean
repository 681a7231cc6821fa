/- The model's reading of a decimal numeral. Condition: the text has at most 1000 bytes. -/
import Derived.Test.YtlbanaoabifaiaaDoorPaN
namespace Go.Proofs.YtlbanaoabifaiaaDoor
open Go.RowKit
set_option linter.unusedVariables false
set_option linter.unusedSimpArgs false

def pre (s : ByteArray) (f k : Nat) : List UInt8 := (s.data.toList.drop f).take (k - f)
theorem pre_nil (s : ByteArray) (f : Nat) : pre s f f = [] := by simp [pre]
theorem pre_succ (s : ByteArray) (f k : Nat) (h1 : f ≤ k) (h2 : k < s.size) : pre s f (k + 1) = pre s f k ++ [s[k]'h2] := by
  have hl : k < s.data.toList.length := by rw [← Lib.size_eq]; exact h2
  have hg : s.data.toList[k] = s[k]'h2 := by rw [Array.getElem_toList]; rfl
  rw [pre, pre, show k + 1 - f = (k - f) + 1 by omega, List.take_add_one, List.getElem?_drop, show f + (k - f) = k by omega, List.getElem?_eq_getElem hl, hg]; rfl
theorem pre_full (s : ByteArray) (f : Nat) : pre s f s.size = s.data.toList.drop f := by
  rw [pre, List.take_of_length_le]; rw [List.length_drop, Lib.size_eq]; exact Nat.le_refl _
theorem dv_step (s : ByteArray) (f k : Nat) (h1 : f ≤ k) (h2 : k < s.size) : dv (pre s f (k + 1)) = 10 * dv (pre s f k) + ((s[k]'h2).toNat - 48) := by
  rw [pre_succ s f k h1 h2, dv_snoc]

/-- What is true of the text of a small number, place by place. -/
theorem itoa_text (m : Int) (h1 : -99 ≤ m) (h2 : m ≤ 99) (s : ByteArray) (hs : s = itoaB m) : ∃ f : Nat, (f = if m < 0 then 1 else 0) ∧ f < s.size ∧ s.size ≤ 3 ∧ (∀ h : 0 < s.size, s[0]'h = 45 ↔ m < 0) ∧
    (∀ j (h : j < s.size), f ≤ j → 48 ≤ (s[j]'h).toNat ∧ (s[j]'h).toNat ≤ 57) ∧ dv (s.data.toList.drop f) = m.natAbs := by
  have h := itoa_ok m h1 h2
  have hL : s.data.toList = Lib.itoa m := by rw [hs]; rfl
  rw [← hL] at h
  simp only [okL, Bool.and_eq_true, decide_eq_true_eq, beq_iff_eq] at h
  obtain ⟨⟨⟨⟨⟨⟨_, _⟩, hh⟩, hd⟩, hv⟩, hl⟩, hz⟩ := h
  refine ⟨if m < 0 then 1 else 0, rfl, ?_, ?_, fun h0 => ?_, fun j hj hf => ?_, hv⟩
  · rw [Lib.size_eq]; rw [List.length_drop] at hl; omega
  · rw [Lib.size_eq]; exact hz
  · have h0' : 0 < s.data.toList.length := by rw [← Lib.size_eq]; exact h0
    have hg : s.data.toList[0] = s[0]'h0 := by rw [Array.getElem_toList]; rfl
    rw [List.head?_eq_getElem?, List.getElem?_eq_getElem h0', hg] at hh
    by_cases hm : m < 0
    · simp [hm] at hh; simp [hm, hh]
    · simp [hm] at hh; simp [hm, hh]
  · rw [List.all_eq_true] at hd
    have hj' : j < s.data.toList.length := by rw [← Lib.size_eq]; exact hj
    have hg : s.data.toList[j] = s[j]'hj := by rw [Array.getElem_toList]; rfl
    have hm : s[j]'hj ∈ s.data.toList.drop (if m < 0 then 1 else 0) := by
      refine List.mem_iff_getElem.2 ⟨j - (if m < 0 then 1 else 0), by rw [List.length_drop]; omega, ?_⟩
      rw [List.getElem_drop, ← hg]
      congr 1; omega
    have := hd _ hm
    simpa using this

theorem digit_cases (s : ByteArray) (k : Nat) (h : k < s.size) : ((s[k].toNat : Int) < 48) ∨ (¬ (s[k].toNat : Int) < 48 ∧ (57 : Int) < s[k].toNat) ∨ (¬ (s[k].toNat : Int) < 48 ∧ ¬ (57 : Int) < s[k].toNat) := by omega
def Good (s : ByteArray) (v : Int) (b : Bool) : Prop := ∀ m, -99 ≤ m → m ≤ 99 → s = itoaB m → v = m ∧ b = true
/-- What the reading answers. -/
def VRes (s : ByteArray) (e : Ending) : Prop := ∃ v b, e = .returned (.tuple #[.int .i64 v, .bool b]) ∧ Good s v b
/-- Where the digits begin. -/
def FC (s : ByteArray) (f : Nat) : Prop := (f = 0 ∧ (s.size = 0 ∨ ∀ h : 0 < s.size, ((s[0]'h).toNat : Int) ≠ 45)) ∨ (f = 1 ∧ 0 < s.size ∧ ∀ h : 0 < s.size, (s[0]'h).toNat = 45)
theorem fc_eq {s : ByteArray} {f : Nat} (hf : FC s f) {m : Int} (hz : 0 < s.size) (h : ∀ h : 0 < s.size, s[0]'h = 45 ↔ m < 0) : f = if m < 0 then 1 else 0 := by
  have h := h hz
  rcases hf with ⟨rfl, h0 | h1⟩ | ⟨rfl, _, h1⟩
  · omega
  · have h1 := h1 hz
    rw [if_neg]
    intro hm
    rw [h.2 hm] at h1
    exact h1 rfl
  · rw [if_pos]
    exact h.1 (UInt8.toNat_inj.1 (h1 hz))
theorem good_out {s : ByteArray} {f : Nat} {v : Int} {b : Bool} (hf : FC s f) (h : s.size < f + 1 ∨ f + 9 < s.size ∨ ∃ j, ∃ hj : j < s.size, f ≤ j ∧ ((s[j]'hj).toNat < 48 ∨ 57 < (s[j]'hj).toNat)) : Good s v b := by
  intro m h1 h2 hs
  obtain ⟨f', hf', l0, l1, hm, hd, _⟩ := itoa_text m h1 h2 s hs
  obtain rfl : f = f' := by rw [hf', fc_eq hf (by omega) hm]
  rcases h with h | h | ⟨j, hj, hfj, h⟩
  · omega
  · omega
  · have := hd j hj hfj; omega
theorem good_0 {s : ByteArray} (hf : FC s 0) (u : ByteArray) (hu : -99 ≤ (dv (s.data.toList.drop 0) : Int) → (dv (s.data.toList.drop 0) : Int) ≤ 99 → u = itoaB (dv (s.data.toList.drop 0) : Int)) : Good s (dv (s.data.toList.drop 0)) (u.toList == s.toList) := by
  intro m h1 h2 hs
  obtain ⟨f', hf', l0, l1, hm, hd, hv⟩ := itoa_text m h1 h2 s hs
  have e0 : f' = 0 := by rw [hf']; exact (fc_eq hf (by omega) hm).symm
  subst e0
  have hm0 : ¬ m < 0 := fun e => by rw [if_pos e] at hf'; omega
  have e : (dv (s.data.toList.drop 0) : Int) = m := by omega
  rw [e] at hu ⊢
  exact ⟨rfl, by rw [(hu h1 h2).trans hs.symm]; exact beq_self_eq_true _⟩
theorem good_1 {s : ByteArray} (hf : FC s 1) (u : ByteArray) (hu : -99 ≤ -(dv (s.data.toList.drop 1) : Int) → -(dv (s.data.toList.drop 1) : Int) ≤ 99 → u = itoaB (-(dv (s.data.toList.drop 1) : Int))) : Good s (-(dv (s.data.toList.drop 1) : Int)) (u.toList == s.toList) := by
  intro m h1 h2 hs
  obtain ⟨f', hf', l0, l1, hm, hd, hv⟩ := itoa_text m h1 h2 s hs
  have e0 : f' = 1 := by rw [hf']; exact (fc_eq hf (by omega) hm).symm
  subst e0
  have hm0 : m < 0 := Decidable.byContradiction fun e => by rw [if_neg e] at hf'; omega
  have e : -(dv (s.data.toList.drop 1) : Int) = m := by omega
  rw [e] at hu ⊢
  exact ⟨rfl, by rw [(hu h1 h2).trans hs.symm]; exact beq_self_eq_true _⟩

theorem dv_aux : ∀ (l : List UInt8) (a : Nat), (∀ c ∈ l, c.toNat ≤ 57) → l.foldl (fun a c => 10 * a + (c.toNat - 48)) a < (a + 1) * 10 ^ l.length
  | [], a, _ => by simp
  | c :: l, a, h => by
    have h1 := dv_aux l (10 * a + (c.toNat - 48)) fun x hx => h x (List.mem_cons_of_mem _ hx)
    have h2 := h c (List.mem_cons_self ..)
    rw [List.foldl_cons, List.length_cons, Nat.pow_succ]
    refine Nat.lt_of_lt_of_le h1 ?_
    rw [Nat.mul_comm (10 ^ l.length) 10, ← Nat.mul_assoc]
    exact Nat.mul_le_mul_right _ (by omega)
theorem dv_pre (s : ByteArray) (f k : Nat) (h1 : f ≤ k) (h2 : k ≤ s.size) (h9 : k - f ≤ 9) (hd : ∀ j (h : j < s.size), f ≤ j → j < k → 48 ≤ (s[j]'h).toNat ∧ (s[j]'h).toNat ≤ 57) : dv (pre s f k) < 1000000000 := by
  have hl : (pre s f k).length ≤ 9 := by rw [pre, List.length_take]; omega
  have h := dv_aux (pre s f k) 0 fun c hc => by
    obtain ⟨j, hj, rfl⟩ := List.mem_iff_getElem.1 hc
    have hj' := hj
    rw [pre, List.length_take, List.length_drop] at hj'
    have hz : f + j < s.size := by rw [Lib.size_eq]; omega
    have hg : (pre s f k)[j] = s[f + j]'hz := by
      simp only [pre, List.getElem_take, List.getElem_drop, Array.getElem_toList]; rfl
    rw [hg]
    exact (hd (f + j) hz (by omega) (by omega)).2
  have hp : (10 : Nat) ^ (pre s f k).length ≤ 10 ^ 9 := Nat.pow_le_pow_right (by omega) hl
  have e9 : (10 : Nat) ^ 9 = 1000000000 := by decide
  have hdv : dv (pre s f k) = (pre s f k).foldl (fun a c => 10 * a + (c.toNat - 48)) 0 := rfl
  omega

-- WALKS
set_option maxHeartbeats 4000000 in
set_option maxRecDepth 100000 in
theorem l01Value_0 (s : ByteArray) (w : World) (hs : s.size ≤ 1000) (hF : FC s 0) (h0 : 0 < s.size) (hx : (s[0].toNat : Int) ≠ 45) :
    Calls Tryd.prog 36 #[.string s] w fun e w' => VRes s e ∧ Below w.heap.size w w' := by
  have HF := Lib.hid hF
  clear hF
  have q0 : (0 : Int) < (s.size : Int) := by omega
  by_cases hlen : s.size < 0 + 1 ∨ 0 + 9 < s.size
  · have hG : VRes s (.returned (.tuple #[.int .i64 0, .bool false])) := ⟨0, false, rfl, good_out HF.out (by omega)⟩
    rcases hlen with hl | hl
    · omega
    · have q1 : ¬ (s.size : Int) - 0 < 1 := by omega
      have q2 : (9 : Int) < (s.size : Int) - 0 := by omega
      go_enter Tryd.func36, Tryd.ntmps36
      go_wp2_with fail
      go_ret2
      exact ⟨hG, Below.refl _ _⟩
  · have q1 : ¬ (s.size : Int) - 0 < 1 := by omega
    have q2 : ¬ (9 : Int) < (s.size : Int) - 0 := by omega
    go_enter Tryd.func36, Tryd.ntmps36
    go_wp2_with fail
    go_loopw [4, 6] (fun n i wr => ∃ k : Nat, 0 ≤ k ∧ k ≤ s.size ∧ i = .int .i64 k ∧ n = .int .i64 (dv (pre s 0 k)) ∧ wr = w ∧ ∀ j (h : j < s.size), 0 ≤ j → j < k → 48 ≤ s[j].toNat ∧ s[j].toNat ≤ 57) (fun _ i _ => s.size - (intOf i).toNat)
    case atStart => exact ⟨0, by omega, by omega, rfl, by rw [pre_nil]; rfl, rfl, fun j _ h1 h2 => by omega⟩
    case round =>
      obtain ⟨k, hfk, hk, rfl, rfl, rfl, hd⟩ := hrel
      have HD := Lib.hid hd
      clear hd
      have hlt9 := dv_pre s 0 k hfk hk (by omega) HD.out
      by_cases hlt : k < s.size
      · have q3 : (k : Int) < (s.size : Int) := by omega
        have hstep := dv_step s 0 k hfk hlt
        rcases digit_cases s k hlt with h | ⟨h, h'⟩ | ⟨h, h'⟩
        · have hG : VRes s (.returned (.tuple #[.int .i64 0, .bool false])) := ⟨0, false, rfl, good_out HF.out (.inr (.inr ⟨k, hlt, hfk, .inl (by omega)⟩))⟩
          clear hstep hlt9
          go_wp2_with fail
          go_ret2
          exact ⟨hG, Below.refl _ _⟩
        · have hG : VRes s (.returned (.tuple #[.int .i64 0, .bool false])) := ⟨0, false, rfl, good_out HF.out (.inr (.inr ⟨k, hlt, hfk, .inr (by omega)⟩))⟩
          clear hstep hlt9
          go_wp2_with fail
          go_ret2
          exact ⟨hG, Below.refl _ _⟩
        · generalize hn : dv (pre s 0 k) = n at hstep hlt9 ⊢
          have hD2 : ∀ j (h : j < s.size), 0 ≤ j → j < k + 1 → 48 ≤ s[j].toNat ∧ s[j].toNat ≤ 57 := fun j hj h1 h2 => by
            by_cases e : j = k
            · subst e; omega
            · exact HD.out j hj h1 (by omega)
          have HD2 := Lib.hid hD2
          have hnew : ((dv (pre s 0 (k + 1)) : Nat) : Int) = 10 * (n : Int) + ((s[k].toNat : Int) - 48) := by omega
          have HN := Lib.hid hnew
          clear hn hstep hD2 hnew
          go_wp2_with fail
          go_roundw
          case rel =>
            refine ⟨k + 1, by omega, by omega, by go_num, ?_, by trivial, HD2.out⟩
            rw [HN.out]; try rfl
          case measure => simp [intOf]; omega
      · have q3 : ¬ (k : Int) < (s.size : Int) := by omega
        obtain rfl : k = s.size := by omega
        have hfull := pre_full s 0
        rw [hfull] at hlt9 ⊢
        have hres := fun u (hu : -99 ≤ ((dv (s.data.toList.drop 0) : Int)) → ((dv (s.data.toList.drop 0) : Int)) ≤ 99 → u = itoaB ((dv (s.data.toList.drop 0) : Int))) => good_0 (s := s) HF.out u hu
        have HR := Lib.hid hres
        clear hres hfull
        generalize dv (s.data.toList.drop 0) = n at HR hlt9 ⊢
        go_wp2_with (go_at_call 49; refine (l01Number_some _ _ (by omega) (by omega)).mono ?_; rintro e w1 ⟨⟨u, rfl, hu⟩, hb⟩; have HU := Lib.hid hu; clear hu)
        go_ret2
        exact ⟨⟨_, _, rfl, HR.out _ HU.out⟩, hb⟩

set_option maxHeartbeats 4000000 in
set_option maxRecDepth 100000 in
theorem l01Value_1 (s : ByteArray) (w : World) (hs : s.size ≤ 1000) (hF : FC s 1) (h0 : 0 < s.size) (hx : (s[0].toNat : Int) = 45) :
    Calls Tryd.prog 36 #[.string s] w fun e w' => VRes s e ∧ Below w.heap.size w w' := by
  have HF := Lib.hid hF
  clear hF
  have q0 : (0 : Int) < (s.size : Int) := by omega
  by_cases hlen : s.size < 1 + 1 ∨ 1 + 9 < s.size
  · have hG : VRes s (.returned (.tuple #[.int .i64 0, .bool false])) := ⟨0, false, rfl, good_out HF.out (by omega)⟩
    rcases hlen with hl | hl
    · have q1 : (s.size : Int) - 1 < 1 := by omega
      go_enter Tryd.func36, Tryd.ntmps36
      go_wp2_with fail
      go_ret2
      exact ⟨hG, Below.refl _ _⟩
    · have q1 : ¬ (s.size : Int) - 1 < 1 := by omega
      have q2 : (9 : Int) < (s.size : Int) - 1 := by omega
      go_enter Tryd.func36, Tryd.ntmps36
      go_wp2_with fail
      go_ret2
      exact ⟨hG, Below.refl _ _⟩
  · have q1 : ¬ (s.size : Int) - 1 < 1 := by omega
    have q2 : ¬ (9 : Int) < (s.size : Int) - 1 := by omega
    go_enter Tryd.func36, Tryd.ntmps36
    go_wp2_with fail
    go_loopw [4, 6] (fun n i wr => ∃ k : Nat, 1 ≤ k ∧ k ≤ s.size ∧ i = .int .i64 k ∧ n = .int .i64 (dv (pre s 1 k)) ∧ wr = w ∧ ∀ j (h : j < s.size), 1 ≤ j → j < k → 48 ≤ s[j].toNat ∧ s[j].toNat ≤ 57) (fun _ i _ => s.size - (intOf i).toNat)
    case atStart => exact ⟨1, by omega, by omega, rfl, by rw [pre_nil]; rfl, rfl, fun j _ h1 h2 => by omega⟩
    case round =>
      obtain ⟨k, hfk, hk, rfl, rfl, rfl, hd⟩ := hrel
      have HD := Lib.hid hd
      clear hd
      have hlt9 := dv_pre s 1 k hfk hk (by omega) HD.out
      by_cases hlt : k < s.size
      · have q3 : (k : Int) < (s.size : Int) := by omega
        have hstep := dv_step s 1 k hfk hlt
        rcases digit_cases s k hlt with h | ⟨h, h'⟩ | ⟨h, h'⟩
        · have hG : VRes s (.returned (.tuple #[.int .i64 0, .bool false])) := ⟨0, false, rfl, good_out HF.out (.inr (.inr ⟨k, hlt, hfk, .inl (by omega)⟩))⟩
          clear hstep hlt9
          go_wp2_with fail
          go_ret2
          exact ⟨hG, Below.refl _ _⟩
        · have hG : VRes s (.returned (.tuple #[.int .i64 0, .bool false])) := ⟨0, false, rfl, good_out HF.out (.inr (.inr ⟨k, hlt, hfk, .inr (by omega)⟩))⟩
          clear hstep hlt9
          go_wp2_with fail
          go_ret2
          exact ⟨hG, Below.refl _ _⟩
        · generalize hn : dv (pre s 1 k) = n at hstep hlt9 ⊢
          have hD2 : ∀ j (h : j < s.size), 1 ≤ j → j < k + 1 → 48 ≤ s[j].toNat ∧ s[j].toNat ≤ 57 := fun j hj h1 h2 => by
            by_cases e : j = k
            · subst e; omega
            · exact HD.out j hj h1 (by omega)
          have HD2 := Lib.hid hD2
          have hnew : ((dv (pre s 1 (k + 1)) : Nat) : Int) = 10 * (n : Int) + ((s[k].toNat : Int) - 48) := by omega
          have HN := Lib.hid hnew
          clear hn hstep hD2 hnew
          go_wp2_with fail
          go_roundw
          case rel =>
            refine ⟨k + 1, by omega, by omega, by go_num, ?_, by trivial, HD2.out⟩
            rw [HN.out]; try rfl
          case measure => simp [intOf]; omega
      · have q3 : ¬ (k : Int) < (s.size : Int) := by omega
        obtain rfl : k = s.size := by omega
        have hfull := pre_full s 1
        rw [hfull] at hlt9 ⊢
        have hres := fun u (hu : -99 ≤ (-(dv (s.data.toList.drop 1) : Int)) → (-(dv (s.data.toList.drop 1) : Int)) ≤ 99 → u = itoaB (-(dv (s.data.toList.drop 1) : Int))) => good_1 (s := s) HF.out u hu
        have HR := Lib.hid hres
        clear hres hfull
        generalize dv (s.data.toList.drop 1) = n at HR hlt9 ⊢
        go_wp2_with (go_at_call 49; refine (l01Number_some _ _ (by omega) (by omega)).mono ?_; rintro e w1 ⟨⟨u, rfl, hu⟩, hb⟩; have HU := Lib.hid hu; clear hu)
        go_ret2
        exact ⟨⟨_, _, rfl, HR.out _ HU.out⟩, hb⟩

theorem l01Value_empty (w : World) : Calls Tryd.prog 36 #[.string ⟨#[]⟩] w fun e w' => VRes ⟨#[]⟩ e ∧ Below w.heap.size w w' := by
  have hG : VRes ⟨#[]⟩ (.returned (.tuple #[.int .i64 0, .bool false])) := ⟨0, false, rfl, good_out (f := 0) (.inl ⟨rfl, .inl rfl⟩) (.inl (by decide))⟩
  go_enter Tryd.func36, Tryd.ntmps36
  go_wp2_with fail
  go_ret2
  exact ⟨hG, Below.refl _ _⟩

theorem l01Value_any (s : ByteArray) (w : World) (hs : s.size ≤ 1000) : Calls Tryd.prog 36 #[.string s] w fun e w' => VRes s e ∧ Below w.heap.size w w' := by
  by_cases h0 : s.size = 0
  · obtain rfl : s = ⟨#[]⟩ := by
      apply ByteArray.ext
      exact Array.eq_empty_of_size_eq_zero h0
    exact l01Value_empty w
  · have h1 : 0 < s.size := by omega
    by_cases hx : (s[0].toNat : Int) = 45
    · exact l01Value_1 s w hs (.inr ⟨rfl, h1, fun _ => by omega⟩) h1 hx
    · exact l01Value_0 s w hs (.inl ⟨rfl, .inr fun _ => hx⟩) h1 hx
end Go.Proofs.YtlbanaoabifaiaaDoor
