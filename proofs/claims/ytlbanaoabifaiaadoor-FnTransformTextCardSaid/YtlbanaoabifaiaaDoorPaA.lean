/- Texts of words parted by blanks, and the texts of small numbers. No program's run in it. -/
import Derived.Test.YtlbanaoabifaiaaDoorTrFmt
import Derived.Lib.SplitLaws
import Derived.Lib.ParseIntB
namespace Go.Proofs.YtlbanaoabifaiaaDoor
open Go.RowKit
set_option linter.unusedVariables false
set_option linter.unusedSimpArgs false

/-- The words of a text, parted at each blank. -/
def wordsB (s : ByteArray) : List ByteArray := Lib.splitB blankB 0 (Lib.countB s blankB) s
def NoBl (s : ByteArray) : Prop := (32 : UInt8) ∉ s.data.toList

theorem toList_inj {a b : ByteArray} (h : a.data.toList = b.data.toList) : a = b := by
  apply ByteArray.ext
  exact Array.toList_inj.1 h
theorem append_toList (a b : ByteArray) : (a ++ b).data.toList = a.data.toList ++ b.data.toList := by
  rw [ByteArray.data_append, Array.toList_append]
theorem blank_toList : blankB.data.toList = [32] := rfl
theorem blank_size : blankB.size = 1 := rfl

theorem indexByte_nob : ∀ (l r : List UInt8), (32 : UInt8) ∉ l → Lib.indexByte (l ++ 32 :: r) 32 = (l.length : Int)
  | [], r, _ => by simp [Lib.indexByte]
  | b :: l, r, h => by
    have hb : ¬ b = 32 := fun e => h (by simp [e])
    have hl : (32 : UInt8) ∉ l := fun e => h (by simp [e])
    rw [List.cons_append, Lib.indexByte, indexByte_nob l r hl, if_neg (by simpa using hb), if_neg (by simp)]
    simp
theorem indexByte_none : ∀ (l : List UInt8), (32 : UInt8) ∉ l → Lib.indexByte l 32 = -1
  | [], _ => rfl
  | b :: l, h => by
    have hb : ¬ b = 32 := fun e => h (by simp [e])
    have hl : (32 : UInt8) ∉ l := fun e => h (by simp [e])
    rw [Lib.indexByte, indexByte_none l hl, if_neg (by simpa using hb), if_pos (by simp)]

theorem words_one {s : ByteArray} (h : NoBl s) : wordsB s = [s] := by
  have hi : Lib.indexB s blankB = -1 := by
    show Lib.index _ _ = _
    rw [blank_toList, Lib.index_one]; exact indexByte_none _ h
  rw [wordsB, Lib.countB_miss s blankB hi]; rfl

theorem words_cons {a r : ByteArray} (h : NoBl a) : wordsB (a ++ blankB ++ r) = a :: wordsB r := by
  have hL : (a ++ blankB ++ r).data.toList = a.data.toList ++ 32 :: r.data.toList := by
    rw [append_toList, append_toList, blank_toList]; simp
  have hi : Lib.indexB (a ++ blankB ++ r) blankB = (a.size : Int) := by
    show Lib.index _ _ = _
    rw [blank_toList, Lib.index_one, hL, indexByte_nob _ _ h, Lib.size_eq]
  have e1 : (a ++ blankB ++ r).extract 0 (a.size + 0) = a := toList_inj (by
    rw [Lib.extract_data, hL, List.drop_zero, Nat.add_zero, Nat.sub_zero, Lib.size_eq, List.take_append_of_le_length (Nat.le_refl _), List.take_length])
  have e2 : (a ++ blankB ++ r).extract (a.size + blankB.size) (a ++ blankB ++ r).size = r := toList_inj (by
    rw [Lib.extract_to_end, hL, blank_size, Lib.size_eq, show a.data.toList.length + 1 = (a.data.toList ++ [32]).length by simp, show a.data.toList ++ 32 :: r.data.toList = (a.data.toList ++ [32]) ++ r.data.toList by simp, List.drop_left])
  rw [wordsB, Lib.countB_hit _ _ a.size (by rw [blank_size]; omega) hi, e2, Nat.add_comm, Lib.splitB_hit _ _ _ _ _ hi, e1, e2, ← wordsB]

/-- A piece of a text, from one place to its end, begun by a piece without a blank. -/
theorem words_hit (s : ByteArray) (a i : Nat) (h1 : a ≤ i) (h2 : i < s.size) (hb : s[i]'h2 = 32) (hn : ∀ j (h : j < s.size), a ≤ j → j < i → s[j]'h ≠ 32) :
    wordsB (s.extract a s.size) = s.extract a i :: wordsB (s.extract (i + 1) s.size) := by
  have hN : NoBl (s.extract a i) := by
    intro hm
    rw [Lib.extract_data] at hm
    obtain ⟨j, hj, hv⟩ := List.mem_iff_getElem.1 hm
    rw [List.length_take, List.length_drop] at hj
    rw [List.getElem_take, List.getElem_drop] at hv
    have hz : a + j < s.size := by omega
    refine hn (a + j) hz (by omega) (by omega) ?_
    rw [← hv, Array.getElem_toList]; rfl
  have hs : s.extract a s.size = s.extract a i ++ blankB ++ s.extract (i + 1) s.size := toList_inj (by
    rw [append_toList, append_toList, Lib.extract_to_end, Lib.extract_to_end, Lib.extract_data, blank_toList]
    have hl : i < s.data.toList.length := by rw [← Lib.size_eq]; exact h2
    have hb' : s.data.toList[i] = 32 := by rw [← hb, Array.getElem_toList]; rfl
    conv => lhs; rw [← List.take_append_drop (i - a) (s.data.toList.drop a), List.drop_drop, show a + (i - a) = i by omega, List.drop_eq_getElem_cons hl, hb']
    simp)
  rw [hs, words_cons hN]
theorem words_end (s : ByteArray) (a : Nat) (hn : ∀ j (h : j < s.size), a ≤ j → s[j]'h ≠ 32) : wordsB (s.extract a s.size) = [s.extract a s.size] := by
  refine words_one ?_
  intro hm
  rw [Lib.extract_to_end] at hm
  obtain ⟨j, hj, hv⟩ := List.mem_iff_getElem.1 hm
  rw [List.length_drop] at hj
  rw [List.getElem_drop] at hv
  have hz : a + j < s.size := by rw [Lib.size_eq]; omega
  refine hn (a + j) hz (by omega) ?_
  rw [← hv, Array.getElem_toList]; rfl
theorem extract_all (s : ByteArray) : s.extract 0 s.size = s := toList_inj (by rw [Lib.extract_to_end, List.drop_zero])

theorem splitB_small (sep : ByteArray) : ∀ (k : Nat) (s p : ByteArray), p ∈ Lib.splitB sep 0 k s → p.size ≤ s.size
  | 0, s, p, h => by
    rw [Lib.splitB_zero] at h
    rw [List.mem_singleton.1 h]; exact Nat.le_refl _
  | k + 1, s, p, h => by
    unfold Lib.splitB at h
    split at h
    · rw [List.mem_singleton.1 h]; exact Nat.le_refl _
    · rcases List.mem_cons.1 h with rfl | h
      · rw [ByteArray.size_extract]; omega
      · have := splitB_small sep k _ p h
        rw [ByteArray.size_extract] at this
        omega
theorem words_small {s p : ByteArray} (h : p ∈ wordsB s) : p.size ≤ s.size := splitB_small _ _ _ _ h
theorem words_length (s : ByteArray) : (wordsB s).length = Lib.countB s blankB + 1 := Lib.splitB_all _ (by rw [blank_size]; omega) _ _ _ rfl

/-- The number that decimal digits spell. -/
def dv (l : List UInt8) : Nat := l.foldl (fun a c => 10 * a + (c.toNat - 48)) 0
theorem dv_snoc (l : List UInt8) (c : UInt8) : dv (l ++ [c]) = 10 * dv l + (c.toNat - 48) := by simp [dv]

/-- What is true of the text of a small number. -/
def okL (l : List UInt8) (m : Int) : Bool :=
  !(l.contains 32) && (Lib.parseIntB 64 l == .ok m) && ((l.head? == some 45) == decide (m < 0)) &&
    ((l.drop (if m < 0 then 1 else 0)).all fun c => decide (48 ≤ c.toNat) && decide (c.toNat ≤ 57)) && (dv (l.drop (if m < 0 then 1 else 0)) == m.natAbs) && decide (1 ≤ (l.drop (if m < 0 then 1 else 0)).length) && decide (l.length ≤ 3)
theorem ok_one : ∀ u : Fin 10, okL [UInt8.ofNat (48 + u.val)] (u.val : Int) = true := by decide +kernel
theorem ok_two : ∀ u : Fin 100, 10 ≤ u.val → okL [UInt8.ofNat (48 + u.val / 10), UInt8.ofNat (48 + u.val % 10)] (u.val : Int) = true := by decide +kernel
theorem ok_neg1 : ∀ u : Fin 10, 0 < u.val → okL [45, UInt8.ofNat (48 + u.val)] (-(u.val : Int)) = true := by decide +kernel
theorem ok_neg2 : ∀ u : Fin 100, 10 ≤ u.val → okL [45, UInt8.ofNat (48 + u.val / 10), UInt8.ofNat (48 + u.val % 10)] (-(u.val : Int)) = true := by decide +kernel

theorem itoa_ok (n : Int) (h1 : -99 ≤ n) (h2 : n ≤ 99) : okL (Lib.itoa n) n = true := by
  rcases (show n ≤ -10 ∨ (-9 ≤ n ∧ n ≤ -1) ∨ (0 ≤ n ∧ n ≤ 9) ∨ 10 ≤ n by omega) with h | h | h | h
  · obtain ⟨u, rfl⟩ : ∃ u : Nat, n = -(u : Int) := ⟨n.natAbs, by omega⟩
    rw [itoa_neg2 u (by omega) (by omega)]; exact ok_neg2 ⟨u, by omega⟩ (by simp; omega)
  · obtain ⟨u, rfl⟩ : ∃ u : Nat, n = -(u : Int) := ⟨n.natAbs, by omega⟩
    rw [itoa_neg1 u (by omega) (by omega)]; exact ok_neg1 ⟨u, by omega⟩ (by simp; omega)
  · obtain ⟨u, rfl⟩ : ∃ u : Nat, n = (u : Int) := ⟨n.toNat, by omega⟩
    rw [itoa_one u (by omega)]; exact ok_one ⟨u, by omega⟩
  · obtain ⟨u, rfl⟩ : ∃ u : Nat, n = (u : Int) := ⟨n.toNat, by omega⟩
    rw [itoa_two u (by omega) (by omega)]; exact ok_two ⟨u, by omega⟩ (by simp; omega)

theorem itoaB_list (n : Int) : (itoaB n).data.toList = Lib.itoa n := rfl
theorem itoa_nob (n : Int) (h1 : -99 ≤ n) (h2 : n ≤ 99) : NoBl (itoaB n) := by
  have h := itoa_ok n h1 h2
  simp only [okL, Bool.and_eq_true] at h
  have h := h.1.1.1.1.1.1
  unfold NoBl
  rw [itoaB_list]
  simpa using h
theorem itoa_parse (n : Int) (h1 : -99 ≤ n) (h2 : n ≤ 99) : Lib.parseIntB 64 (itoaB n).data.toList = .ok n := by
  have h := itoa_ok n h1 h2
  simp only [okL, Bool.and_eq_true] at h
  exact beq_iff_eq.1 h.1.1.1.1.1.2

/-- The eight first words. -/
def wordB (o : Int) : ByteArray := letterB o ++ itoaB (o % 4)
def wordL (o : Nat) : List UInt8 := if o < 4 then [114, UInt8.ofNat (48 + o % 4)] else [109, UInt8.ofNat (48 + o % 4)]
theorem word_list (o : Nat) : (wordB o).data.toList = wordL o := by
  have e4 : (o : Int) % 4 = ((o % 4 : Nat) : Int) := by omega
  rw [wordB, append_toList, e4, itoaB_list, itoa_one _ (by omega), wordL, letterB]
  by_cases h : o < 4
  · rw [if_pos (by omega), if_pos h]; rfl
  · rw [if_neg (by omega), if_neg h]; rfl
theorem wordL_inj : ∀ a b : Fin 8, wordL a = wordL b → a = b := by decide +kernel
theorem wordL_nob : ∀ a : Fin 8, (32 : UInt8) ∉ wordL a := by decide +kernel
theorem word_inj {a b : Nat} (ha : a < 8) (hb : b < 8) (h : wordB a = wordB b) : a = b := by
  have := wordL_inj ⟨a, ha⟩ ⟨b, hb⟩ (by rw [← word_list, ← word_list]; exact congrArg (·.data.toList) h)
  exact Fin.val_eq_of_eq this
theorem word_nob {a : Nat} (ha : a < 8) : NoBl (wordB a) := by unfold NoBl; rw [word_list]; exact wordL_nob ⟨a, ha⟩

/-- The text of a valid transform has three words. -/
theorem fmt_words (o x y : Int) (hv : vldB o x y = true) : wordsB (fmtB o x y) = [wordB o, itoaB x, itoaB y] := by
  obtain ⟨⟨o0, o7⟩, ⟨x0, x1⟩, y0, y1⟩ := vldB_t hv
  obtain ⟨u, rfl⟩ : ∃ u : Nat, o = (u : Int) := ⟨o.toNat, by omega⟩
  have e : fmtB u x y = wordB u ++ blankB ++ (itoaB x ++ blankB ++ itoaB y) := by
    rw [fmtB, if_pos hv, wordB]
    simp only [ByteArray.append_assoc]
  rw [e, words_cons (word_nob (by omega)), words_cons (itoa_nob x (by omega) (by omega)), words_one (itoa_nob y (by omega) (by omega))]
theorem fmt_empty (o x y : Int) (hv : vldB o x y = false) : fmtB o x y = ⟨#[]⟩ := by rw [fmtB, if_neg (by simp [hv])]
theorem words_empty : wordsB ⟨#[]⟩ = [⟨#[]⟩] := words_one (by unfold NoBl; simp)

end Go.Proofs.YtlbanaoabifaiaaDoor
