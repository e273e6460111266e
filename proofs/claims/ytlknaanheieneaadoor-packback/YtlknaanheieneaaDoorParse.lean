/- Plain reckoning of bytes taken off the front: instructions, functions, programs; they give back just what was put. Nothing of the program is named here. -/
import Derived.Test.YtlknaanheieneaaDoorPut
import Derived.Test.YtlknaanheieneaaDoorPackSpec
namespace Go.Proofs.YtlknaanheieneaaDoor
open Go.RowKit
set_option linter.unusedVariables false

def le : List Int → Int
  | [] => 0
  | b :: r => b + 256 * le r
def pIns : List Int → Option ((Int × Int) × List Int)
  | [] => none
  | k :: r => if r.length < szA k then none else some ((k, wrap32 (le (r.take (szA k)))), r.drop (szA k))
def cSt (l : List Int) : Nat → Option (List (Int × Int) × List Int)
  | 0 => some ([], l)
  | j + 1 => match cSt l j with
    | none => none
    | some (c, r) => match pIns r with
      | none => none
      | some (i, r') => some (c ++ [i], r')
def pFn : List Int → Option (Fn × List Int)
  | x :: y :: n :: r => match cSt r n.toNat with
    | none => none
    | some (c, r') => some ((x, y, c), r')
  | _ => none
def fSt (l : List Int) : Nat → Option (List Fn × List Int)
  | 0 => some ([], l)
  | j + 1 => match fSt l j with
    | none => none
    | some (c, r) => match pFn r with
      | none => none
      | some (i, r') => some (c ++ [i], r')
def pAll : List Int → Option (List Fn)
  | x :: y :: z :: n :: r => if x = 84 ∧ y = 105 ∧ z = 107 then (match fSt r n.toNat with
    | some (fs, []) => some fs
    | _ => none) else none
  | _ => none
def isB (l : List Int) : Prop := ∀ x ∈ l, 0 ≤ x ∧ x ≤ 255

theorem cSt_none {l : List Int} {j : Nat} (h : cSt l j = none) : ∀ n, j ≤ n → cSt l n = none := by
  intro n hn
  induction n with
  | zero => have : j = 0 := by omega
            subst this; exact h
  | succ n ih =>
    rcases Nat.lt_or_ge j (n + 1) with hlt | hge
    · simp [cSt, ih (by omega)]
    · have : j = n + 1 := by omega
      subst this; exact h
theorem fSt_none {l : List Int} {j : Nat} (h : fSt l j = none) : ∀ n, j ≤ n → fSt l n = none := by
  intro n hn
  induction n with
  | zero => have : j = 0 := by omega
            subst this; exact h
  | succ n ih =>
    rcases Nat.lt_or_ge j (n + 1) with hlt | hge
    · simp [fSt, ih (by omega)]
    · have : j = n + 1 := by omega
      subst this; exact h
theorem cSt_len {l : List Int} {j : Nat} {c : List (Int × Int)} {r : List Int} (h : cSt l j = some (c, r)) : c.length = j := by
  induction j generalizing c r with
  | zero => simp [cSt] at h; simp [← h.1]
  | succ j ih =>
    simp only [cSt] at h
    split at h
    · cases h
    · next c' r' e =>
      split at h
      · cases h
      · simp at h
        rw [← h.1]; simp [ih e]
theorem fSt_len {l : List Int} {j : Nat} {c : List Fn} {r : List Int} (h : fSt l j = some (c, r)) : c.length = j := by
  induction j generalizing c r with
  | zero => simp [fSt] at h; simp [← h.1]
  | succ j ih =>
    simp only [fSt] at h
    split at h
    · cases h
    · next c' r' e =>
      split at h
      · cases h
      · simp at h
        rw [← h.1]; simp [ih e]

/-- Bytes of the right number come back out of the number that they tell. -/
theorem low_le {b : List Int} {n : Nat} (hn : n = 0 ∨ n = 1 ∨ n = 4) (hl : b.length = n) (hb : isB b) : lowB (wrap32 (le b)) n = b := by
  rcases hn with rfl | rfl | rfl
  · match b, hl with
    | [], _ => rfl
  · match b, hl with
    | [b0], _ =>
      have h0 := hb b0 (by simp)
      simp [le, lowB]
      unfold wrap32; omega
  · match b, hl with
    | [b0, b1, b2, b3], _ =>
      have h0 := hb b0 (by simp)
      have h1 := hb b1 (by simp)
      have h2 := hb b2 (by simp)
      have h3 := hb b3 (by simp)
      simp [le, lowB]
      unfold wrap32; omega
theorem le_low {x a : Int} (h : mayB x a = true) : wrap32 (le (lowB a (szA x))) = a := by
  obtain ⟨h1, h2⟩ := may_num h
  by_cases h0 : x = 0
  · simp [szA, h0, lowB, le]
    unfold wrap32; omega
  · cases hs : smallB x
    · have ha : a = 0 := by
        simp [smallB] at hs
        unfold mayB at h
        rw [if_neg h0, if_neg (by omega), if_neg (by omega), if_neg (by omega)] at h
        simp at h
        exact h.2.2
      subst ha
      simp [szA, h0, hs, lowB, le]
      unfold wrap32; omega
    · obtain ⟨r0, r63⟩ := small_bd h hs
      simp [szA, h0, hs, lowB, le]
      unfold wrap32; omega
theorem szA_cases (k : Int) : szA k = 0 ∨ szA k = 1 ∨ szA k = 4 := by unfold szA; split; omega; split <;> omega
theorem pIns_sound {l r : List Int} {i : Int × Int} (hb : isB l) (h : pIns l = some (i, r)) (hm : mayB i.1 i.2 = true) : l = insBytes i ++ r := by
  match l, h with
  | k :: t, h =>
    simp only [pIns] at h
    split at h
    · cases h
    · next hl =>
      simp at h
      obtain ⟨rfl, rfl⟩ := h
      simp only at hm
      rw [insBytes_low hm, low_le (szA_cases k) (by rw [List.length_take]; omega) (fun x hx => hb x (List.mem_cons_of_mem _ (List.mem_of_mem_take hx)))]
      simp
theorem isB_app {l r : List Int} (h : isB (l ++ r)) : isB r := fun x hx => h x (List.mem_append_right _ hx)
theorem cSt_sound {l r : List Int} {j : Nat} {c : List (Int × Int)} (hb : isB l) (h : cSt l j = some (c, r)) (hm : ∀ i ∈ c, mayB i.1 i.2 = true) : l = codeBytes c ++ r := by
  induction j generalizing c r with
  | zero =>
    simp [cSt] at h
    obtain ⟨rfl, rfl⟩ := h
    simp [codeBytes]
  | succ j ih =>
    simp only [cSt] at h
    split at h
    · cases h
    · next c' r' e =>
      split at h
      · cases h
      · next i r'' e2 =>
        simp at h
        obtain ⟨rfl, rfl⟩ := h
        have h1 := ih e (fun i hi => hm i (by simp [hi]))
        have h2 := pIns_sound (isB_app (by rw [← h1]; exact hb)) e2 (hm i (by simp))
        rw [codeBytes_snoc, List.append_assoc, ← h2]; exact h1
theorem pFn_sound {l r : List Int} {f : Fn} (hb : isB l) (h : pFn l = some (f, r)) (hm : fnB f = true) : l = fnBytes f ++ r := by
  match l, h with
  | x :: y :: n :: t, h =>
    simp only [pFn] at h
    split at h
    · cases h
    · next c r' e =>
      simp at h
      obtain ⟨rfl, rfl⟩ := h
      have hn := hb n (by simp)
      have hl := cSt_len e
      have hm' : ∀ i ∈ c, mayB i.1 i.2 = true := by
        unfold fnB codeB at hm
        simp only [Bool.and_eq_true, List.all_eq_true] at hm
        exact hm.2.2
      have := cSt_sound (fun z hz => hb z (by simp [hz])) e hm'
      have hn' : (c.length : Int) = n := by omega
      show x :: y :: n :: t = [x, y, (c.length : Int)] ++ codeBytes c ++ r'
      rw [hn', this]
      simp
theorem fSt_sound {l r : List Int} {j : Nat} {c : List Fn} (hb : isB l) (h : fSt l j = some (c, r)) (hm : ∀ i ∈ c, fnB i = true) : l = fnsBytes c ++ r := by
  induction j generalizing c r with
  | zero =>
    simp [fSt] at h
    obtain ⟨rfl, rfl⟩ := h
    simp [fnsBytes]
  | succ j ih =>
    simp only [fSt] at h
    split at h
    · cases h
    · next c' r' e =>
      split at h
      · cases h
      · next i r'' e2 =>
        simp at h
        obtain ⟨rfl, rfl⟩ := h
        have h1 := ih e (fun i hi => hm i (by simp [hi]))
        have h2 := pFn_sound (isB_app (by rw [← h1]; exact hb)) e2 (hm i (by simp))
        rw [fnsBytes_snoc, List.append_assoc, ← h2]; exact h1
theorem pAll_sound {l : List Int} {c : List Fn} (hb : isB l) (h : pAll l = some c) (hm : packsB c = true) : l = putBytes c := by
  have hall : ∀ f ∈ c, fnB f = true := by
    unfold packsB at hm
    simp only [Bool.and_eq_true, List.all_eq_true] at hm
    exact hm.2
  match l, h with
  | x :: y :: z :: n :: t, h =>
    simp only [pAll] at h
    split at h
    · next he =>
      obtain ⟨rfl, rfl, rfl⟩ := he
      split at h
      · next fs e =>
        simp at h
        subst h
        have hn := hb n (by simp)
        have hl := fSt_len e
        have h1 := fSt_sound (fun z hz => hb z (by simp [hz])) e hall
        have hn' : (fs.length : Int) = n := by omega
        show _ = [84, 105, 107, (fs.length : Int)] ++ fnsBytes fs
        rw [hn', h1]; simp
      · cases h
    · cases h

theorem pIns_put {i : Int × Int} {r : List Int} (hm : mayB i.1 i.2 = true) : pIns (insBytes i ++ r) = some (i, r) := by
  obtain ⟨k, a⟩ := i
  rw [insBytes_low hm]
  have hl := lowB_len a (szA k)
  show pIns (k :: (lowB a (szA k) ++ r)) = _
  simp only [pIns]
  rw [if_neg (by rw [List.length_append]; omega), List.take_append_of_le_length (by omega), List.drop_append_of_le_length (by omega), List.take_of_length_le (by omega), List.drop_of_length_le (by omega), le_low hm]
  rfl
theorem cSt_put {l : List (Int × Int)} {r : List Int} (hm : ∀ x ∈ l, mayB x.1 x.2 = true) : ∀ j, j ≤ l.length → cSt (codeBytes l ++ r) j = some (l.take j, codeBytes (l.drop j) ++ r) := by
  intro j
  induction j with
  | zero => intro _; simp [cSt]
  | succ j ih =>
    intro hj
    have hlt : j < l.length := by omega
    have hd : l.drop j = l[j] :: l.drop (j + 1) := List.drop_eq_getElem_cons hlt
    have ht : l.take (j + 1) = l.take j ++ [l[j]] := List.take_succ_eq_append_getElem hlt
    simp only [cSt]
    rw [ih (by omega)]
    simp only
    rw [hd, show codeBytes (l[j] :: l.drop (j + 1)) = insBytes l[j] ++ codeBytes (l.drop (j + 1)) by unfold codeBytes; rw [List.flatMap_cons], List.append_assoc, pIns_put (hm _ (List.getElem_mem hlt)), ht]
theorem pFn_put {f : Fn} {r : List Int} (hf : fnB f = true) : pFn (fnBytes f ++ r) = some (f, r) := by
  obtain ⟨x, y, l⟩ := f
  have hm : ∀ x ∈ l, mayB x.1 x.2 = true := by
    unfold fnB codeB at hf
    simp only [Bool.and_eq_true, List.all_eq_true] at hf
    exact hf.2.2
  show pFn (x :: y :: (l.length : Int) :: (codeBytes l ++ r)) = _
  simp only [pFn]
  rw [show ((l.length : Int)).toNat = l.length by omega, cSt_put hm l.length (Nat.le_refl _)]
  simp [codeBytes]
theorem fSt_put {l : List Fn} {r : List Int} (hm : ∀ x ∈ l, fnB x = true) : ∀ j, j ≤ l.length → fSt (fnsBytes l ++ r) j = some (l.take j, fnsBytes (l.drop j) ++ r) := by
  intro j
  induction j with
  | zero => intro _; simp [fSt]
  | succ j ih =>
    intro hj
    have hlt : j < l.length := by omega
    have hd : l.drop j = l[j] :: l.drop (j + 1) := List.drop_eq_getElem_cons hlt
    have ht : l.take (j + 1) = l.take j ++ [l[j]] := List.take_succ_eq_append_getElem hlt
    simp only [fSt]
    rw [ih (by omega)]
    simp only
    rw [hd, show fnsBytes (l[j] :: l.drop (j + 1)) = fnBytes l[j] ++ fnsBytes (l.drop (j + 1)) by unfold fnsBytes; rw [List.flatMap_cons], List.append_assoc, pFn_put (hm _ (List.getElem_mem hlt)), ht]
theorem pAll_put {l : List Fn} (hm : packsB l = true) : pAll (putBytes l) = some l := by
  have hall : ∀ f ∈ l, fnB f = true := by
    unfold packsB at hm
    simp only [Bool.and_eq_true, List.all_eq_true] at hm
    exact hm.2
  have h1 := fSt_put (r := []) hall l.length (Nat.le_refl _)
  simp only [List.append_nil, List.take_length, List.drop_length, show fnsBytes [] = [] from rfl] at h1
  have h2 : ((l.length : Int)).toNat = l.length := by omega
  show pAll (84 :: 105 :: 107 :: (l.length : Int) :: fnsBytes l) = _
  simp only [pAll, and_self, if_true, h2, h1]

theorem sb_isB (s : ByteArray) : isB (sb s) := by
  intro x hx
  simp [sb] at hx
  obtain ⟨b, _, rfl⟩ := hx
  have := b.toNat_lt
  omega
theorem str_sb (s : ByteArray) : strOfNums (sb s) = s := by
  apply ByteArray.ext
  unfold strOfNums sb
  simp
  have : (fun n : Int => UInt8.ofNat n.toNat) ∘ (fun b : UInt8 => (b.toNat : Int)) = id := by funext b; simp
  rw [this]; simp
/-- A text is a program's bytes just where it is read as one that may be packed. -/
theorem isPut_iff (s : ByteArray) (l : List Fn) : isPut s l ↔ pAll (sb s) = some l ∧ packsB l = true := by
  constructor
  · intro h
    have e : sb s = putBytes l := by rw [← h.2]; exact sb_str (putBytes_bd h.1)
    exact ⟨by rw [e]; exact pAll_put h.1, h.1⟩
  · intro h
    exact ⟨h.2, by rw [← pAll_sound (sb_isB s) h.1 h.2]; exact str_sb s⟩

end Go.Proofs.YtlknaanheieneaaDoor
