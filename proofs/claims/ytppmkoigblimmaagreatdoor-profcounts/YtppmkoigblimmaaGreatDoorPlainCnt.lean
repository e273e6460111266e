/- Profiles of so many calls, reckoned. Nothing of the program is named here. -/
import Derived.Test.YtppmkoigblimmaaGreatDoorJ9c
namespace Go.Proofs.YtppmkoigblimmaaGreatDoor
open Go.RowKit
set_option linter.unusedVariables false

/-- The values' remainders; how many of the first i are the first one's. -/
def val4 (l : List Int) (i : Nat) : Int := l.getD i 0 % 4
def sameN (l : List Int) : Nat → Nat
  | 0 => 0
  | i + 1 => sameN l i + (if val4 l i = val4 l 0 then 1 else 0)
def capAt (l : List Int) (an i : Nat) : List Ap := if i = 0 then List.replicate an noAp else (List.range an).map fun (j : Nat) => (val4 l 0 + (j : Int), (sameN l i : Int), (i : Int) - (sameN l i : Int))
def argsV (an : Nat) (v : Int) : List Int := (List.range an).map fun (j : Nat) => v + (j : Int)
def cntF (l : List Int) (c an i : Nat) : Fp := ((i : Int), List.replicate c 0, List.replicate c 0, capAt l an i)
def cntR (l : List Int) (ps : List Fn) (k c an i : Nat) : List Fp := (ps.map newFp).set k (cntF l c an i)

theorem val4_bd (l : List Int) (i : Nat) : 0 ≤ val4 l i ∧ val4 l i < 4 := ⟨Int.emod_nonneg _ (by omega), Int.emod_lt_of_pos _ (by omega)⟩
theorem sameN_le (l : List Int) : ∀ i, sameN l i ≤ i
  | 0 => Nat.le_refl _
  | i + 1 => by
    have := sameN_le l i
    unfold sameN
    split <;> omega
theorem sameN_one (l : List Int) : sameN l 1 = 1 := by
  show 0 + (if val4 l 0 = val4 l 0 then 1 else 0) = 1
  rw [if_pos rfl]
theorem sameN_pos (l : List Int) : ∀ i, 1 ≤ i → 1 ≤ sameN l i
  | 0, h => by omega
  | 1, _ => by rw [sameN_one]; exact Nat.le_refl _
  | i + 2, _ => by
    have := sameN_pos l (i + 1) (by omega)
    show 1 ≤ sameN l (i + 1) + _
    omega
theorem argsV_len (an : Nat) (v : Int) : (argsV an v).length = an := by simp [argsV]
theorem argsV_take (an : Nat) (v : Int) (j : Nat) (hj : j ≤ an) : (argsV an v).take j = argsV j v := by
  unfold argsV
  rw [← List.map_take, List.take_range, Nat.min_eq_left hj]
theorem argsV_snoc (j : Nat) (v : Int) : argsV (j + 1) v = argsV j v ++ [v + (j : Int)] := by
  unfold argsV
  rw [List.range_succ, List.map_append]
  rfl
theorem argsV_nums (an : Nat) (v : Int) (h0 : 0 ≤ v) (h4 : v < 4) (ha : an ≤ 4) : numsB (argsV an v) = true := by
  unfold numsB argsV
  rw [List.all_eq_true]
  intro x hx
  obtain ⟨j, hj, rfl⟩ := List.mem_map.1 hx
  have := List.mem_range.1 hj
  rw [num_iff]
  omega
theorem capAt_len (l : List Int) (an i : Nat) : (capAt l an i).length = an := by unfold capAt; split <;> simp
theorem capAt_zip (l : List Int) (an i : Nat) (hi : i ≤ 20) : List.zipWith tellA (capAt l an i) (argsV an (val4 l i)) = capAt l an (i + 1) := by
  have hlen : (List.zipWith tellA (capAt l an i) (argsV an (val4 l i))).length = (capAt l an (i + 1)).length := by rw [List.length_zipWith, capAt_len, capAt_len, argsV_len, Nat.min_self]
  refine List.ext_getElem hlen (fun j h1 h2 => ?_)
  have hj : j < an := by rw [capAt_len] at h2; exact h2
  rw [List.getElem_zipWith]
  have e2 : (capAt l an (i + 1))[j] = (val4 l 0 + (j : Int), (sameN l (i + 1) : Int), ((i + 1 : Nat) : Int) - (sameN l (i + 1) : Int)) := by
    simp [capAt]
  have e3 : (argsV an (val4 l i))[j]'(by rw [argsV_len]; exact hj) = val4 l i + (j : Int) := by simp [argsV]
  rw [e2, e3]
  rcases Nat.eq_zero_or_pos i with rfl | hpos
  · have e1 : (capAt l an 0)[j]'(by rw [capAt_len]; exact hj) = noAp := by simp [capAt]
    rw [e1, sameN_one]
    simp [tellA, noAp]
  · have e1 : (capAt l an i)[j]'(by rw [capAt_len]; exact hj) = (val4 l 0 + (j : Int), (sameN l i : Int), (i : Int) - (sameN l i : Int)) := by
      simp [capAt, show ¬ i = 0 by omega]
    rw [e1]
    have s1 := sameN_pos l i hpos
    have s2 := sameN_le l i
    have e0 : ¬ ((sameN l i : Int) = 0 ∧ (i : Int) - (sameN l i : Int) = 0) := by omega
    unfold tellA
    simp only
    rw [if_neg e0]
    by_cases hv : val4 l i = val4 l 0
    · rw [if_pos (by omega)]
      have : sameN l (i + 1) = sameN l i + 1 := by show sameN l i + (if val4 l i = val4 l 0 then 1 else 0) = _; rw [if_pos hv]
      rw [this]
      unfold moreI
      rw [if_pos (by omega)]
      refine Prod.ext rfl (Prod.ext ?_ ?_)
      · show (sameN l i : Int) + 1 = ((sameN l i + 1 : Nat) : Int); omega
      · show (i : Int) - (sameN l i : Int) = ((i + 1 : Nat) : Int) - ((sameN l i + 1 : Nat) : Int); omega
    · rw [if_neg (by omega)]
      have : sameN l (i + 1) = sameN l i := by show sameN l i + (if val4 l i = val4 l 0 then 1 else 0) = _; rw [if_neg hv]; rfl
      rw [this]
      unfold moreI
      rw [if_pos (by omega)]
      refine Prod.ext rfl (Prod.ext rfl ?_)
      show (i : Int) - (sameN l i : Int) + 1 = ((i + 1 : Nat) : Int) - (sameN l i : Int)
      omega
theorem zeros_cnt (c : Nat) (k : Int) (h : (c : Int) = k) : cntsB (List.replicate c 0) k = true := by
  unfold cntsB
  simp [cntB, h]
theorem newFp_ok {fx fy : Int} {code : List (Int × Int)} (h : 0 ≤ fx) : fpB (fx, fy, code) (newFp (fx, fy, code)) = true := by
  show fpB (fx, fy, code) (0, List.replicate code.length 0, List.replicate code.length 0, List.replicate fx.toNat noAp) = true
  rw [fpB_eq, zeros_cnt _ _ rfl, show cntB 0 = true from rfl]
  have : apsB (List.replicate fx.toNat noAp) fx = true := by
    unfold apsB
    rw [List.length_replicate]
    simp [show apB noAp = true from rfl]
    omega
  rw [this]
  rfl
theorem cnt_zero {l : List Int} {ps : List Fn} {k c an : Nat} {fy : Int} {code : List (Int × Int)} (hk : k < ps.length) (e : ps.getD k noFn = ((an : Int), fy, code)) (hc : c = code.length) : cntR l ps k c an 0 = ps.map newFp := by
  unfold cntR
  have h : (ps.map newFp)[k]? = some (cntF l c an 0) := by
    rw [List.getElem?_map, List.getElem?_eq_getElem hk]
    have : ps[k] = ((an : Int), fy, code) := by rw [List.getD_eq_getElem?_getD, List.getElem?_eq_getElem hk] at e; exact e
    rw [this, hc]
    rfl
  refine List.ext_getElem? (fun i => ?_)
  rw [List.getElem?_set]
  split
  · rename_i e'; subst e'
    rw [if_pos (by simpa using hk), h]
  · rfl
theorem cnt_may {l : List Int} {ps : List Fn} (hv : verV ps = 0) {k c an i : Nat} {fy : Int} {code : List (Int × Int)} (hk : k < ps.length) (e : ps.getD k noFn = ((an : Int), fy, code)) (hc : c = code.length) (hi : i ≤ 20) : profB ps (cntR l ps k c an i) = true := by
  have hlen : (cntR l ps k c an i).length = ps.length := by unfold cntR; simp
  unfold profB
  rw [decide_eq_true hv, decide_eq_true hlen, Bool.true_and, Bool.true_and]
  unfold fpsB
  rw [List.all_eq_true]
  intro q hq
  have hql : q < ps.length := by have := List.mem_range.1 hq; omega
  by_cases hqk : q = k
  · subst hqk
    have : (cntR l ps q c an i).getD q noFp = cntF l c an i := by
      unfold cntR
      rw [List.getD_eq_getElem?_getD, List.getElem?_set_self (by simpa using hql)]
      rfl
    rw [this, e]
    unfold cntF
    rw [fpB_eq, zeros_cnt c _ (by rw [hc])]
    have h1 : cntB (i : Int) = true := (cntB_iff _).2 (by omega)
    have h2 : apsB (capAt l an i) (an : Int) = true := by
      unfold apsB
      rw [capAt_len, decide_eq_true rfl, Bool.true_and, List.all_eq_true]
      intro a ha
      unfold capAt at ha
      split at ha
      · rw [List.eq_of_mem_replicate ha]; rfl
      · obtain ⟨j, hj, rfl⟩ := List.mem_map.1 ha
        have hj' := List.mem_range.1 hj
        have hb := val4_bd l 0
        have hs := sameN_le l i
        have han := ver_fn hv hql e
        rw [apB_eq]
        simp only [Bool.and_eq_true, num_iff, cntB_iff]
        omega
    rw [h1, h2]
    rfl
  · have : (cntR l ps k c an i).getD q noFp = newFp (ps.getD q noFn) := by
      unfold cntR
      rw [List.getD_eq_getElem?_getD, List.getElem?_set_ne (fun h => hqk h.symm), List.getElem?_map, List.getElem?_eq_getElem hql, List.getD_eq_getElem?_getD, List.getElem?_eq_getElem hql]
      rfl
    rw [this]
    exact newFp_ok (fx := (ps.getD q noFn).1) (fy := (ps.getD q noFn).2.1) (code := (ps.getD q noFn).2.2) (ver_fn hv hql rfl).1
theorem cnt_call {l : List Int} {ps : List Fn} (hv : verV ps = 0) {k c an i : Nat} {fy : Int} {code : List (Int × Int)} (hk : k < ps.length) (e : ps.getD k noFn = ((an : Int), fy, code)) (hc : c = code.length) (hi : i < 20) :
    calledP ps (cntR l ps k c an i) (k : Int) (argsV an (val4 l i)) = cntR l ps k c an (i + 1) ∧ calledE ps (cntR l ps k c an i) (k : Int) (argsV an (val4 l i)) = 0 := by
  have hb : calledB ps (cntR l ps k c an i) (k : Int) (argsV an (val4 l i)) = true := by
    unfold calledB
    rw [cnt_may hv hk e hc (by omega), Int.toNat_natCast, e, argsV_len, argsV_nums an _ (val4_bd l i).1 (val4_bd l i).2 (by have := ver_fn hv hk e; omega)]
    have : inB ps.length (k : Int) = true := by unfold inB; simp; omega
    rw [this]
    simp
  unfold calledP calledE
  rw [if_pos hb, if_pos hb]
  refine ⟨?_, rfl⟩
  rw [Int.toNat_natCast]
  have hg : (cntR l ps k c an i).getD k noFp = cntF l c an i := by
    unfold cntR
    rw [List.getD_eq_getElem?_getD, List.getElem?_set_self (by simpa using hk)]
    rfl
  rw [hg]
  unfold cntR
  rw [List.set_set]
  have : callFp (cntF l c an i) (argsV an (val4 l i)) = cntF l c an (i + 1) := by
    show (moreI (i : Int), List.replicate c 0, List.replicate c 0, List.zipWith tellA (capAt l an i) (argsV an (val4 l i))) = _
    rw [capAt_zip l an i (by omega)]
    unfold cntF moreI
    rw [if_pos (by omega)]
    rfl
  rw [this]

end Go.Proofs.YtppmkoigblimmaaGreatDoor
