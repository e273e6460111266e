/- Plain arithmetic of numbers of 32 bits: what an operation of package wrap comes to; nothing of the program is named here. Plain reckoning of instructions: which may be, what they take off the stack and put there; nothing of the program is named here. -/
import Derived.WalkKit
namespace Go.Proofs.YtaimpljkbpnigaaGreatDoor
open Go.RowKit

def isNum (x : Int) : Bool := decide (-2147483648 ≤ x ∧ x ≤ 2147483647)
def isOpB (x : Int) : Bool := decide (3 ≤ x ∧ x ≤ 9)
def divB (x : Int) : Bool := decide (x = 6 ∨ x = 7)
def goodB (op a b : Int) : Bool := isOpB op && isNum a && isNum b
def trapB (op a b : Int) : Bool := goodB op a b && (decide (b = 0) && divB op)
def oneI (b : Bool) : Int := if b = true then 1 else 0
def exV (op a b : Int) : Int :=
  if op = 3 then a + b else if op = 4 then a - b else if op = 5 then a * b else if op = 6 then a.tdiv b
  else if op = 7 then a.tmod b else if op = 8 then oneI (a == b) else oneI (decide (a < b))
def doV (op a b : Int) : Int := if goodB op a b = true ∧ trapB op a b = false then wrap32 (exV op a b) else 0
def doE (op a b : Int) : Int := if goodB op a b then 0 else 100

theorem num_iff (x : Int) : isNum x = true ↔ -2147483648 ≤ x ∧ x ≤ 2147483647 := by unfold isNum; simp
theorem num_not (x : Int) : isNum x = false ↔ x < -2147483648 ∨ 2147483647 < x := by unfold isNum; simp; omega
theorem opB_iff (x : Int) : isOpB x = true ↔ 3 ≤ x ∧ x ≤ 9 := by unfold isOpB; simp
theorem opB_not (x : Int) : isOpB x = false ↔ x < 3 ∨ 9 < x := by unfold isOpB; simp; omega
theorem wrap32_bd (x : Int) : -2147483648 ≤ wrap32 x ∧ wrap32 x ≤ 2147483647 := by unfold wrap32; omega
theorem wrap32_id {x : Int} (h : -2147483648 ≤ x ∧ x ≤ 2147483647) : wrap32 x = x := by unfold wrap32; omega
theorem wrap32_eq_iff (x : Int) : (wrap32 x == x) = isNum x := by
  rw [Bool.eq_iff_iff, num_iff, beq_iff_eq]; unfold wrap32; omega
theorem num_wrap (x : Int) : isNum (wrap32 x) = true := (num_iff _).2 (wrap32_bd x)
theorem wrap64_wrap32 (x : Int) : wrap64 (wrap32 x) = wrap32 x := by
  have := wrap32_bd x; exact IntWalk.wrap64_in _ (by omega)
theorem wrap32_wrap64 (x : Int) : wrap32 (wrap64 x) = wrap32 x := by unfold wrap32 wrap64; omega
theorem wrap32_u (x : Int) : wrap32 (IntKind.u64.wrap x % 4294967296) = wrap32 x := by
  rw [IntKind.wrap_u64]; unfold wrap32; omega
theorem mul_bd {a b : Int} (ha : -2147483648 ≤ a ∧ a ≤ 2147483647) (hb : -2147483648 ≤ b ∧ b ≤ 2147483647) :
    -4611686018427387904 ≤ a * b ∧ a * b ≤ 4611686018427387904 := by
  have hA : a.natAbs ≤ 2147483648 := by omega
  have hB : b.natAbs ≤ 2147483648 := by omega
  have h := Nat.mul_le_mul hA hB
  rw [← Int.natAbs_mul] at h
  have h2 : (2147483648 * 2147483648 : Nat) = 4611686018427387904 := rfl
  rw [h2] at h
  omega
theorem tdiv_bd {a b : Int} (ha : -2147483648 ≤ a ∧ a ≤ 2147483647) :
    -2147483648 ≤ a.tdiv b ∧ a.tdiv b ≤ 2147483648 := by
  have h : (a.tdiv b).natAbs ≤ a.natAbs := by rw [Int.natAbs_tdiv]; exact Nat.div_le_self _ _
  omega
theorem tmod_bd {a b : Int} (ha : -2147483648 ≤ a ∧ a ≤ 2147483647) :
    -2147483648 ≤ a.tmod b ∧ a.tmod b ≤ 2147483648 := by
  have h : (a.tmod b).natAbs ≤ a.natAbs := by rw [Int.natAbs_tmod]; exact Nat.mod_le _ _
  omega
theorem mul_tdiv (a b : Int) : b * a.tdiv b = a - a.tmod b := by have := Int.mul_tdiv_add_tmod a b; omega
theorem doE_bad {op a b : Int} (h : goodB op a b = false) : doE op a b = 100 := by simp [doE, h]
theorem doE_good {op a b : Int} (h : goodB op a b = true) : doE op a b = 0 := by simp [doE, h]
theorem and1023 (n : Int) : bits .and .i64 n 1023 = n % 1024 := by
  have hm : (BitVec.ofInt 64 1023).toNat = 2 ^ 10 - 1 := by decide
  show IntKind.i64.wrap ((BitVec.ofInt 64 n &&& BitVec.ofInt 64 1023).toNat : Nat) = n % 1024
  rw [BitVec.toNat_and, BitVec.toNat_ofInt, hm, Nat.and_two_pow_sub_one_eq_mod, IntKind.wrap_i64]
  omega
theorem umod_bd (x m : Int) (hm : 0 < m) : 0 ≤ (IntKind.u64.wrap x).tmod m ∧ (IntKind.u64.wrap x).tmod m < m := by
  have h : 0 ≤ IntKind.u64.wrap x := by rw [IntKind.wrap_u64]; omega
  rw [Int.tmod_eq_emod_of_nonneg h]
  exact ⟨Int.emod_nonneg _ (by omega), Int.emod_lt_of_pos _ hm⟩

end Go.Proofs.YtaimpljkbpnigaaGreatDoor

namespace Go.Proofs.YtaimpljkbpnigaaGreatDoor
open Go.RowKit

def belowB (a l : Int) : Bool := decide (0 ≤ a ∧ a < l)
def kindB (k : Int) : Bool := decide (0 ≤ k ∧ k ≤ 16)
def mayB (k a : Int) : Bool :=
  if k = 0 then isNum a else if k = 1 ∨ k = 2 then belowB a 8 else if k = 12 ∨ k = 13 then belowB a 64
  else if k = 14 then belowB a 8 else decide (3 ≤ k ∧ k ≤ 16 ∧ a = 0)
def takesV (k m : Int) : Int := if k = 0 ∨ k = 1 ∨ k = 12 then 0 else if k = 14 then m else if 3 ≤ k ∧ k ≤ 9 then 2 else 1
def putsV (k : Int) : Int := if k = 0 ∨ k = 1 ∨ k = 14 ∨ (3 ≤ k ∧ k ≤ 9) then 1 else if k = 10 then 2 else 0
def argsB (m : Int) : Bool := decide (0 ≤ m ∧ m ≤ 4)
def effB (k a m : Int) : Bool := mayB k a && argsB m
def effT (k a m : Int) : Int := if effB k a m = true then takesV k m else 0
def effP (k a m : Int) : Int := if effB k a m = true then putsV k else 0
def effE (k a m : Int) : Int := if effB k a m = true then 0 else 200

theorem may0 (a : Int) : mayB 0 a = isNum a := rfl
theorem may1 (a : Int) : mayB 1 a = belowB a 8 := rfl
theorem may2 (a : Int) : mayB 2 a = belowB a 8 := rfl
theorem may12 (a : Int) : mayB 12 a = belowB a 64 := rfl
theorem may13 (a : Int) : mayB 13 a = belowB a 64 := rfl
theorem may14 (a : Int) : mayB 14 a = belowB a 8 := rfl
theorem may_else {k a : Int} (h0 : ¬ k = 0) (h1 : ¬ k = 1) (h2 : ¬ k = 2) (h3 : ¬ k = 12) (h4 : ¬ k = 13) (h5 : ¬ k = 14) :
    mayB k a = (kindB k && (a == 0)) := by
  unfold mayB kindB
  rw [if_neg h0, if_neg (by omega), if_neg (by omega), if_neg h5, Bool.eq_iff_iff]
  simp; omega
theorem may_kind {k a : Int} (h : mayB k a = true) : 0 ≤ k ∧ k ≤ 16 := by
  unfold mayB at h
  split at h
  · omega
  split at h
  · omega
  split at h
  · omega
  split at h
  · omega
  · simp at h; omega
theorem eff_bad {k a m : Int} (h : effB k a m = false) : effT k a m = 0 ∧ effP k a m = 0 ∧ effE k a m = 200 := by
  simp [effT, effP, effE, h]
theorem eff_good {k a m : Int} (h : effB k a m = true) : effT k a m = takesV k m ∧ effP k a m = putsV k ∧ effE k a m = 0 := by
  simp [effT, effP, effE, h]
theorem kinds17 (k : Int) (h : 0 ≤ k ∧ k ≤ 16) : k = 0 ∨ k = 1 ∨ k = 2 ∨ k = 3 ∨ k = 4 ∨ k = 5 ∨ k = 6 ∨ k = 7 ∨ k = 8 ∨ k = 9 ∨ k = 10 ∨ k = 11 ∨ k = 12 ∨ k = 13 ∨ k = 14 ∨ k = 15 ∨ k = 16 := by omega

end Go.Proofs.YtaimpljkbpnigaaGreatDoor
