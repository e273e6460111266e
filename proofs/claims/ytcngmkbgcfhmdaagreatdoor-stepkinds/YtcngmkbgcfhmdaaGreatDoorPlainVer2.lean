/- More of heights: how many there are. -/
import Derived.Test.YtcngmkbgcfhmdaaGreatDoorPlainVer
namespace Go.Proofs.YtcngmkbgcfhmdaaGreatDoor
open Go.RowKit
set_option linter.unusedVariables false

theorem putHs_len {h : Int} : ∀ (xs : List Int) (s s' : List Int × List Int), putHs h xs s = some s' → s'.1.length = s.1.length
  | [], s, s', e => by simp only [putHs, Option.some.injEq] at e; rw [e]
  | x :: xs, s, s', e => by
    simp only [putHs] at e
    cases hp : putH h s x with
    | none => rw [hp] at e; cases e
    | some t =>
      rw [hp] at e
      have h1 := putHs_len xs t s' e
      rw [h1]
      unfold putH at hp
      split at hp
      · simp only [Option.some.injEq] at hp; rw [← hp]; simp
      · split at hp
        · simp only [Option.some.injEq] at hp; rw [← hp]
        · cases hp
theorem walkF_len (ps : List Fn) (l : List (Int × Int)) : ∀ (k : Nat) (out ws : List Int), (walkF ps l k out ws).1.length ≤ out.length
  | 0, out, ws => by simp [walkF]
  | k + 1, out, [] => by simp [walkF]
  | k + 1, out, x :: ws => by
    simp only [walkF]
    cases hs : stepH ps l out ws x.toNat with
    | none => simp
    | some s =>
      have h1 := walkF_len ps l k s.1 s.2
      unfold stepH at hs
      split at hs
      · cases hs
      · have h2 := putHs_len _ _ _ hs
        show (walkF ps l k s.1 s.2).1.length ≤ out.length
        simp only [] at h2
        omega
theorem hts_len {ps : List Fn} {fn : Int} : (htsV ps fn).1.length ≤ 64 := by
  unfold htsV
  split
  · rename_i hc
    obtain ⟨h1, h2⟩ := hc
    have hi : fn.toNat < ps.length := by simp [inB] at h2; omega
    have hf := fnB_of h1 hi rfl
    generalize ps.getD fn.toNat noFn = f at hf ⊢
    obtain ⟨x, y, l⟩ := f
    have hb := fnB_bd hf
    unfold htsF
    split
    · simp
    · split
      · simp
      · have := walkF_len ps l l.length ((List.replicate l.length (-1)).set 0 0) [0]
        show (walkV ps l).1.length ≤ 64
        unfold walkV
        simp at this
        omega
  · simp

end Go.Proofs.YtcngmkbgcfhmdaaGreatDoor
