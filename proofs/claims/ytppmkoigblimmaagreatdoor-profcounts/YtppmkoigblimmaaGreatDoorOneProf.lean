/- A program with one branch, and profiles of one function, as they lie. -/
import Derived.Test.YtppmkoigblimmaaGreatDoorTwo
import Derived.Test.YtppmkoigblimmaaGreatDoorJ9c
namespace Go.Proofs.YtppmkoigblimmaaGreatDoor
open Go.RowKit
set_option linter.unusedVariables false

theorem and3 (n : Int) : bits .and .i64 n 3 = n % 4 := by
  have hm : (BitVec.ofInt 64 3).toNat = 2 ^ 2 - 1 := by decide
  show IntKind.i64.wrap ((BitVec.ofInt 64 n &&& BitVec.ofInt 64 3).toNat : Nat) = n % 4
  rw [BitVec.toNat_and, BitVec.toNat_ofInt, hm, Nat.and_two_pow_sub_one_eq_mod, IntKind.wrap_i64]
  omega
theorem inss_new {u : World} {H n : Nat} {l : List (Int × Int)} {cs : Array Value} {t : TypeId} (hH : u.heap.size = H) (hcs : cs = (flat2 l).toArray) (hn : n = l.length) (hl : l.length * 16 ≤ 140737488351232) : Inss (u.alloc (.cells cs t)) (some ⟨H, 0, none⟩) n n l := by
  subst hH
  subst hcs
  subst hn
  have := allocs_inss u [.cells (flat2 l).toArray t] 0 l t rfl hl
  simpa [allocs] using this
theorem aps_one (w : World) (x y z : Int) (t : TypeId) : Sl layArgProfs 24 (w.alloc (.cells #[.int .i64 x, .int .i64 y, .int .i64 z] t)) (some ⟨w.heap.size, 0, none⟩) 1 1 [(x, y, z)] := by
  refine ⟨rfl, Nat.le_refl _, by omega, fun e => (by cases e), fun _ => ⟨w.heap.size, 0, rfl, fun i p hp => ?_⟩⟩
  have h0 : i = 0 := by have := (List.getElem?_eq_some_iff.1 hp).1; simpa using this
  subst h0
  cases hp
  exact ⟨by show (w.alloc _).cell? ⟨w.heap.size, 0 + 0 * 3, none⟩ = _; simp [go_sem], by show (w.alloc _).cell? ⟨w.heap.size, 0 + 0 * 3 + 1, none⟩ = _; simp [go_sem], by show (w.alloc _).cell? ⟨w.heap.size, 0 + 0 * 3 + 1 + 1, none⟩ = _; simp [go_sem]⟩
theorem fps_one {w : World} {ja fa aa : Option Addr} {jn jc fn fc an ac : Nat} {jl fl : List Int} {al : List Ap} (x : Int) (hj : Ints w ja jn jc jl) (hf : Ints w fa fn fc fl) (ha : Sl layArgProfs 24 w aa an ac al) (t : TypeId) :
    Sl layFp 80 (w.alloc (.cells #[.int .i64 x, .slice ja jn jc, .slice fa fn fc, .slice aa an ac] t)) (some ⟨w.heap.size, 0, none⟩) 1 1 [(x, jl, fl, al)] := by
  have A : Below w.heap.size w (w.alloc (.cells #[.int .i64 x, .slice ja jn jc, .slice fa fn fc, .slice aa an ac] t)) := Below.alloc (Below.refl _ _) (Nat.le_refl _) _
  refine ⟨rfl, Nat.le_refl _, by omega, fun e => (by cases e), fun _ => ⟨w.heap.size, 0, rfl, fun i p hp => ?_⟩⟩
  have h0 : i = 0 := by have := (List.getElem?_eq_some_iff.1 hp).1; simpa using this
  subst h0
  cases hp
  refine ⟨?_, ⟨ja, jn, jc, ?_, hj.sl.kept A⟩, ⟨fa, fn, fc, ?_, hf.sl.kept A⟩, aa, an, ac, ?_, ha.kept A⟩
  · show (w.alloc _).cell? ⟨w.heap.size, 0 + 0 * 4, none⟩ = _; simp [go_sem]
  · show (w.alloc _).cell? ⟨w.heap.size, 0 + 0 * 4 + 1, none⟩ = _; simp [go_sem]
  · show (w.alloc _).cell? ⟨w.heap.size, 0 + 0 * 4 + 1 + 1, none⟩ = _; simp [go_sem]
  · show (w.alloc _).cell? ⟨w.heap.size, 0 + 0 * 4 + 1 + 1 + 1, none⟩ = _; simp [go_sem]
def brC : List (Int × Int) := [(1, 0), (13, 0), (0, 1), (16, 0)]
def brL : List Fn := [(1, 1, brC)]

end Go.Proofs.YtppmkoigblimmaaGreatDoor
