/- The law's own opening question (awake) is answered yes. -/
import Derived.Test.YtlknaanheieneaaDoorPackDev
namespace Go.Proofs.YtlknaanheieneaaDoor
open Go.RowKit
set_option linter.unusedVariables false

def aw : List Fn := [(1, 2, [(0, -2), (2, 1), (16, 0)])]
def awS : ByteArray := ⟨#[84, 105, 107, 1, 1, 2, 3, 0, 254, 255, 255, 255, 2, 1, 16]⟩
def awX : ByteArray := ⟨#[84, 105, 107, 1, 1, 2, 3, 0, 254, 255, 255, 255, 2, 1, 16, 120]⟩
theorem aw_put : isPut awS aw := ⟨by decide +kernel, by decide +kernel⟩
theorem awX_not : ∀ l, ¬ isPut awX l := by
  intro l hl
  have e : fnSt awX (nxA awX 3) (nxB awX 3 false) (nv awX 3).toNat = (aw, 15, false) := by decide +kernel
  have e' := back_put hl.1 hl.2
  rw [e] at e'
  simp at e'
  have := e'.2
  exact absurd this (by decide +kernel)
theorem aw_s : putS aw = awS := by decide +kernel
theorem aw_e : putE aw = 0 := by decide +kernel
theorem nil_e : putE [] = 300 := by decide +kernel

set_option maxHeartbeats 1000000 in
theorem awake3_any (w : World) (ld : Ld w) :
    Calls Tryd.prog 16 #[] w fun e w' => e = .returned (.bool true) ∧ Below w.heap.size w w' := by
  have ho := own_lit1 43 46 w 1 2 [(0, -2), (2, 1), (16, 0)] _ 3 rfl rfl (by omega)
  obtain ⟨a0, n0, c0, e0, hf0⟩ := ho.reads (by simp)
  cases e0
  have hf1 := hf0.kept (Below.alloc (Below.refl _ _) (Nat.le_refl _) (.cells #[.slice (some ⟨w.heap.size + 1, 0, none⟩) 1 1] 24))
  have HF := hid hf1
  clear ho hf0 hf1
  go_enter Tryd.func16, Tryd.ntmps16
  go_wp2_with fail
  refine (putL _ _ _ aw _ HF.out (ld.up (by go_grown))).mono ?_
  rintro e w1 ⟨rfl, b1⟩
  rw [aw_s, aw_e]
  go_wp2_with fail
  refine (getL awS _ (by decide) (ld.up (kt (by go_grown) b1))).mono ?_
  rintro e w2 ⟨v2, err2, rfl, b2, ⟨l2, p2, rfl, o2⟩ | ⟨n2, _⟩⟩
  rotate_left
  · exact absurd aw_put (n2 aw)
  obtain rfl := isPut_one p2 aw_put
  obtain ⟨a2, n2, c2, rfl, f2⟩ := o2.reads (by decide)
  go_wp2_with fail
  rw [show awS ++ ⟨#[120]⟩ = awX by decide +kernel]
  refine (getL awX _ (by decide) (ld.up (kt (kt (kt (by go_grown) b1) b2) (by go_grown)))).mono ?_
  rintro e w3 ⟨v3, err3, rfl, b3, ⟨l3, p3, _⟩ | ⟨n3, rfl, rfl⟩⟩
  · exact absurd p3 (awX_not l3)
  have q1 := kept_cell b1 (b := w.heap.size + 1 + 1) (o := 0) (v := .slice (some ⟨w.heap.size + 1, 0, none⟩) 1 1) (by simp [go_sem])
  have q2 := kept_cell b2 q1
  have q3 := kept_cell b3 (kept_cell (by go_grown) q2)
  have r3 := kept_cell b3 (b := w2.heap.size) (o := 0) (v := .slice a2 n2 c2) (by simp [go_sem])
  have hb : Below w.heap.size w w3 := kt (kt (kt (kt (Below.alloc (Below.alloc (Below.alloc (Below.refl _ _) (Nat.le_refl _) _) (by simp) _) (by simp; omega) _) b1) b2) (Below.alloc (Below.refl _ _) (Nat.le_refl _) (.cells #[.slice a2 n2 c2] 24))) b3
  have F3 := hid ((f2.kept (Below.alloc (Below.refl _ _) (Nat.le_refl _) (.cells #[.slice a2 n2 c2] 24))).kept b3)
  have H3 := hid ((((HF.out.kept b1).kept b2).kept (Below.alloc (Below.refl _ _) (Nat.le_refl _) (.cells #[.slice a2 n2 c2] 24))).kept b3)
  clear b1 b2 b3 q1 q2 o2 f2
  go_wp2_with fail
  refine (putL _ _ _ [] _ (fns_nil _) (ld.up (kt hb (by go_grown)))).mono ?_
  rintro e w4 ⟨rfl, b4⟩
  have q4 := kept_cell b4 (kept_cell (by go_grown) q3)
  have r4 := kept_cell b4 (kept_cell (by go_grown) r3)
  rw [nil_e]
  have HB := hid b4
  clear b4
  have hstr : awS.toList = [84, 105, 107, 1, 1, 2, 3, 0, 254, 255, 255, 255, 2, 1, 16] := by rw [Go.ByteArray.toList_eq]; rfl
  go_wp2_with (first | (go_at_call 13; refine (num_any _ _).mono ?_; rintro e w' ⟨rfl, hw⟩; rw [hw]; clear hw))
  refine (sameProgram_any _ _ _ _ _ _ aw aw _ ((H3.out.kept (by go_grown)).kept HB.out) ((F3.out.kept (by go_grown)).kept HB.out)).mono ?_
  rintro e w5 ⟨rfl, b5⟩
  rw [show decide (aw = aw) = true by simp]
  go_wp2_with (first | (go_at_call 13; refine (num_any _ _).mono ?_; rintro e w' ⟨rfl, hw⟩; rw [hw]; clear hw))
  go_ret
  exact ⟨rfl, kt (kt (kt hb (by go_grown)) HB.out) b5⟩

end Go.Proofs.YtlknaanheieneaaDoor
