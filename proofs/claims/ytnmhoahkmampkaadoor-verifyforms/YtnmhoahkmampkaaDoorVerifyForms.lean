/- For any integer the law VerifyForms returns true: functions that are not verified, the error, the pc; no conditions. -/
import Derived.Test.YtnmhoahkmampkaaDoorRows
import Derived.WalkKit
import Derived.ProofKit
import Derived.OpenShut
import Derived.ShutString
import Derived.ChangeOld
import Derived.Below
import Derived.Carry
import Derived.Lib.SmallJoins
import Derived.Handy
import Derived.WalkSmall
import Derived.SizedLaws
import Derived.Test.YtnmhoahkmampkaaDoorLaidOpenV
import Derived.Test.YtnmhoahkmampkaaDoorCards
import Derived.Test.YtnmhoahkmampkaaDoorTie
import Derived.SevenTiedAt
import Derived.LaidMore
import Derived.Stop.Joined
import Derived.Test.YtnmhoahkmampkaaDoorAwake5
import Derived.Test.YtnmhoahkmampkaaDoorPlainVer2
import Derived.Test.YtnmhoahkmampkaaDoorAllocs
import Derived.Lib.QuietBelow
import Derived.Deep.QuietTactic
import Derived.Deep.RegionHeld3
import Derived.BigQuiet
namespace Go.Proofs.YtnmhoahkmampkaaDoor.verifyForms
open Go.ChangeShapes Go.WideShapes Go.ChangeAt Go.RowKit
open Go.ChangeMaps (open_string shut_string)
set_option linter.unusedVariables false

theorem own : ownKnob Tryd.prog.godebug = none := by kernel_rfl
theorem laidOut : laidOutB Tryd.prog = true := by kernel_rfl

def codesF : List (List (Int × Int)) := [[(0, 1), (1, 2), (16, 0)], [(0, 1), (2, 3), (16, 0)], [(12, 5)], [(0, 1), (13, 4), (0, 1), (16, 0)], [(0, 1), (14, 2), (16, 0)], [(0, 1)], [(0, 1), (13, 0)], [(16, 0)], [(0, 1), (3, 0), (16, 0)], [(10, 0), (16, 0)], [(15, 0), (0, 1), (16, 0)], [(0, 1), (14, 1), (16, 0)], [(0, 1), (0, 1), (0, 1), (0, 1), (0, 1), (0, 1), (0, 1), (0, 1), (0, 1), (16, 0)], [(0, 1), (12, 0)], [(0, 1), (13, 3), (0, 1), (0, 1), (16, 0), (16, 0)], [(0, 1), (0, 1), (13, 0), (16, 0)]]
def wantF : List Int := [501, 501, 501, 501, 501, 503, 503, 502, 502, 502, 502, 502, 502, 502, 502, 502]
def pcsF : List Int := [1, 1, 0, 1, 1, 0, 1, 0, 1, 0, 0, 1, 8, 1, 2, 2]
def progF (k : Nat) : List Fn := [(0, 2, codesF.getD k []), (2, 2, [(0, 1), (16, 0)])]
theorem formF_0 : ∀ k, k < 16 → htsV (progF k) 0 = ([], pcsF.getD k 0, wantF.getD k 0) := by decide +kernel
theorem formF_1 : ∀ k, k < 16 → (htsV (progF k) 1).2.2 = 0 := by decide +kernel
theorem formF_v : ∀ k, k < 16 → verV (progF k) = wantF.getD k 0 := by decide +kernel
theorem codesF_len : ∀ k, k < 16 → (codesF.getD k []).length ≤ 64 := by decide +kernel
theorem num_below (x : Int) (w : World) : Calls Tryd.prog 7 #[.int .i64 x] w fun e w' => e = .returned (.int .i64 x) ∧ Below w.heap.size w w' :=
  (num_any _ _).mono (fun _ _ h => ⟨h.1, h.2 ▸ Below.refl _ _⟩)
/-- What the law lays ahead of its program: sixteen codes, their row, the errors, the pcs. -/
def laidF (u1 : World) : List Obj := [.cells #[.int .i64 0, .int .i64 1] 24, .cells #[.int .i64 16, .int .i64 0] 24, .cells #[.int .i64 0, .int .i64 1, .int .i64 1, .int .i64 2, .int .i64 16, .int .i64 0] 24, .cells #[.int .i64 0, .int .i64 1, .int .i64 2, .int .i64 3, .int .i64 16, .int .i64 0] 24, .cells #[.int .i64 12, .int .i64 5] 24, .cells #[.int .i64 0, .int .i64 1, .int .i64 13, .int .i64 4, .int .i64 0, .int .i64 1, .int .i64 16, .int .i64 0] 24, .cells #[.int .i64 0, .int .i64 1, .int .i64 14, .int .i64 2, .int .i64 16, .int .i64 0] 24, .cells #[.int .i64 0, .int .i64 1] 24, .cells #[.int .i64 0, .int .i64 1, .int .i64 13, .int .i64 0] 24, .cells #[.int .i64 16, .int .i64 0] 24, .cells #[.int .i64 0, .int .i64 1, .int .i64 3, .int .i64 0, .int .i64 16, .int .i64 0] 24, .cells #[.int .i64 10, .int .i64 0, .int .i64 16, .int .i64 0] 24, .cells #[.int .i64 15, .int .i64 0, .int .i64 0, .int .i64 1, .int .i64 16, .int .i64 0] 24, .cells #[.int .i64 0, .int .i64 1, .int .i64 14, .int .i64 1, .int .i64 16, .int .i64 0] 24, .cells #[.int .i64 0, .int .i64 1, .int .i64 0, .int .i64 1, .int .i64 0, .int .i64 1, .int .i64 0, .int .i64 1, .int .i64 0, .int .i64 1, .int .i64 0, .int .i64 1, .int .i64 0, .int .i64 1, .int .i64 0, .int .i64 1, .int .i64 0, .int .i64 1, .int .i64 16, .int .i64 0] 24, .cells #[.int .i64 0, .int .i64 1, .int .i64 12, .int .i64 0] 24, .cells #[.int .i64 0, .int .i64 1, .int .i64 13, .int .i64 3, .int .i64 0, .int .i64 1, .int .i64 0, .int .i64 1, .int .i64 16, .int .i64 0, .int .i64 16, .int .i64 0] 24, .cells #[.int .i64 0, .int .i64 1, .int .i64 0, .int .i64 1, .int .i64 13, .int .i64 0, .int .i64 16, .int .i64 0] 24, .cells #[.slice (some ⟨u1.heap.size + 1 + 1, 0, none⟩) 3 3, .slice (some ⟨u1.heap.size + 1 + 1 + 1, 0, none⟩) 3 3, .slice (some ⟨u1.heap.size + 1 + 1 + 1 + 1, 0, none⟩) 1 1, .slice (some ⟨u1.heap.size + 1 + 1 + 1 + 1 + 1, 0, none⟩) 4 4, .slice (some ⟨u1.heap.size + 1 + 1 + 1 + 1 + 1 + 1, 0, none⟩) 3 3, .slice (some ⟨u1.heap.size + 1 + 1 + 1 + 1 + 1 + 1 + 1, 0, none⟩) 1 1, .slice (some ⟨u1.heap.size + 1 + 1 + 1 + 1 + 1 + 1 + 1 + 1, 0, none⟩) 2 2, .slice (some ⟨u1.heap.size + 1 + 1 + 1 + 1 + 1 + 1 + 1 + 1 + 1, 0, none⟩) 1 1, .slice (some ⟨u1.heap.size + 1 + 1 + 1 + 1 + 1 + 1 + 1 + 1 + 1 + 1, 0, none⟩) 3 3, .slice (some ⟨u1.heap.size + 1 + 1 + 1 + 1 + 1 + 1 + 1 + 1 + 1 + 1 + 1, 0, none⟩) 2 2, .slice (some ⟨u1.heap.size + 1 + 1 + 1 + 1 + 1 + 1 + 1 + 1 + 1 + 1 + 1 + 1, 0, none⟩) 3 3, .slice (some ⟨u1.heap.size + 1 + 1 + 1 + 1 + 1 + 1 + 1 + 1 + 1 + 1 + 1 + 1 + 1, 0, none⟩) 3 3, .slice (some ⟨u1.heap.size + 1 + 1 + 1 + 1 + 1 + 1 + 1 + 1 + 1 + 1 + 1 + 1 + 1 + 1, 0, none⟩) 10 10, .slice (some ⟨u1.heap.size + 1 + 1 + 1 + 1 + 1 + 1 + 1 + 1 + 1 + 1 + 1 + 1 + 1 + 1 + 1, 0, none⟩) 2 2, .slice (some ⟨u1.heap.size + 1 + 1 + 1 + 1 + 1 + 1 + 1 + 1 + 1 + 1 + 1 + 1 + 1 + 1 + 1 + 1, 0, none⟩) 6 6, .slice (some ⟨u1.heap.size + 1 + 1 + 1 + 1 + 1 + 1 + 1 + 1 + 1 + 1 + 1 + 1 + 1 + 1 + 1 + 1 + 1, 0, none⟩) 4 4] 25, .cells #[.int .i64 501, .int .i64 501, .int .i64 501, .int .i64 501, .int .i64 501, .int .i64 503, .int .i64 503, .int .i64 502, .int .i64 502, .int .i64 502, .int .i64 502, .int .i64 502, .int .i64 502, .int .i64 502, .int .i64 502, .int .i64 502] 3, .cells #[.int .i64 1, .int .i64 1, .int .i64 0, .int .i64 1, .int .i64 1, .int .i64 0, .int .i64 1, .int .i64 0, .int .i64 1, .int .i64 0, .int .i64 0, .int .i64 1, .int .i64 8, .int .i64 1, .int .i64 2, .int .i64 2] 3]
theorem laidF_code (u1 : World) (k : Nat) (hk : k < 16) : (laidF u1)[2 + k]? = some (.cells (flat2 (codesF.getD k [])).toArray 24) := by
  rcases (show k = 0 ∨ k = 1 ∨ k = 2 ∨ k = 3 ∨ k = 4 ∨ k = 5 ∨ k = 6 ∨ k = 7 ∨ k = 8 ∨ k = 9 ∨ k = 10 ∨ k = 11 ∨ k = 12 ∨ k = 13 ∨ k = 14 ∨ k = 15 by omega) with rfl | rfl | rfl | rfl | rfl | rfl | rfl | rfl | rfl | rfl | rfl | rfl | rfl | rfl | rfl | rfl
  all_goals rfl
theorem laidF_row (u1 : World) (k : Nat) (hk : k < 16) : (allocs u1 (laidF u1)).cell? ⟨u1.heap.size + 18, k, none⟩ = some (.slice (some ⟨u1.heap.size + (2 + k), 0, none⟩) (codesF.getD k []).length (codesF.getD k []).length) := by
  refine allocs_cell u1 (laidF u1) 18 _ _ rfl k _ ?_
  rcases (show k = 0 ∨ k = 1 ∨ k = 2 ∨ k = 3 ∨ k = 4 ∨ k = 5 ∨ k = 6 ∨ k = 7 ∨ k = 8 ∨ k = 9 ∨ k = 10 ∨ k = 11 ∨ k = 12 ∨ k = 13 ∨ k = 14 ∨ k = 15 by omega) with rfl | rfl | rfl | rfl | rfl | rfl | rfl | rfl | rfl | rfl | rfl | rfl | rfl | rfl | rfl | rfl
  all_goals rfl
theorem laidF_want (u1 : World) (k : Nat) (hk : k < 16) : (allocs u1 (laidF u1)).cell? ⟨u1.heap.size + 19, k, none⟩ = some (.int .i64 (wantF.getD k 0)) := by
  refine allocs_cell u1 (laidF u1) 19 _ _ rfl k _ ?_
  rcases (show k = 0 ∨ k = 1 ∨ k = 2 ∨ k = 3 ∨ k = 4 ∨ k = 5 ∨ k = 6 ∨ k = 7 ∨ k = 8 ∨ k = 9 ∨ k = 10 ∨ k = 11 ∨ k = 12 ∨ k = 13 ∨ k = 14 ∨ k = 15 by omega) with rfl | rfl | rfl | rfl | rfl | rfl | rfl | rfl | rfl | rfl | rfl | rfl | rfl | rfl | rfl | rfl
  all_goals rfl
theorem laidF_pcs (u1 : World) (k : Nat) (hk : k < 16) : (allocs u1 (laidF u1)).cell? ⟨u1.heap.size + 20, k, none⟩ = some (.int .i64 (pcsF.getD k 0)) := by
  refine allocs_cell u1 (laidF u1) 20 _ _ rfl k _ ?_
  rcases (show k = 0 ∨ k = 1 ∨ k = 2 ∨ k = 3 ∨ k = 4 ∨ k = 5 ∨ k = 6 ∨ k = 7 ∨ k = 8 ∨ k = 9 ∨ k = 10 ∨ k = 11 ∨ k = 12 ∨ k = 13 ∨ k = 14 ∨ k = 15 by omega) with rfl | rfl | rfl | rfl | rfl | rfl | rfl | rfl | rfl | rfl | rfl | rfl | rfl | rfl | rfl | rfl
  all_goals rfl
/-- The law's program in its box: two functions. -/
structure Sh (U W : World) (bp gf : Nat) (pr : List Fn) : Prop where
  p : W.cell? ⟨bp, 0, none⟩ = some (.slice (some ⟨gf, 0, none⟩) 2 2)
  f : Fns W (some ⟨gf, 0, none⟩) 2 2 pr
  b : Below U.heap.size U W
theorem keep5 {U w' : World} (h : Below U.heap.size U w') {b1 o1 b2 o2 b3 o3 b4 o4 b5 o5 : Nat} {v1 v2 v3 v4 v5 : Value} (h1 : U.cell? ⟨b1, o1, none⟩ = some v1) (h2 : U.cell? ⟨b2, o2, none⟩ = some v2) (h3 : U.cell? ⟨b3, o3, none⟩ = some v3) (h4 : U.cell? ⟨b4, o4, none⟩ = some v4) (h5 : U.cell? ⟨b5, o5, none⟩ = some v5) :
    w'.cell? ⟨b1, o1, none⟩ = some v1 ∧ w'.cell? ⟨b2, o2, none⟩ = some v2 ∧ w'.cell? ⟨b3, o3, none⟩ = some v3 ∧ w'.cell? ⟨b4, o4, none⟩ = some v4 ∧ w'.cell? ⟨b5, o5, none⟩ = some v5 := ⟨kept_cell h h1, kept_cell h h2, kept_cell h h3, kept_cell h h4, kept_cell h h5⟩
set_option maxRecDepth 100000 in
set_option maxHeartbeats 20000000 in
theorem walk (a0 : Int) (w : World) (w0 : (Lit.int .i64 a0).wf = true) (ld : Ld w) :
    Calls Tryd.prog 3 #[.int .i64 a0] w fun e w' => e = .returned (.bool true) ∧ Below w.heap.size w w' := by
  have LD0 := hid ld
  clear ld
  clear w0
  have hm := umod_bd a0 16 (by omega)
  generalize hmv : (IntKind.u64.wrap a0).tmod 16 = m at hm
  obtain ⟨hm1, hm2⟩ := hm
  obtain ⟨k, rfl⟩ := Int.eq_ofNat_of_zero_le hm1
  have hk : k < 16 := by omega
  have hk0 : (0 : Int) ≤ (k : Int) := by omega
  have hk1 : (k : Int) < 16 := by omega
  have hk2 : (k : Int) ≤ 16 := by omega
  clear hm1 hm2
  go_enter Tryd.func3, Tryd.ntmps3
  go_wp2_with fail
  refine (awake5_any _ LD0.out).mono ?_
  rintro e u1 ⟨rfl, b1⟩
  have B1 := hid b1
  clear b1
  go_wp2_with fail
  obtain ⟨U, hU⟩ : ∃ U, U = allocs u1 (laidF u1) := ⟨_, rfl⟩
  refine wp_world (U := U) hU ?_
  have BU : Hid (Below u1.heap.size u1 U) := hid (by rw [hU]; exact allocs_below _ _)
  have q0 : U.cell? ⟨u1.heap.size, 0, none⟩ = some (.int .i64 0) := by rw [hU]; exact allocs_cell u1 (laidF u1) 0 _ _ rfl 0 _ rfl
  have q1 : U.cell? ⟨u1.heap.size, 1, none⟩ = some (.int .i64 1) := by rw [hU]; exact allocs_cell u1 (laidF u1) 0 _ _ rfl 1 _ rfl
  have r0 : U.cell? ⟨u1.heap.size + 1, 0, none⟩ = some (.int .i64 16) := by rw [hU]; exact allocs_cell u1 (laidF u1) 1 _ _ rfl 0 _ rfl
  have r1 : U.cell? ⟨u1.heap.size + 1, 1, none⟩ = some (.int .i64 0) := by rw [hU]; exact allocs_cell u1 (laidF u1) 1 _ _ rfl 1 _ rfl
  have cK : U.cell? ⟨u1.heap.size + 1 + 1 + 1 + 1 + 1 + 1 + 1 + 1 + 1 + 1 + 1 + 1 + 1 + 1 + 1 + 1 + 1 + 1, k, none⟩ = some (.slice (some ⟨u1.heap.size + (2 + k), 0, none⟩) (codesF.getD k []).length (codesF.getD k []).length) := by rw [hU]; exact laidF_row u1 k hk
  have cW : U.cell? ⟨u1.heap.size + 1 + 1 + 1 + 1 + 1 + 1 + 1 + 1 + 1 + 1 + 1 + 1 + 1 + 1 + 1 + 1 + 1 + 1 + 1, k, none⟩ = some (.int .i64 (wantF.getD k 0)) := by rw [hU]; exact laidF_want u1 k hk
  have cP : U.cell? ⟨u1.heap.size + 1 + 1 + 1 + 1 + 1 + 1 + 1 + 1 + 1 + 1 + 1 + 1 + 1 + 1 + 1 + 1 + 1 + 1 + 1 + 1, k, none⟩ = some (.int .i64 (pcsF.getD k 0)) := by rw [hU]; exact laidF_pcs u1 k hk
  have IK : Hid (Inss U (some ⟨u1.heap.size + (2 + k), 0, none⟩) (codesF.getD k []).length (codesF.getD k []).length (codesF.getD k [])) := hid (by rw [hU]; exact allocs_inss u1 (laidF u1) (2 + k) _ 24 (laidF_code u1 k hk) (by have := codesF_len k hk; omega))
  have F0 := hid (formF_0 k hk)
  have F1 := hid (formF_1 k hk)
  have FV := hid (formF_v k hk)
  have PF : Hid (progF k = [(0, 2, codesF.getD k []), (2, 2, [(0, 1), (16, 0)])]) := hid rfl
  have hlk := codesF_len k hk

  generalize progF k = pr at F0 F1 FV PF
  generalize codesF.getD k [] = ck at cK IK PF hlk
  generalize ck.length = nk at cK IK hlk
  generalize wantF.getD k 0 = wk at cW F0 FV
  generalize pcsF.getD k 0 = pk at cP F0
  generalize u1.heap.size + (2 + k) = gk at cK IK
  generalize u1.heap.size + 1 + 1 + 1 + 1 + 1 + 1 + 1 + 1 + 1 + 1 + 1 + 1 + 1 + 1 + 1 + 1 + 1 + 1 = gc at cK cW cP ⊢
  try rw [show wrap64 (k : Int) = (k : Int) by unfold wrap64; omega]
  have hs1 := BU.out.size
  have hs2 := lt_of_cell r0
  clear hU hmv
  have SA : Hid (Sh U ((((U.alloc (.cells #[.int .i64 0, .int .i64 1, .int .i64 16, .int .i64 0] 24)).alloc (.cells #[.int .i64 0, .int .i64 2, .slice (some ⟨gk, 0, none⟩) nk nk, .int .i64 2, .int .i64 2, .slice (some ⟨U.heap.size, 0, none⟩) 2 2] 30)).alloc (.cells #[.slice (some ⟨U.heap.size + 1, 0, none⟩) 2 2] 33)).drew) (U.heap.size + 1 + 1) (U.heap.size + 1) pr) := hid (by
    have hb : Below U.heap.size U ((((U.alloc (.cells #[.int .i64 0, .int .i64 1, .int .i64 16, .int .i64 0] 24)).alloc (.cells #[.int .i64 0, .int .i64 2, .slice (some ⟨gk, 0, none⟩) nk nk, .int .i64 2, .int .i64 2, .slice (some ⟨U.heap.size, 0, none⟩) 2 2] 30)).alloc (.cells #[.slice (some ⟨U.heap.size + 1, 0, none⟩) 2 2] 33)).drew) := Below.drew (Below.alloc (Below.alloc (Below.alloc (Below.refl _ _) (Nat.le_refl _) _) (by simp) _) (by simp; omega) _)
    have i2 : Inss ((((U.alloc (.cells #[.int .i64 0, .int .i64 1, .int .i64 16, .int .i64 0] 24)).alloc (.cells #[.int .i64 0, .int .i64 2, .slice (some ⟨gk, 0, none⟩) nk nk, .int .i64 2, .int .i64 2, .slice (some ⟨U.heap.size, 0, none⟩) 2 2] 30)).alloc (.cells #[.slice (some ⟨U.heap.size + 1, 0, none⟩) 2 2] 33)).drew) (some ⟨U.heap.size, 0, none⟩) 2 2 [(0, 1), (16, 0)] := by
      refine ⟨rfl, Nat.le_refl _, by omega, fun e => (by cases e), fun _ => ⟨U.heap.size, 0, rfl, fun j hj => ?_⟩⟩
      rcases (show j = 0 ∨ j = 1 by simp at hj; omega) with rfl | rfl
      · exact ⟨by simp [go_sem], by simp [go_sem]⟩
      · exact ⟨by simp [go_sem], by simp [go_sem]⟩
    refine ⟨by simp [go_sem], ?_, hb⟩
    rw [PF.out]
    exact fns_two (by have := IK.out.kept hb; exact this) i2 (by simp [go_sem]) (by simp [go_sem]) (by simp [go_sem]) (by simp [go_sem]) (by simp [go_sem]) (by simp [go_sem]))
  have SB : Hid (Sh U ((((U.alloc (.cells #[.int .i64 0, .int .i64 1, .int .i64 16, .int .i64 0] 24)).alloc (.cells #[.slice (some ⟨U.heap.size + 1 + 1, 0, none⟩) 2 2] 33)).alloc (.cells #[.int .i64 0, .int .i64 2, .slice (some ⟨gk, 0, none⟩) nk nk, .int .i64 2, .int .i64 2, .slice (some ⟨U.heap.size, 0, none⟩) 2 2] 30)).drew) (U.heap.size + 1) (U.heap.size + 1 + 1) pr) := hid (by
    have hb : Below U.heap.size U ((((U.alloc (.cells #[.int .i64 0, .int .i64 1, .int .i64 16, .int .i64 0] 24)).alloc (.cells #[.slice (some ⟨U.heap.size + 1 + 1, 0, none⟩) 2 2] 33)).alloc (.cells #[.int .i64 0, .int .i64 2, .slice (some ⟨gk, 0, none⟩) nk nk, .int .i64 2, .int .i64 2, .slice (some ⟨U.heap.size, 0, none⟩) 2 2] 30)).drew) := Below.drew (Below.alloc (Below.alloc (Below.alloc (Below.refl _ _) (Nat.le_refl _) _) (by simp) _) (by simp; omega) _)
    have i2 : Inss ((((U.alloc (.cells #[.int .i64 0, .int .i64 1, .int .i64 16, .int .i64 0] 24)).alloc (.cells #[.slice (some ⟨U.heap.size + 1 + 1, 0, none⟩) 2 2] 33)).alloc (.cells #[.int .i64 0, .int .i64 2, .slice (some ⟨gk, 0, none⟩) nk nk, .int .i64 2, .int .i64 2, .slice (some ⟨U.heap.size, 0, none⟩) 2 2] 30)).drew) (some ⟨U.heap.size, 0, none⟩) 2 2 [(0, 1), (16, 0)] := by
      refine ⟨rfl, Nat.le_refl _, by omega, fun e => (by cases e), fun _ => ⟨U.heap.size, 0, rfl, fun j hj => ?_⟩⟩
      rcases (show j = 0 ∨ j = 1 by simp at hj; omega) with rfl | rfl
      · exact ⟨by simp [go_sem], by simp [go_sem]⟩
      · exact ⟨by simp [go_sem], by simp [go_sem]⟩
    refine ⟨by simp [go_sem], ?_, hb⟩
    rw [PF.out]
    exact fns_two (by have := IK.out.kept hb; exact this) i2 (by simp [go_sem]) (by simp [go_sem]) (by simp [go_sem]) (by simp [go_sem]) (by simp [go_sem]) (by simp [go_sem]))
  have SC : Hid (Sh U ((((U.alloc (.cells #[.slice (some ⟨U.heap.size + 1 + 1, 0, none⟩) 2 2] 33)).alloc (.cells #[.int .i64 0, .int .i64 1, .int .i64 16, .int .i64 0] 24)).alloc (.cells #[.int .i64 0, .int .i64 2, .slice (some ⟨gk, 0, none⟩) nk nk, .int .i64 2, .int .i64 2, .slice (some ⟨U.heap.size + 1, 0, none⟩) 2 2] 30)).drew) (U.heap.size) (U.heap.size + 1 + 1) pr) := hid (by
    have hb : Below U.heap.size U ((((U.alloc (.cells #[.slice (some ⟨U.heap.size + 1 + 1, 0, none⟩) 2 2] 33)).alloc (.cells #[.int .i64 0, .int .i64 1, .int .i64 16, .int .i64 0] 24)).alloc (.cells #[.int .i64 0, .int .i64 2, .slice (some ⟨gk, 0, none⟩) nk nk, .int .i64 2, .int .i64 2, .slice (some ⟨U.heap.size + 1, 0, none⟩) 2 2] 30)).drew) := Below.drew (Below.alloc (Below.alloc (Below.alloc (Below.refl _ _) (Nat.le_refl _) _) (by simp) _) (by simp; omega) _)
    have i2 : Inss ((((U.alloc (.cells #[.slice (some ⟨U.heap.size + 1 + 1, 0, none⟩) 2 2] 33)).alloc (.cells #[.int .i64 0, .int .i64 1, .int .i64 16, .int .i64 0] 24)).alloc (.cells #[.int .i64 0, .int .i64 2, .slice (some ⟨gk, 0, none⟩) nk nk, .int .i64 2, .int .i64 2, .slice (some ⟨U.heap.size + 1, 0, none⟩) 2 2] 30)).drew) (some ⟨U.heap.size + 1, 0, none⟩) 2 2 [(0, 1), (16, 0)] := by
      refine ⟨rfl, Nat.le_refl _, by omega, fun e => (by cases e), fun _ => ⟨U.heap.size + 1, 0, rfl, fun j hj => ?_⟩⟩
      rcases (show j = 0 ∨ j = 1 by simp at hj; omega) with rfl | rfl
      · exact ⟨by simp [go_sem], by simp [go_sem]⟩
      · exact ⟨by simp [go_sem], by simp [go_sem]⟩
    refine ⟨by simp [go_sem], ?_, hb⟩
    rw [PF.out]
    exact fns_two (by have := IK.out.kept hb; exact this) i2 (by simp [go_sem]) (by simp [go_sem]) (by simp [go_sem]) (by simp [go_sem]) (by simp [go_sem]) (by simp [go_sem]))
  go_region_held3 (fun w' => w'.cell? ⟨u1.heap.size, 0, none⟩ = some (.int .i64 0) ∧ w'.cell? ⟨u1.heap.size, 1, none⟩ = some (.int .i64 1) ∧ w'.cell? ⟨u1.heap.size + 1, 0, none⟩ = some (.int .i64 16) ∧ w'.cell? ⟨u1.heap.size + 1, 1, none⟩ = some (.int .i64 0) ∧ w'.cell? ⟨gc, k, none⟩ = some (.slice (some ⟨gk, 0, none⟩) nk nk)) (exact keep5 (by first | go_grown | exact Below.drew (by go_grown)) q0 q1 r0 r1 cK) (fail)
  · go_wp2_with fail
    refine (verHeights _ _ _ pr 0 _ SA.out.f (LD0.out.up (kt B1.out (kt BU.out SA.out.b)))).mono ?_
    rintro e v2 ⟨vh, rfl, oh, b2⟩
    rw [F0.out] at oh ⊢
    obtain ⟨ah, nh, ch, rfl, ih⟩ := ints_of_owns oh (by simp)
    have hn : nh = 0 := ih.len
    subst hn
    have p2 := kept_cell b2 SA.out.p
    have f2 := hid (SA.out.f.kept b2)
    have C2 := hid (kt SA.out.b b2)
    clear SA SB SC oh ih b2 q0 q1 r0 r1 cK IK
    go_wp2_with fail
    refine (verHeights _ _ _ pr 1 _ f2.out (LD0.out.up (kt B1.out (kt BU.out C2.out)))).mono ?_
    rintro e v3 ⟨v4, rfl, -, b3⟩
    rw [F1.out]
    have f3 := hid (f2.out.kept b3)
    have C3 := hid (kt C2.out b3)
    have g0 := cell_regrown (kept_cell b3 p2)
    have g1 := cell_regrown (kept_cell C3.out cW)
    have g2 := cell_regrown (kept_cell C3.out cP)
    clear b3 p2 cW cP f2
    go_wp2_with fail
    refine wp_region_quiet_below (by kernel_rfl) (by kernel_rfl) ?_
    repeat (go_big_quiet_step (first | (go_at_call 7; exact Calls.regrown_of (num_below _ _)) | (go_at_call 8; exact Calls.regrown_of (FV.out ▸ verProgram _ _ _ pr _ (f3.out.kept (below_regrown _ _ _)) ((LD0.out.up (kt B1.out (kt BU.out C3.out))).up (below_regrown _ _ _))))))
    refine wpQuiet_nil ?_
    intro _ hw'
    obtain ⟨⟨dq, osq⟩, hw''⟩ := hw'
    subst hw''
    go_wp2_with fail
    go_ret
    exact ⟨rfl, kt (kt B1.out (kt BU.out C3.out)) (below_regrown _ _ _)⟩
  · go_wp2_with fail
    refine (verHeights _ _ _ pr 0 _ SB.out.f (LD0.out.up (kt B1.out (kt BU.out SB.out.b)))).mono ?_
    rintro e v2 ⟨vh, rfl, oh, b2⟩
    rw [F0.out] at oh ⊢
    obtain ⟨ah, nh, ch, rfl, ih⟩ := ints_of_owns oh (by simp)
    have hn : nh = 0 := ih.len
    subst hn
    have p2 := kept_cell b2 SB.out.p
    have f2 := hid (SB.out.f.kept b2)
    have C2 := hid (kt SB.out.b b2)
    clear SA SB SC oh ih b2 q0 q1 r0 r1 cK IK
    go_wp2_with fail
    refine (verHeights _ _ _ pr 1 _ f2.out (LD0.out.up (kt B1.out (kt BU.out C2.out)))).mono ?_
    rintro e v3 ⟨v4, rfl, -, b3⟩
    rw [F1.out]
    have f3 := hid (f2.out.kept b3)
    have C3 := hid (kt C2.out b3)
    have g0 := cell_regrown (kept_cell b3 p2)
    have g1 := cell_regrown (kept_cell C3.out cW)
    have g2 := cell_regrown (kept_cell C3.out cP)
    clear b3 p2 cW cP f2
    go_wp2_with fail
    refine wp_region_quiet_below (by kernel_rfl) (by kernel_rfl) ?_
    repeat (go_big_quiet_step (first | (go_at_call 7; exact Calls.regrown_of (num_below _ _)) | (go_at_call 8; exact Calls.regrown_of (FV.out ▸ verProgram _ _ _ pr _ (f3.out.kept (below_regrown _ _ _)) ((LD0.out.up (kt B1.out (kt BU.out C3.out))).up (below_regrown _ _ _))))))
    refine wpQuiet_nil ?_
    intro _ hw'
    obtain ⟨⟨dq, osq⟩, hw''⟩ := hw'
    subst hw''
    go_wp2_with fail
    go_ret
    exact ⟨rfl, kt (kt B1.out (kt BU.out C3.out)) (below_regrown _ _ _)⟩
  · go_wp2_with fail
    refine (verHeights _ _ _ pr 0 _ SC.out.f (LD0.out.up (kt B1.out (kt BU.out SC.out.b)))).mono ?_
    rintro e v2 ⟨vh, rfl, oh, b2⟩
    rw [F0.out] at oh ⊢
    obtain ⟨ah, nh, ch, rfl, ih⟩ := ints_of_owns oh (by simp)
    have hn : nh = 0 := ih.len
    subst hn
    have p2 := kept_cell b2 SC.out.p
    have f2 := hid (SC.out.f.kept b2)
    have C2 := hid (kt SC.out.b b2)
    clear SA SB SC oh ih b2 q0 q1 r0 r1 cK IK
    go_wp2_with fail
    refine (verHeights _ _ _ pr 1 _ f2.out (LD0.out.up (kt B1.out (kt BU.out C2.out)))).mono ?_
    rintro e v3 ⟨v4, rfl, -, b3⟩
    rw [F1.out]
    have f3 := hid (f2.out.kept b3)
    have C3 := hid (kt C2.out b3)
    have g0 := cell_regrown (kept_cell b3 p2)
    have g1 := cell_regrown (kept_cell C3.out cW)
    have g2 := cell_regrown (kept_cell C3.out cP)
    clear b3 p2 cW cP f2
    go_wp2_with fail
    refine wp_region_quiet_below (by kernel_rfl) (by kernel_rfl) ?_
    repeat (go_big_quiet_step (first | (go_at_call 7; exact Calls.regrown_of (num_below _ _)) | (go_at_call 8; exact Calls.regrown_of (FV.out ▸ verProgram _ _ _ pr _ (f3.out.kept (below_regrown _ _ _)) ((LD0.out.up (kt B1.out (kt BU.out C3.out))).up (below_regrown _ _ _))))))
    refine wpQuiet_nil ?_
    intro _ hw'
    obtain ⟨⟨dq, osq⟩, hw''⟩ := hw'
    subst hw''
    go_wp2_with fail
    go_ret
    exact ⟨rfl, kt (kt B1.out (kt BU.out C3.out)) (below_regrown _ _ _)⟩

set_option maxRecDepth 100000 in
theorem lifted (os : Os) (started : os.Started) (H : Type) (enc : TypeId × Value → H) :
    ReturnsInHanded {} Tryd.checked os 3 .any (fun w args => (Rows.verifyFormsSpec.pre enc Tryd.prog Tryd.f3 [] false w args ∧ laidMetH Tryd.prog [("math/bits.deBruijn32tab", Rows.laid_math_bits_deBruijn32tab), ("math/bits.deBruijn64tab", Rows.laid_math_bits_deBruijn64tab), ("internal/strconv.uint64pow10", Rows.laid_internal_strconv_uint64pow10), ("errors.errorType", Rows.laid_errors_errorType), ("swage/pack.errForm", Rows.laid_swage_pack_errForm), ("swage/pack.errEnd", Rows.laid_swage_pack_errEnd)] w) ∧ sizedMet enc Tryd.prog Tryd.f3 (OpenSpec.ofChange Rows.verifyFormsSpec) false w args) (Rows.verifyFormsSpec.post enc Tryd.prog Tryd.f3 false true false false) := by
  refine returnsInHanded_of_change_and (C := Tryd.checked) (X := fun w _ => laidMetH Tryd.prog [("math/bits.deBruijn32tab", Rows.laid_math_bits_deBruijn32tab), ("math/bits.deBruijn64tab", Rows.laid_math_bits_deBruijn64tab), ("internal/strconv.uint64pow10", Rows.laid_internal_strconv_uint64pow10), ("errors.errorType", Rows.laid_errors_errorType), ("swage/pack.errForm", Rows.laid_swage_pack_errForm), ("swage/pack.errEnd", Rows.laid_swage_pack_errEnd)] w) (fun _ _ _ hh h => h.of_heap hh) own started (by kernel_rfl) Tryd.func3
    (ChangeSpec.witness_shaped (enc := enc) (C := Tryd.checked) (os := os) (X := fun w _ => laidMetH Tryd.prog [("math/bits.deBruijn32tab", Rows.laid_math_bits_deBruijn32tab), ("math/bits.deBruijn64tab", Rows.laid_math_bits_deBruijn64tab), ("internal/strconv.uint64pow10", Rows.laid_internal_strconv_uint64pow10), ("errors.errorType", Rows.laid_errors_errorType), ("swage/pack.errForm", Rows.laid_swage_pack_errForm), ("swage/pack.errEnd", Rows.laid_swage_pack_errEnd)] w) false (World.doorLaid Tryd.prog 400 os) #[.int .i64 0] 8 rfl (World.shaped_of_RefB (by kernel_rfl) (by kernel_rfl)) (by kernel_rfl) (by kernel_rfl) (by kernel_rfl) (door_met os _)) ?_
  intro W base args ds gs before hval0 hW hcnd hsz0 hL _
  have hval : ∀ (j : Nat) t v, Tryd.f3.params[j]? = some t → args[j]? = some v → Value.okWide Tryd.prog W .any base t v := hval0
  have hW' := hW
  obtain ⟨p, q, hA0, hV, rfl, hfz, hnd⟩ := hW
  have hA : DataW.TrodAll enc Tryd.prog W 0 (fun _ => true) true Tryd.f3.params.toList args.toList ds p := hA0
  have hsz : (DataW.weightsEach Tryd.prog (Tryd.f3.params.toList ++ Rows.verifyFormsSpec.plain.varTypes Tryd.prog) (ds ++ gs)).all (· ≤ reachBytes) = true := hsz0
  rw [Tryd.params3] at hA hval hsz
  obtain ⟨v0, vs0, d0, ds0, p0, q0, hargs, rfl, rfl, h0, r0⟩ := trodAll_cons hA
  obtain ⟨rfl, rfl, rfl⟩ := trodAll_nil r0
  obtain rfl : args = #[v0] := by cases args; simp_all
  obtain ⟨rfl, rfl⟩ := trodVars_none hV
  have k0 := h0
  have lt0 : ∀ x ∈ p0, x.block < W.heap.size := by obtain ⟨m, hm⟩ := k0; exact DataW.trod_lt m _ _ _ hm
  obtain ⟨a0, rfl, rfl, rfl, w0⟩ := open_int Tryd.underlying3 (hval 0 3 v0 rfl rfl) h0
  clear hA0 hval0
  refine (walk a0 W w0 (ld_of hL)).mono fun e W' ⟨he, bel⟩ => ?_
  subst he
  exact ⟨_, rfl, _, _, _, [], _, [], hW', trodAll_mk1 (shut_bool Tryd.underlying4 _), (trodAll_cons_mk (Below.trod laidOut (by kernel_rfl) (of_decide_eq_true (by kernel_rfl)) k0 bel lt0) trodAll_mk0), rfl, bel.frame _, fun h => by cases h⟩

theorem over : Rows.verifyFormsRow.holds Tryd.pinned (OpenSpec.ofChange Rows.verifyFormsSpec) :=
  OpenClaim.holds_of_wide 3 Tryd.f3 rfl rfl rfl rfl rfl rfl rfl ⟨rfl, rfl, rfl, rfl, rfl⟩ rfl rfl rfl rfl rfl (by kernel_rfl) Tryd.func3 (by kernel_rfl)
    (of_decide_eq_true (by kernel_rfl)) (by unfold Func.isWrapper; first | (rw [if_pos (by decide +kernel)]; kernel_rfl) | (rw [if_neg (by decide +kernel)]; exact ⟨rfl, rfl⟩))
    (fun os started H enc _ => lifted os started H enc)
end Go.Proofs.YtnmhoahkmampkaaDoor.verifyForms
namespace Go.Proofs.YtnmhoahkmampkaaDoor
open Go
theorem verifyForms_holds : Rows.VerifyFormsCardSaid :=
  Claim7.holds_tied_plain_at .later [] [.data, .data, .data, .handle, .sentinel, .sentinel] true (true, "40da2d16cb8ddcb59ff9715e7f027a4318c6af9b6c28cd85eb6285048dfd96d7") true
    verifyForms.over (fun _ h => by cases h) (by kernel_rfl) (fun _ h => by cases h) verifyForms_row_tie rfl ⟨rfl, rfl⟩ (by kernel_rfl) rfl
    (fun f fn hf hfn => by
      obtain rfl : f = 3 := Option.some.inj ((show Tryd.prog.funcNamed "swage/swagelaw5.VerifyForms" = some 3 by kernel_rfl).symm.trans hf) |>.symm
      obtain rfl : fn = Tryd.f3 := (Option.some.inj (Tryd.func3.symm.trans hfn)).symm
      exact ⟨by kernel_rfl, fun j t ht => by
        rw [Tryd.params3] at ht
        have hm : t ∈ [3] := by simpa using Array.mem_of_getElem? ht
        have hall : ([3].all fun u => !Tryd.prog.wantsStandIn u) = true := by kernel_rfl
        exact (show Tryd.prog.wantsStandIn t = false by simpa using List.all_eq_true.1 hall t hm)⟩)
    (by kernel_rfl)
#print axioms verifyForms_holds
end Go.Proofs.YtnmhoahkmampkaaDoor
