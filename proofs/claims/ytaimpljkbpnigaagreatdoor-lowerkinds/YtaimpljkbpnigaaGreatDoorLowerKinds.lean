/- For any integer the law LowerKinds returns true: what each kind of instruction becomes, by hand. (The package's variables hold what the program's text lays.) -/
import Derived.Test.YtaimpljkbpnigaaGreatDoorRows
import Derived.WalkKit
import Derived.ProofKit
import Derived.OpenShut
import Derived.ShutString
import Derived.ChangeOld
import Derived.Below
import Derived.Carry
import Derived.Lib.SmallJoins
import Derived.Handy
import Derived.WalkSmall
import Derived.SizedLaws
import Derived.Test.YtaimpljkbpnigaaGreatDoorLaidOpenV
import Derived.Test.YtaimpljkbpnigaaGreatDoorCards
import Derived.Test.YtaimpljkbpnigaaGreatDoorTie
import Derived.SevenTiedAt
import Derived.LaidMore
import Derived.Stop.Joined
import Derived.Test.YtaimpljkbpnigaaGreatDoorJ11f
import Derived.Test.YtaimpljkbpnigaaGreatDoorJ10d
import Derived.Test.YtaimpljkbpnigaaGreatDoorJ11c
import Derived.Test.YtaimpljkbpnigaaGreatDoorJ11d
import Derived.Test.YtaimpljkbpnigaaGreatDoorJ10a
import Derived.Test.YtaimpljkbpnigaaGreatDoorJ10f
import Derived.Lib.QuietBelow
import Derived.Deep.QuietTactic
import Derived.BigQuiet
namespace Go.Proofs.YtaimpljkbpnigaaGreatDoor.lowerKinds
open Go.ChangeShapes Go.WideShapes Go.ChangeAt Go.RowKit
open Go.ChangeMaps (open_string shut_string)
set_option linter.unusedVariables false

theorem own : ownKnob Tryz.prog.godebug = none := by kernel_rfl
theorem laidOut : laidOutB Tryz.prog = true := by kernel_rfl

def kdL : List (Int × Int) := [(0, 9), (1, 0), (2, 0), (5, 0), (10, 0), (11, 0), (15, 0), (14, 1), (16, 0), (13, 3), (12, 3)]
def kdI : List IrT := [(1, 3, 0, 0, 9, [], 0, 0, 0), (2, 3, 0, 0, 0, [], 0, 0, 0), (2, 0, 2, 0, 0, [], 0, 0, 0), (3, 1, 1, 2, 5, [], 0, 0, 0), (2, 3, 2, 0, 0, [], 0, 0, 0), (0, 0, 0, 0, 0, [], 0, 0, 0), (7, 0, 2, 0, 0, [], 0, 0, 0), (6, 1, 0, 0, 1, [1, 2], 0, 0, 0), (8, 0, 2, 0, 0, [], 0, 0, 0), (5, 0, 2, 0, 3, [], 0, 0, 0), (4, 0, 0, 0, 3, [], 0, 0, 0)]
def kdP (x : Int × Int) : List Fn := [(0, 1, [(0, 4), (0, 5), x, (0, 6), (16, 0)]), (2, 2, [(0, 1), (16, 0)])]
theorem kd_0 : (lowerV (kdP (0, 9)) 0).1 = 0 ∧ (lowerV (kdP (0, 9)) 0).2.1 = 9 ∧ (lowerV (kdP (0, 9)) 0).2.2.2 = [] ∧ lowerE (kdP (0, 9)) 0 = 0 ∧ (lowerV (kdP (0, 9)) 0).2.2.1.length = 5 ∧ (lowerV (kdP (0, 9)) 0).2.2.1[0]? = some (1, 1, 0, 0, 4, [], 1, 0, 0) ∧ (lowerV (kdP (0, 9)) 0).2.2.1[1]? = some (1, 2, 0, 0, 5, [], 1, 0, 1) ∧ (lowerV (kdP (0, 9)) 0).2.2.1[2]? = some (1, 3, 0, 0, 9, [], 1, 0, 2) := ⟨by kernel_rfl, by kernel_rfl, by kernel_rfl, by kernel_rfl, by kernel_rfl, by kernel_rfl, by kernel_rfl, by kernel_rfl⟩
theorem kd_1 : (lowerV (kdP (1, 0)) 0).1 = 0 ∧ (lowerV (kdP (1, 0)) 0).2.1 = 9 ∧ (lowerV (kdP (1, 0)) 0).2.2.2 = [] ∧ lowerE (kdP (1, 0)) 0 = 0 ∧ (lowerV (kdP (1, 0)) 0).2.2.1.length = 5 ∧ (lowerV (kdP (1, 0)) 0).2.2.1[0]? = some (1, 1, 0, 0, 4, [], 1, 0, 0) ∧ (lowerV (kdP (1, 0)) 0).2.2.1[1]? = some (1, 2, 0, 0, 5, [], 1, 0, 1) ∧ (lowerV (kdP (1, 0)) 0).2.2.1[2]? = some (2, 3, 0, 0, 0, [], 1, 0, 2) := ⟨by kernel_rfl, by kernel_rfl, by kernel_rfl, by kernel_rfl, by kernel_rfl, by kernel_rfl, by kernel_rfl, by kernel_rfl⟩
theorem kd_2 : (lowerV (kdP (2, 0)) 0).1 = 0 ∧ (lowerV (kdP (2, 0)) 0).2.1 = 9 ∧ (lowerV (kdP (2, 0)) 0).2.2.2 = [] ∧ lowerE (kdP (2, 0)) 0 = 0 ∧ (lowerV (kdP (2, 0)) 0).2.2.1.length = 5 ∧ (lowerV (kdP (2, 0)) 0).2.2.1[0]? = some (1, 1, 0, 0, 4, [], 1, 0, 0) ∧ (lowerV (kdP (2, 0)) 0).2.2.1[1]? = some (1, 2, 0, 0, 5, [], 1, 0, 1) ∧ (lowerV (kdP (2, 0)) 0).2.2.1[2]? = some (2, 0, 2, 0, 0, [], 1, 0, 2) := ⟨by kernel_rfl, by kernel_rfl, by kernel_rfl, by kernel_rfl, by kernel_rfl, by kernel_rfl, by kernel_rfl, by kernel_rfl⟩
theorem kd_3 : (lowerV (kdP (5, 0)) 0).1 = 0 ∧ (lowerV (kdP (5, 0)) 0).2.1 = 9 ∧ (lowerV (kdP (5, 0)) 0).2.2.2 = [] ∧ lowerE (kdP (5, 0)) 0 = 0 ∧ (lowerV (kdP (5, 0)) 0).2.2.1.length = 5 ∧ (lowerV (kdP (5, 0)) 0).2.2.1[0]? = some (1, 1, 0, 0, 4, [], 1, 0, 0) ∧ (lowerV (kdP (5, 0)) 0).2.2.1[1]? = some (1, 2, 0, 0, 5, [], 1, 0, 1) ∧ (lowerV (kdP (5, 0)) 0).2.2.1[2]? = some (3, 1, 1, 2, 5, [], 1, 0, 2) := ⟨by kernel_rfl, by kernel_rfl, by kernel_rfl, by kernel_rfl, by kernel_rfl, by kernel_rfl, by kernel_rfl, by kernel_rfl⟩
theorem kd_4 : (lowerV (kdP (10, 0)) 0).1 = 0 ∧ (lowerV (kdP (10, 0)) 0).2.1 = 9 ∧ (lowerV (kdP (10, 0)) 0).2.2.2 = [] ∧ lowerE (kdP (10, 0)) 0 = 0 ∧ (lowerV (kdP (10, 0)) 0).2.2.1.length = 5 ∧ (lowerV (kdP (10, 0)) 0).2.2.1[0]? = some (1, 1, 0, 0, 4, [], 1, 0, 0) ∧ (lowerV (kdP (10, 0)) 0).2.2.1[1]? = some (1, 2, 0, 0, 5, [], 1, 0, 1) ∧ (lowerV (kdP (10, 0)) 0).2.2.1[2]? = some (2, 3, 2, 0, 0, [], 1, 0, 2) := ⟨by kernel_rfl, by kernel_rfl, by kernel_rfl, by kernel_rfl, by kernel_rfl, by kernel_rfl, by kernel_rfl, by kernel_rfl⟩
theorem kd_5 : (lowerV (kdP (11, 0)) 0).1 = 0 ∧ (lowerV (kdP (11, 0)) 0).2.1 = 9 ∧ (lowerV (kdP (11, 0)) 0).2.2.2 = [] ∧ lowerE (kdP (11, 0)) 0 = 0 ∧ (lowerV (kdP (11, 0)) 0).2.2.1.length = 5 ∧ (lowerV (kdP (11, 0)) 0).2.2.1[0]? = some (1, 1, 0, 0, 4, [], 1, 0, 0) ∧ (lowerV (kdP (11, 0)) 0).2.2.1[1]? = some (1, 2, 0, 0, 5, [], 1, 0, 1) ∧ (lowerV (kdP (11, 0)) 0).2.2.1[2]? = some (0, 0, 0, 0, 0, [], 1, 0, 2) := ⟨by kernel_rfl, by kernel_rfl, by kernel_rfl, by kernel_rfl, by kernel_rfl, by kernel_rfl, by kernel_rfl, by kernel_rfl⟩
theorem kd_6 : (lowerV (kdP (15, 0)) 0).1 = 0 ∧ (lowerV (kdP (15, 0)) 0).2.1 = 9 ∧ (lowerV (kdP (15, 0)) 0).2.2.2 = [] ∧ lowerE (kdP (15, 0)) 0 = 0 ∧ (lowerV (kdP (15, 0)) 0).2.2.1.length = 5 ∧ (lowerV (kdP (15, 0)) 0).2.2.1[0]? = some (1, 1, 0, 0, 4, [], 1, 0, 0) ∧ (lowerV (kdP (15, 0)) 0).2.2.1[1]? = some (1, 2, 0, 0, 5, [], 1, 0, 1) ∧ (lowerV (kdP (15, 0)) 0).2.2.1[2]? = some (7, 0, 2, 0, 0, [], 1, 0, 2) := ⟨by kernel_rfl, by kernel_rfl, by kernel_rfl, by kernel_rfl, by kernel_rfl, by kernel_rfl, by kernel_rfl, by kernel_rfl⟩
theorem kd_7 : (lowerV (kdP (14, 1)) 0).1 = 0 ∧ (lowerV (kdP (14, 1)) 0).2.1 = 9 ∧ (lowerV (kdP (14, 1)) 0).2.2.2 = [] ∧ lowerE (kdP (14, 1)) 0 = 0 ∧ (lowerV (kdP (14, 1)) 0).2.2.1.length = 5 ∧ (lowerV (kdP (14, 1)) 0).2.2.1[0]? = some (1, 1, 0, 0, 4, [], 1, 0, 0) ∧ (lowerV (kdP (14, 1)) 0).2.2.1[1]? = some (1, 2, 0, 0, 5, [], 1, 0, 1) ∧ (lowerV (kdP (14, 1)) 0).2.2.1[2]? = some (6, 1, 0, 0, 1, [1, 2], 1, 0, 2) := ⟨by kernel_rfl, by kernel_rfl, by kernel_rfl, by kernel_rfl, by kernel_rfl, by kernel_rfl, by kernel_rfl, by kernel_rfl⟩
theorem kd_8 : (lowerV (kdP (16, 0)) 0).1 = 0 ∧ (lowerV (kdP (16, 0)) 0).2.1 = 9 ∧ (lowerV (kdP (16, 0)) 0).2.2.2 = [] ∧ lowerE (kdP (16, 0)) 0 = 0 ∧ (lowerV (kdP (16, 0)) 0).2.2.1.length = 3 ∧ (lowerV (kdP (16, 0)) 0).2.2.1[0]? = some (1, 1, 0, 0, 4, [], 1, 0, 0) ∧ (lowerV (kdP (16, 0)) 0).2.2.1[1]? = some (1, 2, 0, 0, 5, [], 1, 0, 1) ∧ (lowerV (kdP (16, 0)) 0).2.2.1[2]? = some (8, 0, 2, 0, 0, [], 1, 0, 2) := ⟨by kernel_rfl, by kernel_rfl, by kernel_rfl, by kernel_rfl, by kernel_rfl, by kernel_rfl, by kernel_rfl, by kernel_rfl⟩
theorem kd_9 : (lowerV (kdP (13, 3)) 0).1 = 0 ∧ (lowerV (kdP (13, 3)) 0).2.1 = 9 ∧ (lowerV (kdP (13, 3)) 0).2.2.2 = [] ∧ lowerE (kdP (13, 3)) 0 = 0 ∧ (lowerV (kdP (13, 3)) 0).2.2.1.length = 5 ∧ (lowerV (kdP (13, 3)) 0).2.2.1[0]? = some (1, 1, 0, 0, 4, [], 1, 0, 0) ∧ (lowerV (kdP (13, 3)) 0).2.2.1[1]? = some (1, 2, 0, 0, 5, [], 1, 0, 1) ∧ (lowerV (kdP (13, 3)) 0).2.2.1[2]? = some (5, 0, 2, 0, 3, [], 1, 0, 2) := ⟨by kernel_rfl, by kernel_rfl, by kernel_rfl, by kernel_rfl, by kernel_rfl, by kernel_rfl, by kernel_rfl, by kernel_rfl⟩
theorem kd_10 : (lowerV (kdP (12, 3)) 0).1 = 0 ∧ (lowerV (kdP (12, 3)) 0).2.1 = 9 ∧ (lowerV (kdP (12, 3)) 0).2.2.2 = [] ∧ lowerE (kdP (12, 3)) 0 = 0 ∧ (lowerV (kdP (12, 3)) 0).2.2.1.length = 5 ∧ (lowerV (kdP (12, 3)) 0).2.2.1[0]? = some (1, 1, 0, 0, 4, [], 1, 0, 0) ∧ (lowerV (kdP (12, 3)) 0).2.2.1[1]? = some (1, 2, 0, 0, 5, [], 1, 0, 1) ∧ (lowerV (kdP (12, 3)) 0).2.2.1[2]? = some (4, 0, 0, 0, 3, [], 1, 0, 2) := ⟨by kernel_rfl, by kernel_rfl, by kernel_rfl, by kernel_rfl, by kernel_rfl, by kernel_rfl, by kernel_rfl, by kernel_rfl⟩
set_option maxRecDepth 100000 in
set_option maxHeartbeats 20000000 in
theorem walk (a0 : Int) (w : World) (w0 : (Lit.int .i64 a0).wf = true) (ld : Ld w) :
    Calls Tryz.prog 5 #[.int .i64 a0] w fun e w' => e = .returned (.bool true) ∧ Below w.heap.size w w' := by
  have LD0 := hid ld
  clear ld
  obtain ⟨hk0, hk1⟩ := umod_bd a0 11 (by decide)
  have KB := hid (And.intro hk0 hk1)
  clear hk0 hk1
  go_enter Tryz.func5, Tryz.ntmps5
  go_wp2_with fail
  refine (awake11_any _ LD0.out).mono ?_
  rintro e u1 ⟨rfl, b1⟩
  have B1 := hid b1
  clear b1
  go_upto_region 4 with fail
  refine wp_name ?_
  intro U hU
  have AU : Hid (Below u1.heap.size u1 U) := hid (by rw [hU]; exact Below.alloc (Below.refl _ _) (Nat.le_refl _) _)
  have IU : Hid (CellsAt U u1.heap.size (flat2 kdL)) := hid (by rw [hU]; exact (allocs_cells u1 [.cells (flat2 kdL).toArray 47] 0 _ 47 rfl).1)
  have BU := hid (kt B1.out AU.out)
  clear hU
  go_upto_region 5 with fail
  refine wp_name ?_
  intro X hX
  have EX : X = allocs U [.cells #[.int .i64 1, .int .i64 2] 3, .cells (irsV (.slice (some ⟨U.heap.size, 0, none⟩) 2 2) kdI).toArray 44] := hX
  have AX : Hid (Below U.heap.size U X) := hid (by rw [EX]; exact allocs_below _ _)
  have XA : Hid (CellsAt X (U.heap.size) (ints [1, 2])) := hid (by rw [EX]; exact (allocs_cells U _ 0 _ 3 rfl).1)
  have XI : Hid (CellsAt X (U.heap.size + 1) (irsV (.slice (some ⟨U.heap.size, 0, none⟩) 2 2) kdI)) := hid (by rw [EX]; exact (allocs_cells U _ 1 _ 44 rfl).1)
  have XK := hid (IU.out.kept AX.out)
  have BX := hid (kt BU.out AX.out)
  clear hX EX IU AU AX
  obtain ⟨k, hK⟩ : ∃ k, (IntKind.u64.wrap a0).tmod 11 = k := ⟨_, rfl⟩
  have hkb := KB.out
  rw [hK] at hkb
  have hcases : k = 0 ∨ k = 1 ∨ k = 2 ∨ k = 3 ∨ k = 4 ∨ k = 5 ∨ k = 6 ∨ k = 7 ∨ k = 8 ∨ k = 9 ∨ k = 10 := by omega
  rcases hcases with rfl | rfl | rfl | rfl | rfl | rfl | rfl | rfl | rfl | rfl | rfl
  · have j0 := XK.out 0 _ rfl
    have j1 := XK.out 1 _ rfl
    go_upto_region 7 with fail
    refine wp_name ?_
    intro Y hY
    have EY : Y = allocs X [.cells (flat2 [(0, 4), (0, 5), (0, 9), (0, 6), (16, 0)]).toArray 47, .cells (flat2 [(0, 1), (16, 0)]).toArray 47, .cells #[.int .i64 0, .int .i64 1, .slice (some ⟨X.heap.size, 0, none⟩) 5 5, .int .i64 2, .int .i64 2, .slice (some ⟨X.heap.size + 1, 0, none⟩) 2 2] 51, .cells #[.slice (some ⟨X.heap.size + 1 + 1, 0, none⟩) 2 2] 24] := hY
    have AY : Hid (Below X.heap.size X Y) := hid (by rw [EY]; exact allocs_below _ _)
    have FY : Fns Y (some ⟨X.heap.size + 1 + 1, 0, none⟩) 2 2 (kdP (0, 9)) := by
      rw [EY]
      exact fns_two (a := some ⟨X.heap.size, 0, none⟩) (n := 5) (c := 5) (a' := some ⟨X.heap.size + 1, 0, none⟩) (n' := 2) (c' := 2) (allocs_inss X _ 0 [(0, 4), (0, 5), (0, 9), (0, 6), (16, 0)] 47 rfl (by decide)) (allocs_inss X _ 1 [(0, 1), (16, 0)] 47 rfl (by decide)) (allocs_cell X _ 2 _ 51 rfl 0 _ rfl) (allocs_cell X _ 2 _ 51 rfl 1 _ rfl) (allocs_cell X _ 2 _ 51 rfl 2 _ rfl) (allocs_cell X _ 2 _ 51 rfl 3 _ rfl) (allocs_cell X _ 2 _ 51 rfl 4 _ rfl) (allocs_cell X _ 2 _ 51 rfl 5 _ rfl)
    have py : Y.cell? ⟨X.heap.size + 1 + 1 + 1, 0, none⟩ = some (.slice (some ⟨X.heap.size + 1 + 1, 0, none⟩) 2 2) := by rw [EY]; exact allocs_cell X _ 3 _ 24 rfl 0 _ rfl
    have BY := hid (kt BX.out AY.out)
    obtain ⟨v0, v1, vm, ve, vl, l0, l1, l2⟩ := kd_0
    have LA := lwrLower_any _ _ _ (kdP (0, 9)) 0 Y FY (LD0.out.up BY.out)
    rw [v0, v1, vm, ve] at LA
    have LA2 := hid LA
    generalize (lowerV (kdP (0, 9)) 0).2.2.1 = CL at LA2 vl l0 l1 l2
    have LL := hid (And.intro vl (And.intro l0 (And.intro l1 l2)))
    clear hY EY j0 j1 FY LA v0 v1 vm ve vl l0 l1 l2
    go_wp2_with fail
    refine LA2.out.mono ?_
    rintro e z1 ⟨av, am, N1, N2, rfl, oa, oam, -, -, -, b⟩
    obtain ⟨ca, cn, cc, rfl, ra⟩ := oa.reads
    obtain ⟨ma, mn, mc, rfl, rm⟩ := oam.reads
    have hcn : cn = 5 := ra.len.trans LL.out.1
    have hmn : mn = 0 := rm.len
    subst hcn
    subst hmn
    have RA := hid ra
    have B2 := hid (kt BY.out b)
    have XZ := hid (kt AY.out b)
    clear oa oam ra rm b py
    go_upto_region 8 with fail
    refine wp_name ?_
    intro W hW
    have AW : Hid (Below z1.heap.size z1 W) := hid (by rw [hW]; exact Below.alloc (Below.refl _ _) (Nat.le_refl _) _)
    have c1 : W.cell? ⟨z1.heap.size, 1, none⟩ = some (.int .i64 9) := by rw [hW]; simp [go_sem]
    have c2 : W.cell? ⟨z1.heap.size, 2, none⟩ = some (.slice ca 5 cc) := by rw [hW]; simp [go_sem]
    have c3 : W.cell? ⟨z1.heap.size, 3, none⟩ = some (.slice ma 0 mc) := by rw [hW]; simp [go_sem]
    have XI2 := hid (XI.out.kept (kt XZ.out AW.out))
    have q0 := XI2.out 0 _ rfl
    have q1 := XI2.out 1 _ rfl
    have q2 := XI2.out 2 _ rfl
    have q3 := XI2.out 3 _ rfl
    have q4 := XI2.out 4 _ rfl
    have q5 := XI2.out 5 _ rfl
    have q6 := XI2.out 6 _ rfl
    have q7 := XI2.out 7 _ rfl
    have q8 := XI2.out 8 _ rfl
    clear hW
    go_upto_region 13 with (first | (go_at_call 11; refine (num_any _ _).mono ?_; rintro e w' ⟨rfl, hw⟩; rw [hw]; clear hw))
    refine wp_name ?_
    intro V hV
    have AV : Hid (Below W.heap.size W V) := hid (by rw [hV]; go_grown)
    have d0 : V.cell? ⟨W.heap.size, 0, none⟩ = some (.int .i64 1) := by rw [hV]; simp [go_sem]
    have d1 : V.cell? ⟨W.heap.size, 1, none⟩ = some (.int .i64 3) := by rw [hV]; simp [go_sem]
    have d2 : V.cell? ⟨W.heap.size, 2, none⟩ = some (.int .i64 0) := by rw [hV]; simp [go_sem]
    have d3 : V.cell? ⟨W.heap.size, 3, none⟩ = some (.int .i64 0) := by rw [hV]; simp [go_sem]
    have d4 : V.cell? ⟨W.heap.size, 4, none⟩ = some (.int .i64 9) := by rw [hV]; simp [go_sem]
    have d5 : V.cell? ⟨W.heap.size, 5, none⟩ = some (.slice none 0 0) := by rw [hV]; simp [go_sem]
    have d6 : V.cell? ⟨W.heap.size, 6, none⟩ = some (.int .i64 1) := by rw [hV]; simp [go_sem]
    have d7 : V.cell? ⟨W.heap.size, 7, none⟩ = some (.int .i64 0) := by rw [hV]; simp [go_sem]
    have d8 : V.cell? ⟨W.heap.size, 8, none⟩ = some (.int .i64 2) := by rw [hV]; simp [go_sem]
    have ZV := hid (kt AW.out AV.out)
    obtain ⟨cb0, co0, kd, r, ra, rb, k, ya0, yn0, yc0, args, cost, mt, ip, rfl, hx, t0_0, t0_1, t0_2, t0_3, t0_4, t0_5, t0_6, t0_7, t0_8, ha0⟩ := ir_at (RA.out.kept ZV.out) 0 (by omega)
    have hx' : ((1 : Int), (1 : Int), (0 : Int), (0 : Int), (4 : Int), ([] : List Int), (1 : Int), (0 : Int), (0 : Int)) = (kd, r, ra, rb, k, args, cost, mt, ip) := Option.some.inj (LL.out.2.1.symm.trans hx)
    cases hx'
    have HA0 := hid ha0
    clear hx ha0
    simp only [Nat.zero_mul, Nat.add_zero] at t0_0 t0_1 t0_2 t0_3 t0_4 t0_5 t0_6 t0_7 t0_8
    obtain ⟨cb1, co1, kd, r, ra, rb, k, ya1, yn1, yc1, args, cost, mt, ip, eb, hx, t1_0, t1_1, t1_2, t1_3, t1_4, t1_5, t1_6, t1_7, t1_8, ha1⟩ := ir_at (RA.out.kept ZV.out) 1 (by omega)
    cases eb
    have hx' : ((1 : Int), (2 : Int), (0 : Int), (0 : Int), (5 : Int), ([] : List Int), (1 : Int), (0 : Int), (1 : Int)) = (kd, r, ra, rb, k, args, cost, mt, ip) := Option.some.inj (LL.out.2.2.1.symm.trans hx)
    cases hx'
    have HA1 := hid ha1
    clear hx ha1
    obtain ⟨cb2, co2, kd, r, ra, rb, k, ya2, yn2, yc2, args, cost, mt, ip, eb, hx, t2_0, t2_1, t2_2, t2_3, t2_4, t2_5, t2_6, t2_7, t2_8, ha2⟩ := ir_at (RA.out.kept ZV.out) 2 (by omega)
    cases eb
    have hx' : ((1 : Int), (3 : Int), (0 : Int), (0 : Int), (9 : Int), ([] : List Int), (1 : Int), (0 : Int), (2 : Int)) = (kd, r, ra, rb, k, args, cost, mt, ip) := Option.some.inj (LL.out.2.2.2.symm.trans hx)
    cases hx'
    have HA2 := hid ha2
    clear hx ha2
    have SI0 : Hid (∀ w', Below V.heap.size V w' → Calls Tryz.prog 16 #[.agg #[.int .i64 1, .int .i64 1, .int .i64 0, .int .i64 0, .int .i64 4, .slice ya0 yn0 yc0, .int .i64 1, .int .i64 0, .int .i64 0], .agg #[.int .i64 1, .int .i64 1, .int .i64 0, .int .i64 0, .int .i64 4, .slice none 0 0, .int .i64 1, .int .i64 0, .int .i64 0]] w' fun e w'' => e = .returned (.bool true) ∧ Below w'.heap.size w' w'') := hid (fun w' b => sameIr_same _ _ _ _ _ _ _ _ _ _ _ [] _ _ _ _ (HA0.out.kept b) (Ints.nil _))
    have SI1 : Hid (∀ w', Below V.heap.size V w' → Calls Tryz.prog 16 #[.agg #[.int .i64 1, .int .i64 2, .int .i64 0, .int .i64 0, .int .i64 5, .slice ya1 yn1 yc1, .int .i64 1, .int .i64 0, .int .i64 1], .agg #[.int .i64 1, .int .i64 2, .int .i64 0, .int .i64 0, .int .i64 5, .slice none 0 0, .int .i64 1, .int .i64 0, .int .i64 1]] w' fun e w'' => e = .returned (.bool true) ∧ Below w'.heap.size w' w'') := hid (fun w' b => sameIr_same _ _ _ _ _ _ _ _ _ _ _ [] _ _ _ _ (HA1.out.kept b) (Ints.nil _))
    have SI2 : Hid (∀ w', Below V.heap.size V w' → Calls Tryz.prog 16 #[.agg #[.int .i64 1, .int .i64 3, .int .i64 0, .int .i64 0, .int .i64 9, .slice ya2 yn2 yc2, .int .i64 1, .int .i64 0, .int .i64 2], .agg #[.int .i64 1, .int .i64 3, .int .i64 0, .int .i64 0, .int .i64 9, .slice none 0 0, .int .i64 1, .int .i64 0, .int .i64 2]] w' fun e w'' => e = .returned (.bool true) ∧ Below w'.heap.size w' w'') := hid (fun w' b => sameIr_same _ _ _ _ _ _ _ _ _ _ _ [] _ _ _ _ (HA2.out.kept b) (Ints.nil _))
    have gc2 := cell_regrown (kept_cell AV.out c2)
    have gc3 := cell_regrown (kept_cell AV.out c3)
    have gd0 := cell_regrown d0
    have gd1 := cell_regrown d1
    have gd2 := cell_regrown d2
    have gd3 := cell_regrown d3
    have gd4 := cell_regrown d4
    have gd5 := cell_regrown d5
    have gd6 := cell_regrown d6
    have gd7 := cell_regrown d7
    have gd8 := cell_regrown d8
    have gt0_0 := cell_regrown t0_0
    have gt0_1 := cell_regrown t0_1
    have gt0_2 := cell_regrown t0_2
    have gt0_3 := cell_regrown t0_3
    have gt0_4 := cell_regrown t0_4
    have gt0_5 := cell_regrown t0_5
    have gt0_6 := cell_regrown t0_6
    have gt0_7 := cell_regrown t0_7
    have gt0_8 := cell_regrown t0_8
    have gt1_0 := cell_regrown t1_0
    have gt1_1 := cell_regrown t1_1
    have gt1_2 := cell_regrown t1_2
    have gt1_3 := cell_regrown t1_3
    have gt1_4 := cell_regrown t1_4
    have gt1_5 := cell_regrown t1_5
    have gt1_6 := cell_regrown t1_6
    have gt1_7 := cell_regrown t1_7
    have gt1_8 := cell_regrown t1_8
    have gt2_0 := cell_regrown t2_0
    have gt2_1 := cell_regrown t2_1
    have gt2_2 := cell_regrown t2_2
    have gt2_3 := cell_regrown t2_3
    have gt2_4 := cell_regrown t2_4
    have gt2_5 := cell_regrown t2_5
    have gt2_6 := cell_regrown t2_6
    have gt2_7 := cell_regrown t2_7
    have gt2_8 := cell_regrown t2_8
    clear hV c1 c2 c3 d0 d1 d2 d3 d4 d5 d6 d7 d8 t0_0 t0_1 t0_2 t0_3 t0_4 t0_5 t0_6 t0_7 t0_8 t1_0 t1_1 t1_2 t1_3 t1_4 t1_5 t1_6 t1_7 t1_8 t2_0 t2_1 t2_2 t2_3 t2_4 t2_5 t2_6 t2_7 t2_8 q0 q1 q2 q3 q4 q5 q6 q7 q8
    refine wp_region_quiet_below (by kernel_rfl) (by kernel_rfl) ?_
    repeat (go_big_quiet_step (first | (go_at_call 16; first | with_reducible exact Calls.regrown_of (SI0.out _ (below_regrown _ _ _)) | with_reducible exact Calls.regrown_of (SI1.out _ (below_regrown _ _ _)) | with_reducible exact Calls.regrown_of (SI2.out _ (below_regrown _ _ _)))))
    refine wpQuiet_nil ?_
    intro _ hw'
    obtain ⟨⟨dq, osq⟩, hw''⟩ := hw'
    subst hw''
    go_wp2_with fail
    go_ret
    exact ⟨rfl, kt B2.out (kt ZV.out (below_regrown _ _ _))⟩
  · have j0 := XK.out 2 _ rfl
    have j1 := XK.out 3 _ rfl
    go_upto_region 7 with fail
    refine wp_name ?_
    intro Y hY
    have EY : Y = allocs X [.cells (flat2 [(0, 4), (0, 5), (1, 0), (0, 6), (16, 0)]).toArray 47, .cells (flat2 [(0, 1), (16, 0)]).toArray 47, .cells #[.int .i64 0, .int .i64 1, .slice (some ⟨X.heap.size, 0, none⟩) 5 5, .int .i64 2, .int .i64 2, .slice (some ⟨X.heap.size + 1, 0, none⟩) 2 2] 51, .cells #[.slice (some ⟨X.heap.size + 1 + 1, 0, none⟩) 2 2] 24] := hY
    have AY : Hid (Below X.heap.size X Y) := hid (by rw [EY]; exact allocs_below _ _)
    have FY : Fns Y (some ⟨X.heap.size + 1 + 1, 0, none⟩) 2 2 (kdP (1, 0)) := by
      rw [EY]
      exact fns_two (a := some ⟨X.heap.size, 0, none⟩) (n := 5) (c := 5) (a' := some ⟨X.heap.size + 1, 0, none⟩) (n' := 2) (c' := 2) (allocs_inss X _ 0 [(0, 4), (0, 5), (1, 0), (0, 6), (16, 0)] 47 rfl (by decide)) (allocs_inss X _ 1 [(0, 1), (16, 0)] 47 rfl (by decide)) (allocs_cell X _ 2 _ 51 rfl 0 _ rfl) (allocs_cell X _ 2 _ 51 rfl 1 _ rfl) (allocs_cell X _ 2 _ 51 rfl 2 _ rfl) (allocs_cell X _ 2 _ 51 rfl 3 _ rfl) (allocs_cell X _ 2 _ 51 rfl 4 _ rfl) (allocs_cell X _ 2 _ 51 rfl 5 _ rfl)
    have py : Y.cell? ⟨X.heap.size + 1 + 1 + 1, 0, none⟩ = some (.slice (some ⟨X.heap.size + 1 + 1, 0, none⟩) 2 2) := by rw [EY]; exact allocs_cell X _ 3 _ 24 rfl 0 _ rfl
    have BY := hid (kt BX.out AY.out)
    obtain ⟨v0, v1, vm, ve, vl, l0, l1, l2⟩ := kd_1
    have LA := lwrLower_any _ _ _ (kdP (1, 0)) 0 Y FY (LD0.out.up BY.out)
    rw [v0, v1, vm, ve] at LA
    have LA2 := hid LA
    generalize (lowerV (kdP (1, 0)) 0).2.2.1 = CL at LA2 vl l0 l1 l2
    have LL := hid (And.intro vl (And.intro l0 (And.intro l1 l2)))
    clear hY EY j0 j1 FY LA v0 v1 vm ve vl l0 l1 l2
    go_wp2_with fail
    refine LA2.out.mono ?_
    rintro e z1 ⟨av, am, N1, N2, rfl, oa, oam, -, -, -, b⟩
    obtain ⟨ca, cn, cc, rfl, ra⟩ := oa.reads
    obtain ⟨ma, mn, mc, rfl, rm⟩ := oam.reads
    have hcn : cn = 5 := ra.len.trans LL.out.1
    have hmn : mn = 0 := rm.len
    subst hcn
    subst hmn
    have RA := hid ra
    have B2 := hid (kt BY.out b)
    have XZ := hid (kt AY.out b)
    clear oa oam ra rm b py
    go_upto_region 8 with fail
    refine wp_name ?_
    intro W hW
    have AW : Hid (Below z1.heap.size z1 W) := hid (by rw [hW]; exact Below.alloc (Below.refl _ _) (Nat.le_refl _) _)
    have c1 : W.cell? ⟨z1.heap.size, 1, none⟩ = some (.int .i64 9) := by rw [hW]; simp [go_sem]
    have c2 : W.cell? ⟨z1.heap.size, 2, none⟩ = some (.slice ca 5 cc) := by rw [hW]; simp [go_sem]
    have c3 : W.cell? ⟨z1.heap.size, 3, none⟩ = some (.slice ma 0 mc) := by rw [hW]; simp [go_sem]
    have XI2 := hid (XI.out.kept (kt XZ.out AW.out))
    have q0 := XI2.out 9 _ rfl
    have q1 := XI2.out 10 _ rfl
    have q2 := XI2.out 11 _ rfl
    have q3 := XI2.out 12 _ rfl
    have q4 := XI2.out 13 _ rfl
    have q5 := XI2.out 14 _ rfl
    have q6 := XI2.out 15 _ rfl
    have q7 := XI2.out 16 _ rfl
    have q8 := XI2.out 17 _ rfl
    clear hW
    go_upto_region 13 with (first | (go_at_call 11; refine (num_any _ _).mono ?_; rintro e w' ⟨rfl, hw⟩; rw [hw]; clear hw))
    refine wp_name ?_
    intro V hV
    have AV : Hid (Below W.heap.size W V) := hid (by rw [hV]; go_grown)
    have d0 : V.cell? ⟨W.heap.size, 0, none⟩ = some (.int .i64 2) := by rw [hV]; simp [go_sem]
    have d1 : V.cell? ⟨W.heap.size, 1, none⟩ = some (.int .i64 3) := by rw [hV]; simp [go_sem]
    have d2 : V.cell? ⟨W.heap.size, 2, none⟩ = some (.int .i64 0) := by rw [hV]; simp [go_sem]
    have d3 : V.cell? ⟨W.heap.size, 3, none⟩ = some (.int .i64 0) := by rw [hV]; simp [go_sem]
    have d4 : V.cell? ⟨W.heap.size, 4, none⟩ = some (.int .i64 0) := by rw [hV]; simp [go_sem]
    have d5 : V.cell? ⟨W.heap.size, 5, none⟩ = some (.slice none 0 0) := by rw [hV]; simp [go_sem]
    have d6 : V.cell? ⟨W.heap.size, 6, none⟩ = some (.int .i64 1) := by rw [hV]; simp [go_sem]
    have d7 : V.cell? ⟨W.heap.size, 7, none⟩ = some (.int .i64 0) := by rw [hV]; simp [go_sem]
    have d8 : V.cell? ⟨W.heap.size, 8, none⟩ = some (.int .i64 2) := by rw [hV]; simp [go_sem]
    have ZV := hid (kt AW.out AV.out)
    obtain ⟨cb0, co0, kd, r, ra, rb, k, ya0, yn0, yc0, args, cost, mt, ip, rfl, hx, t0_0, t0_1, t0_2, t0_3, t0_4, t0_5, t0_6, t0_7, t0_8, ha0⟩ := ir_at (RA.out.kept ZV.out) 0 (by omega)
    have hx' : ((1 : Int), (1 : Int), (0 : Int), (0 : Int), (4 : Int), ([] : List Int), (1 : Int), (0 : Int), (0 : Int)) = (kd, r, ra, rb, k, args, cost, mt, ip) := Option.some.inj (LL.out.2.1.symm.trans hx)
    cases hx'
    have HA0 := hid ha0
    clear hx ha0
    simp only [Nat.zero_mul, Nat.add_zero] at t0_0 t0_1 t0_2 t0_3 t0_4 t0_5 t0_6 t0_7 t0_8
    obtain ⟨cb1, co1, kd, r, ra, rb, k, ya1, yn1, yc1, args, cost, mt, ip, eb, hx, t1_0, t1_1, t1_2, t1_3, t1_4, t1_5, t1_6, t1_7, t1_8, ha1⟩ := ir_at (RA.out.kept ZV.out) 1 (by omega)
    cases eb
    have hx' : ((1 : Int), (2 : Int), (0 : Int), (0 : Int), (5 : Int), ([] : List Int), (1 : Int), (0 : Int), (1 : Int)) = (kd, r, ra, rb, k, args, cost, mt, ip) := Option.some.inj (LL.out.2.2.1.symm.trans hx)
    cases hx'
    have HA1 := hid ha1
    clear hx ha1
    obtain ⟨cb2, co2, kd, r, ra, rb, k, ya2, yn2, yc2, args, cost, mt, ip, eb, hx, t2_0, t2_1, t2_2, t2_3, t2_4, t2_5, t2_6, t2_7, t2_8, ha2⟩ := ir_at (RA.out.kept ZV.out) 2 (by omega)
    cases eb
    have hx' : ((2 : Int), (3 : Int), (0 : Int), (0 : Int), (0 : Int), ([] : List Int), (1 : Int), (0 : Int), (2 : Int)) = (kd, r, ra, rb, k, args, cost, mt, ip) := Option.some.inj (LL.out.2.2.2.symm.trans hx)
    cases hx'
    have HA2 := hid ha2
    clear hx ha2
    have SI0 : Hid (∀ w', Below V.heap.size V w' → Calls Tryz.prog 16 #[.agg #[.int .i64 1, .int .i64 1, .int .i64 0, .int .i64 0, .int .i64 4, .slice ya0 yn0 yc0, .int .i64 1, .int .i64 0, .int .i64 0], .agg #[.int .i64 1, .int .i64 1, .int .i64 0, .int .i64 0, .int .i64 4, .slice none 0 0, .int .i64 1, .int .i64 0, .int .i64 0]] w' fun e w'' => e = .returned (.bool true) ∧ Below w'.heap.size w' w'') := hid (fun w' b => sameIr_same _ _ _ _ _ _ _ _ _ _ _ [] _ _ _ _ (HA0.out.kept b) (Ints.nil _))
    have SI1 : Hid (∀ w', Below V.heap.size V w' → Calls Tryz.prog 16 #[.agg #[.int .i64 1, .int .i64 2, .int .i64 0, .int .i64 0, .int .i64 5, .slice ya1 yn1 yc1, .int .i64 1, .int .i64 0, .int .i64 1], .agg #[.int .i64 1, .int .i64 2, .int .i64 0, .int .i64 0, .int .i64 5, .slice none 0 0, .int .i64 1, .int .i64 0, .int .i64 1]] w' fun e w'' => e = .returned (.bool true) ∧ Below w'.heap.size w' w'') := hid (fun w' b => sameIr_same _ _ _ _ _ _ _ _ _ _ _ [] _ _ _ _ (HA1.out.kept b) (Ints.nil _))
    have SI2 : Hid (∀ w', Below V.heap.size V w' → Calls Tryz.prog 16 #[.agg #[.int .i64 2, .int .i64 3, .int .i64 0, .int .i64 0, .int .i64 0, .slice ya2 yn2 yc2, .int .i64 1, .int .i64 0, .int .i64 2], .agg #[.int .i64 2, .int .i64 3, .int .i64 0, .int .i64 0, .int .i64 0, .slice none 0 0, .int .i64 1, .int .i64 0, .int .i64 2]] w' fun e w'' => e = .returned (.bool true) ∧ Below w'.heap.size w' w'') := hid (fun w' b => sameIr_same _ _ _ _ _ _ _ _ _ _ _ [] _ _ _ _ (HA2.out.kept b) (Ints.nil _))
    have gc2 := cell_regrown (kept_cell AV.out c2)
    have gc3 := cell_regrown (kept_cell AV.out c3)
    have gd0 := cell_regrown d0
    have gd1 := cell_regrown d1
    have gd2 := cell_regrown d2
    have gd3 := cell_regrown d3
    have gd4 := cell_regrown d4
    have gd5 := cell_regrown d5
    have gd6 := cell_regrown d6
    have gd7 := cell_regrown d7
    have gd8 := cell_regrown d8
    have gt0_0 := cell_regrown t0_0
    have gt0_1 := cell_regrown t0_1
    have gt0_2 := cell_regrown t0_2
    have gt0_3 := cell_regrown t0_3
    have gt0_4 := cell_regrown t0_4
    have gt0_5 := cell_regrown t0_5
    have gt0_6 := cell_regrown t0_6
    have gt0_7 := cell_regrown t0_7
    have gt0_8 := cell_regrown t0_8
    have gt1_0 := cell_regrown t1_0
    have gt1_1 := cell_regrown t1_1
    have gt1_2 := cell_regrown t1_2
    have gt1_3 := cell_regrown t1_3
    have gt1_4 := cell_regrown t1_4
    have gt1_5 := cell_regrown t1_5
    have gt1_6 := cell_regrown t1_6
    have gt1_7 := cell_regrown t1_7
    have gt1_8 := cell_regrown t1_8
    have gt2_0 := cell_regrown t2_0
    have gt2_1 := cell_regrown t2_1
    have gt2_2 := cell_regrown t2_2
    have gt2_3 := cell_regrown t2_3
    have gt2_4 := cell_regrown t2_4
    have gt2_5 := cell_regrown t2_5
    have gt2_6 := cell_regrown t2_6
    have gt2_7 := cell_regrown t2_7
    have gt2_8 := cell_regrown t2_8
    clear hV c1 c2 c3 d0 d1 d2 d3 d4 d5 d6 d7 d8 t0_0 t0_1 t0_2 t0_3 t0_4 t0_5 t0_6 t0_7 t0_8 t1_0 t1_1 t1_2 t1_3 t1_4 t1_5 t1_6 t1_7 t1_8 t2_0 t2_1 t2_2 t2_3 t2_4 t2_5 t2_6 t2_7 t2_8 q0 q1 q2 q3 q4 q5 q6 q7 q8
    refine wp_region_quiet_below (by kernel_rfl) (by kernel_rfl) ?_
    repeat (go_big_quiet_step (first | (go_at_call 16; first | with_reducible exact Calls.regrown_of (SI0.out _ (below_regrown _ _ _)) | with_reducible exact Calls.regrown_of (SI1.out _ (below_regrown _ _ _)) | with_reducible exact Calls.regrown_of (SI2.out _ (below_regrown _ _ _)))))
    refine wpQuiet_nil ?_
    intro _ hw'
    obtain ⟨⟨dq, osq⟩, hw''⟩ := hw'
    subst hw''
    go_wp2_with fail
    go_ret
    exact ⟨rfl, kt B2.out (kt ZV.out (below_regrown _ _ _))⟩
  · have j0 := XK.out 4 _ rfl
    have j1 := XK.out 5 _ rfl
    go_upto_region 7 with fail
    refine wp_name ?_
    intro Y hY
    have EY : Y = allocs X [.cells (flat2 [(0, 4), (0, 5), (2, 0), (0, 6), (16, 0)]).toArray 47, .cells (flat2 [(0, 1), (16, 0)]).toArray 47, .cells #[.int .i64 0, .int .i64 1, .slice (some ⟨X.heap.size, 0, none⟩) 5 5, .int .i64 2, .int .i64 2, .slice (some ⟨X.heap.size + 1, 0, none⟩) 2 2] 51, .cells #[.slice (some ⟨X.heap.size + 1 + 1, 0, none⟩) 2 2] 24] := hY
    have AY : Hid (Below X.heap.size X Y) := hid (by rw [EY]; exact allocs_below _ _)
    have FY : Fns Y (some ⟨X.heap.size + 1 + 1, 0, none⟩) 2 2 (kdP (2, 0)) := by
      rw [EY]
      exact fns_two (a := some ⟨X.heap.size, 0, none⟩) (n := 5) (c := 5) (a' := some ⟨X.heap.size + 1, 0, none⟩) (n' := 2) (c' := 2) (allocs_inss X _ 0 [(0, 4), (0, 5), (2, 0), (0, 6), (16, 0)] 47 rfl (by decide)) (allocs_inss X _ 1 [(0, 1), (16, 0)] 47 rfl (by decide)) (allocs_cell X _ 2 _ 51 rfl 0 _ rfl) (allocs_cell X _ 2 _ 51 rfl 1 _ rfl) (allocs_cell X _ 2 _ 51 rfl 2 _ rfl) (allocs_cell X _ 2 _ 51 rfl 3 _ rfl) (allocs_cell X _ 2 _ 51 rfl 4 _ rfl) (allocs_cell X _ 2 _ 51 rfl 5 _ rfl)
    have py : Y.cell? ⟨X.heap.size + 1 + 1 + 1, 0, none⟩ = some (.slice (some ⟨X.heap.size + 1 + 1, 0, none⟩) 2 2) := by rw [EY]; exact allocs_cell X _ 3 _ 24 rfl 0 _ rfl
    have BY := hid (kt BX.out AY.out)
    obtain ⟨v0, v1, vm, ve, vl, l0, l1, l2⟩ := kd_2
    have LA := lwrLower_any _ _ _ (kdP (2, 0)) 0 Y FY (LD0.out.up BY.out)
    rw [v0, v1, vm, ve] at LA
    have LA2 := hid LA
    generalize (lowerV (kdP (2, 0)) 0).2.2.1 = CL at LA2 vl l0 l1 l2
    have LL := hid (And.intro vl (And.intro l0 (And.intro l1 l2)))
    clear hY EY j0 j1 FY LA v0 v1 vm ve vl l0 l1 l2
    go_wp2_with fail
    refine LA2.out.mono ?_
    rintro e z1 ⟨av, am, N1, N2, rfl, oa, oam, -, -, -, b⟩
    obtain ⟨ca, cn, cc, rfl, ra⟩ := oa.reads
    obtain ⟨ma, mn, mc, rfl, rm⟩ := oam.reads
    have hcn : cn = 5 := ra.len.trans LL.out.1
    have hmn : mn = 0 := rm.len
    subst hcn
    subst hmn
    have RA := hid ra
    have B2 := hid (kt BY.out b)
    have XZ := hid (kt AY.out b)
    clear oa oam ra rm b py
    go_upto_region 8 with fail
    refine wp_name ?_
    intro W hW
    have AW : Hid (Below z1.heap.size z1 W) := hid (by rw [hW]; exact Below.alloc (Below.refl _ _) (Nat.le_refl _) _)
    have c1 : W.cell? ⟨z1.heap.size, 1, none⟩ = some (.int .i64 9) := by rw [hW]; simp [go_sem]
    have c2 : W.cell? ⟨z1.heap.size, 2, none⟩ = some (.slice ca 5 cc) := by rw [hW]; simp [go_sem]
    have c3 : W.cell? ⟨z1.heap.size, 3, none⟩ = some (.slice ma 0 mc) := by rw [hW]; simp [go_sem]
    have XI2 := hid (XI.out.kept (kt XZ.out AW.out))
    have q0 := XI2.out 18 _ rfl
    have q1 := XI2.out 19 _ rfl
    have q2 := XI2.out 20 _ rfl
    have q3 := XI2.out 21 _ rfl
    have q4 := XI2.out 22 _ rfl
    have q5 := XI2.out 23 _ rfl
    have q6 := XI2.out 24 _ rfl
    have q7 := XI2.out 25 _ rfl
    have q8 := XI2.out 26 _ rfl
    clear hW
    go_upto_region 13 with (first | (go_at_call 11; refine (num_any _ _).mono ?_; rintro e w' ⟨rfl, hw⟩; rw [hw]; clear hw))
    refine wp_name ?_
    intro V hV
    have AV : Hid (Below W.heap.size W V) := hid (by rw [hV]; go_grown)
    have d0 : V.cell? ⟨W.heap.size, 0, none⟩ = some (.int .i64 2) := by rw [hV]; simp [go_sem]
    have d1 : V.cell? ⟨W.heap.size, 1, none⟩ = some (.int .i64 0) := by rw [hV]; simp [go_sem]
    have d2 : V.cell? ⟨W.heap.size, 2, none⟩ = some (.int .i64 2) := by rw [hV]; simp [go_sem]
    have d3 : V.cell? ⟨W.heap.size, 3, none⟩ = some (.int .i64 0) := by rw [hV]; simp [go_sem]
    have d4 : V.cell? ⟨W.heap.size, 4, none⟩ = some (.int .i64 0) := by rw [hV]; simp [go_sem]
    have d5 : V.cell? ⟨W.heap.size, 5, none⟩ = some (.slice none 0 0) := by rw [hV]; simp [go_sem]
    have d6 : V.cell? ⟨W.heap.size, 6, none⟩ = some (.int .i64 1) := by rw [hV]; simp [go_sem]
    have d7 : V.cell? ⟨W.heap.size, 7, none⟩ = some (.int .i64 0) := by rw [hV]; simp [go_sem]
    have d8 : V.cell? ⟨W.heap.size, 8, none⟩ = some (.int .i64 2) := by rw [hV]; simp [go_sem]
    have ZV := hid (kt AW.out AV.out)
    obtain ⟨cb0, co0, kd, r, ra, rb, k, ya0, yn0, yc0, args, cost, mt, ip, rfl, hx, t0_0, t0_1, t0_2, t0_3, t0_4, t0_5, t0_6, t0_7, t0_8, ha0⟩ := ir_at (RA.out.kept ZV.out) 0 (by omega)
    have hx' : ((1 : Int), (1 : Int), (0 : Int), (0 : Int), (4 : Int), ([] : List Int), (1 : Int), (0 : Int), (0 : Int)) = (kd, r, ra, rb, k, args, cost, mt, ip) := Option.some.inj (LL.out.2.1.symm.trans hx)
    cases hx'
    have HA0 := hid ha0
    clear hx ha0
    simp only [Nat.zero_mul, Nat.add_zero] at t0_0 t0_1 t0_2 t0_3 t0_4 t0_5 t0_6 t0_7 t0_8
    obtain ⟨cb1, co1, kd, r, ra, rb, k, ya1, yn1, yc1, args, cost, mt, ip, eb, hx, t1_0, t1_1, t1_2, t1_3, t1_4, t1_5, t1_6, t1_7, t1_8, ha1⟩ := ir_at (RA.out.kept ZV.out) 1 (by omega)
    cases eb
    have hx' : ((1 : Int), (2 : Int), (0 : Int), (0 : Int), (5 : Int), ([] : List Int), (1 : Int), (0 : Int), (1 : Int)) = (kd, r, ra, rb, k, args, cost, mt, ip) := Option.some.inj (LL.out.2.2.1.symm.trans hx)
    cases hx'
    have HA1 := hid ha1
    clear hx ha1
    obtain ⟨cb2, co2, kd, r, ra, rb, k, ya2, yn2, yc2, args, cost, mt, ip, eb, hx, t2_0, t2_1, t2_2, t2_3, t2_4, t2_5, t2_6, t2_7, t2_8, ha2⟩ := ir_at (RA.out.kept ZV.out) 2 (by omega)
    cases eb
    have hx' : ((2 : Int), (0 : Int), (2 : Int), (0 : Int), (0 : Int), ([] : List Int), (1 : Int), (0 : Int), (2 : Int)) = (kd, r, ra, rb, k, args, cost, mt, ip) := Option.some.inj (LL.out.2.2.2.symm.trans hx)
    cases hx'
    have HA2 := hid ha2
    clear hx ha2
    have SI0 : Hid (∀ w', Below V.heap.size V w' → Calls Tryz.prog 16 #[.agg #[.int .i64 1, .int .i64 1, .int .i64 0, .int .i64 0, .int .i64 4, .slice ya0 yn0 yc0, .int .i64 1, .int .i64 0, .int .i64 0], .agg #[.int .i64 1, .int .i64 1, .int .i64 0, .int .i64 0, .int .i64 4, .slice none 0 0, .int .i64 1, .int .i64 0, .int .i64 0]] w' fun e w'' => e = .returned (.bool true) ∧ Below w'.heap.size w' w'') := hid (fun w' b => sameIr_same _ _ _ _ _ _ _ _ _ _ _ [] _ _ _ _ (HA0.out.kept b) (Ints.nil _))
    have SI1 : Hid (∀ w', Below V.heap.size V w' → Calls Tryz.prog 16 #[.agg #[.int .i64 1, .int .i64 2, .int .i64 0, .int .i64 0, .int .i64 5, .slice ya1 yn1 yc1, .int .i64 1, .int .i64 0, .int .i64 1], .agg #[.int .i64 1, .int .i64 2, .int .i64 0, .int .i64 0, .int .i64 5, .slice none 0 0, .int .i64 1, .int .i64 0, .int .i64 1]] w' fun e w'' => e = .returned (.bool true) ∧ Below w'.heap.size w' w'') := hid (fun w' b => sameIr_same _ _ _ _ _ _ _ _ _ _ _ [] _ _ _ _ (HA1.out.kept b) (Ints.nil _))
    have SI2 : Hid (∀ w', Below V.heap.size V w' → Calls Tryz.prog 16 #[.agg #[.int .i64 2, .int .i64 0, .int .i64 2, .int .i64 0, .int .i64 0, .slice ya2 yn2 yc2, .int .i64 1, .int .i64 0, .int .i64 2], .agg #[.int .i64 2, .int .i64 0, .int .i64 2, .int .i64 0, .int .i64 0, .slice none 0 0, .int .i64 1, .int .i64 0, .int .i64 2]] w' fun e w'' => e = .returned (.bool true) ∧ Below w'.heap.size w' w'') := hid (fun w' b => sameIr_same _ _ _ _ _ _ _ _ _ _ _ [] _ _ _ _ (HA2.out.kept b) (Ints.nil _))
    have gc2 := cell_regrown (kept_cell AV.out c2)
    have gc3 := cell_regrown (kept_cell AV.out c3)
    have gd0 := cell_regrown d0
    have gd1 := cell_regrown d1
    have gd2 := cell_regrown d2
    have gd3 := cell_regrown d3
    have gd4 := cell_regrown d4
    have gd5 := cell_regrown d5
    have gd6 := cell_regrown d6
    have gd7 := cell_regrown d7
    have gd8 := cell_regrown d8
    have gt0_0 := cell_regrown t0_0
    have gt0_1 := cell_regrown t0_1
    have gt0_2 := cell_regrown t0_2
    have gt0_3 := cell_regrown t0_3
    have gt0_4 := cell_regrown t0_4
    have gt0_5 := cell_regrown t0_5
    have gt0_6 := cell_regrown t0_6
    have gt0_7 := cell_regrown t0_7
    have gt0_8 := cell_regrown t0_8
    have gt1_0 := cell_regrown t1_0
    have gt1_1 := cell_regrown t1_1
    have gt1_2 := cell_regrown t1_2
    have gt1_3 := cell_regrown t1_3
    have gt1_4 := cell_regrown t1_4
    have gt1_5 := cell_regrown t1_5
    have gt1_6 := cell_regrown t1_6
    have gt1_7 := cell_regrown t1_7
    have gt1_8 := cell_regrown t1_8
    have gt2_0 := cell_regrown t2_0
    have gt2_1 := cell_regrown t2_1
    have gt2_2 := cell_regrown t2_2
    have gt2_3 := cell_regrown t2_3
    have gt2_4 := cell_regrown t2_4
    have gt2_5 := cell_regrown t2_5
    have gt2_6 := cell_regrown t2_6
    have gt2_7 := cell_regrown t2_7
    have gt2_8 := cell_regrown t2_8
    clear hV c1 c2 c3 d0 d1 d2 d3 d4 d5 d6 d7 d8 t0_0 t0_1 t0_2 t0_3 t0_4 t0_5 t0_6 t0_7 t0_8 t1_0 t1_1 t1_2 t1_3 t1_4 t1_5 t1_6 t1_7 t1_8 t2_0 t2_1 t2_2 t2_3 t2_4 t2_5 t2_6 t2_7 t2_8 q0 q1 q2 q3 q4 q5 q6 q7 q8
    refine wp_region_quiet_below (by kernel_rfl) (by kernel_rfl) ?_
    repeat (go_big_quiet_step (first | (go_at_call 16; first | with_reducible exact Calls.regrown_of (SI0.out _ (below_regrown _ _ _)) | with_reducible exact Calls.regrown_of (SI1.out _ (below_regrown _ _ _)) | with_reducible exact Calls.regrown_of (SI2.out _ (below_regrown _ _ _)))))
    refine wpQuiet_nil ?_
    intro _ hw'
    obtain ⟨⟨dq, osq⟩, hw''⟩ := hw'
    subst hw''
    go_wp2_with fail
    go_ret
    exact ⟨rfl, kt B2.out (kt ZV.out (below_regrown _ _ _))⟩
  · have j0 := XK.out 6 _ rfl
    have j1 := XK.out 7 _ rfl
    go_upto_region 7 with fail
    refine wp_name ?_
    intro Y hY
    have EY : Y = allocs X [.cells (flat2 [(0, 4), (0, 5), (5, 0), (0, 6), (16, 0)]).toArray 47, .cells (flat2 [(0, 1), (16, 0)]).toArray 47, .cells #[.int .i64 0, .int .i64 1, .slice (some ⟨X.heap.size, 0, none⟩) 5 5, .int .i64 2, .int .i64 2, .slice (some ⟨X.heap.size + 1, 0, none⟩) 2 2] 51, .cells #[.slice (some ⟨X.heap.size + 1 + 1, 0, none⟩) 2 2] 24] := hY
    have AY : Hid (Below X.heap.size X Y) := hid (by rw [EY]; exact allocs_below _ _)
    have FY : Fns Y (some ⟨X.heap.size + 1 + 1, 0, none⟩) 2 2 (kdP (5, 0)) := by
      rw [EY]
      exact fns_two (a := some ⟨X.heap.size, 0, none⟩) (n := 5) (c := 5) (a' := some ⟨X.heap.size + 1, 0, none⟩) (n' := 2) (c' := 2) (allocs_inss X _ 0 [(0, 4), (0, 5), (5, 0), (0, 6), (16, 0)] 47 rfl (by decide)) (allocs_inss X _ 1 [(0, 1), (16, 0)] 47 rfl (by decide)) (allocs_cell X _ 2 _ 51 rfl 0 _ rfl) (allocs_cell X _ 2 _ 51 rfl 1 _ rfl) (allocs_cell X _ 2 _ 51 rfl 2 _ rfl) (allocs_cell X _ 2 _ 51 rfl 3 _ rfl) (allocs_cell X _ 2 _ 51 rfl 4 _ rfl) (allocs_cell X _ 2 _ 51 rfl 5 _ rfl)
    have py : Y.cell? ⟨X.heap.size + 1 + 1 + 1, 0, none⟩ = some (.slice (some ⟨X.heap.size + 1 + 1, 0, none⟩) 2 2) := by rw [EY]; exact allocs_cell X _ 3 _ 24 rfl 0 _ rfl
    have BY := hid (kt BX.out AY.out)
    obtain ⟨v0, v1, vm, ve, vl, l0, l1, l2⟩ := kd_3
    have LA := lwrLower_any _ _ _ (kdP (5, 0)) 0 Y FY (LD0.out.up BY.out)
    rw [v0, v1, vm, ve] at LA
    have LA2 := hid LA
    generalize (lowerV (kdP (5, 0)) 0).2.2.1 = CL at LA2 vl l0 l1 l2
    have LL := hid (And.intro vl (And.intro l0 (And.intro l1 l2)))
    clear hY EY j0 j1 FY LA v0 v1 vm ve vl l0 l1 l2
    go_wp2_with fail
    refine LA2.out.mono ?_
    rintro e z1 ⟨av, am, N1, N2, rfl, oa, oam, -, -, -, b⟩
    obtain ⟨ca, cn, cc, rfl, ra⟩ := oa.reads
    obtain ⟨ma, mn, mc, rfl, rm⟩ := oam.reads
    have hcn : cn = 5 := ra.len.trans LL.out.1
    have hmn : mn = 0 := rm.len
    subst hcn
    subst hmn
    have RA := hid ra
    have B2 := hid (kt BY.out b)
    have XZ := hid (kt AY.out b)
    clear oa oam ra rm b py
    go_upto_region 8 with fail
    refine wp_name ?_
    intro W hW
    have AW : Hid (Below z1.heap.size z1 W) := hid (by rw [hW]; exact Below.alloc (Below.refl _ _) (Nat.le_refl _) _)
    have c1 : W.cell? ⟨z1.heap.size, 1, none⟩ = some (.int .i64 9) := by rw [hW]; simp [go_sem]
    have c2 : W.cell? ⟨z1.heap.size, 2, none⟩ = some (.slice ca 5 cc) := by rw [hW]; simp [go_sem]
    have c3 : W.cell? ⟨z1.heap.size, 3, none⟩ = some (.slice ma 0 mc) := by rw [hW]; simp [go_sem]
    have XI2 := hid (XI.out.kept (kt XZ.out AW.out))
    have q0 := XI2.out 27 _ rfl
    have q1 := XI2.out 28 _ rfl
    have q2 := XI2.out 29 _ rfl
    have q3 := XI2.out 30 _ rfl
    have q4 := XI2.out 31 _ rfl
    have q5 := XI2.out 32 _ rfl
    have q6 := XI2.out 33 _ rfl
    have q7 := XI2.out 34 _ rfl
    have q8 := XI2.out 35 _ rfl
    clear hW
    go_upto_region 13 with (first | (go_at_call 11; refine (num_any _ _).mono ?_; rintro e w' ⟨rfl, hw⟩; rw [hw]; clear hw))
    refine wp_name ?_
    intro V hV
    have AV : Hid (Below W.heap.size W V) := hid (by rw [hV]; go_grown)
    have d0 : V.cell? ⟨W.heap.size, 0, none⟩ = some (.int .i64 3) := by rw [hV]; simp [go_sem]
    have d1 : V.cell? ⟨W.heap.size, 1, none⟩ = some (.int .i64 1) := by rw [hV]; simp [go_sem]
    have d2 : V.cell? ⟨W.heap.size, 2, none⟩ = some (.int .i64 1) := by rw [hV]; simp [go_sem]
    have d3 : V.cell? ⟨W.heap.size, 3, none⟩ = some (.int .i64 2) := by rw [hV]; simp [go_sem]
    have d4 : V.cell? ⟨W.heap.size, 4, none⟩ = some (.int .i64 5) := by rw [hV]; simp [go_sem]
    have d5 : V.cell? ⟨W.heap.size, 5, none⟩ = some (.slice none 0 0) := by rw [hV]; simp [go_sem]
    have d6 : V.cell? ⟨W.heap.size, 6, none⟩ = some (.int .i64 1) := by rw [hV]; simp [go_sem]
    have d7 : V.cell? ⟨W.heap.size, 7, none⟩ = some (.int .i64 0) := by rw [hV]; simp [go_sem]
    have d8 : V.cell? ⟨W.heap.size, 8, none⟩ = some (.int .i64 2) := by rw [hV]; simp [go_sem]
    have ZV := hid (kt AW.out AV.out)
    obtain ⟨cb0, co0, kd, r, ra, rb, k, ya0, yn0, yc0, args, cost, mt, ip, rfl, hx, t0_0, t0_1, t0_2, t0_3, t0_4, t0_5, t0_6, t0_7, t0_8, ha0⟩ := ir_at (RA.out.kept ZV.out) 0 (by omega)
    have hx' : ((1 : Int), (1 : Int), (0 : Int), (0 : Int), (4 : Int), ([] : List Int), (1 : Int), (0 : Int), (0 : Int)) = (kd, r, ra, rb, k, args, cost, mt, ip) := Option.some.inj (LL.out.2.1.symm.trans hx)
    cases hx'
    have HA0 := hid ha0
    clear hx ha0
    simp only [Nat.zero_mul, Nat.add_zero] at t0_0 t0_1 t0_2 t0_3 t0_4 t0_5 t0_6 t0_7 t0_8
    obtain ⟨cb1, co1, kd, r, ra, rb, k, ya1, yn1, yc1, args, cost, mt, ip, eb, hx, t1_0, t1_1, t1_2, t1_3, t1_4, t1_5, t1_6, t1_7, t1_8, ha1⟩ := ir_at (RA.out.kept ZV.out) 1 (by omega)
    cases eb
    have hx' : ((1 : Int), (2 : Int), (0 : Int), (0 : Int), (5 : Int), ([] : List Int), (1 : Int), (0 : Int), (1 : Int)) = (kd, r, ra, rb, k, args, cost, mt, ip) := Option.some.inj (LL.out.2.2.1.symm.trans hx)
    cases hx'
    have HA1 := hid ha1
    clear hx ha1
    obtain ⟨cb2, co2, kd, r, ra, rb, k, ya2, yn2, yc2, args, cost, mt, ip, eb, hx, t2_0, t2_1, t2_2, t2_3, t2_4, t2_5, t2_6, t2_7, t2_8, ha2⟩ := ir_at (RA.out.kept ZV.out) 2 (by omega)
    cases eb
    have hx' : ((3 : Int), (1 : Int), (1 : Int), (2 : Int), (5 : Int), ([] : List Int), (1 : Int), (0 : Int), (2 : Int)) = (kd, r, ra, rb, k, args, cost, mt, ip) := Option.some.inj (LL.out.2.2.2.symm.trans hx)
    cases hx'
    have HA2 := hid ha2
    clear hx ha2
    have SI0 : Hid (∀ w', Below V.heap.size V w' → Calls Tryz.prog 16 #[.agg #[.int .i64 1, .int .i64 1, .int .i64 0, .int .i64 0, .int .i64 4, .slice ya0 yn0 yc0, .int .i64 1, .int .i64 0, .int .i64 0], .agg #[.int .i64 1, .int .i64 1, .int .i64 0, .int .i64 0, .int .i64 4, .slice none 0 0, .int .i64 1, .int .i64 0, .int .i64 0]] w' fun e w'' => e = .returned (.bool true) ∧ Below w'.heap.size w' w'') := hid (fun w' b => sameIr_same _ _ _ _ _ _ _ _ _ _ _ [] _ _ _ _ (HA0.out.kept b) (Ints.nil _))
    have SI1 : Hid (∀ w', Below V.heap.size V w' → Calls Tryz.prog 16 #[.agg #[.int .i64 1, .int .i64 2, .int .i64 0, .int .i64 0, .int .i64 5, .slice ya1 yn1 yc1, .int .i64 1, .int .i64 0, .int .i64 1], .agg #[.int .i64 1, .int .i64 2, .int .i64 0, .int .i64 0, .int .i64 5, .slice none 0 0, .int .i64 1, .int .i64 0, .int .i64 1]] w' fun e w'' => e = .returned (.bool true) ∧ Below w'.heap.size w' w'') := hid (fun w' b => sameIr_same _ _ _ _ _ _ _ _ _ _ _ [] _ _ _ _ (HA1.out.kept b) (Ints.nil _))
    have SI2 : Hid (∀ w', Below V.heap.size V w' → Calls Tryz.prog 16 #[.agg #[.int .i64 3, .int .i64 1, .int .i64 1, .int .i64 2, .int .i64 5, .slice ya2 yn2 yc2, .int .i64 1, .int .i64 0, .int .i64 2], .agg #[.int .i64 3, .int .i64 1, .int .i64 1, .int .i64 2, .int .i64 5, .slice none 0 0, .int .i64 1, .int .i64 0, .int .i64 2]] w' fun e w'' => e = .returned (.bool true) ∧ Below w'.heap.size w' w'') := hid (fun w' b => sameIr_same _ _ _ _ _ _ _ _ _ _ _ [] _ _ _ _ (HA2.out.kept b) (Ints.nil _))
    have gc2 := cell_regrown (kept_cell AV.out c2)
    have gc3 := cell_regrown (kept_cell AV.out c3)
    have gd0 := cell_regrown d0
    have gd1 := cell_regrown d1
    have gd2 := cell_regrown d2
    have gd3 := cell_regrown d3
    have gd4 := cell_regrown d4
    have gd5 := cell_regrown d5
    have gd6 := cell_regrown d6
    have gd7 := cell_regrown d7
    have gd8 := cell_regrown d8
    have gt0_0 := cell_regrown t0_0
    have gt0_1 := cell_regrown t0_1
    have gt0_2 := cell_regrown t0_2
    have gt0_3 := cell_regrown t0_3
    have gt0_4 := cell_regrown t0_4
    have gt0_5 := cell_regrown t0_5
    have gt0_6 := cell_regrown t0_6
    have gt0_7 := cell_regrown t0_7
    have gt0_8 := cell_regrown t0_8
    have gt1_0 := cell_regrown t1_0
    have gt1_1 := cell_regrown t1_1
    have gt1_2 := cell_regrown t1_2
    have gt1_3 := cell_regrown t1_3
    have gt1_4 := cell_regrown t1_4
    have gt1_5 := cell_regrown t1_5
    have gt1_6 := cell_regrown t1_6
    have gt1_7 := cell_regrown t1_7
    have gt1_8 := cell_regrown t1_8
    have gt2_0 := cell_regrown t2_0
    have gt2_1 := cell_regrown t2_1
    have gt2_2 := cell_regrown t2_2
    have gt2_3 := cell_regrown t2_3
    have gt2_4 := cell_regrown t2_4
    have gt2_5 := cell_regrown t2_5
    have gt2_6 := cell_regrown t2_6
    have gt2_7 := cell_regrown t2_7
    have gt2_8 := cell_regrown t2_8
    clear hV c1 c2 c3 d0 d1 d2 d3 d4 d5 d6 d7 d8 t0_0 t0_1 t0_2 t0_3 t0_4 t0_5 t0_6 t0_7 t0_8 t1_0 t1_1 t1_2 t1_3 t1_4 t1_5 t1_6 t1_7 t1_8 t2_0 t2_1 t2_2 t2_3 t2_4 t2_5 t2_6 t2_7 t2_8 q0 q1 q2 q3 q4 q5 q6 q7 q8
    refine wp_region_quiet_below (by kernel_rfl) (by kernel_rfl) ?_
    repeat (go_big_quiet_step (first | (go_at_call 16; first | with_reducible exact Calls.regrown_of (SI0.out _ (below_regrown _ _ _)) | with_reducible exact Calls.regrown_of (SI1.out _ (below_regrown _ _ _)) | with_reducible exact Calls.regrown_of (SI2.out _ (below_regrown _ _ _)))))
    refine wpQuiet_nil ?_
    intro _ hw'
    obtain ⟨⟨dq, osq⟩, hw''⟩ := hw'
    subst hw''
    go_wp2_with fail
    go_ret
    exact ⟨rfl, kt B2.out (kt ZV.out (below_regrown _ _ _))⟩
  · have j0 := XK.out 8 _ rfl
    have j1 := XK.out 9 _ rfl
    go_upto_region 7 with fail
    refine wp_name ?_
    intro Y hY
    have EY : Y = allocs X [.cells (flat2 [(0, 4), (0, 5), (10, 0), (0, 6), (16, 0)]).toArray 47, .cells (flat2 [(0, 1), (16, 0)]).toArray 47, .cells #[.int .i64 0, .int .i64 1, .slice (some ⟨X.heap.size, 0, none⟩) 5 5, .int .i64 2, .int .i64 2, .slice (some ⟨X.heap.size + 1, 0, none⟩) 2 2] 51, .cells #[.slice (some ⟨X.heap.size + 1 + 1, 0, none⟩) 2 2] 24] := hY
    have AY : Hid (Below X.heap.size X Y) := hid (by rw [EY]; exact allocs_below _ _)
    have FY : Fns Y (some ⟨X.heap.size + 1 + 1, 0, none⟩) 2 2 (kdP (10, 0)) := by
      rw [EY]
      exact fns_two (a := some ⟨X.heap.size, 0, none⟩) (n := 5) (c := 5) (a' := some ⟨X.heap.size + 1, 0, none⟩) (n' := 2) (c' := 2) (allocs_inss X _ 0 [(0, 4), (0, 5), (10, 0), (0, 6), (16, 0)] 47 rfl (by decide)) (allocs_inss X _ 1 [(0, 1), (16, 0)] 47 rfl (by decide)) (allocs_cell X _ 2 _ 51 rfl 0 _ rfl) (allocs_cell X _ 2 _ 51 rfl 1 _ rfl) (allocs_cell X _ 2 _ 51 rfl 2 _ rfl) (allocs_cell X _ 2 _ 51 rfl 3 _ rfl) (allocs_cell X _ 2 _ 51 rfl 4 _ rfl) (allocs_cell X _ 2 _ 51 rfl 5 _ rfl)
    have py : Y.cell? ⟨X.heap.size + 1 + 1 + 1, 0, none⟩ = some (.slice (some ⟨X.heap.size + 1 + 1, 0, none⟩) 2 2) := by rw [EY]; exact allocs_cell X _ 3 _ 24 rfl 0 _ rfl
    have BY := hid (kt BX.out AY.out)
    obtain ⟨v0, v1, vm, ve, vl, l0, l1, l2⟩ := kd_4
    have LA := lwrLower_any _ _ _ (kdP (10, 0)) 0 Y FY (LD0.out.up BY.out)
    rw [v0, v1, vm, ve] at LA
    have LA2 := hid LA
    generalize (lowerV (kdP (10, 0)) 0).2.2.1 = CL at LA2 vl l0 l1 l2
    have LL := hid (And.intro vl (And.intro l0 (And.intro l1 l2)))
    clear hY EY j0 j1 FY LA v0 v1 vm ve vl l0 l1 l2
    go_wp2_with fail
    refine LA2.out.mono ?_
    rintro e z1 ⟨av, am, N1, N2, rfl, oa, oam, -, -, -, b⟩
    obtain ⟨ca, cn, cc, rfl, ra⟩ := oa.reads
    obtain ⟨ma, mn, mc, rfl, rm⟩ := oam.reads
    have hcn : cn = 5 := ra.len.trans LL.out.1
    have hmn : mn = 0 := rm.len
    subst hcn
    subst hmn
    have RA := hid ra
    have B2 := hid (kt BY.out b)
    have XZ := hid (kt AY.out b)
    clear oa oam ra rm b py
    go_upto_region 8 with fail
    refine wp_name ?_
    intro W hW
    have AW : Hid (Below z1.heap.size z1 W) := hid (by rw [hW]; exact Below.alloc (Below.refl _ _) (Nat.le_refl _) _)
    have c1 : W.cell? ⟨z1.heap.size, 1, none⟩ = some (.int .i64 9) := by rw [hW]; simp [go_sem]
    have c2 : W.cell? ⟨z1.heap.size, 2, none⟩ = some (.slice ca 5 cc) := by rw [hW]; simp [go_sem]
    have c3 : W.cell? ⟨z1.heap.size, 3, none⟩ = some (.slice ma 0 mc) := by rw [hW]; simp [go_sem]
    have XI2 := hid (XI.out.kept (kt XZ.out AW.out))
    have q0 := XI2.out 36 _ rfl
    have q1 := XI2.out 37 _ rfl
    have q2 := XI2.out 38 _ rfl
    have q3 := XI2.out 39 _ rfl
    have q4 := XI2.out 40 _ rfl
    have q5 := XI2.out 41 _ rfl
    have q6 := XI2.out 42 _ rfl
    have q7 := XI2.out 43 _ rfl
    have q8 := XI2.out 44 _ rfl
    clear hW
    go_upto_region 13 with (first | (go_at_call 11; refine (num_any _ _).mono ?_; rintro e w' ⟨rfl, hw⟩; rw [hw]; clear hw))
    refine wp_name ?_
    intro V hV
    have AV : Hid (Below W.heap.size W V) := hid (by rw [hV]; go_grown)
    have d0 : V.cell? ⟨W.heap.size, 0, none⟩ = some (.int .i64 2) := by rw [hV]; simp [go_sem]
    have d1 : V.cell? ⟨W.heap.size, 1, none⟩ = some (.int .i64 3) := by rw [hV]; simp [go_sem]
    have d2 : V.cell? ⟨W.heap.size, 2, none⟩ = some (.int .i64 2) := by rw [hV]; simp [go_sem]
    have d3 : V.cell? ⟨W.heap.size, 3, none⟩ = some (.int .i64 0) := by rw [hV]; simp [go_sem]
    have d4 : V.cell? ⟨W.heap.size, 4, none⟩ = some (.int .i64 0) := by rw [hV]; simp [go_sem]
    have d5 : V.cell? ⟨W.heap.size, 5, none⟩ = some (.slice none 0 0) := by rw [hV]; simp [go_sem]
    have d6 : V.cell? ⟨W.heap.size, 6, none⟩ = some (.int .i64 1) := by rw [hV]; simp [go_sem]
    have d7 : V.cell? ⟨W.heap.size, 7, none⟩ = some (.int .i64 0) := by rw [hV]; simp [go_sem]
    have d8 : V.cell? ⟨W.heap.size, 8, none⟩ = some (.int .i64 2) := by rw [hV]; simp [go_sem]
    have ZV := hid (kt AW.out AV.out)
    obtain ⟨cb0, co0, kd, r, ra, rb, k, ya0, yn0, yc0, args, cost, mt, ip, rfl, hx, t0_0, t0_1, t0_2, t0_3, t0_4, t0_5, t0_6, t0_7, t0_8, ha0⟩ := ir_at (RA.out.kept ZV.out) 0 (by omega)
    have hx' : ((1 : Int), (1 : Int), (0 : Int), (0 : Int), (4 : Int), ([] : List Int), (1 : Int), (0 : Int), (0 : Int)) = (kd, r, ra, rb, k, args, cost, mt, ip) := Option.some.inj (LL.out.2.1.symm.trans hx)
    cases hx'
    have HA0 := hid ha0
    clear hx ha0
    simp only [Nat.zero_mul, Nat.add_zero] at t0_0 t0_1 t0_2 t0_3 t0_4 t0_5 t0_6 t0_7 t0_8
    obtain ⟨cb1, co1, kd, r, ra, rb, k, ya1, yn1, yc1, args, cost, mt, ip, eb, hx, t1_0, t1_1, t1_2, t1_3, t1_4, t1_5, t1_6, t1_7, t1_8, ha1⟩ := ir_at (RA.out.kept ZV.out) 1 (by omega)
    cases eb
    have hx' : ((1 : Int), (2 : Int), (0 : Int), (0 : Int), (5 : Int), ([] : List Int), (1 : Int), (0 : Int), (1 : Int)) = (kd, r, ra, rb, k, args, cost, mt, ip) := Option.some.inj (LL.out.2.2.1.symm.trans hx)
    cases hx'
    have HA1 := hid ha1
    clear hx ha1
    obtain ⟨cb2, co2, kd, r, ra, rb, k, ya2, yn2, yc2, args, cost, mt, ip, eb, hx, t2_0, t2_1, t2_2, t2_3, t2_4, t2_5, t2_6, t2_7, t2_8, ha2⟩ := ir_at (RA.out.kept ZV.out) 2 (by omega)
    cases eb
    have hx' : ((2 : Int), (3 : Int), (2 : Int), (0 : Int), (0 : Int), ([] : List Int), (1 : Int), (0 : Int), (2 : Int)) = (kd, r, ra, rb, k, args, cost, mt, ip) := Option.some.inj (LL.out.2.2.2.symm.trans hx)
    cases hx'
    have HA2 := hid ha2
    clear hx ha2
    have SI0 : Hid (∀ w', Below V.heap.size V w' → Calls Tryz.prog 16 #[.agg #[.int .i64 1, .int .i64 1, .int .i64 0, .int .i64 0, .int .i64 4, .slice ya0 yn0 yc0, .int .i64 1, .int .i64 0, .int .i64 0], .agg #[.int .i64 1, .int .i64 1, .int .i64 0, .int .i64 0, .int .i64 4, .slice none 0 0, .int .i64 1, .int .i64 0, .int .i64 0]] w' fun e w'' => e = .returned (.bool true) ∧ Below w'.heap.size w' w'') := hid (fun w' b => sameIr_same _ _ _ _ _ _ _ _ _ _ _ [] _ _ _ _ (HA0.out.kept b) (Ints.nil _))
    have SI1 : Hid (∀ w', Below V.heap.size V w' → Calls Tryz.prog 16 #[.agg #[.int .i64 1, .int .i64 2, .int .i64 0, .int .i64 0, .int .i64 5, .slice ya1 yn1 yc1, .int .i64 1, .int .i64 0, .int .i64 1], .agg #[.int .i64 1, .int .i64 2, .int .i64 0, .int .i64 0, .int .i64 5, .slice none 0 0, .int .i64 1, .int .i64 0, .int .i64 1]] w' fun e w'' => e = .returned (.bool true) ∧ Below w'.heap.size w' w'') := hid (fun w' b => sameIr_same _ _ _ _ _ _ _ _ _ _ _ [] _ _ _ _ (HA1.out.kept b) (Ints.nil _))
    have SI2 : Hid (∀ w', Below V.heap.size V w' → Calls Tryz.prog 16 #[.agg #[.int .i64 2, .int .i64 3, .int .i64 2, .int .i64 0, .int .i64 0, .slice ya2 yn2 yc2, .int .i64 1, .int .i64 0, .int .i64 2], .agg #[.int .i64 2, .int .i64 3, .int .i64 2, .int .i64 0, .int .i64 0, .slice none 0 0, .int .i64 1, .int .i64 0, .int .i64 2]] w' fun e w'' => e = .returned (.bool true) ∧ Below w'.heap.size w' w'') := hid (fun w' b => sameIr_same _ _ _ _ _ _ _ _ _ _ _ [] _ _ _ _ (HA2.out.kept b) (Ints.nil _))
    have gc2 := cell_regrown (kept_cell AV.out c2)
    have gc3 := cell_regrown (kept_cell AV.out c3)
    have gd0 := cell_regrown d0
    have gd1 := cell_regrown d1
    have gd2 := cell_regrown d2
    have gd3 := cell_regrown d3
    have gd4 := cell_regrown d4
    have gd5 := cell_regrown d5
    have gd6 := cell_regrown d6
    have gd7 := cell_regrown d7
    have gd8 := cell_regrown d8
    have gt0_0 := cell_regrown t0_0
    have gt0_1 := cell_regrown t0_1
    have gt0_2 := cell_regrown t0_2
    have gt0_3 := cell_regrown t0_3
    have gt0_4 := cell_regrown t0_4
    have gt0_5 := cell_regrown t0_5
    have gt0_6 := cell_regrown t0_6
    have gt0_7 := cell_regrown t0_7
    have gt0_8 := cell_regrown t0_8
    have gt1_0 := cell_regrown t1_0
    have gt1_1 := cell_regrown t1_1
    have gt1_2 := cell_regrown t1_2
    have gt1_3 := cell_regrown t1_3
    have gt1_4 := cell_regrown t1_4
    have gt1_5 := cell_regrown t1_5
    have gt1_6 := cell_regrown t1_6
    have gt1_7 := cell_regrown t1_7
    have gt1_8 := cell_regrown t1_8
    have gt2_0 := cell_regrown t2_0
    have gt2_1 := cell_regrown t2_1
    have gt2_2 := cell_regrown t2_2
    have gt2_3 := cell_regrown t2_3
    have gt2_4 := cell_regrown t2_4
    have gt2_5 := cell_regrown t2_5
    have gt2_6 := cell_regrown t2_6
    have gt2_7 := cell_regrown t2_7
    have gt2_8 := cell_regrown t2_8
    clear hV c1 c2 c3 d0 d1 d2 d3 d4 d5 d6 d7 d8 t0_0 t0_1 t0_2 t0_3 t0_4 t0_5 t0_6 t0_7 t0_8 t1_0 t1_1 t1_2 t1_3 t1_4 t1_5 t1_6 t1_7 t1_8 t2_0 t2_1 t2_2 t2_3 t2_4 t2_5 t2_6 t2_7 t2_8 q0 q1 q2 q3 q4 q5 q6 q7 q8
    refine wp_region_quiet_below (by kernel_rfl) (by kernel_rfl) ?_
    repeat (go_big_quiet_step (first | (go_at_call 16; first | with_reducible exact Calls.regrown_of (SI0.out _ (below_regrown _ _ _)) | with_reducible exact Calls.regrown_of (SI1.out _ (below_regrown _ _ _)) | with_reducible exact Calls.regrown_of (SI2.out _ (below_regrown _ _ _)))))
    refine wpQuiet_nil ?_
    intro _ hw'
    obtain ⟨⟨dq, osq⟩, hw''⟩ := hw'
    subst hw''
    go_wp2_with fail
    go_ret
    exact ⟨rfl, kt B2.out (kt ZV.out (below_regrown _ _ _))⟩
  · have j0 := XK.out 10 _ rfl
    have j1 := XK.out 11 _ rfl
    go_upto_region 7 with fail
    refine wp_name ?_
    intro Y hY
    have EY : Y = allocs X [.cells (flat2 [(0, 4), (0, 5), (11, 0), (0, 6), (16, 0)]).toArray 47, .cells (flat2 [(0, 1), (16, 0)]).toArray 47, .cells #[.int .i64 0, .int .i64 1, .slice (some ⟨X.heap.size, 0, none⟩) 5 5, .int .i64 2, .int .i64 2, .slice (some ⟨X.heap.size + 1, 0, none⟩) 2 2] 51, .cells #[.slice (some ⟨X.heap.size + 1 + 1, 0, none⟩) 2 2] 24] := hY
    have AY : Hid (Below X.heap.size X Y) := hid (by rw [EY]; exact allocs_below _ _)
    have FY : Fns Y (some ⟨X.heap.size + 1 + 1, 0, none⟩) 2 2 (kdP (11, 0)) := by
      rw [EY]
      exact fns_two (a := some ⟨X.heap.size, 0, none⟩) (n := 5) (c := 5) (a' := some ⟨X.heap.size + 1, 0, none⟩) (n' := 2) (c' := 2) (allocs_inss X _ 0 [(0, 4), (0, 5), (11, 0), (0, 6), (16, 0)] 47 rfl (by decide)) (allocs_inss X _ 1 [(0, 1), (16, 0)] 47 rfl (by decide)) (allocs_cell X _ 2 _ 51 rfl 0 _ rfl) (allocs_cell X _ 2 _ 51 rfl 1 _ rfl) (allocs_cell X _ 2 _ 51 rfl 2 _ rfl) (allocs_cell X _ 2 _ 51 rfl 3 _ rfl) (allocs_cell X _ 2 _ 51 rfl 4 _ rfl) (allocs_cell X _ 2 _ 51 rfl 5 _ rfl)
    have py : Y.cell? ⟨X.heap.size + 1 + 1 + 1, 0, none⟩ = some (.slice (some ⟨X.heap.size + 1 + 1, 0, none⟩) 2 2) := by rw [EY]; exact allocs_cell X _ 3 _ 24 rfl 0 _ rfl
    have BY := hid (kt BX.out AY.out)
    obtain ⟨v0, v1, vm, ve, vl, l0, l1, l2⟩ := kd_5
    have LA := lwrLower_any _ _ _ (kdP (11, 0)) 0 Y FY (LD0.out.up BY.out)
    rw [v0, v1, vm, ve] at LA
    have LA2 := hid LA
    generalize (lowerV (kdP (11, 0)) 0).2.2.1 = CL at LA2 vl l0 l1 l2
    have LL := hid (And.intro vl (And.intro l0 (And.intro l1 l2)))
    clear hY EY j0 j1 FY LA v0 v1 vm ve vl l0 l1 l2
    go_wp2_with fail
    refine LA2.out.mono ?_
    rintro e z1 ⟨av, am, N1, N2, rfl, oa, oam, -, -, -, b⟩
    obtain ⟨ca, cn, cc, rfl, ra⟩ := oa.reads
    obtain ⟨ma, mn, mc, rfl, rm⟩ := oam.reads
    have hcn : cn = 5 := ra.len.trans LL.out.1
    have hmn : mn = 0 := rm.len
    subst hcn
    subst hmn
    have RA := hid ra
    have B2 := hid (kt BY.out b)
    have XZ := hid (kt AY.out b)
    clear oa oam ra rm b py
    go_upto_region 8 with fail
    refine wp_name ?_
    intro W hW
    have AW : Hid (Below z1.heap.size z1 W) := hid (by rw [hW]; exact Below.alloc (Below.refl _ _) (Nat.le_refl _) _)
    have c1 : W.cell? ⟨z1.heap.size, 1, none⟩ = some (.int .i64 9) := by rw [hW]; simp [go_sem]
    have c2 : W.cell? ⟨z1.heap.size, 2, none⟩ = some (.slice ca 5 cc) := by rw [hW]; simp [go_sem]
    have c3 : W.cell? ⟨z1.heap.size, 3, none⟩ = some (.slice ma 0 mc) := by rw [hW]; simp [go_sem]
    have XI2 := hid (XI.out.kept (kt XZ.out AW.out))
    have q0 := XI2.out 45 _ rfl
    have q1 := XI2.out 46 _ rfl
    have q2 := XI2.out 47 _ rfl
    have q3 := XI2.out 48 _ rfl
    have q4 := XI2.out 49 _ rfl
    have q5 := XI2.out 50 _ rfl
    have q6 := XI2.out 51 _ rfl
    have q7 := XI2.out 52 _ rfl
    have q8 := XI2.out 53 _ rfl
    clear hW
    go_upto_region 13 with (first | (go_at_call 11; refine (num_any _ _).mono ?_; rintro e w' ⟨rfl, hw⟩; rw [hw]; clear hw))
    refine wp_name ?_
    intro V hV
    have AV : Hid (Below W.heap.size W V) := hid (by rw [hV]; go_grown)
    have d0 : V.cell? ⟨W.heap.size, 0, none⟩ = some (.int .i64 0) := by rw [hV]; simp [go_sem]
    have d1 : V.cell? ⟨W.heap.size, 1, none⟩ = some (.int .i64 0) := by rw [hV]; simp [go_sem]
    have d2 : V.cell? ⟨W.heap.size, 2, none⟩ = some (.int .i64 0) := by rw [hV]; simp [go_sem]
    have d3 : V.cell? ⟨W.heap.size, 3, none⟩ = some (.int .i64 0) := by rw [hV]; simp [go_sem]
    have d4 : V.cell? ⟨W.heap.size, 4, none⟩ = some (.int .i64 0) := by rw [hV]; simp [go_sem]
    have d5 : V.cell? ⟨W.heap.size, 5, none⟩ = some (.slice none 0 0) := by rw [hV]; simp [go_sem]
    have d6 : V.cell? ⟨W.heap.size, 6, none⟩ = some (.int .i64 1) := by rw [hV]; simp [go_sem]
    have d7 : V.cell? ⟨W.heap.size, 7, none⟩ = some (.int .i64 0) := by rw [hV]; simp [go_sem]
    have d8 : V.cell? ⟨W.heap.size, 8, none⟩ = some (.int .i64 2) := by rw [hV]; simp [go_sem]
    have ZV := hid (kt AW.out AV.out)
    obtain ⟨cb0, co0, kd, r, ra, rb, k, ya0, yn0, yc0, args, cost, mt, ip, rfl, hx, t0_0, t0_1, t0_2, t0_3, t0_4, t0_5, t0_6, t0_7, t0_8, ha0⟩ := ir_at (RA.out.kept ZV.out) 0 (by omega)
    have hx' : ((1 : Int), (1 : Int), (0 : Int), (0 : Int), (4 : Int), ([] : List Int), (1 : Int), (0 : Int), (0 : Int)) = (kd, r, ra, rb, k, args, cost, mt, ip) := Option.some.inj (LL.out.2.1.symm.trans hx)
    cases hx'
    have HA0 := hid ha0
    clear hx ha0
    simp only [Nat.zero_mul, Nat.add_zero] at t0_0 t0_1 t0_2 t0_3 t0_4 t0_5 t0_6 t0_7 t0_8
    obtain ⟨cb1, co1, kd, r, ra, rb, k, ya1, yn1, yc1, args, cost, mt, ip, eb, hx, t1_0, t1_1, t1_2, t1_3, t1_4, t1_5, t1_6, t1_7, t1_8, ha1⟩ := ir_at (RA.out.kept ZV.out) 1 (by omega)
    cases eb
    have hx' : ((1 : Int), (2 : Int), (0 : Int), (0 : Int), (5 : Int), ([] : List Int), (1 : Int), (0 : Int), (1 : Int)) = (kd, r, ra, rb, k, args, cost, mt, ip) := Option.some.inj (LL.out.2.2.1.symm.trans hx)
    cases hx'
    have HA1 := hid ha1
    clear hx ha1
    obtain ⟨cb2, co2, kd, r, ra, rb, k, ya2, yn2, yc2, args, cost, mt, ip, eb, hx, t2_0, t2_1, t2_2, t2_3, t2_4, t2_5, t2_6, t2_7, t2_8, ha2⟩ := ir_at (RA.out.kept ZV.out) 2 (by omega)
    cases eb
    have hx' : ((0 : Int), (0 : Int), (0 : Int), (0 : Int), (0 : Int), ([] : List Int), (1 : Int), (0 : Int), (2 : Int)) = (kd, r, ra, rb, k, args, cost, mt, ip) := Option.some.inj (LL.out.2.2.2.symm.trans hx)
    cases hx'
    have HA2 := hid ha2
    clear hx ha2
    have SI0 : Hid (∀ w', Below V.heap.size V w' → Calls Tryz.prog 16 #[.agg #[.int .i64 1, .int .i64 1, .int .i64 0, .int .i64 0, .int .i64 4, .slice ya0 yn0 yc0, .int .i64 1, .int .i64 0, .int .i64 0], .agg #[.int .i64 1, .int .i64 1, .int .i64 0, .int .i64 0, .int .i64 4, .slice none 0 0, .int .i64 1, .int .i64 0, .int .i64 0]] w' fun e w'' => e = .returned (.bool true) ∧ Below w'.heap.size w' w'') := hid (fun w' b => sameIr_same _ _ _ _ _ _ _ _ _ _ _ [] _ _ _ _ (HA0.out.kept b) (Ints.nil _))
    have SI1 : Hid (∀ w', Below V.heap.size V w' → Calls Tryz.prog 16 #[.agg #[.int .i64 1, .int .i64 2, .int .i64 0, .int .i64 0, .int .i64 5, .slice ya1 yn1 yc1, .int .i64 1, .int .i64 0, .int .i64 1], .agg #[.int .i64 1, .int .i64 2, .int .i64 0, .int .i64 0, .int .i64 5, .slice none 0 0, .int .i64 1, .int .i64 0, .int .i64 1]] w' fun e w'' => e = .returned (.bool true) ∧ Below w'.heap.size w' w'') := hid (fun w' b => sameIr_same _ _ _ _ _ _ _ _ _ _ _ [] _ _ _ _ (HA1.out.kept b) (Ints.nil _))
    have SI2 : Hid (∀ w', Below V.heap.size V w' → Calls Tryz.prog 16 #[.agg #[.int .i64 0, .int .i64 0, .int .i64 0, .int .i64 0, .int .i64 0, .slice ya2 yn2 yc2, .int .i64 1, .int .i64 0, .int .i64 2], .agg #[.int .i64 0, .int .i64 0, .int .i64 0, .int .i64 0, .int .i64 0, .slice none 0 0, .int .i64 1, .int .i64 0, .int .i64 2]] w' fun e w'' => e = .returned (.bool true) ∧ Below w'.heap.size w' w'') := hid (fun w' b => sameIr_same _ _ _ _ _ _ _ _ _ _ _ [] _ _ _ _ (HA2.out.kept b) (Ints.nil _))
    have gc2 := cell_regrown (kept_cell AV.out c2)
    have gc3 := cell_regrown (kept_cell AV.out c3)
    have gd0 := cell_regrown d0
    have gd1 := cell_regrown d1
    have gd2 := cell_regrown d2
    have gd3 := cell_regrown d3
    have gd4 := cell_regrown d4
    have gd5 := cell_regrown d5
    have gd6 := cell_regrown d6
    have gd7 := cell_regrown d7
    have gd8 := cell_regrown d8
    have gt0_0 := cell_regrown t0_0
    have gt0_1 := cell_regrown t0_1
    have gt0_2 := cell_regrown t0_2
    have gt0_3 := cell_regrown t0_3
    have gt0_4 := cell_regrown t0_4
    have gt0_5 := cell_regrown t0_5
    have gt0_6 := cell_regrown t0_6
    have gt0_7 := cell_regrown t0_7
    have gt0_8 := cell_regrown t0_8
    have gt1_0 := cell_regrown t1_0
    have gt1_1 := cell_regrown t1_1
    have gt1_2 := cell_regrown t1_2
    have gt1_3 := cell_regrown t1_3
    have gt1_4 := cell_regrown t1_4
    have gt1_5 := cell_regrown t1_5
    have gt1_6 := cell_regrown t1_6
    have gt1_7 := cell_regrown t1_7
    have gt1_8 := cell_regrown t1_8
    have gt2_0 := cell_regrown t2_0
    have gt2_1 := cell_regrown t2_1
    have gt2_2 := cell_regrown t2_2
    have gt2_3 := cell_regrown t2_3
    have gt2_4 := cell_regrown t2_4
    have gt2_5 := cell_regrown t2_5
    have gt2_6 := cell_regrown t2_6
    have gt2_7 := cell_regrown t2_7
    have gt2_8 := cell_regrown t2_8
    clear hV c1 c2 c3 d0 d1 d2 d3 d4 d5 d6 d7 d8 t0_0 t0_1 t0_2 t0_3 t0_4 t0_5 t0_6 t0_7 t0_8 t1_0 t1_1 t1_2 t1_3 t1_4 t1_5 t1_6 t1_7 t1_8 t2_0 t2_1 t2_2 t2_3 t2_4 t2_5 t2_6 t2_7 t2_8 q0 q1 q2 q3 q4 q5 q6 q7 q8
    refine wp_region_quiet_below (by kernel_rfl) (by kernel_rfl) ?_
    repeat (go_big_quiet_step (first | (go_at_call 16; first | with_reducible exact Calls.regrown_of (SI0.out _ (below_regrown _ _ _)) | with_reducible exact Calls.regrown_of (SI1.out _ (below_regrown _ _ _)) | with_reducible exact Calls.regrown_of (SI2.out _ (below_regrown _ _ _)))))
    refine wpQuiet_nil ?_
    intro _ hw'
    obtain ⟨⟨dq, osq⟩, hw''⟩ := hw'
    subst hw''
    go_wp2_with fail
    go_ret
    exact ⟨rfl, kt B2.out (kt ZV.out (below_regrown _ _ _))⟩
  · have j0 := XK.out 12 _ rfl
    have j1 := XK.out 13 _ rfl
    go_upto_region 7 with fail
    refine wp_name ?_
    intro Y hY
    have EY : Y = allocs X [.cells (flat2 [(0, 4), (0, 5), (15, 0), (0, 6), (16, 0)]).toArray 47, .cells (flat2 [(0, 1), (16, 0)]).toArray 47, .cells #[.int .i64 0, .int .i64 1, .slice (some ⟨X.heap.size, 0, none⟩) 5 5, .int .i64 2, .int .i64 2, .slice (some ⟨X.heap.size + 1, 0, none⟩) 2 2] 51, .cells #[.slice (some ⟨X.heap.size + 1 + 1, 0, none⟩) 2 2] 24] := hY
    have AY : Hid (Below X.heap.size X Y) := hid (by rw [EY]; exact allocs_below _ _)
    have FY : Fns Y (some ⟨X.heap.size + 1 + 1, 0, none⟩) 2 2 (kdP (15, 0)) := by
      rw [EY]
      exact fns_two (a := some ⟨X.heap.size, 0, none⟩) (n := 5) (c := 5) (a' := some ⟨X.heap.size + 1, 0, none⟩) (n' := 2) (c' := 2) (allocs_inss X _ 0 [(0, 4), (0, 5), (15, 0), (0, 6), (16, 0)] 47 rfl (by decide)) (allocs_inss X _ 1 [(0, 1), (16, 0)] 47 rfl (by decide)) (allocs_cell X _ 2 _ 51 rfl 0 _ rfl) (allocs_cell X _ 2 _ 51 rfl 1 _ rfl) (allocs_cell X _ 2 _ 51 rfl 2 _ rfl) (allocs_cell X _ 2 _ 51 rfl 3 _ rfl) (allocs_cell X _ 2 _ 51 rfl 4 _ rfl) (allocs_cell X _ 2 _ 51 rfl 5 _ rfl)
    have py : Y.cell? ⟨X.heap.size + 1 + 1 + 1, 0, none⟩ = some (.slice (some ⟨X.heap.size + 1 + 1, 0, none⟩) 2 2) := by rw [EY]; exact allocs_cell X _ 3 _ 24 rfl 0 _ rfl
    have BY := hid (kt BX.out AY.out)
    obtain ⟨v0, v1, vm, ve, vl, l0, l1, l2⟩ := kd_6
    have LA := lwrLower_any _ _ _ (kdP (15, 0)) 0 Y FY (LD0.out.up BY.out)
    rw [v0, v1, vm, ve] at LA
    have LA2 := hid LA
    generalize (lowerV (kdP (15, 0)) 0).2.2.1 = CL at LA2 vl l0 l1 l2
    have LL := hid (And.intro vl (And.intro l0 (And.intro l1 l2)))
    clear hY EY j0 j1 FY LA v0 v1 vm ve vl l0 l1 l2
    go_wp2_with fail
    refine LA2.out.mono ?_
    rintro e z1 ⟨av, am, N1, N2, rfl, oa, oam, -, -, -, b⟩
    obtain ⟨ca, cn, cc, rfl, ra⟩ := oa.reads
    obtain ⟨ma, mn, mc, rfl, rm⟩ := oam.reads
    have hcn : cn = 5 := ra.len.trans LL.out.1
    have hmn : mn = 0 := rm.len
    subst hcn
    subst hmn
    have RA := hid ra
    have B2 := hid (kt BY.out b)
    have XZ := hid (kt AY.out b)
    clear oa oam ra rm b py
    go_upto_region 8 with fail
    refine wp_name ?_
    intro W hW
    have AW : Hid (Below z1.heap.size z1 W) := hid (by rw [hW]; exact Below.alloc (Below.refl _ _) (Nat.le_refl _) _)
    have c1 : W.cell? ⟨z1.heap.size, 1, none⟩ = some (.int .i64 9) := by rw [hW]; simp [go_sem]
    have c2 : W.cell? ⟨z1.heap.size, 2, none⟩ = some (.slice ca 5 cc) := by rw [hW]; simp [go_sem]
    have c3 : W.cell? ⟨z1.heap.size, 3, none⟩ = some (.slice ma 0 mc) := by rw [hW]; simp [go_sem]
    have XI2 := hid (XI.out.kept (kt XZ.out AW.out))
    have q0 := XI2.out 54 _ rfl
    have q1 := XI2.out 55 _ rfl
    have q2 := XI2.out 56 _ rfl
    have q3 := XI2.out 57 _ rfl
    have q4 := XI2.out 58 _ rfl
    have q5 := XI2.out 59 _ rfl
    have q6 := XI2.out 60 _ rfl
    have q7 := XI2.out 61 _ rfl
    have q8 := XI2.out 62 _ rfl
    clear hW
    go_upto_region 13 with (first | (go_at_call 11; refine (num_any _ _).mono ?_; rintro e w' ⟨rfl, hw⟩; rw [hw]; clear hw))
    refine wp_name ?_
    intro V hV
    have AV : Hid (Below W.heap.size W V) := hid (by rw [hV]; go_grown)
    have d0 : V.cell? ⟨W.heap.size, 0, none⟩ = some (.int .i64 7) := by rw [hV]; simp [go_sem]
    have d1 : V.cell? ⟨W.heap.size, 1, none⟩ = some (.int .i64 0) := by rw [hV]; simp [go_sem]
    have d2 : V.cell? ⟨W.heap.size, 2, none⟩ = some (.int .i64 2) := by rw [hV]; simp [go_sem]
    have d3 : V.cell? ⟨W.heap.size, 3, none⟩ = some (.int .i64 0) := by rw [hV]; simp [go_sem]
    have d4 : V.cell? ⟨W.heap.size, 4, none⟩ = some (.int .i64 0) := by rw [hV]; simp [go_sem]
    have d5 : V.cell? ⟨W.heap.size, 5, none⟩ = some (.slice none 0 0) := by rw [hV]; simp [go_sem]
    have d6 : V.cell? ⟨W.heap.size, 6, none⟩ = some (.int .i64 1) := by rw [hV]; simp [go_sem]
    have d7 : V.cell? ⟨W.heap.size, 7, none⟩ = some (.int .i64 0) := by rw [hV]; simp [go_sem]
    have d8 : V.cell? ⟨W.heap.size, 8, none⟩ = some (.int .i64 2) := by rw [hV]; simp [go_sem]
    have ZV := hid (kt AW.out AV.out)
    obtain ⟨cb0, co0, kd, r, ra, rb, k, ya0, yn0, yc0, args, cost, mt, ip, rfl, hx, t0_0, t0_1, t0_2, t0_3, t0_4, t0_5, t0_6, t0_7, t0_8, ha0⟩ := ir_at (RA.out.kept ZV.out) 0 (by omega)
    have hx' : ((1 : Int), (1 : Int), (0 : Int), (0 : Int), (4 : Int), ([] : List Int), (1 : Int), (0 : Int), (0 : Int)) = (kd, r, ra, rb, k, args, cost, mt, ip) := Option.some.inj (LL.out.2.1.symm.trans hx)
    cases hx'
    have HA0 := hid ha0
    clear hx ha0
    simp only [Nat.zero_mul, Nat.add_zero] at t0_0 t0_1 t0_2 t0_3 t0_4 t0_5 t0_6 t0_7 t0_8
    obtain ⟨cb1, co1, kd, r, ra, rb, k, ya1, yn1, yc1, args, cost, mt, ip, eb, hx, t1_0, t1_1, t1_2, t1_3, t1_4, t1_5, t1_6, t1_7, t1_8, ha1⟩ := ir_at (RA.out.kept ZV.out) 1 (by omega)
    cases eb
    have hx' : ((1 : Int), (2 : Int), (0 : Int), (0 : Int), (5 : Int), ([] : List Int), (1 : Int), (0 : Int), (1 : Int)) = (kd, r, ra, rb, k, args, cost, mt, ip) := Option.some.inj (LL.out.2.2.1.symm.trans hx)
    cases hx'
    have HA1 := hid ha1
    clear hx ha1
    obtain ⟨cb2, co2, kd, r, ra, rb, k, ya2, yn2, yc2, args, cost, mt, ip, eb, hx, t2_0, t2_1, t2_2, t2_3, t2_4, t2_5, t2_6, t2_7, t2_8, ha2⟩ := ir_at (RA.out.kept ZV.out) 2 (by omega)
    cases eb
    have hx' : ((7 : Int), (0 : Int), (2 : Int), (0 : Int), (0 : Int), ([] : List Int), (1 : Int), (0 : Int), (2 : Int)) = (kd, r, ra, rb, k, args, cost, mt, ip) := Option.some.inj (LL.out.2.2.2.symm.trans hx)
    cases hx'
    have HA2 := hid ha2
    clear hx ha2
    have SI0 : Hid (∀ w', Below V.heap.size V w' → Calls Tryz.prog 16 #[.agg #[.int .i64 1, .int .i64 1, .int .i64 0, .int .i64 0, .int .i64 4, .slice ya0 yn0 yc0, .int .i64 1, .int .i64 0, .int .i64 0], .agg #[.int .i64 1, .int .i64 1, .int .i64 0, .int .i64 0, .int .i64 4, .slice none 0 0, .int .i64 1, .int .i64 0, .int .i64 0]] w' fun e w'' => e = .returned (.bool true) ∧ Below w'.heap.size w' w'') := hid (fun w' b => sameIr_same _ _ _ _ _ _ _ _ _ _ _ [] _ _ _ _ (HA0.out.kept b) (Ints.nil _))
    have SI1 : Hid (∀ w', Below V.heap.size V w' → Calls Tryz.prog 16 #[.agg #[.int .i64 1, .int .i64 2, .int .i64 0, .int .i64 0, .int .i64 5, .slice ya1 yn1 yc1, .int .i64 1, .int .i64 0, .int .i64 1], .agg #[.int .i64 1, .int .i64 2, .int .i64 0, .int .i64 0, .int .i64 5, .slice none 0 0, .int .i64 1, .int .i64 0, .int .i64 1]] w' fun e w'' => e = .returned (.bool true) ∧ Below w'.heap.size w' w'') := hid (fun w' b => sameIr_same _ _ _ _ _ _ _ _ _ _ _ [] _ _ _ _ (HA1.out.kept b) (Ints.nil _))
    have SI2 : Hid (∀ w', Below V.heap.size V w' → Calls Tryz.prog 16 #[.agg #[.int .i64 7, .int .i64 0, .int .i64 2, .int .i64 0, .int .i64 0, .slice ya2 yn2 yc2, .int .i64 1, .int .i64 0, .int .i64 2], .agg #[.int .i64 7, .int .i64 0, .int .i64 2, .int .i64 0, .int .i64 0, .slice none 0 0, .int .i64 1, .int .i64 0, .int .i64 2]] w' fun e w'' => e = .returned (.bool true) ∧ Below w'.heap.size w' w'') := hid (fun w' b => sameIr_same _ _ _ _ _ _ _ _ _ _ _ [] _ _ _ _ (HA2.out.kept b) (Ints.nil _))
    have gc2 := cell_regrown (kept_cell AV.out c2)
    have gc3 := cell_regrown (kept_cell AV.out c3)
    have gd0 := cell_regrown d0
    have gd1 := cell_regrown d1
    have gd2 := cell_regrown d2
    have gd3 := cell_regrown d3
    have gd4 := cell_regrown d4
    have gd5 := cell_regrown d5
    have gd6 := cell_regrown d6
    have gd7 := cell_regrown d7
    have gd8 := cell_regrown d8
    have gt0_0 := cell_regrown t0_0
    have gt0_1 := cell_regrown t0_1
    have gt0_2 := cell_regrown t0_2
    have gt0_3 := cell_regrown t0_3
    have gt0_4 := cell_regrown t0_4
    have gt0_5 := cell_regrown t0_5
    have gt0_6 := cell_regrown t0_6
    have gt0_7 := cell_regrown t0_7
    have gt0_8 := cell_regrown t0_8
    have gt1_0 := cell_regrown t1_0
    have gt1_1 := cell_regrown t1_1
    have gt1_2 := cell_regrown t1_2
    have gt1_3 := cell_regrown t1_3
    have gt1_4 := cell_regrown t1_4
    have gt1_5 := cell_regrown t1_5
    have gt1_6 := cell_regrown t1_6
    have gt1_7 := cell_regrown t1_7
    have gt1_8 := cell_regrown t1_8
    have gt2_0 := cell_regrown t2_0
    have gt2_1 := cell_regrown t2_1
    have gt2_2 := cell_regrown t2_2
    have gt2_3 := cell_regrown t2_3
    have gt2_4 := cell_regrown t2_4
    have gt2_5 := cell_regrown t2_5
    have gt2_6 := cell_regrown t2_6
    have gt2_7 := cell_regrown t2_7
    have gt2_8 := cell_regrown t2_8
    clear hV c1 c2 c3 d0 d1 d2 d3 d4 d5 d6 d7 d8 t0_0 t0_1 t0_2 t0_3 t0_4 t0_5 t0_6 t0_7 t0_8 t1_0 t1_1 t1_2 t1_3 t1_4 t1_5 t1_6 t1_7 t1_8 t2_0 t2_1 t2_2 t2_3 t2_4 t2_5 t2_6 t2_7 t2_8 q0 q1 q2 q3 q4 q5 q6 q7 q8
    refine wp_region_quiet_below (by kernel_rfl) (by kernel_rfl) ?_
    repeat (go_big_quiet_step (first | (go_at_call 16; first | with_reducible exact Calls.regrown_of (SI0.out _ (below_regrown _ _ _)) | with_reducible exact Calls.regrown_of (SI1.out _ (below_regrown _ _ _)) | with_reducible exact Calls.regrown_of (SI2.out _ (below_regrown _ _ _)))))
    refine wpQuiet_nil ?_
    intro _ hw'
    obtain ⟨⟨dq, osq⟩, hw''⟩ := hw'
    subst hw''
    go_wp2_with fail
    go_ret
    exact ⟨rfl, kt B2.out (kt ZV.out (below_regrown _ _ _))⟩
  · have j0 := XK.out 14 _ rfl
    have j1 := XK.out 15 _ rfl
    go_upto_region 7 with fail
    refine wp_name ?_
    intro Y hY
    have EY : Y = allocs X [.cells (flat2 [(0, 4), (0, 5), (14, 1), (0, 6), (16, 0)]).toArray 47, .cells (flat2 [(0, 1), (16, 0)]).toArray 47, .cells #[.int .i64 0, .int .i64 1, .slice (some ⟨X.heap.size, 0, none⟩) 5 5, .int .i64 2, .int .i64 2, .slice (some ⟨X.heap.size + 1, 0, none⟩) 2 2] 51, .cells #[.slice (some ⟨X.heap.size + 1 + 1, 0, none⟩) 2 2] 24] := hY
    have AY : Hid (Below X.heap.size X Y) := hid (by rw [EY]; exact allocs_below _ _)
    have FY : Fns Y (some ⟨X.heap.size + 1 + 1, 0, none⟩) 2 2 (kdP (14, 1)) := by
      rw [EY]
      exact fns_two (a := some ⟨X.heap.size, 0, none⟩) (n := 5) (c := 5) (a' := some ⟨X.heap.size + 1, 0, none⟩) (n' := 2) (c' := 2) (allocs_inss X _ 0 [(0, 4), (0, 5), (14, 1), (0, 6), (16, 0)] 47 rfl (by decide)) (allocs_inss X _ 1 [(0, 1), (16, 0)] 47 rfl (by decide)) (allocs_cell X _ 2 _ 51 rfl 0 _ rfl) (allocs_cell X _ 2 _ 51 rfl 1 _ rfl) (allocs_cell X _ 2 _ 51 rfl 2 _ rfl) (allocs_cell X _ 2 _ 51 rfl 3 _ rfl) (allocs_cell X _ 2 _ 51 rfl 4 _ rfl) (allocs_cell X _ 2 _ 51 rfl 5 _ rfl)
    have py : Y.cell? ⟨X.heap.size + 1 + 1 + 1, 0, none⟩ = some (.slice (some ⟨X.heap.size + 1 + 1, 0, none⟩) 2 2) := by rw [EY]; exact allocs_cell X _ 3 _ 24 rfl 0 _ rfl
    have BY := hid (kt BX.out AY.out)
    obtain ⟨v0, v1, vm, ve, vl, l0, l1, l2⟩ := kd_7
    have LA := lwrLower_any _ _ _ (kdP (14, 1)) 0 Y FY (LD0.out.up BY.out)
    rw [v0, v1, vm, ve] at LA
    have LA2 := hid LA
    generalize (lowerV (kdP (14, 1)) 0).2.2.1 = CL at LA2 vl l0 l1 l2
    have LL := hid (And.intro vl (And.intro l0 (And.intro l1 l2)))
    clear hY EY j0 j1 FY LA v0 v1 vm ve vl l0 l1 l2
    go_wp2_with fail
    refine LA2.out.mono ?_
    rintro e z1 ⟨av, am, N1, N2, rfl, oa, oam, -, -, -, b⟩
    obtain ⟨ca, cn, cc, rfl, ra⟩ := oa.reads
    obtain ⟨ma, mn, mc, rfl, rm⟩ := oam.reads
    have hcn : cn = 5 := ra.len.trans LL.out.1
    have hmn : mn = 0 := rm.len
    subst hcn
    subst hmn
    have RA := hid ra
    have B2 := hid (kt BY.out b)
    have XZ := hid (kt AY.out b)
    clear oa oam ra rm b py
    go_upto_region 8 with fail
    refine wp_name ?_
    intro W hW
    have AW : Hid (Below z1.heap.size z1 W) := hid (by rw [hW]; exact Below.alloc (Below.refl _ _) (Nat.le_refl _) _)
    have c1 : W.cell? ⟨z1.heap.size, 1, none⟩ = some (.int .i64 9) := by rw [hW]; simp [go_sem]
    have c2 : W.cell? ⟨z1.heap.size, 2, none⟩ = some (.slice ca 5 cc) := by rw [hW]; simp [go_sem]
    have c3 : W.cell? ⟨z1.heap.size, 3, none⟩ = some (.slice ma 0 mc) := by rw [hW]; simp [go_sem]
    have XI2 := hid (XI.out.kept (kt XZ.out AW.out))
    have q0 := XI2.out 63 _ rfl
    have q1 := XI2.out 64 _ rfl
    have q2 := XI2.out 65 _ rfl
    have q3 := XI2.out 66 _ rfl
    have q4 := XI2.out 67 _ rfl
    have q5 := XI2.out 68 _ rfl
    have q6 := XI2.out 69 _ rfl
    have q7 := XI2.out 70 _ rfl
    have q8 := XI2.out 71 _ rfl
    clear hW
    go_upto_region 13 with (first | (go_at_call 11; refine (num_any _ _).mono ?_; rintro e w' ⟨rfl, hw⟩; rw [hw]; clear hw))
    refine wp_name ?_
    intro V hV
    have AV : Hid (Below W.heap.size W V) := hid (by rw [hV]; go_grown)
    have d0 : V.cell? ⟨W.heap.size, 0, none⟩ = some (.int .i64 6) := by rw [hV]; simp [go_sem]
    have d1 : V.cell? ⟨W.heap.size, 1, none⟩ = some (.int .i64 1) := by rw [hV]; simp [go_sem]
    have d2 : V.cell? ⟨W.heap.size, 2, none⟩ = some (.int .i64 0) := by rw [hV]; simp [go_sem]
    have d3 : V.cell? ⟨W.heap.size, 3, none⟩ = some (.int .i64 0) := by rw [hV]; simp [go_sem]
    have d4 : V.cell? ⟨W.heap.size, 4, none⟩ = some (.int .i64 1) := by rw [hV]; simp [go_sem]
    have d5 : V.cell? ⟨W.heap.size, 5, none⟩ = some (.slice (some ⟨U.heap.size, 0, none⟩) 2 2) := by rw [hV]; simp [go_sem]
    have d6 : V.cell? ⟨W.heap.size, 6, none⟩ = some (.int .i64 1) := by rw [hV]; simp [go_sem]
    have d7 : V.cell? ⟨W.heap.size, 7, none⟩ = some (.int .i64 0) := by rw [hV]; simp [go_sem]
    have d8 : V.cell? ⟨W.heap.size, 8, none⟩ = some (.int .i64 2) := by rw [hV]; simp [go_sem]
    have ZV := hid (kt AW.out AV.out)
    obtain ⟨cb0, co0, kd, r, ra, rb, k, ya0, yn0, yc0, args, cost, mt, ip, rfl, hx, t0_0, t0_1, t0_2, t0_3, t0_4, t0_5, t0_6, t0_7, t0_8, ha0⟩ := ir_at (RA.out.kept ZV.out) 0 (by omega)
    have hx' : ((1 : Int), (1 : Int), (0 : Int), (0 : Int), (4 : Int), ([] : List Int), (1 : Int), (0 : Int), (0 : Int)) = (kd, r, ra, rb, k, args, cost, mt, ip) := Option.some.inj (LL.out.2.1.symm.trans hx)
    cases hx'
    have HA0 := hid ha0
    clear hx ha0
    simp only [Nat.zero_mul, Nat.add_zero] at t0_0 t0_1 t0_2 t0_3 t0_4 t0_5 t0_6 t0_7 t0_8
    obtain ⟨cb1, co1, kd, r, ra, rb, k, ya1, yn1, yc1, args, cost, mt, ip, eb, hx, t1_0, t1_1, t1_2, t1_3, t1_4, t1_5, t1_6, t1_7, t1_8, ha1⟩ := ir_at (RA.out.kept ZV.out) 1 (by omega)
    cases eb
    have hx' : ((1 : Int), (2 : Int), (0 : Int), (0 : Int), (5 : Int), ([] : List Int), (1 : Int), (0 : Int), (1 : Int)) = (kd, r, ra, rb, k, args, cost, mt, ip) := Option.some.inj (LL.out.2.2.1.symm.trans hx)
    cases hx'
    have HA1 := hid ha1
    clear hx ha1
    obtain ⟨cb2, co2, kd, r, ra, rb, k, ya2, yn2, yc2, args, cost, mt, ip, eb, hx, t2_0, t2_1, t2_2, t2_3, t2_4, t2_5, t2_6, t2_7, t2_8, ha2⟩ := ir_at (RA.out.kept ZV.out) 2 (by omega)
    cases eb
    have hx' : ((6 : Int), (1 : Int), (0 : Int), (0 : Int), (1 : Int), ([1, 2] : List Int), (1 : Int), (0 : Int), (2 : Int)) = (kd, r, ra, rb, k, args, cost, mt, ip) := Option.some.inj (LL.out.2.2.2.symm.trans hx)
    cases hx'
    have HA2 := hid ha2
    clear hx ha2
    have SI0 : Hid (∀ w', Below V.heap.size V w' → Calls Tryz.prog 16 #[.agg #[.int .i64 1, .int .i64 1, .int .i64 0, .int .i64 0, .int .i64 4, .slice ya0 yn0 yc0, .int .i64 1, .int .i64 0, .int .i64 0], .agg #[.int .i64 1, .int .i64 1, .int .i64 0, .int .i64 0, .int .i64 4, .slice none 0 0, .int .i64 1, .int .i64 0, .int .i64 0]] w' fun e w'' => e = .returned (.bool true) ∧ Below w'.heap.size w' w'') := hid (fun w' b => sameIr_same _ _ _ _ _ _ _ _ _ _ _ [] _ _ _ _ (HA0.out.kept b) (Ints.nil _))
    have SI1 : Hid (∀ w', Below V.heap.size V w' → Calls Tryz.prog 16 #[.agg #[.int .i64 1, .int .i64 2, .int .i64 0, .int .i64 0, .int .i64 5, .slice ya1 yn1 yc1, .int .i64 1, .int .i64 0, .int .i64 1], .agg #[.int .i64 1, .int .i64 2, .int .i64 0, .int .i64 0, .int .i64 5, .slice none 0 0, .int .i64 1, .int .i64 0, .int .i64 1]] w' fun e w'' => e = .returned (.bool true) ∧ Below w'.heap.size w' w'') := hid (fun w' b => sameIr_same _ _ _ _ _ _ _ _ _ _ _ [] _ _ _ _ (HA1.out.kept b) (Ints.nil _))
    have SI2 : Hid (∀ w', Below V.heap.size V w' → Calls Tryz.prog 16 #[.agg #[.int .i64 6, .int .i64 1, .int .i64 0, .int .i64 0, .int .i64 1, .slice ya2 yn2 yc2, .int .i64 1, .int .i64 0, .int .i64 2], .agg #[.int .i64 6, .int .i64 1, .int .i64 0, .int .i64 0, .int .i64 1, .slice (some ⟨U.heap.size, 0, none⟩) 2 2, .int .i64 1, .int .i64 0, .int .i64 2]] w' fun e w'' => e = .returned (.bool true) ∧ Below w'.heap.size w' w'') := hid (fun w' b => sameIr_same _ _ _ _ _ _ _ _ _ _ _ [1, 2] _ _ _ _ (HA2.out.kept b) ((ints_cells XA.out (by decide)).kept (kt (kt XZ.out ZV.out) b)))
    have gc2 := cell_regrown (kept_cell AV.out c2)
    have gc3 := cell_regrown (kept_cell AV.out c3)
    have gd0 := cell_regrown d0
    have gd1 := cell_regrown d1
    have gd2 := cell_regrown d2
    have gd3 := cell_regrown d3
    have gd4 := cell_regrown d4
    have gd5 := cell_regrown d5
    have gd6 := cell_regrown d6
    have gd7 := cell_regrown d7
    have gd8 := cell_regrown d8
    have gt0_0 := cell_regrown t0_0
    have gt0_1 := cell_regrown t0_1
    have gt0_2 := cell_regrown t0_2
    have gt0_3 := cell_regrown t0_3
    have gt0_4 := cell_regrown t0_4
    have gt0_5 := cell_regrown t0_5
    have gt0_6 := cell_regrown t0_6
    have gt0_7 := cell_regrown t0_7
    have gt0_8 := cell_regrown t0_8
    have gt1_0 := cell_regrown t1_0
    have gt1_1 := cell_regrown t1_1
    have gt1_2 := cell_regrown t1_2
    have gt1_3 := cell_regrown t1_3
    have gt1_4 := cell_regrown t1_4
    have gt1_5 := cell_regrown t1_5
    have gt1_6 := cell_regrown t1_6
    have gt1_7 := cell_regrown t1_7
    have gt1_8 := cell_regrown t1_8
    have gt2_0 := cell_regrown t2_0
    have gt2_1 := cell_regrown t2_1
    have gt2_2 := cell_regrown t2_2
    have gt2_3 := cell_regrown t2_3
    have gt2_4 := cell_regrown t2_4
    have gt2_5 := cell_regrown t2_5
    have gt2_6 := cell_regrown t2_6
    have gt2_7 := cell_regrown t2_7
    have gt2_8 := cell_regrown t2_8
    clear hV c1 c2 c3 d0 d1 d2 d3 d4 d5 d6 d7 d8 t0_0 t0_1 t0_2 t0_3 t0_4 t0_5 t0_6 t0_7 t0_8 t1_0 t1_1 t1_2 t1_3 t1_4 t1_5 t1_6 t1_7 t1_8 t2_0 t2_1 t2_2 t2_3 t2_4 t2_5 t2_6 t2_7 t2_8 q0 q1 q2 q3 q4 q5 q6 q7 q8
    refine wp_region_quiet_below (by kernel_rfl) (by kernel_rfl) ?_
    repeat (go_big_quiet_step (first | (go_at_call 16; first | with_reducible exact Calls.regrown_of (SI0.out _ (below_regrown _ _ _)) | with_reducible exact Calls.regrown_of (SI1.out _ (below_regrown _ _ _)) | with_reducible exact Calls.regrown_of (SI2.out _ (below_regrown _ _ _)))))
    refine wpQuiet_nil ?_
    intro _ hw'
    obtain ⟨⟨dq, osq⟩, hw''⟩ := hw'
    subst hw''
    go_wp2_with fail
    go_ret
    exact ⟨rfl, kt B2.out (kt ZV.out (below_regrown _ _ _))⟩
  · have j0 := XK.out 16 _ rfl
    have j1 := XK.out 17 _ rfl
    go_upto_region 7 with fail
    refine wp_name ?_
    intro Y hY
    have EY : Y = allocs X [.cells (flat2 [(0, 4), (0, 5), (16, 0), (0, 6), (16, 0)]).toArray 47, .cells (flat2 [(0, 1), (16, 0)]).toArray 47, .cells #[.int .i64 0, .int .i64 1, .slice (some ⟨X.heap.size, 0, none⟩) 5 5, .int .i64 2, .int .i64 2, .slice (some ⟨X.heap.size + 1, 0, none⟩) 2 2] 51, .cells #[.slice (some ⟨X.heap.size + 1 + 1, 0, none⟩) 2 2] 24] := hY
    have AY : Hid (Below X.heap.size X Y) := hid (by rw [EY]; exact allocs_below _ _)
    have FY : Fns Y (some ⟨X.heap.size + 1 + 1, 0, none⟩) 2 2 (kdP (16, 0)) := by
      rw [EY]
      exact fns_two (a := some ⟨X.heap.size, 0, none⟩) (n := 5) (c := 5) (a' := some ⟨X.heap.size + 1, 0, none⟩) (n' := 2) (c' := 2) (allocs_inss X _ 0 [(0, 4), (0, 5), (16, 0), (0, 6), (16, 0)] 47 rfl (by decide)) (allocs_inss X _ 1 [(0, 1), (16, 0)] 47 rfl (by decide)) (allocs_cell X _ 2 _ 51 rfl 0 _ rfl) (allocs_cell X _ 2 _ 51 rfl 1 _ rfl) (allocs_cell X _ 2 _ 51 rfl 2 _ rfl) (allocs_cell X _ 2 _ 51 rfl 3 _ rfl) (allocs_cell X _ 2 _ 51 rfl 4 _ rfl) (allocs_cell X _ 2 _ 51 rfl 5 _ rfl)
    have py : Y.cell? ⟨X.heap.size + 1 + 1 + 1, 0, none⟩ = some (.slice (some ⟨X.heap.size + 1 + 1, 0, none⟩) 2 2) := by rw [EY]; exact allocs_cell X _ 3 _ 24 rfl 0 _ rfl
    have BY := hid (kt BX.out AY.out)
    obtain ⟨v0, v1, vm, ve, vl, l0, l1, l2⟩ := kd_8
    have LA := lwrLower_any _ _ _ (kdP (16, 0)) 0 Y FY (LD0.out.up BY.out)
    rw [v0, v1, vm, ve] at LA
    have LA2 := hid LA
    generalize (lowerV (kdP (16, 0)) 0).2.2.1 = CL at LA2 vl l0 l1 l2
    have LL := hid (And.intro vl (And.intro l0 (And.intro l1 l2)))
    clear hY EY j0 j1 FY LA v0 v1 vm ve vl l0 l1 l2
    go_wp2_with fail
    refine LA2.out.mono ?_
    rintro e z1 ⟨av, am, N1, N2, rfl, oa, oam, -, -, -, b⟩
    obtain ⟨ca, cn, cc, rfl, ra⟩ := oa.reads
    obtain ⟨ma, mn, mc, rfl, rm⟩ := oam.reads
    have hcn : cn = 3 := ra.len.trans LL.out.1
    have hmn : mn = 0 := rm.len
    subst hcn
    subst hmn
    have RA := hid ra
    have B2 := hid (kt BY.out b)
    have XZ := hid (kt AY.out b)
    clear oa oam ra rm b py
    go_upto_region 8 with fail
    refine wp_name ?_
    intro W hW
    have AW : Hid (Below z1.heap.size z1 W) := hid (by rw [hW]; exact Below.alloc (Below.refl _ _) (Nat.le_refl _) _)
    have c1 : W.cell? ⟨z1.heap.size, 1, none⟩ = some (.int .i64 9) := by rw [hW]; simp [go_sem]
    have c2 : W.cell? ⟨z1.heap.size, 2, none⟩ = some (.slice ca 3 cc) := by rw [hW]; simp [go_sem]
    have c3 : W.cell? ⟨z1.heap.size, 3, none⟩ = some (.slice ma 0 mc) := by rw [hW]; simp [go_sem]
    have XI2 := hid (XI.out.kept (kt XZ.out AW.out))
    have q0 := XI2.out 72 _ rfl
    have q1 := XI2.out 73 _ rfl
    have q2 := XI2.out 74 _ rfl
    have q3 := XI2.out 75 _ rfl
    have q4 := XI2.out 76 _ rfl
    have q5 := XI2.out 77 _ rfl
    have q6 := XI2.out 78 _ rfl
    have q7 := XI2.out 79 _ rfl
    have q8 := XI2.out 80 _ rfl
    clear hW
    go_upto_region 13 with (first | (go_at_call 11; refine (num_any _ _).mono ?_; rintro e w' ⟨rfl, hw⟩; rw [hw]; clear hw))
    refine wp_name ?_
    intro V hV
    have AV : Hid (Below W.heap.size W V) := hid (by rw [hV]; go_grown)
    have d0 : V.cell? ⟨W.heap.size, 0, none⟩ = some (.int .i64 8) := by rw [hV]; simp [go_sem]
    have d1 : V.cell? ⟨W.heap.size, 1, none⟩ = some (.int .i64 0) := by rw [hV]; simp [go_sem]
    have d2 : V.cell? ⟨W.heap.size, 2, none⟩ = some (.int .i64 2) := by rw [hV]; simp [go_sem]
    have d3 : V.cell? ⟨W.heap.size, 3, none⟩ = some (.int .i64 0) := by rw [hV]; simp [go_sem]
    have d4 : V.cell? ⟨W.heap.size, 4, none⟩ = some (.int .i64 0) := by rw [hV]; simp [go_sem]
    have d5 : V.cell? ⟨W.heap.size, 5, none⟩ = some (.slice none 0 0) := by rw [hV]; simp [go_sem]
    have d6 : V.cell? ⟨W.heap.size, 6, none⟩ = some (.int .i64 1) := by rw [hV]; simp [go_sem]
    have d7 : V.cell? ⟨W.heap.size, 7, none⟩ = some (.int .i64 0) := by rw [hV]; simp [go_sem]
    have d8 : V.cell? ⟨W.heap.size, 8, none⟩ = some (.int .i64 2) := by rw [hV]; simp [go_sem]
    have ZV := hid (kt AW.out AV.out)
    obtain ⟨cb0, co0, kd, r, ra, rb, k, ya0, yn0, yc0, args, cost, mt, ip, rfl, hx, t0_0, t0_1, t0_2, t0_3, t0_4, t0_5, t0_6, t0_7, t0_8, ha0⟩ := ir_at (RA.out.kept ZV.out) 0 (by omega)
    have hx' : ((1 : Int), (1 : Int), (0 : Int), (0 : Int), (4 : Int), ([] : List Int), (1 : Int), (0 : Int), (0 : Int)) = (kd, r, ra, rb, k, args, cost, mt, ip) := Option.some.inj (LL.out.2.1.symm.trans hx)
    cases hx'
    have HA0 := hid ha0
    clear hx ha0
    simp only [Nat.zero_mul, Nat.add_zero] at t0_0 t0_1 t0_2 t0_3 t0_4 t0_5 t0_6 t0_7 t0_8
    obtain ⟨cb1, co1, kd, r, ra, rb, k, ya1, yn1, yc1, args, cost, mt, ip, eb, hx, t1_0, t1_1, t1_2, t1_3, t1_4, t1_5, t1_6, t1_7, t1_8, ha1⟩ := ir_at (RA.out.kept ZV.out) 1 (by omega)
    cases eb
    have hx' : ((1 : Int), (2 : Int), (0 : Int), (0 : Int), (5 : Int), ([] : List Int), (1 : Int), (0 : Int), (1 : Int)) = (kd, r, ra, rb, k, args, cost, mt, ip) := Option.some.inj (LL.out.2.2.1.symm.trans hx)
    cases hx'
    have HA1 := hid ha1
    clear hx ha1
    obtain ⟨cb2, co2, kd, r, ra, rb, k, ya2, yn2, yc2, args, cost, mt, ip, eb, hx, t2_0, t2_1, t2_2, t2_3, t2_4, t2_5, t2_6, t2_7, t2_8, ha2⟩ := ir_at (RA.out.kept ZV.out) 2 (by omega)
    cases eb
    have hx' : ((8 : Int), (0 : Int), (2 : Int), (0 : Int), (0 : Int), ([] : List Int), (1 : Int), (0 : Int), (2 : Int)) = (kd, r, ra, rb, k, args, cost, mt, ip) := Option.some.inj (LL.out.2.2.2.symm.trans hx)
    cases hx'
    have HA2 := hid ha2
    clear hx ha2
    have SI0 : Hid (∀ w', Below V.heap.size V w' → Calls Tryz.prog 16 #[.agg #[.int .i64 1, .int .i64 1, .int .i64 0, .int .i64 0, .int .i64 4, .slice ya0 yn0 yc0, .int .i64 1, .int .i64 0, .int .i64 0], .agg #[.int .i64 1, .int .i64 1, .int .i64 0, .int .i64 0, .int .i64 4, .slice none 0 0, .int .i64 1, .int .i64 0, .int .i64 0]] w' fun e w'' => e = .returned (.bool true) ∧ Below w'.heap.size w' w'') := hid (fun w' b => sameIr_same _ _ _ _ _ _ _ _ _ _ _ [] _ _ _ _ (HA0.out.kept b) (Ints.nil _))
    have SI1 : Hid (∀ w', Below V.heap.size V w' → Calls Tryz.prog 16 #[.agg #[.int .i64 1, .int .i64 2, .int .i64 0, .int .i64 0, .int .i64 5, .slice ya1 yn1 yc1, .int .i64 1, .int .i64 0, .int .i64 1], .agg #[.int .i64 1, .int .i64 2, .int .i64 0, .int .i64 0, .int .i64 5, .slice none 0 0, .int .i64 1, .int .i64 0, .int .i64 1]] w' fun e w'' => e = .returned (.bool true) ∧ Below w'.heap.size w' w'') := hid (fun w' b => sameIr_same _ _ _ _ _ _ _ _ _ _ _ [] _ _ _ _ (HA1.out.kept b) (Ints.nil _))
    have SI2 : Hid (∀ w', Below V.heap.size V w' → Calls Tryz.prog 16 #[.agg #[.int .i64 8, .int .i64 0, .int .i64 2, .int .i64 0, .int .i64 0, .slice ya2 yn2 yc2, .int .i64 1, .int .i64 0, .int .i64 2], .agg #[.int .i64 8, .int .i64 0, .int .i64 2, .int .i64 0, .int .i64 0, .slice none 0 0, .int .i64 1, .int .i64 0, .int .i64 2]] w' fun e w'' => e = .returned (.bool true) ∧ Below w'.heap.size w' w'') := hid (fun w' b => sameIr_same _ _ _ _ _ _ _ _ _ _ _ [] _ _ _ _ (HA2.out.kept b) (Ints.nil _))
    have gc2 := cell_regrown (kept_cell AV.out c2)
    have gc3 := cell_regrown (kept_cell AV.out c3)
    have gd0 := cell_regrown d0
    have gd1 := cell_regrown d1
    have gd2 := cell_regrown d2
    have gd3 := cell_regrown d3
    have gd4 := cell_regrown d4
    have gd5 := cell_regrown d5
    have gd6 := cell_regrown d6
    have gd7 := cell_regrown d7
    have gd8 := cell_regrown d8
    have gt0_0 := cell_regrown t0_0
    have gt0_1 := cell_regrown t0_1
    have gt0_2 := cell_regrown t0_2
    have gt0_3 := cell_regrown t0_3
    have gt0_4 := cell_regrown t0_4
    have gt0_5 := cell_regrown t0_5
    have gt0_6 := cell_regrown t0_6
    have gt0_7 := cell_regrown t0_7
    have gt0_8 := cell_regrown t0_8
    have gt1_0 := cell_regrown t1_0
    have gt1_1 := cell_regrown t1_1
    have gt1_2 := cell_regrown t1_2
    have gt1_3 := cell_regrown t1_3
    have gt1_4 := cell_regrown t1_4
    have gt1_5 := cell_regrown t1_5
    have gt1_6 := cell_regrown t1_6
    have gt1_7 := cell_regrown t1_7
    have gt1_8 := cell_regrown t1_8
    have gt2_0 := cell_regrown t2_0
    have gt2_1 := cell_regrown t2_1
    have gt2_2 := cell_regrown t2_2
    have gt2_3 := cell_regrown t2_3
    have gt2_4 := cell_regrown t2_4
    have gt2_5 := cell_regrown t2_5
    have gt2_6 := cell_regrown t2_6
    have gt2_7 := cell_regrown t2_7
    have gt2_8 := cell_regrown t2_8
    clear hV c1 c2 c3 d0 d1 d2 d3 d4 d5 d6 d7 d8 t0_0 t0_1 t0_2 t0_3 t0_4 t0_5 t0_6 t0_7 t0_8 t1_0 t1_1 t1_2 t1_3 t1_4 t1_5 t1_6 t1_7 t1_8 t2_0 t2_1 t2_2 t2_3 t2_4 t2_5 t2_6 t2_7 t2_8 q0 q1 q2 q3 q4 q5 q6 q7 q8
    refine wp_region_quiet_below (by kernel_rfl) (by kernel_rfl) ?_
    repeat (go_big_quiet_step (first | (go_at_call 16; first | with_reducible exact Calls.regrown_of (SI0.out _ (below_regrown _ _ _)) | with_reducible exact Calls.regrown_of (SI1.out _ (below_regrown _ _ _)) | with_reducible exact Calls.regrown_of (SI2.out _ (below_regrown _ _ _)))))
    refine wpQuiet_nil ?_
    intro _ hw'
    obtain ⟨⟨dq, osq⟩, hw''⟩ := hw'
    subst hw''
    go_wp2_with fail
    go_ret
    exact ⟨rfl, kt B2.out (kt ZV.out (below_regrown _ _ _))⟩
  · have j0 := XK.out 18 _ rfl
    have j1 := XK.out 19 _ rfl
    go_upto_region 7 with fail
    refine wp_name ?_
    intro Y hY
    have EY : Y = allocs X [.cells (flat2 [(0, 4), (0, 5), (13, 3), (0, 6), (16, 0)]).toArray 47, .cells (flat2 [(0, 1), (16, 0)]).toArray 47, .cells #[.int .i64 0, .int .i64 1, .slice (some ⟨X.heap.size, 0, none⟩) 5 5, .int .i64 2, .int .i64 2, .slice (some ⟨X.heap.size + 1, 0, none⟩) 2 2] 51, .cells #[.slice (some ⟨X.heap.size + 1 + 1, 0, none⟩) 2 2] 24] := hY
    have AY : Hid (Below X.heap.size X Y) := hid (by rw [EY]; exact allocs_below _ _)
    have FY : Fns Y (some ⟨X.heap.size + 1 + 1, 0, none⟩) 2 2 (kdP (13, 3)) := by
      rw [EY]
      exact fns_two (a := some ⟨X.heap.size, 0, none⟩) (n := 5) (c := 5) (a' := some ⟨X.heap.size + 1, 0, none⟩) (n' := 2) (c' := 2) (allocs_inss X _ 0 [(0, 4), (0, 5), (13, 3), (0, 6), (16, 0)] 47 rfl (by decide)) (allocs_inss X _ 1 [(0, 1), (16, 0)] 47 rfl (by decide)) (allocs_cell X _ 2 _ 51 rfl 0 _ rfl) (allocs_cell X _ 2 _ 51 rfl 1 _ rfl) (allocs_cell X _ 2 _ 51 rfl 2 _ rfl) (allocs_cell X _ 2 _ 51 rfl 3 _ rfl) (allocs_cell X _ 2 _ 51 rfl 4 _ rfl) (allocs_cell X _ 2 _ 51 rfl 5 _ rfl)
    have py : Y.cell? ⟨X.heap.size + 1 + 1 + 1, 0, none⟩ = some (.slice (some ⟨X.heap.size + 1 + 1, 0, none⟩) 2 2) := by rw [EY]; exact allocs_cell X _ 3 _ 24 rfl 0 _ rfl
    have BY := hid (kt BX.out AY.out)
    obtain ⟨v0, v1, vm, ve, vl, l0, l1, l2⟩ := kd_9
    have LA := lwrLower_any _ _ _ (kdP (13, 3)) 0 Y FY (LD0.out.up BY.out)
    rw [v0, v1, vm, ve] at LA
    have LA2 := hid LA
    generalize (lowerV (kdP (13, 3)) 0).2.2.1 = CL at LA2 vl l0 l1 l2
    have LL := hid (And.intro vl (And.intro l0 (And.intro l1 l2)))
    clear hY EY j0 j1 FY LA v0 v1 vm ve vl l0 l1 l2
    go_wp2_with fail
    refine LA2.out.mono ?_
    rintro e z1 ⟨av, am, N1, N2, rfl, oa, oam, -, -, -, b⟩
    obtain ⟨ca, cn, cc, rfl, ra⟩ := oa.reads
    obtain ⟨ma, mn, mc, rfl, rm⟩ := oam.reads
    have hcn : cn = 5 := ra.len.trans LL.out.1
    have hmn : mn = 0 := rm.len
    subst hcn
    subst hmn
    have RA := hid ra
    have B2 := hid (kt BY.out b)
    have XZ := hid (kt AY.out b)
    clear oa oam ra rm b py
    go_upto_region 8 with fail
    refine wp_name ?_
    intro W hW
    have AW : Hid (Below z1.heap.size z1 W) := hid (by rw [hW]; exact Below.alloc (Below.refl _ _) (Nat.le_refl _) _)
    have c1 : W.cell? ⟨z1.heap.size, 1, none⟩ = some (.int .i64 9) := by rw [hW]; simp [go_sem]
    have c2 : W.cell? ⟨z1.heap.size, 2, none⟩ = some (.slice ca 5 cc) := by rw [hW]; simp [go_sem]
    have c3 : W.cell? ⟨z1.heap.size, 3, none⟩ = some (.slice ma 0 mc) := by rw [hW]; simp [go_sem]
    have XI2 := hid (XI.out.kept (kt XZ.out AW.out))
    have q0 := XI2.out 81 _ rfl
    have q1 := XI2.out 82 _ rfl
    have q2 := XI2.out 83 _ rfl
    have q3 := XI2.out 84 _ rfl
    have q4 := XI2.out 85 _ rfl
    have q5 := XI2.out 86 _ rfl
    have q6 := XI2.out 87 _ rfl
    have q7 := XI2.out 88 _ rfl
    have q8 := XI2.out 89 _ rfl
    clear hW
    go_upto_region 13 with (first | (go_at_call 11; refine (num_any _ _).mono ?_; rintro e w' ⟨rfl, hw⟩; rw [hw]; clear hw))
    refine wp_name ?_
    intro V hV
    have AV : Hid (Below W.heap.size W V) := hid (by rw [hV]; go_grown)
    have d0 : V.cell? ⟨W.heap.size, 0, none⟩ = some (.int .i64 5) := by rw [hV]; simp [go_sem]
    have d1 : V.cell? ⟨W.heap.size, 1, none⟩ = some (.int .i64 0) := by rw [hV]; simp [go_sem]
    have d2 : V.cell? ⟨W.heap.size, 2, none⟩ = some (.int .i64 2) := by rw [hV]; simp [go_sem]
    have d3 : V.cell? ⟨W.heap.size, 3, none⟩ = some (.int .i64 0) := by rw [hV]; simp [go_sem]
    have d4 : V.cell? ⟨W.heap.size, 4, none⟩ = some (.int .i64 3) := by rw [hV]; simp [go_sem]
    have d5 : V.cell? ⟨W.heap.size, 5, none⟩ = some (.slice none 0 0) := by rw [hV]; simp [go_sem]
    have d6 : V.cell? ⟨W.heap.size, 6, none⟩ = some (.int .i64 1) := by rw [hV]; simp [go_sem]
    have d7 : V.cell? ⟨W.heap.size, 7, none⟩ = some (.int .i64 0) := by rw [hV]; simp [go_sem]
    have d8 : V.cell? ⟨W.heap.size, 8, none⟩ = some (.int .i64 2) := by rw [hV]; simp [go_sem]
    have ZV := hid (kt AW.out AV.out)
    obtain ⟨cb0, co0, kd, r, ra, rb, k, ya0, yn0, yc0, args, cost, mt, ip, rfl, hx, t0_0, t0_1, t0_2, t0_3, t0_4, t0_5, t0_6, t0_7, t0_8, ha0⟩ := ir_at (RA.out.kept ZV.out) 0 (by omega)
    have hx' : ((1 : Int), (1 : Int), (0 : Int), (0 : Int), (4 : Int), ([] : List Int), (1 : Int), (0 : Int), (0 : Int)) = (kd, r, ra, rb, k, args, cost, mt, ip) := Option.some.inj (LL.out.2.1.symm.trans hx)
    cases hx'
    have HA0 := hid ha0
    clear hx ha0
    simp only [Nat.zero_mul, Nat.add_zero] at t0_0 t0_1 t0_2 t0_3 t0_4 t0_5 t0_6 t0_7 t0_8
    obtain ⟨cb1, co1, kd, r, ra, rb, k, ya1, yn1, yc1, args, cost, mt, ip, eb, hx, t1_0, t1_1, t1_2, t1_3, t1_4, t1_5, t1_6, t1_7, t1_8, ha1⟩ := ir_at (RA.out.kept ZV.out) 1 (by omega)
    cases eb
    have hx' : ((1 : Int), (2 : Int), (0 : Int), (0 : Int), (5 : Int), ([] : List Int), (1 : Int), (0 : Int), (1 : Int)) = (kd, r, ra, rb, k, args, cost, mt, ip) := Option.some.inj (LL.out.2.2.1.symm.trans hx)
    cases hx'
    have HA1 := hid ha1
    clear hx ha1
    obtain ⟨cb2, co2, kd, r, ra, rb, k, ya2, yn2, yc2, args, cost, mt, ip, eb, hx, t2_0, t2_1, t2_2, t2_3, t2_4, t2_5, t2_6, t2_7, t2_8, ha2⟩ := ir_at (RA.out.kept ZV.out) 2 (by omega)
    cases eb
    have hx' : ((5 : Int), (0 : Int), (2 : Int), (0 : Int), (3 : Int), ([] : List Int), (1 : Int), (0 : Int), (2 : Int)) = (kd, r, ra, rb, k, args, cost, mt, ip) := Option.some.inj (LL.out.2.2.2.symm.trans hx)
    cases hx'
    have HA2 := hid ha2
    clear hx ha2
    have SI0 : Hid (∀ w', Below V.heap.size V w' → Calls Tryz.prog 16 #[.agg #[.int .i64 1, .int .i64 1, .int .i64 0, .int .i64 0, .int .i64 4, .slice ya0 yn0 yc0, .int .i64 1, .int .i64 0, .int .i64 0], .agg #[.int .i64 1, .int .i64 1, .int .i64 0, .int .i64 0, .int .i64 4, .slice none 0 0, .int .i64 1, .int .i64 0, .int .i64 0]] w' fun e w'' => e = .returned (.bool true) ∧ Below w'.heap.size w' w'') := hid (fun w' b => sameIr_same _ _ _ _ _ _ _ _ _ _ _ [] _ _ _ _ (HA0.out.kept b) (Ints.nil _))
    have SI1 : Hid (∀ w', Below V.heap.size V w' → Calls Tryz.prog 16 #[.agg #[.int .i64 1, .int .i64 2, .int .i64 0, .int .i64 0, .int .i64 5, .slice ya1 yn1 yc1, .int .i64 1, .int .i64 0, .int .i64 1], .agg #[.int .i64 1, .int .i64 2, .int .i64 0, .int .i64 0, .int .i64 5, .slice none 0 0, .int .i64 1, .int .i64 0, .int .i64 1]] w' fun e w'' => e = .returned (.bool true) ∧ Below w'.heap.size w' w'') := hid (fun w' b => sameIr_same _ _ _ _ _ _ _ _ _ _ _ [] _ _ _ _ (HA1.out.kept b) (Ints.nil _))
    have SI2 : Hid (∀ w', Below V.heap.size V w' → Calls Tryz.prog 16 #[.agg #[.int .i64 5, .int .i64 0, .int .i64 2, .int .i64 0, .int .i64 3, .slice ya2 yn2 yc2, .int .i64 1, .int .i64 0, .int .i64 2], .agg #[.int .i64 5, .int .i64 0, .int .i64 2, .int .i64 0, .int .i64 3, .slice none 0 0, .int .i64 1, .int .i64 0, .int .i64 2]] w' fun e w'' => e = .returned (.bool true) ∧ Below w'.heap.size w' w'') := hid (fun w' b => sameIr_same _ _ _ _ _ _ _ _ _ _ _ [] _ _ _ _ (HA2.out.kept b) (Ints.nil _))
    have gc2 := cell_regrown (kept_cell AV.out c2)
    have gc3 := cell_regrown (kept_cell AV.out c3)
    have gd0 := cell_regrown d0
    have gd1 := cell_regrown d1
    have gd2 := cell_regrown d2
    have gd3 := cell_regrown d3
    have gd4 := cell_regrown d4
    have gd5 := cell_regrown d5
    have gd6 := cell_regrown d6
    have gd7 := cell_regrown d7
    have gd8 := cell_regrown d8
    have gt0_0 := cell_regrown t0_0
    have gt0_1 := cell_regrown t0_1
    have gt0_2 := cell_regrown t0_2
    have gt0_3 := cell_regrown t0_3
    have gt0_4 := cell_regrown t0_4
    have gt0_5 := cell_regrown t0_5
    have gt0_6 := cell_regrown t0_6
    have gt0_7 := cell_regrown t0_7
    have gt0_8 := cell_regrown t0_8
    have gt1_0 := cell_regrown t1_0
    have gt1_1 := cell_regrown t1_1
    have gt1_2 := cell_regrown t1_2
    have gt1_3 := cell_regrown t1_3
    have gt1_4 := cell_regrown t1_4
    have gt1_5 := cell_regrown t1_5
    have gt1_6 := cell_regrown t1_6
    have gt1_7 := cell_regrown t1_7
    have gt1_8 := cell_regrown t1_8
    have gt2_0 := cell_regrown t2_0
    have gt2_1 := cell_regrown t2_1
    have gt2_2 := cell_regrown t2_2
    have gt2_3 := cell_regrown t2_3
    have gt2_4 := cell_regrown t2_4
    have gt2_5 := cell_regrown t2_5
    have gt2_6 := cell_regrown t2_6
    have gt2_7 := cell_regrown t2_7
    have gt2_8 := cell_regrown t2_8
    clear hV c1 c2 c3 d0 d1 d2 d3 d4 d5 d6 d7 d8 t0_0 t0_1 t0_2 t0_3 t0_4 t0_5 t0_6 t0_7 t0_8 t1_0 t1_1 t1_2 t1_3 t1_4 t1_5 t1_6 t1_7 t1_8 t2_0 t2_1 t2_2 t2_3 t2_4 t2_5 t2_6 t2_7 t2_8 q0 q1 q2 q3 q4 q5 q6 q7 q8
    refine wp_region_quiet_below (by kernel_rfl) (by kernel_rfl) ?_
    repeat (go_big_quiet_step (first | (go_at_call 16; first | with_reducible exact Calls.regrown_of (SI0.out _ (below_regrown _ _ _)) | with_reducible exact Calls.regrown_of (SI1.out _ (below_regrown _ _ _)) | with_reducible exact Calls.regrown_of (SI2.out _ (below_regrown _ _ _)))))
    refine wpQuiet_nil ?_
    intro _ hw'
    obtain ⟨⟨dq, osq⟩, hw''⟩ := hw'
    subst hw''
    go_wp2_with fail
    go_ret
    exact ⟨rfl, kt B2.out (kt ZV.out (below_regrown _ _ _))⟩
  · have j0 := XK.out 20 _ rfl
    have j1 := XK.out 21 _ rfl
    go_upto_region 7 with fail
    refine wp_name ?_
    intro Y hY
    have EY : Y = allocs X [.cells (flat2 [(0, 4), (0, 5), (12, 3), (0, 6), (16, 0)]).toArray 47, .cells (flat2 [(0, 1), (16, 0)]).toArray 47, .cells #[.int .i64 0, .int .i64 1, .slice (some ⟨X.heap.size, 0, none⟩) 5 5, .int .i64 2, .int .i64 2, .slice (some ⟨X.heap.size + 1, 0, none⟩) 2 2] 51, .cells #[.slice (some ⟨X.heap.size + 1 + 1, 0, none⟩) 2 2] 24] := hY
    have AY : Hid (Below X.heap.size X Y) := hid (by rw [EY]; exact allocs_below _ _)
    have FY : Fns Y (some ⟨X.heap.size + 1 + 1, 0, none⟩) 2 2 (kdP (12, 3)) := by
      rw [EY]
      exact fns_two (a := some ⟨X.heap.size, 0, none⟩) (n := 5) (c := 5) (a' := some ⟨X.heap.size + 1, 0, none⟩) (n' := 2) (c' := 2) (allocs_inss X _ 0 [(0, 4), (0, 5), (12, 3), (0, 6), (16, 0)] 47 rfl (by decide)) (allocs_inss X _ 1 [(0, 1), (16, 0)] 47 rfl (by decide)) (allocs_cell X _ 2 _ 51 rfl 0 _ rfl) (allocs_cell X _ 2 _ 51 rfl 1 _ rfl) (allocs_cell X _ 2 _ 51 rfl 2 _ rfl) (allocs_cell X _ 2 _ 51 rfl 3 _ rfl) (allocs_cell X _ 2 _ 51 rfl 4 _ rfl) (allocs_cell X _ 2 _ 51 rfl 5 _ rfl)
    have py : Y.cell? ⟨X.heap.size + 1 + 1 + 1, 0, none⟩ = some (.slice (some ⟨X.heap.size + 1 + 1, 0, none⟩) 2 2) := by rw [EY]; exact allocs_cell X _ 3 _ 24 rfl 0 _ rfl
    have BY := hid (kt BX.out AY.out)
    obtain ⟨v0, v1, vm, ve, vl, l0, l1, l2⟩ := kd_10
    have LA := lwrLower_any _ _ _ (kdP (12, 3)) 0 Y FY (LD0.out.up BY.out)
    rw [v0, v1, vm, ve] at LA
    have LA2 := hid LA
    generalize (lowerV (kdP (12, 3)) 0).2.2.1 = CL at LA2 vl l0 l1 l2
    have LL := hid (And.intro vl (And.intro l0 (And.intro l1 l2)))
    clear hY EY j0 j1 FY LA v0 v1 vm ve vl l0 l1 l2
    go_wp2_with fail
    refine LA2.out.mono ?_
    rintro e z1 ⟨av, am, N1, N2, rfl, oa, oam, -, -, -, b⟩
    obtain ⟨ca, cn, cc, rfl, ra⟩ := oa.reads
    obtain ⟨ma, mn, mc, rfl, rm⟩ := oam.reads
    have hcn : cn = 5 := ra.len.trans LL.out.1
    have hmn : mn = 0 := rm.len
    subst hcn
    subst hmn
    have RA := hid ra
    have B2 := hid (kt BY.out b)
    have XZ := hid (kt AY.out b)
    clear oa oam ra rm b py
    go_upto_region 8 with fail
    refine wp_name ?_
    intro W hW
    have AW : Hid (Below z1.heap.size z1 W) := hid (by rw [hW]; exact Below.alloc (Below.refl _ _) (Nat.le_refl _) _)
    have c1 : W.cell? ⟨z1.heap.size, 1, none⟩ = some (.int .i64 9) := by rw [hW]; simp [go_sem]
    have c2 : W.cell? ⟨z1.heap.size, 2, none⟩ = some (.slice ca 5 cc) := by rw [hW]; simp [go_sem]
    have c3 : W.cell? ⟨z1.heap.size, 3, none⟩ = some (.slice ma 0 mc) := by rw [hW]; simp [go_sem]
    have XI2 := hid (XI.out.kept (kt XZ.out AW.out))
    have q0 := XI2.out 90 _ rfl
    have q1 := XI2.out 91 _ rfl
    have q2 := XI2.out 92 _ rfl
    have q3 := XI2.out 93 _ rfl
    have q4 := XI2.out 94 _ rfl
    have q5 := XI2.out 95 _ rfl
    have q6 := XI2.out 96 _ rfl
    have q7 := XI2.out 97 _ rfl
    have q8 := XI2.out 98 _ rfl
    clear hW
    go_upto_region 13 with (first | (go_at_call 11; refine (num_any _ _).mono ?_; rintro e w' ⟨rfl, hw⟩; rw [hw]; clear hw))
    refine wp_name ?_
    intro V hV
    have AV : Hid (Below W.heap.size W V) := hid (by rw [hV]; go_grown)
    have d0 : V.cell? ⟨W.heap.size, 0, none⟩ = some (.int .i64 4) := by rw [hV]; simp [go_sem]
    have d1 : V.cell? ⟨W.heap.size, 1, none⟩ = some (.int .i64 0) := by rw [hV]; simp [go_sem]
    have d2 : V.cell? ⟨W.heap.size, 2, none⟩ = some (.int .i64 0) := by rw [hV]; simp [go_sem]
    have d3 : V.cell? ⟨W.heap.size, 3, none⟩ = some (.int .i64 0) := by rw [hV]; simp [go_sem]
    have d4 : V.cell? ⟨W.heap.size, 4, none⟩ = some (.int .i64 3) := by rw [hV]; simp [go_sem]
    have d5 : V.cell? ⟨W.heap.size, 5, none⟩ = some (.slice none 0 0) := by rw [hV]; simp [go_sem]
    have d6 : V.cell? ⟨W.heap.size, 6, none⟩ = some (.int .i64 1) := by rw [hV]; simp [go_sem]
    have d7 : V.cell? ⟨W.heap.size, 7, none⟩ = some (.int .i64 0) := by rw [hV]; simp [go_sem]
    have d8 : V.cell? ⟨W.heap.size, 8, none⟩ = some (.int .i64 2) := by rw [hV]; simp [go_sem]
    have ZV := hid (kt AW.out AV.out)
    obtain ⟨cb0, co0, kd, r, ra, rb, k, ya0, yn0, yc0, args, cost, mt, ip, rfl, hx, t0_0, t0_1, t0_2, t0_3, t0_4, t0_5, t0_6, t0_7, t0_8, ha0⟩ := ir_at (RA.out.kept ZV.out) 0 (by omega)
    have hx' : ((1 : Int), (1 : Int), (0 : Int), (0 : Int), (4 : Int), ([] : List Int), (1 : Int), (0 : Int), (0 : Int)) = (kd, r, ra, rb, k, args, cost, mt, ip) := Option.some.inj (LL.out.2.1.symm.trans hx)
    cases hx'
    have HA0 := hid ha0
    clear hx ha0
    simp only [Nat.zero_mul, Nat.add_zero] at t0_0 t0_1 t0_2 t0_3 t0_4 t0_5 t0_6 t0_7 t0_8
    obtain ⟨cb1, co1, kd, r, ra, rb, k, ya1, yn1, yc1, args, cost, mt, ip, eb, hx, t1_0, t1_1, t1_2, t1_3, t1_4, t1_5, t1_6, t1_7, t1_8, ha1⟩ := ir_at (RA.out.kept ZV.out) 1 (by omega)
    cases eb
    have hx' : ((1 : Int), (2 : Int), (0 : Int), (0 : Int), (5 : Int), ([] : List Int), (1 : Int), (0 : Int), (1 : Int)) = (kd, r, ra, rb, k, args, cost, mt, ip) := Option.some.inj (LL.out.2.2.1.symm.trans hx)
    cases hx'
    have HA1 := hid ha1
    clear hx ha1
    obtain ⟨cb2, co2, kd, r, ra, rb, k, ya2, yn2, yc2, args, cost, mt, ip, eb, hx, t2_0, t2_1, t2_2, t2_3, t2_4, t2_5, t2_6, t2_7, t2_8, ha2⟩ := ir_at (RA.out.kept ZV.out) 2 (by omega)
    cases eb
    have hx' : ((4 : Int), (0 : Int), (0 : Int), (0 : Int), (3 : Int), ([] : List Int), (1 : Int), (0 : Int), (2 : Int)) = (kd, r, ra, rb, k, args, cost, mt, ip) := Option.some.inj (LL.out.2.2.2.symm.trans hx)
    cases hx'
    have HA2 := hid ha2
    clear hx ha2
    have SI0 : Hid (∀ w', Below V.heap.size V w' → Calls Tryz.prog 16 #[.agg #[.int .i64 1, .int .i64 1, .int .i64 0, .int .i64 0, .int .i64 4, .slice ya0 yn0 yc0, .int .i64 1, .int .i64 0, .int .i64 0], .agg #[.int .i64 1, .int .i64 1, .int .i64 0, .int .i64 0, .int .i64 4, .slice none 0 0, .int .i64 1, .int .i64 0, .int .i64 0]] w' fun e w'' => e = .returned (.bool true) ∧ Below w'.heap.size w' w'') := hid (fun w' b => sameIr_same _ _ _ _ _ _ _ _ _ _ _ [] _ _ _ _ (HA0.out.kept b) (Ints.nil _))
    have SI1 : Hid (∀ w', Below V.heap.size V w' → Calls Tryz.prog 16 #[.agg #[.int .i64 1, .int .i64 2, .int .i64 0, .int .i64 0, .int .i64 5, .slice ya1 yn1 yc1, .int .i64 1, .int .i64 0, .int .i64 1], .agg #[.int .i64 1, .int .i64 2, .int .i64 0, .int .i64 0, .int .i64 5, .slice none 0 0, .int .i64 1, .int .i64 0, .int .i64 1]] w' fun e w'' => e = .returned (.bool true) ∧ Below w'.heap.size w' w'') := hid (fun w' b => sameIr_same _ _ _ _ _ _ _ _ _ _ _ [] _ _ _ _ (HA1.out.kept b) (Ints.nil _))
    have SI2 : Hid (∀ w', Below V.heap.size V w' → Calls Tryz.prog 16 #[.agg #[.int .i64 4, .int .i64 0, .int .i64 0, .int .i64 0, .int .i64 3, .slice ya2 yn2 yc2, .int .i64 1, .int .i64 0, .int .i64 2], .agg #[.int .i64 4, .int .i64 0, .int .i64 0, .int .i64 0, .int .i64 3, .slice none 0 0, .int .i64 1, .int .i64 0, .int .i64 2]] w' fun e w'' => e = .returned (.bool true) ∧ Below w'.heap.size w' w'') := hid (fun w' b => sameIr_same _ _ _ _ _ _ _ _ _ _ _ [] _ _ _ _ (HA2.out.kept b) (Ints.nil _))
    have gc2 := cell_regrown (kept_cell AV.out c2)
    have gc3 := cell_regrown (kept_cell AV.out c3)
    have gd0 := cell_regrown d0
    have gd1 := cell_regrown d1
    have gd2 := cell_regrown d2
    have gd3 := cell_regrown d3
    have gd4 := cell_regrown d4
    have gd5 := cell_regrown d5
    have gd6 := cell_regrown d6
    have gd7 := cell_regrown d7
    have gd8 := cell_regrown d8
    have gt0_0 := cell_regrown t0_0
    have gt0_1 := cell_regrown t0_1
    have gt0_2 := cell_regrown t0_2
    have gt0_3 := cell_regrown t0_3
    have gt0_4 := cell_regrown t0_4
    have gt0_5 := cell_regrown t0_5
    have gt0_6 := cell_regrown t0_6
    have gt0_7 := cell_regrown t0_7
    have gt0_8 := cell_regrown t0_8
    have gt1_0 := cell_regrown t1_0
    have gt1_1 := cell_regrown t1_1
    have gt1_2 := cell_regrown t1_2
    have gt1_3 := cell_regrown t1_3
    have gt1_4 := cell_regrown t1_4
    have gt1_5 := cell_regrown t1_5
    have gt1_6 := cell_regrown t1_6
    have gt1_7 := cell_regrown t1_7
    have gt1_8 := cell_regrown t1_8
    have gt2_0 := cell_regrown t2_0
    have gt2_1 := cell_regrown t2_1
    have gt2_2 := cell_regrown t2_2
    have gt2_3 := cell_regrown t2_3
    have gt2_4 := cell_regrown t2_4
    have gt2_5 := cell_regrown t2_5
    have gt2_6 := cell_regrown t2_6
    have gt2_7 := cell_regrown t2_7
    have gt2_8 := cell_regrown t2_8
    clear hV c1 c2 c3 d0 d1 d2 d3 d4 d5 d6 d7 d8 t0_0 t0_1 t0_2 t0_3 t0_4 t0_5 t0_6 t0_7 t0_8 t1_0 t1_1 t1_2 t1_3 t1_4 t1_5 t1_6 t1_7 t1_8 t2_0 t2_1 t2_2 t2_3 t2_4 t2_5 t2_6 t2_7 t2_8 q0 q1 q2 q3 q4 q5 q6 q7 q8
    refine wp_region_quiet_below (by kernel_rfl) (by kernel_rfl) ?_
    repeat (go_big_quiet_step (first | (go_at_call 16; first | with_reducible exact Calls.regrown_of (SI0.out _ (below_regrown _ _ _)) | with_reducible exact Calls.regrown_of (SI1.out _ (below_regrown _ _ _)) | with_reducible exact Calls.regrown_of (SI2.out _ (below_regrown _ _ _)))))
    refine wpQuiet_nil ?_
    intro _ hw'
    obtain ⟨⟨dq, osq⟩, hw''⟩ := hw'
    subst hw''
    go_wp2_with fail
    go_ret
    exact ⟨rfl, kt B2.out (kt ZV.out (below_regrown _ _ _))⟩

set_option maxRecDepth 100000 in
theorem lifted (os : Os) (started : os.Started) (H : Type) (enc : TypeId × Value → H) :
    ReturnsInHanded {} Tryz.checked os 5 .any (fun w args => (Rows.lowerKindsSpec.pre enc Tryz.prog Tryz.f5 [] false w args ∧ laidMetH Tryz.prog [("math/bits.deBruijn32tab", Rows.laid_math_bits_deBruijn32tab), ("math/bits.deBruijn64tab", Rows.laid_math_bits_deBruijn64tab), ("internal/strconv.uint64pow10", Rows.laid_internal_strconv_uint64pow10), ("errors.errorType", Rows.laid_errors_errorType), ("swage/pack.errForm", Rows.laid_swage_pack_errForm), ("swage/pack.errEnd", Rows.laid_swage_pack_errEnd)] w) ∧ sizedMet enc Tryz.prog Tryz.f5 (OpenSpec.ofChange Rows.lowerKindsSpec) false w args) (Rows.lowerKindsSpec.post enc Tryz.prog Tryz.f5 false true false false) := by
  refine returnsInHanded_of_change_and (C := Tryz.checked) (X := fun w _ => laidMetH Tryz.prog [("math/bits.deBruijn32tab", Rows.laid_math_bits_deBruijn32tab), ("math/bits.deBruijn64tab", Rows.laid_math_bits_deBruijn64tab), ("internal/strconv.uint64pow10", Rows.laid_internal_strconv_uint64pow10), ("errors.errorType", Rows.laid_errors_errorType), ("swage/pack.errForm", Rows.laid_swage_pack_errForm), ("swage/pack.errEnd", Rows.laid_swage_pack_errEnd)] w) (fun _ _ _ hh h => h.of_heap hh) own started (by kernel_rfl) Tryz.func5
    (ChangeSpec.witness_shaped (enc := enc) (C := Tryz.checked) (os := os) (X := fun w _ => laidMetH Tryz.prog [("math/bits.deBruijn32tab", Rows.laid_math_bits_deBruijn32tab), ("math/bits.deBruijn64tab", Rows.laid_math_bits_deBruijn64tab), ("internal/strconv.uint64pow10", Rows.laid_internal_strconv_uint64pow10), ("errors.errorType", Rows.laid_errors_errorType), ("swage/pack.errForm", Rows.laid_swage_pack_errForm), ("swage/pack.errEnd", Rows.laid_swage_pack_errEnd)] w) false (World.doorLaid Tryz.prog 400 os) #[.int .i64 0] 8 rfl (World.shaped_of_RefB (by kernel_rfl) (by kernel_rfl)) (by kernel_rfl) (by kernel_rfl) (by kernel_rfl) (door_met os _)) ?_
  intro W base args ds gs before hval0 hW hcnd hsz0 hL _
  have hval : ∀ (j : Nat) t v, Tryz.f5.params[j]? = some t → args[j]? = some v → Value.okWide Tryz.prog W .any base t v := hval0
  have hW' := hW
  obtain ⟨p, q, hA0, hV, rfl, hfz, hnd⟩ := hW
  have hA : DataW.TrodAll enc Tryz.prog W 0 (fun _ => true) true Tryz.f5.params.toList args.toList ds p := hA0
  have hsz : (DataW.weightsEach Tryz.prog (Tryz.f5.params.toList ++ Rows.lowerKindsSpec.plain.varTypes Tryz.prog) (ds ++ gs)).all (· ≤ reachBytes) = true := hsz0
  rw [Tryz.params5] at hA hval hsz
  obtain ⟨v0, vs0, d0, ds0, p0, q0, hargs, rfl, rfl, h0, r0⟩ := trodAll_cons hA
  obtain ⟨rfl, rfl, rfl⟩ := trodAll_nil r0
  obtain rfl : args = #[v0] := by cases args; simp_all
  obtain ⟨rfl, rfl⟩ := trodVars_none hV
  have k0 := h0
  have lt0 : ∀ x ∈ p0, x.block < W.heap.size := by obtain ⟨m, hm⟩ := k0; exact DataW.trod_lt m _ _ _ hm
  obtain ⟨a0, rfl, rfl, rfl, w0⟩ := open_int Tryz.underlying3 (hval 0 3 v0 rfl rfl) h0
  clear hA0 hval0
  refine (walk a0 W w0 (ld_of hL)).mono fun e W' ⟨he, bel⟩ => ?_
  subst he
  exact ⟨_, rfl, _, _, _, [], _, [], hW', trodAll_mk1 (shut_bool Tryz.underlying4 _), (trodAll_cons_mk (Below.trod laidOut (by kernel_rfl) (of_decide_eq_true (by kernel_rfl)) k0 bel lt0) trodAll_mk0), rfl, bel.frame _, fun h => by cases h⟩

theorem over : Rows.lowerKindsRow.holds Tryz.pinned (OpenSpec.ofChange Rows.lowerKindsSpec) :=
  OpenClaim.holds_of_wide 5 Tryz.f5 rfl rfl rfl rfl rfl rfl rfl ⟨rfl, rfl, rfl, rfl, rfl⟩ rfl rfl rfl rfl rfl (by kernel_rfl) Tryz.func5 (by kernel_rfl)
    (of_decide_eq_true (by kernel_rfl)) (by unfold Func.isWrapper; first | (rw [if_pos (by decide +kernel)]; kernel_rfl) | (rw [if_neg (by decide +kernel)]; exact ⟨rfl, rfl⟩))
    (fun os started H enc _ => lifted os started H enc)
end Go.Proofs.YtaimpljkbpnigaaGreatDoor.lowerKinds
namespace Go.Proofs.YtaimpljkbpnigaaGreatDoor
open Go
theorem lowerKinds_holds : Rows.LowerKindsCardSaid :=
  Claim7.holds_tied_plain_at .later [] [.data, .data, .data, .handle, .sentinel, .sentinel] true (true, "51ad92c745e9affde3203d71f52c7c02a7ce038a9bed1ac76f940f19edd66073") true
    lowerKinds.over (fun _ h => by cases h) (by kernel_rfl) (fun _ h => by cases h) lowerKinds_row_tie rfl ⟨rfl, rfl⟩ (by kernel_rfl) rfl
    (fun f fn hf hfn => by
      obtain rfl : f = 5 := Option.some.inj ((show Tryz.prog.funcNamed "swage/swagelaw11.LowerKinds" = some 5 by kernel_rfl).symm.trans hf) |>.symm
      obtain rfl : fn = Tryz.f5 := (Option.some.inj (Tryz.func5.symm.trans hfn)).symm
      exact ⟨by kernel_rfl, fun j t ht => by
        rw [Tryz.params5] at ht
        have hm : t ∈ [3] := by simpa using Array.mem_of_getElem? ht
        have hall : ([3].all fun u => !Tryz.prog.wantsStandIn u) = true := by kernel_rfl
        exact (show Tryz.prog.wantsStandIn t = false by simpa using List.all_eq_true.1 hall t hm)⟩)
    (by kernel_rfl)
#print axioms lowerKinds_holds
end Go.Proofs.YtaimpljkbpnigaaGreatDoor
