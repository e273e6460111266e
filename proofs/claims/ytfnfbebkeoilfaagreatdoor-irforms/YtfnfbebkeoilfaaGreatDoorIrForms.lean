/- For any two integers the law IrForms returns true: code that may be is let by ir.May, and with one thing turned in it that may not be it is refused. (The package's variables hold what the program's text lays.) -/
import Derived.Test.YtfnfbebkeoilfaaGreatDoorRows
import Derived.WalkKit
import Derived.ProofKit
import Derived.OpenShut
import Derived.ShutString
import Derived.ChangeOld
import Derived.Below
import Derived.Carry
import Derived.Lib.SmallJoins
import Derived.Handy
import Derived.WalkSmall
import Derived.SizedLaws
import Derived.Test.YtfnfbebkeoilfaaGreatDoorLaidOpenV
import Derived.Test.YtfnfbebkeoilfaaGreatDoorCards
import Derived.Test.YtfnfbebkeoilfaaGreatDoorTie
import Derived.SevenTiedAt
import Derived.LaidMore
import Derived.Stop.Joined
import Derived.Test.YtfnfbebkeoilfaaGreatDoorJ10f
import Derived.Test.YtfnfbebkeoilfaaGreatDoorJ10h
import Derived.Test.YtfnfbebkeoilfaaGreatDoorJ1o
import Derived.Test.YtfnfbebkeoilfaaGreatDoorJ10c
import Derived.Test.YtfnfbebkeoilfaaGreatDoorJ10d
import Derived.Test.YtfnfbebkeoilfaaGreatDoorJ10g
namespace Go.Proofs.YtfnfbebkeoilfaaGreatDoor.irForms
open Go.ChangeShapes Go.WideShapes Go.ChangeAt Go.RowKit
open Go.ChangeMaps (open_string shut_string)
set_option linter.unusedVariables false

theorem own : ownKnob Tryz.prog.godebug = none := by kernel_rfl
theorem laidOut : laidOutB Tryz.prog = true := by kernel_rfl

set_option maxRecDepth 100000 in
set_option maxHeartbeats 20000000 in
theorem walk (a0 : Int) (a1 : Int) (w : World) (w0 : (Lit.int .i64 a0).wf = true) (w1 : (Lit.int .i64 a1).wf = true) (ld : Ld w) :
    Calls Tryz.prog 4 #[.int .i64 a0, .int .i64 a1] w fun e w' => e = .returned (.bool true) ∧ Below w.heap.size w w' := by
  have LD0 := hid ld
  clear ld
  have hm := and1023 a1
  have hd0 : 0 ≤ a1 % 1024 := Int.emod_nonneg _ (by omega)
  have hd1 : a1 % 1024 < 1024 := Int.emod_lt_of_pos _ (by omega)
  generalize a1 % 1024 = d0 at hm hd0 hd1
  obtain ⟨hk0, hk1⟩ := umod_bd a0 24 (by decide)
  have KB := hid (And.intro hk0 hk1)
  obtain ⟨hq0, hq1⟩ := umod_bd a1 11 (by decide)
  have QB := hid (And.intro hq0 hq1)
  clear hk0 hk1 hq0 hq1
  go_enter Tryz.func4, Tryz.ntmps4
  go_wp2_with fail
  refine (awake10_any _ LD0.out).mono ?_
  rintro e w1 ⟨rfl, b1⟩
  have B1 := hid b1
  clear b1
  go_wp2_with fail
  refine (two10_any _).mono ?_
  rintro e w2 ⟨pv, pn, pc, rfl, hp, b2⟩
  have HP := hid hp
  have B2 := hid (kt B1.out b2)
  clear hp b2
  go_upto_region 5 with fail
  refine wp_name ?_
  intro U hU
  have AU : Hid (Below w2.heap.size w2 U) := hid (by rw [hU]; exact Below.alloc (Below.refl _ _) (Nat.le_refl _) _)
  have BU : Hid (Below w.heap.size w U) := hid (kt B2.out AU.out)
  have p0 : U.cell? ⟨w2.heap.size, 0, none⟩ = some (.slice pv pn pc) := by rw [hU]; simp [go_sem]
  have PU := hid p0
  have HU := hid (HP.out.kept AU.out)
  have hsU : w.heap.size ≤ U.heap.size := BU.out.size
  have hwU : w2.heap.size < U.heap.size := lt_of_cell p0
  clear hU AU HP
  go_upto_region 7 with fail
  refine wp_name ?_
  intro V hV
  have EV : V = allocs U [.cells #[.bool false, .int .i64 0] 38, .cells #[.int .i64 0, .int .i64 1] 3, .cells (irsV (.slice (some ⟨U.heap.size + 1, 0, none⟩) 2 2) fmC).toArray 42, .cells #[.bool true, .int .i64 7] 38, .cells #[.int .i64 0, .int .i64 1, .slice (some ⟨U.heap.size, 0, none⟩) 1 1, .slice (some ⟨U.heap.size + 1 + 1 + 1, 0, none⟩) 1 1] 44, .cells #[.slice (some ⟨U.heap.size + 1 + 1 + 1 + 1, 0, none⟩) 1 1] 47, .cells #[.int .i64 0, .int .i64 3, .slice (some ⟨U.heap.size + 1 + 1, 0, none⟩) 11 11, .slice (some ⟨U.heap.size + 1 + 1 + 1 + 1 + 1, 0, none⟩) 1 1] 28] := hV
  have AV : Hid (Below U.heap.size U V) := hid (by rw [EV]; exact allocs_below _ _)
  have HL := hid (show V.heap[U.heap.size]? = some _ by rw [EV]; exact allocs_heap U _ 0 _ rfl)
  have HA := hid (show V.heap[U.heap.size + 1]? = some _ by rw [EV]; exact allocs_heap U _ 1 _ rfl)
  have HI := hid (show V.heap[U.heap.size + 1 + 1]? = some _ by rw [EV]; exact allocs_heap U _ 2 _ rfl)
  have HS := hid (show V.heap[U.heap.size + 1 + 1 + 1]? = some _ by rw [EV]; exact allocs_heap U _ 3 _ rfl)
  have HP' := hid (show V.heap[U.heap.size + 1 + 1 + 1 + 1]? = some _ by rw [EV]; exact allocs_heap U _ 4 _ rfl)
  have HM := hid (show V.heap[U.heap.size + 1 + 1 + 1 + 1 + 1]? = some _ by rw [EV]; exact allocs_heap U _ 5 _ rfl)
  have HC := hid (show V.heap[U.heap.size + 1 + 1 + 1 + 1 + 1 + 1]? = some _ by rw [EV]; exact allocs_heap U _ 6 _ rfl)
  clear hV EV
  have pV := kept_cell AV.out PU.out
  have CV := (heap_cells HC.out).1
  have c0 := CV 0 _ rfl
  have c1 := CV 1 _ rfl
  have c2 := CV 2 _ rfl
  have c3 := CV 3 _ rfl
  clear p0 CV
  go_wp2_with fail
  have FM : ∀ w' : World, CellsAt w' (U.heap.size + 1 + 1 + 1 + 1 + 1) [.slice (some ⟨U.heap.size + 1 + 1 + 1 + 1, 0, none⟩) 1 1] → CellsAt w' (U.heap.size + 1 + 1 + 1 + 1) [.int .i64 0, .int .i64 1, .slice (some ⟨U.heap.size, 0, none⟩) 1 1, .slice (some ⟨U.heap.size + 1 + 1 + 1, 0, none⟩) 1 1] → CellsAt w' (U.heap.size) [.bool false, .int .i64 0] → CellsAt w' (U.heap.size + 1 + 1 + 1) [.bool true, .int .i64 7] → Sl layMeta 24 w' (some ⟨U.heap.size + 1 + 1 + 1 + 1 + 1, 0, none⟩) 1 1 fmM := fun w' m p l s => metas_of (m 0 _ rfl) p (src_one l) (src_one s)
  have FI : ∀ (w' : World) (l : List IrT), CellsAt w' (U.heap.size + 1) (ints [0, 1]) → CellsAt w' (U.heap.size + 1 + 1) (irsV (.slice (some ⟨U.heap.size + 1, 0, none⟩) 2 2) l) → l.length ≤ 11 → (∀ x ∈ l, x.2.2.2.2.2.1 = [] ∨ x.2.2.2.2.2.1 = [0, 1]) → Sl layIr 88 w' (some ⟨U.heap.size + 1 + 1, 0, none⟩) l.length 11 l := fun w' l a h hl hx => h.irs (fun x m hn => ⟨_, _, _, rfl, by rw [(hx x m).resolve_left hn]; exact ints_cells a (by decide)⟩) (by omega) hl
  have FMH := hid FM
  have FIH := hid FI
  clear FM FI
  refine (irMay_any _ _ _ _ _ _ _ _ _ twoL fmC fmM 0 3 _ (HU.out.kept AV.out) (FIH.out V fmC (heap_cells HA.out).1 (heap_cells HI.out).1 (by decide) (by decide)) (FMH.out V (heap_cells HM.out).1 (heap_cells HP'.out).1 (heap_cells HL.out).1 (heap_cells HS.out).1) (LD0.out.up (kt BU.out AV.out))).mono ?_
  rintro e W ⟨rfl, bw⟩
  rw [fm_ok]
  have UW : Hid (Below U.heap.size U W) := hid (kt AV.out bw)
  have pW := kept_cell bw pV
  replace HL := hid (heap_kept HL.out bw)
  replace HA := hid (heap_kept HA.out bw)
  replace HI := hid (heap_kept HI.out bw)
  replace HS := hid (heap_kept HS.out bw)
  replace HP' := hid (heap_kept HP'.out bw)
  replace HM := hid (heap_kept HM.out bw)
  replace HC := hid (heap_kept HC.out bw)
  clear pV c0 c1 c2 c3 bw AV
  have CC := (heap_cells HC.out).1
  have c0 := CC 0 _ rfl
  have c1 := CC 1 _ rfl
  have c2 := CC 2 _ rfl
  have c3 := CC 3 _ rfl
  have PW := hid pW
  clear CC
  obtain ⟨q, hq⟩ : ∃ q : Nat, (IntKind.u64.wrap a1).tmod 11 = q := ⟨((IntKind.u64.wrap a1).tmod 11).toNat, by have := QB.out; omega⟩
  have QQ : Hid (q < 11) := hid (by have := QB.out; omega)
  obtain ⟨k, hK⟩ : ∃ k, (IntKind.u64.wrap a0).tmod 24 = k := ⟨_, rfl⟩
  have hkb := KB.out
  rw [hK] at hkb
  have hq11 := QQ.out
  go_upto_region 10 with fail
  have hwW : w2.heap.size < W.heap.size := lt_of_cell pW
  have hcases : k = 0 ∨ k = 1 ∨ k = 2 ∨ k = 3 ∨ k = 4 ∨ k = 5 ∨ k = 6 ∨ k = 7 ∨ k = 8 ∨ k = 9 ∨ k = 10 ∨ k = 11 ∨ k = 12 ∨ k = 13 ∨ k = 14 ∨ k = 15 ∨ k = 16 ∨ k = 17 ∨ 18 ≤ k := by omega
  rcases hcases with rfl | rfl | rfl | rfl | rfl | rfl | rfl | rfl | rfl | rfl | rfl | rfl | rfl | rfl | rfl | rfl | rfl | rfl | hk18
  · have s1 := (heap_cells HC.out).2 0
    go_upto_region 48 with fail
    refine wp_name ?_
    intro Z hZ
    have UZ : Hid (Below U.heap.size U Z) := hid (by rw [hZ]; exact UW.out.setCell (by show U.heap.size ≤ U.heap.size + 1 + 1 + 1 + 1 + 1 + 1; omega) _)
    have pz : Z.cell? ⟨w2.heap.size, 0, none⟩ = some (.slice pv pn pc) := by rw [hZ]; exact cell_set_far PW.out (by show w2.heap.size ≠ U.heap.size + 1 + 1 + 1 + 1 + 1 + 1; omega)
    have CZ : CellsAt Z (U.heap.size + 1 + 1 + 1 + 1 + 1 + 1) [.int .i64 (2), .int .i64 3, .slice (some ⟨U.heap.size + 1 + 1, 0, none⟩) 11 11, .slice (some ⟨U.heap.size + 1 + 1 + 1 + 1 + 1, 0, none⟩) 1 1] := by rw [hZ]; exact (heap_cells HC.out).1.set 0 _
    have IZ : Hid (CellsAt Z (U.heap.size + 1 + 1) (irsV (.slice (some ⟨U.heap.size + 1, 0, none⟩) 2 2) fmC)) := hid (by rw [hZ]; exact (heap_cells HI.out).1.away _ _ _ (by omega))
    have AZ : Hid (CellsAt Z (U.heap.size + 1) (ints [0, 1])) := hid (by rw [hZ]; exact (heap_cells HA.out).1.away _ _ _ (by omega))
    have MZ : Hid (CellsAt Z (U.heap.size + 1 + 1 + 1 + 1 + 1) [.slice (some ⟨U.heap.size + 1 + 1 + 1 + 1, 0, none⟩) 1 1]) := hid (by rw [hZ]; exact (heap_cells HM.out).1.away _ _ _ (by omega))
    have PZ : Hid (CellsAt Z (U.heap.size + 1 + 1 + 1 + 1) [.int .i64 0, .int .i64 1, .slice (some ⟨U.heap.size, 0, none⟩) 1 1, .slice (some ⟨U.heap.size + 1 + 1 + 1, 0, none⟩) 1 1]) := hid (by rw [hZ]; exact (heap_cells HP'.out).1.away _ _ _ (by omega))
    have LZ : Hid (CellsAt Z (U.heap.size) [.bool false, .int .i64 0]) := hid (by rw [hZ]; exact (heap_cells HL.out).1.away _ _ _ (by omega))
    have SZ : Hid (CellsAt Z (U.heap.size + 1 + 1 + 1) [.bool true, .int .i64 7]) := hid (by rw [hZ]; exact (heap_cells HS.out).1.away _ _ _ (by omega))
    clear c0 c1 c2 c3
    have c0 := CZ 0 _ rfl
    have c1 := CZ 1 _ rfl
    have c2 := CZ 2 _ rfl
    have c3 := CZ 3 _ rfl
    skip
    clear hZ CZ s1
    go_wp2_with fail
    refine (irMay_any _ _ _ _ _ _ _ _ _ twoL fmC fmM (2) (3) _ (HU.out.kept UZ.out) (FIH.out Z fmC AZ.out IZ.out (by decide) (by decide)) (FMH.out Z MZ.out PZ.out LZ.out SZ.out) (LD0.out.up (kt BU.out UZ.out))).mono ?_
    rintro e t ⟨rfl, bt⟩
    rw [no_0]
    have BF := hid (kt (kt BU.out UZ.out) bt)
    clear bt pz c0 c1 c2 c3
    go_wp2_with fail
    go_ret
    exact ⟨rfl, BF.out⟩
  · have s1 := (heap_cells HC.out).2 1
    go_upto_region 48 with fail
    refine wp_name ?_
    intro Z hZ
    have UZ : Hid (Below U.heap.size U Z) := hid (by rw [hZ]; exact UW.out.setCell (by show U.heap.size ≤ U.heap.size + 1 + 1 + 1 + 1 + 1 + 1; omega) _)
    have pz : Z.cell? ⟨w2.heap.size, 0, none⟩ = some (.slice pv pn pc) := by rw [hZ]; exact cell_set_far PW.out (by show w2.heap.size ≠ U.heap.size + 1 + 1 + 1 + 1 + 1 + 1; omega)
    have CZ : CellsAt Z (U.heap.size + 1 + 1 + 1 + 1 + 1 + 1) [.int .i64 0, .int .i64 (0), .slice (some ⟨U.heap.size + 1 + 1, 0, none⟩) 11 11, .slice (some ⟨U.heap.size + 1 + 1 + 1 + 1 + 1, 0, none⟩) 1 1] := by rw [hZ]; exact (heap_cells HC.out).1.set 1 _
    have IZ : Hid (CellsAt Z (U.heap.size + 1 + 1) (irsV (.slice (some ⟨U.heap.size + 1, 0, none⟩) 2 2) fmC)) := hid (by rw [hZ]; exact (heap_cells HI.out).1.away _ _ _ (by omega))
    have AZ : Hid (CellsAt Z (U.heap.size + 1) (ints [0, 1])) := hid (by rw [hZ]; exact (heap_cells HA.out).1.away _ _ _ (by omega))
    have MZ : Hid (CellsAt Z (U.heap.size + 1 + 1 + 1 + 1 + 1) [.slice (some ⟨U.heap.size + 1 + 1 + 1 + 1, 0, none⟩) 1 1]) := hid (by rw [hZ]; exact (heap_cells HM.out).1.away _ _ _ (by omega))
    have PZ : Hid (CellsAt Z (U.heap.size + 1 + 1 + 1 + 1) [.int .i64 0, .int .i64 1, .slice (some ⟨U.heap.size, 0, none⟩) 1 1, .slice (some ⟨U.heap.size + 1 + 1 + 1, 0, none⟩) 1 1]) := hid (by rw [hZ]; exact (heap_cells HP'.out).1.away _ _ _ (by omega))
    have LZ : Hid (CellsAt Z (U.heap.size) [.bool false, .int .i64 0]) := hid (by rw [hZ]; exact (heap_cells HL.out).1.away _ _ _ (by omega))
    have SZ : Hid (CellsAt Z (U.heap.size + 1 + 1 + 1) [.bool true, .int .i64 7]) := hid (by rw [hZ]; exact (heap_cells HS.out).1.away _ _ _ (by omega))
    clear c0 c1 c2 c3
    have c0 := CZ 0 _ rfl
    have c1 := CZ 1 _ rfl
    have c2 := CZ 2 _ rfl
    have c3 := CZ 3 _ rfl
    skip
    clear hZ CZ s1
    go_wp2_with fail
    refine (irMay_any _ _ _ _ _ _ _ _ _ twoL fmC fmM (0) (0) _ (HU.out.kept UZ.out) (FIH.out Z fmC AZ.out IZ.out (by decide) (by decide)) (FMH.out Z MZ.out PZ.out LZ.out SZ.out) (LD0.out.up (kt BU.out UZ.out))).mono ?_
    rintro e t ⟨rfl, bt⟩
    rw [no_1]
    have BF := hid (kt (kt BU.out UZ.out) bt)
    clear bt pz c0 c1 c2 c3
    go_wp2_with fail
    go_ret
    exact ⟨rfl, BF.out⟩
  · have s1 := (heap_cells HC.out).2 1
    go_upto_region 48 with fail
    refine wp_name ?_
    intro Z hZ
    have UZ : Hid (Below U.heap.size U Z) := hid (by rw [hZ]; exact UW.out.setCell (by show U.heap.size ≤ U.heap.size + 1 + 1 + 1 + 1 + 1 + 1; omega) _)
    have pz : Z.cell? ⟨w2.heap.size, 0, none⟩ = some (.slice pv pn pc) := by rw [hZ]; exact cell_set_far PW.out (by show w2.heap.size ≠ U.heap.size + 1 + 1 + 1 + 1 + 1 + 1; omega)
    have CZ : CellsAt Z (U.heap.size + 1 + 1 + 1 + 1 + 1 + 1) [.int .i64 0, .int .i64 (64 + (1 + d0)), .slice (some ⟨U.heap.size + 1 + 1, 0, none⟩) 11 11, .slice (some ⟨U.heap.size + 1 + 1 + 1 + 1 + 1, 0, none⟩) 1 1] := by rw [hZ]; exact (heap_cells HC.out).1.set 1 _
    have IZ : Hid (CellsAt Z (U.heap.size + 1 + 1) (irsV (.slice (some ⟨U.heap.size + 1, 0, none⟩) 2 2) fmC)) := hid (by rw [hZ]; exact (heap_cells HI.out).1.away _ _ _ (by omega))
    have AZ : Hid (CellsAt Z (U.heap.size + 1) (ints [0, 1])) := hid (by rw [hZ]; exact (heap_cells HA.out).1.away _ _ _ (by omega))
    have MZ : Hid (CellsAt Z (U.heap.size + 1 + 1 + 1 + 1 + 1) [.slice (some ⟨U.heap.size + 1 + 1 + 1 + 1, 0, none⟩) 1 1]) := hid (by rw [hZ]; exact (heap_cells HM.out).1.away _ _ _ (by omega))
    have PZ : Hid (CellsAt Z (U.heap.size + 1 + 1 + 1 + 1) [.int .i64 0, .int .i64 1, .slice (some ⟨U.heap.size, 0, none⟩) 1 1, .slice (some ⟨U.heap.size + 1 + 1 + 1, 0, none⟩) 1 1]) := hid (by rw [hZ]; exact (heap_cells HP'.out).1.away _ _ _ (by omega))
    have LZ : Hid (CellsAt Z (U.heap.size) [.bool false, .int .i64 0]) := hid (by rw [hZ]; exact (heap_cells HL.out).1.away _ _ _ (by omega))
    have SZ : Hid (CellsAt Z (U.heap.size + 1 + 1 + 1) [.bool true, .int .i64 7]) := hid (by rw [hZ]; exact (heap_cells HS.out).1.away _ _ _ (by omega))
    clear c0 c1 c2 c3
    have c0 := CZ 0 _ rfl
    have c1 := CZ 1 _ rfl
    have c2 := CZ 2 _ rfl
    have c3 := CZ 3 _ rfl
    skip
    clear hZ CZ s1
    go_wp2_with fail
    refine (irMay_any _ _ _ _ _ _ _ _ _ twoL fmC fmM (0) (64 + (1 + d0)) _ (HU.out.kept UZ.out) (FIH.out Z fmC AZ.out IZ.out (by decide) (by decide)) (FMH.out Z MZ.out PZ.out LZ.out SZ.out) (LD0.out.up (kt BU.out UZ.out))).mono ?_
    rintro e t ⟨rfl, bt⟩
    rw [no_2 _ (by omega)]
    have BF := hid (kt (kt BU.out UZ.out) bt)
    clear bt pz c0 c1 c2 c3
    go_wp2_with fail
    go_ret
    exact ⟨rfl, BF.out⟩
  · have s1 := (heap_cells HC.out).2 2
    go_upto_region 48 with fail
    refine wp_name ?_
    intro Z hZ
    have UZ : Hid (Below U.heap.size U Z) := hid (by rw [hZ]; exact UW.out.setCell (by show U.heap.size ≤ U.heap.size + 1 + 1 + 1 + 1 + 1 + 1; omega) _)
    have pz : Z.cell? ⟨w2.heap.size, 0, none⟩ = some (.slice pv pn pc) := by rw [hZ]; exact cell_set_far PW.out (by show w2.heap.size ≠ U.heap.size + 1 + 1 + 1 + 1 + 1 + 1; omega)
    have CZ : CellsAt Z (U.heap.size + 1 + 1 + 1 + 1 + 1 + 1) [.int .i64 0, .int .i64 3, .slice none 0 0, .slice (some ⟨U.heap.size + 1 + 1 + 1 + 1 + 1, 0, none⟩) 1 1] := by rw [hZ]; exact (heap_cells HC.out).1.set 2 _
    have IZ : Hid (CellsAt Z (U.heap.size + 1 + 1) (irsV (.slice (some ⟨U.heap.size + 1, 0, none⟩) 2 2) fmC)) := hid (by rw [hZ]; exact (heap_cells HI.out).1.away _ _ _ (by omega))
    have AZ : Hid (CellsAt Z (U.heap.size + 1) (ints [0, 1])) := hid (by rw [hZ]; exact (heap_cells HA.out).1.away _ _ _ (by omega))
    have MZ : Hid (CellsAt Z (U.heap.size + 1 + 1 + 1 + 1 + 1) [.slice (some ⟨U.heap.size + 1 + 1 + 1 + 1, 0, none⟩) 1 1]) := hid (by rw [hZ]; exact (heap_cells HM.out).1.away _ _ _ (by omega))
    have PZ : Hid (CellsAt Z (U.heap.size + 1 + 1 + 1 + 1) [.int .i64 0, .int .i64 1, .slice (some ⟨U.heap.size, 0, none⟩) 1 1, .slice (some ⟨U.heap.size + 1 + 1 + 1, 0, none⟩) 1 1]) := hid (by rw [hZ]; exact (heap_cells HP'.out).1.away _ _ _ (by omega))
    have LZ : Hid (CellsAt Z (U.heap.size) [.bool false, .int .i64 0]) := hid (by rw [hZ]; exact (heap_cells HL.out).1.away _ _ _ (by omega))
    have SZ : Hid (CellsAt Z (U.heap.size + 1 + 1 + 1) [.bool true, .int .i64 7]) := hid (by rw [hZ]; exact (heap_cells HS.out).1.away _ _ _ (by omega))
    clear c0 c1 c2 c3
    have c0 := CZ 0 _ rfl
    have c1 := CZ 1 _ rfl
    have c2 := CZ 2 _ rfl
    have c3 := CZ 3 _ rfl
    skip
    clear hZ CZ s1
    go_wp2_with fail
    refine (irMay_any _ _ _ _ _ _ _ _ _ twoL [] fmM (0) (3) _ (HU.out.kept UZ.out) (Sl.nil _ _ _) (FMH.out Z MZ.out PZ.out LZ.out SZ.out) (LD0.out.up (kt BU.out UZ.out))).mono ?_
    rintro e t ⟨rfl, bt⟩
    rw [no_3]
    have BF := hid (kt (kt BU.out UZ.out) bt)
    clear bt pz c0 c1 c2 c3
    go_wp2_with fail
    go_ret
    exact ⟨rfl, BF.out⟩
  · have s1 := (heap_cells HC.out).2 2
    go_upto_region 48 with fail
    refine wp_name ?_
    intro Z hZ
    have UZ : Hid (Below U.heap.size U Z) := hid (by rw [hZ]; exact UW.out.setCell (by show U.heap.size ≤ U.heap.size + 1 + 1 + 1 + 1 + 1 + 1; omega) _)
    have pz : Z.cell? ⟨w2.heap.size, 0, none⟩ = some (.slice pv pn pc) := by rw [hZ]; exact cell_set_far PW.out (by show w2.heap.size ≠ U.heap.size + 1 + 1 + 1 + 1 + 1 + 1; omega)
    have CZ : CellsAt Z (U.heap.size + 1 + 1 + 1 + 1 + 1 + 1) [.int .i64 0, .int .i64 3, .slice (some ⟨U.heap.size + 1 + 1, 0, none⟩) 10 11, .slice (some ⟨U.heap.size + 1 + 1 + 1 + 1 + 1, 0, none⟩) 1 1] := by rw [hZ]; exact (heap_cells HC.out).1.set 2 _
    have IZ : Hid (CellsAt Z (U.heap.size + 1 + 1) (irsV (.slice (some ⟨U.heap.size + 1, 0, none⟩) 2 2) fmC)) := hid (by rw [hZ]; exact (heap_cells HI.out).1.away _ _ _ (by omega))
    have AZ : Hid (CellsAt Z (U.heap.size + 1) (ints [0, 1])) := hid (by rw [hZ]; exact (heap_cells HA.out).1.away _ _ _ (by omega))
    have MZ : Hid (CellsAt Z (U.heap.size + 1 + 1 + 1 + 1 + 1) [.slice (some ⟨U.heap.size + 1 + 1 + 1 + 1, 0, none⟩) 1 1]) := hid (by rw [hZ]; exact (heap_cells HM.out).1.away _ _ _ (by omega))
    have PZ : Hid (CellsAt Z (U.heap.size + 1 + 1 + 1 + 1) [.int .i64 0, .int .i64 1, .slice (some ⟨U.heap.size, 0, none⟩) 1 1, .slice (some ⟨U.heap.size + 1 + 1 + 1, 0, none⟩) 1 1]) := hid (by rw [hZ]; exact (heap_cells HP'.out).1.away _ _ _ (by omega))
    have LZ : Hid (CellsAt Z (U.heap.size) [.bool false, .int .i64 0]) := hid (by rw [hZ]; exact (heap_cells HL.out).1.away _ _ _ (by omega))
    have SZ : Hid (CellsAt Z (U.heap.size + 1 + 1 + 1) [.bool true, .int .i64 7]) := hid (by rw [hZ]; exact (heap_cells HS.out).1.away _ _ _ (by omega))
    clear c0 c1 c2 c3
    have c0 := CZ 0 _ rfl
    have c1 := CZ 1 _ rfl
    have c2 := CZ 2 _ rfl
    have c3 := CZ 3 _ rfl
    skip
    clear hZ CZ s1
    go_wp2_with fail
    refine (irMay_any _ _ _ _ _ _ _ _ _ twoL (fmC.take 10) fmM (0) (3) _ (HU.out.kept UZ.out) ((IZ.out.pre (l' := irsV (.slice (some ⟨U.heap.size + 1, 0, none⟩) 2 2) (fmC.take 10)) 90 rfl).irs (c := 11) (fun x m hn => ⟨_, _, _, rfl, by rw [(fm_args (List.mem_of_mem_take m)).resolve_left hn]; exact ints_cells AZ.out (by decide)⟩) (by decide) (by decide)) (FMH.out Z MZ.out PZ.out LZ.out SZ.out) (LD0.out.up (kt BU.out UZ.out))).mono ?_
    rintro e t ⟨rfl, bt⟩
    rw [no_4]
    have BF := hid (kt (kt BU.out UZ.out) bt)
    clear bt pz c0 c1 c2 c3
    go_wp2_with fail
    go_ret
    exact ⟨rfl, BF.out⟩
  · have s1 := (heap_cells HC.out).2 3
    go_upto_region 48 with fail
    refine wp_name ?_
    intro Z hZ
    have UZ : Hid (Below U.heap.size U Z) := hid (by rw [hZ]; exact UW.out.setCell (by show U.heap.size ≤ U.heap.size + 1 + 1 + 1 + 1 + 1 + 1; omega) _)
    have pz : Z.cell? ⟨w2.heap.size, 0, none⟩ = some (.slice pv pn pc) := by rw [hZ]; exact cell_set_far PW.out (by show w2.heap.size ≠ U.heap.size + 1 + 1 + 1 + 1 + 1 + 1; omega)
    have CZ : CellsAt Z (U.heap.size + 1 + 1 + 1 + 1 + 1 + 1) [.int .i64 0, .int .i64 3, .slice (some ⟨U.heap.size + 1 + 1, 0, none⟩) 11 11, .slice none 0 0] := by rw [hZ]; exact (heap_cells HC.out).1.set 3 _
    have IZ : Hid (CellsAt Z (U.heap.size + 1 + 1) (irsV (.slice (some ⟨U.heap.size + 1, 0, none⟩) 2 2) fmC)) := hid (by rw [hZ]; exact (heap_cells HI.out).1.away _ _ _ (by omega))
    have AZ : Hid (CellsAt Z (U.heap.size + 1) (ints [0, 1])) := hid (by rw [hZ]; exact (heap_cells HA.out).1.away _ _ _ (by omega))
    have MZ : Hid (CellsAt Z (U.heap.size + 1 + 1 + 1 + 1 + 1) [.slice (some ⟨U.heap.size + 1 + 1 + 1 + 1, 0, none⟩) 1 1]) := hid (by rw [hZ]; exact (heap_cells HM.out).1.away _ _ _ (by omega))
    have PZ : Hid (CellsAt Z (U.heap.size + 1 + 1 + 1 + 1) [.int .i64 0, .int .i64 1, .slice (some ⟨U.heap.size, 0, none⟩) 1 1, .slice (some ⟨U.heap.size + 1 + 1 + 1, 0, none⟩) 1 1]) := hid (by rw [hZ]; exact (heap_cells HP'.out).1.away _ _ _ (by omega))
    have LZ : Hid (CellsAt Z (U.heap.size) [.bool false, .int .i64 0]) := hid (by rw [hZ]; exact (heap_cells HL.out).1.away _ _ _ (by omega))
    have SZ : Hid (CellsAt Z (U.heap.size + 1 + 1 + 1) [.bool true, .int .i64 7]) := hid (by rw [hZ]; exact (heap_cells HS.out).1.away _ _ _ (by omega))
    clear c0 c1 c2 c3
    have c0 := CZ 0 _ rfl
    have c1 := CZ 1 _ rfl
    have c2 := CZ 2 _ rfl
    have c3 := CZ 3 _ rfl
    skip
    clear hZ CZ s1
    go_wp2_with fail
    refine (irMay_any _ _ _ _ _ _ _ _ _ twoL fmC [] (0) (3) _ (HU.out.kept UZ.out) (FIH.out Z fmC AZ.out IZ.out (by decide) (by decide)) (Sl.nil _ _ _) (LD0.out.up (kt BU.out UZ.out))).mono ?_
    rintro e t ⟨rfl, bt⟩
    rw [no_5]
    have BF := hid (kt (kt BU.out UZ.out) bt)
    clear bt pz c0 c1 c2 c3
    go_wp2_with fail
    go_ret
    exact ⟨rfl, BF.out⟩
  · obtain ⟨x0, s0⟩ := fmv_at HI.out (q := q) (j := 6) QQ.out (by decide)
    have s1 := (heap_cells HI.out).2 (q * 9 + 6)
    go_upto_region 48 with fail
    refine wp_name ?_
    intro Z hZ
    have UZ : Hid (Below U.heap.size U Z) := hid (by rw [hZ]; exact UW.out.setCell (by show U.heap.size ≤ U.heap.size + 1 + 1; omega) _)
    have pz : Z.cell? ⟨w2.heap.size, 0, none⟩ = some (.slice pv pn pc) := by rw [hZ]; exact cell_set_far PW.out (by show w2.heap.size ≠ U.heap.size + 1 + 1; omega)
    have CZ : CellsAt Z (U.heap.size + 1 + 1 + 1 + 1 + 1 + 1) [.int .i64 0, .int .i64 3, .slice (some ⟨U.heap.size + 1 + 1, 0, none⟩) 11 11, .slice (some ⟨U.heap.size + 1 + 1 + 1 + 1 + 1, 0, none⟩) 1 1] := by rw [hZ]; exact (heap_cells HC.out).1.away _ _ _ (by omega)
    have IZ : Hid (CellsAt Z (U.heap.size + 1 + 1) (irsV (.slice (some ⟨U.heap.size + 1, 0, none⟩) 2 2) (fmCost q (256 + (1 + d0))))) := hid (by rw [hZ]; have h := (heap_cells HI.out).1.set (q * 9 + 6) (.int .i64 (256 + (1 + d0))); rw [show (irsV (.slice (some ⟨U.heap.size + 1, 0, none⟩) 2 2) fmC).toArray.toList = irsV (.slice (some ⟨U.heap.size + 1, 0, none⟩) 2 2) fmC from rfl, fmv_cost QQ.out] at h; exact h)
    have AZ : Hid (CellsAt Z (U.heap.size + 1) (ints [0, 1])) := hid (by rw [hZ]; exact (heap_cells HA.out).1.away _ _ _ (by omega))
    have MZ : Hid (CellsAt Z (U.heap.size + 1 + 1 + 1 + 1 + 1) [.slice (some ⟨U.heap.size + 1 + 1 + 1 + 1, 0, none⟩) 1 1]) := hid (by rw [hZ]; exact (heap_cells HM.out).1.away _ _ _ (by omega))
    have PZ : Hid (CellsAt Z (U.heap.size + 1 + 1 + 1 + 1) [.int .i64 0, .int .i64 1, .slice (some ⟨U.heap.size, 0, none⟩) 1 1, .slice (some ⟨U.heap.size + 1 + 1 + 1, 0, none⟩) 1 1]) := hid (by rw [hZ]; exact (heap_cells HP'.out).1.away _ _ _ (by omega))
    have LZ : Hid (CellsAt Z (U.heap.size) [.bool false, .int .i64 0]) := hid (by rw [hZ]; exact (heap_cells HL.out).1.away _ _ _ (by omega))
    have SZ : Hid (CellsAt Z (U.heap.size + 1 + 1 + 1) [.bool true, .int .i64 7]) := hid (by rw [hZ]; exact (heap_cells HS.out).1.away _ _ _ (by omega))
    clear c0 c1 c2 c3
    have c0 := CZ 0 _ rfl
    have c1 := CZ 1 _ rfl
    have c2 := CZ 2 _ rfl
    have c3 := CZ 3 _ rfl
    skip
    clear hZ CZ s1 s0
    go_wp2_with fail
    refine (irMay_any _ _ _ _ _ _ _ _ _ twoL (fmCost q (256 + (1 + d0))) fmM (0) (3) _ (HU.out.kept UZ.out) (by have h := FIH.out Z (fmCost q (256 + (1 + d0))) AZ.out IZ.out (Nat.le_of_eq (fmCost_len _ _)) fm_argsCost; rw [fmCost_len] at h; exact h) (FMH.out Z MZ.out PZ.out LZ.out SZ.out) (LD0.out.up (kt BU.out UZ.out))).mono ?_
    rintro e t ⟨rfl, bt⟩
    rw [no_6 q QQ.out _ (by omega)]
    have BF := hid (kt (kt BU.out UZ.out) bt)
    clear bt pz c0 c1 c2 c3
    go_wp2_with fail
    go_ret
    exact ⟨rfl, BF.out⟩
  · obtain ⟨x0, s0⟩ := fmv_at HI.out (q := q) (j := 8) QQ.out (by decide)
    have s1 := (heap_cells HI.out).2 (q * 9 + 8)
    go_upto_region 48 with fail
    refine wp_name ?_
    intro Z hZ
    have UZ : Hid (Below U.heap.size U Z) := hid (by rw [hZ]; exact UW.out.setCell (by show U.heap.size ≤ U.heap.size + 1 + 1; omega) _)
    have pz : Z.cell? ⟨w2.heap.size, 0, none⟩ = some (.slice pv pn pc) := by rw [hZ]; exact cell_set_far PW.out (by show w2.heap.size ≠ U.heap.size + 1 + 1; omega)
    have CZ : CellsAt Z (U.heap.size + 1 + 1 + 1 + 1 + 1 + 1) [.int .i64 0, .int .i64 3, .slice (some ⟨U.heap.size + 1 + 1, 0, none⟩) 11 11, .slice (some ⟨U.heap.size + 1 + 1 + 1 + 1 + 1, 0, none⟩) 1 1] := by rw [hZ]; exact (heap_cells HC.out).1.away _ _ _ (by omega)
    have IZ : Hid (CellsAt Z (U.heap.size + 1 + 1) (irsV (.slice (some ⟨U.heap.size + 1, 0, none⟩) 2 2) (fmPc q (63 + (1 + d0))))) := hid (by rw [hZ]; have h := (heap_cells HI.out).1.set (q * 9 + 8) (.int .i64 (63 + (1 + d0))); rw [show (irsV (.slice (some ⟨U.heap.size + 1, 0, none⟩) 2 2) fmC).toArray.toList = irsV (.slice (some ⟨U.heap.size + 1, 0, none⟩) 2 2) fmC from rfl, fmv_pc QQ.out] at h; exact h)
    have AZ : Hid (CellsAt Z (U.heap.size + 1) (ints [0, 1])) := hid (by rw [hZ]; exact (heap_cells HA.out).1.away _ _ _ (by omega))
    have MZ : Hid (CellsAt Z (U.heap.size + 1 + 1 + 1 + 1 + 1) [.slice (some ⟨U.heap.size + 1 + 1 + 1 + 1, 0, none⟩) 1 1]) := hid (by rw [hZ]; exact (heap_cells HM.out).1.away _ _ _ (by omega))
    have PZ : Hid (CellsAt Z (U.heap.size + 1 + 1 + 1 + 1) [.int .i64 0, .int .i64 1, .slice (some ⟨U.heap.size, 0, none⟩) 1 1, .slice (some ⟨U.heap.size + 1 + 1 + 1, 0, none⟩) 1 1]) := hid (by rw [hZ]; exact (heap_cells HP'.out).1.away _ _ _ (by omega))
    have LZ : Hid (CellsAt Z (U.heap.size) [.bool false, .int .i64 0]) := hid (by rw [hZ]; exact (heap_cells HL.out).1.away _ _ _ (by omega))
    have SZ : Hid (CellsAt Z (U.heap.size + 1 + 1 + 1) [.bool true, .int .i64 7]) := hid (by rw [hZ]; exact (heap_cells HS.out).1.away _ _ _ (by omega))
    clear c0 c1 c2 c3
    have c0 := CZ 0 _ rfl
    have c1 := CZ 1 _ rfl
    have c2 := CZ 2 _ rfl
    have c3 := CZ 3 _ rfl
    skip
    clear hZ CZ s1 s0
    go_wp2_with fail
    refine (irMay_any _ _ _ _ _ _ _ _ _ twoL (fmPc q (63 + (1 + d0))) fmM (0) (3) _ (HU.out.kept UZ.out) (by have h := FIH.out Z (fmPc q (63 + (1 + d0))) AZ.out IZ.out (Nat.le_of_eq (fmPc_len _ _)) fm_argsPc; rw [fmPc_len] at h; exact h) (FMH.out Z MZ.out PZ.out LZ.out SZ.out) (LD0.out.up (kt BU.out UZ.out))).mono ?_
    rintro e t ⟨rfl, bt⟩
    rw [no_7 q QQ.out _ (by omega)]
    have BF := hid (kt (kt BU.out UZ.out) bt)
    clear bt pz c0 c1 c2 c3
    go_wp2_with fail
    go_ret
    exact ⟨rfl, BF.out⟩
  · obtain ⟨x0, z0⟩ := fmv_at HI.out (q := q) (j := 0) QQ.out (by decide)
    have s0 : W.cell? ⟨U.heap.size + 1 + 1, q * 9, none⟩ = some (.int .i64 x0) := z0
    clear z0
    have s1 := (heap_cells HI.out).2 (q * 9)
    go_upto_region 48 with fail
    refine wp_name ?_
    intro Z hZ
    have UZ : Hid (Below U.heap.size U Z) := hid (by rw [hZ]; exact UW.out.setCell (by show U.heap.size ≤ U.heap.size + 1 + 1; omega) _)
    have pz : Z.cell? ⟨w2.heap.size, 0, none⟩ = some (.slice pv pn pc) := by rw [hZ]; exact cell_set_far PW.out (by show w2.heap.size ≠ U.heap.size + 1 + 1; omega)
    have CZ : CellsAt Z (U.heap.size + 1 + 1 + 1 + 1 + 1 + 1) [.int .i64 0, .int .i64 3, .slice (some ⟨U.heap.size + 1 + 1, 0, none⟩) 11 11, .slice (some ⟨U.heap.size + 1 + 1 + 1 + 1 + 1, 0, none⟩) 1 1] := by rw [hZ]; exact (heap_cells HC.out).1.away _ _ _ (by omega)
    have IZ : Hid (CellsAt Z (U.heap.size + 1 + 1) (irsV (.slice (some ⟨U.heap.size + 1, 0, none⟩) 2 2) (fmKind q (11 + (1 + d0))))) := hid (by rw [hZ]; have h := (heap_cells HI.out).1.set (q * 9) (.int .i64 (11 + (1 + d0))); rw [show (irsV (.slice (some ⟨U.heap.size + 1, 0, none⟩) 2 2) fmC).toArray.toList = irsV (.slice (some ⟨U.heap.size + 1, 0, none⟩) 2 2) fmC from rfl, fmv_kind QQ.out] at h; exact h)
    have AZ : Hid (CellsAt Z (U.heap.size + 1) (ints [0, 1])) := hid (by rw [hZ]; exact (heap_cells HA.out).1.away _ _ _ (by omega))
    have MZ : Hid (CellsAt Z (U.heap.size + 1 + 1 + 1 + 1 + 1) [.slice (some ⟨U.heap.size + 1 + 1 + 1 + 1, 0, none⟩) 1 1]) := hid (by rw [hZ]; exact (heap_cells HM.out).1.away _ _ _ (by omega))
    have PZ : Hid (CellsAt Z (U.heap.size + 1 + 1 + 1 + 1) [.int .i64 0, .int .i64 1, .slice (some ⟨U.heap.size, 0, none⟩) 1 1, .slice (some ⟨U.heap.size + 1 + 1 + 1, 0, none⟩) 1 1]) := hid (by rw [hZ]; exact (heap_cells HP'.out).1.away _ _ _ (by omega))
    have LZ : Hid (CellsAt Z (U.heap.size) [.bool false, .int .i64 0]) := hid (by rw [hZ]; exact (heap_cells HL.out).1.away _ _ _ (by omega))
    have SZ : Hid (CellsAt Z (U.heap.size + 1 + 1 + 1) [.bool true, .int .i64 7]) := hid (by rw [hZ]; exact (heap_cells HS.out).1.away _ _ _ (by omega))
    clear c0 c1 c2 c3
    have c0 := CZ 0 _ rfl
    have c1 := CZ 1 _ rfl
    have c2 := CZ 2 _ rfl
    have c3 := CZ 3 _ rfl
    skip
    clear hZ CZ s1 s0
    go_wp2_with fail
    refine (irMay_any _ _ _ _ _ _ _ _ _ twoL (fmKind q (11 + (1 + d0))) fmM (0) (3) _ (HU.out.kept UZ.out) (by have h := FIH.out Z (fmKind q (11 + (1 + d0))) AZ.out IZ.out (Nat.le_of_eq (fmKind_len _ _)) fm_argsKind; rw [fmKind_len] at h; exact h) (FMH.out Z MZ.out PZ.out LZ.out SZ.out) (LD0.out.up (kt BU.out UZ.out))).mono ?_
    rintro e t ⟨rfl, bt⟩
    rw [no_8 q QQ.out _ (by omega)]
    have BF := hid (kt (kt BU.out UZ.out) bt)
    clear bt pz c0 c1 c2 c3
    go_wp2_with fail
    go_ret
    exact ⟨rfl, BF.out⟩
  · have s0 := (heap_cells HI.out).1 13 _ rfl
    have s1 := (heap_cells HI.out).2 13
    have s2 := (heap_cells HI.out).1 (1 * 9 + 4) _ rfl
    have s3 := (heap_cells HI.out).2 (1 * 9 + 4)
    go_upto_region 48 with fail
    refine wp_name ?_
    intro Z hZ
    have UZ : Hid (Below U.heap.size U Z) := hid (by rw [hZ]; exact UW.out.setCell (by show U.heap.size ≤ U.heap.size + 1 + 1; omega) _)
    have pz : Z.cell? ⟨w2.heap.size, 0, none⟩ = some (.slice pv pn pc) := by rw [hZ]; exact cell_set_far PW.out (by show w2.heap.size ≠ U.heap.size + 1 + 1; omega)
    have CZ : CellsAt Z (U.heap.size + 1 + 1 + 1 + 1 + 1 + 1) [.int .i64 0, .int .i64 3, .slice (some ⟨U.heap.size + 1 + 1, 0, none⟩) 11 11, .slice (some ⟨U.heap.size + 1 + 1 + 1 + 1 + 1, 0, none⟩) 1 1] := by rw [hZ]; exact (heap_cells HC.out).1.away _ _ _ (by omega)
    have IZ : Hid (CellsAt Z (U.heap.size + 1 + 1) (irsV (.slice (some ⟨U.heap.size + 1, 0, none⟩) 2 2) (fmC.set 1 (1, 1, 0, 0, 2147483647 + (1 + d0), [], 0, 0, 0)))) := hid (by rw [hZ]; exact (heap_cells HI.out).1.set 13 (.int .i64 (2147483647 + (1 + d0))))
    have AZ : Hid (CellsAt Z (U.heap.size + 1) (ints [0, 1])) := hid (by rw [hZ]; exact (heap_cells HA.out).1.away _ _ _ (by omega))
    have MZ : Hid (CellsAt Z (U.heap.size + 1 + 1 + 1 + 1 + 1) [.slice (some ⟨U.heap.size + 1 + 1 + 1 + 1, 0, none⟩) 1 1]) := hid (by rw [hZ]; exact (heap_cells HM.out).1.away _ _ _ (by omega))
    have PZ : Hid (CellsAt Z (U.heap.size + 1 + 1 + 1 + 1) [.int .i64 0, .int .i64 1, .slice (some ⟨U.heap.size, 0, none⟩) 1 1, .slice (some ⟨U.heap.size + 1 + 1 + 1, 0, none⟩) 1 1]) := hid (by rw [hZ]; exact (heap_cells HP'.out).1.away _ _ _ (by omega))
    have LZ : Hid (CellsAt Z (U.heap.size) [.bool false, .int .i64 0]) := hid (by rw [hZ]; exact (heap_cells HL.out).1.away _ _ _ (by omega))
    have SZ : Hid (CellsAt Z (U.heap.size + 1 + 1 + 1) [.bool true, .int .i64 7]) := hid (by rw [hZ]; exact (heap_cells HS.out).1.away _ _ _ (by omega))
    clear c0 c1 c2 c3
    have c0 := CZ 0 _ rfl
    have c1 := CZ 1 _ rfl
    have c2 := CZ 2 _ rfl
    have c3 := CZ 3 _ rfl
    skip
    clear hZ CZ s1 s0 s2 s3
    go_wp2_with fail
    refine (irMay_any _ _ _ _ _ _ _ _ _ twoL (fmC.set 1 (1, 1, 0, 0, 2147483647 + (1 + d0), [], 0, 0, 0)) fmM (0) (3) _ (HU.out.kept UZ.out) (FIH.out Z (fmC.set 1 (1, 1, 0, 0, 2147483647 + (1 + d0), [], 0, 0, 0)) AZ.out IZ.out (by show (fmC.set _ _).length ≤ 11; rw [List.length_set]; decide) (fm_set _ _ (by first | exact .inl rfl | exact .inr rfl))) (FMH.out Z MZ.out PZ.out LZ.out SZ.out) (LD0.out.up (kt BU.out UZ.out))).mono ?_
    rintro e t ⟨rfl, bt⟩
    rw [no_9 _ (by omega)]
    have BF := hid (kt (kt BU.out UZ.out) bt)
    clear bt pz c0 c1 c2 c3
    go_wp2_with fail
    go_ret
    exact ⟨rfl, BF.out⟩
  · have s0 := (heap_cells HI.out).1 11 _ rfl
    have s1 := (heap_cells HI.out).2 11
    have s2 := (heap_cells HI.out).1 (1 * 9 + 2) _ rfl
    have s3 := (heap_cells HI.out).2 (1 * 9 + 2)
    go_upto_region 48 with fail
    refine wp_name ?_
    intro Z hZ
    have UZ : Hid (Below U.heap.size U Z) := hid (by rw [hZ]; exact UW.out.setCell (by show U.heap.size ≤ U.heap.size + 1 + 1; omega) _)
    have pz : Z.cell? ⟨w2.heap.size, 0, none⟩ = some (.slice pv pn pc) := by rw [hZ]; exact cell_set_far PW.out (by show w2.heap.size ≠ U.heap.size + 1 + 1; omega)
    have CZ : CellsAt Z (U.heap.size + 1 + 1 + 1 + 1 + 1 + 1) [.int .i64 0, .int .i64 3, .slice (some ⟨U.heap.size + 1 + 1, 0, none⟩) 11 11, .slice (some ⟨U.heap.size + 1 + 1 + 1 + 1 + 1, 0, none⟩) 1 1] := by rw [hZ]; exact (heap_cells HC.out).1.away _ _ _ (by omega)
    have IZ : Hid (CellsAt Z (U.heap.size + 1 + 1) (irsV (.slice (some ⟨U.heap.size + 1, 0, none⟩) 2 2) (fmC.set 1 (1, 1, 1 + d0, 0, 4, [], 0, 0, 0)))) := hid (by rw [hZ]; exact (heap_cells HI.out).1.set 11 (.int .i64 (1 + d0)))
    have AZ : Hid (CellsAt Z (U.heap.size + 1) (ints [0, 1])) := hid (by rw [hZ]; exact (heap_cells HA.out).1.away _ _ _ (by omega))
    have MZ : Hid (CellsAt Z (U.heap.size + 1 + 1 + 1 + 1 + 1) [.slice (some ⟨U.heap.size + 1 + 1 + 1 + 1, 0, none⟩) 1 1]) := hid (by rw [hZ]; exact (heap_cells HM.out).1.away _ _ _ (by omega))
    have PZ : Hid (CellsAt Z (U.heap.size + 1 + 1 + 1 + 1) [.int .i64 0, .int .i64 1, .slice (some ⟨U.heap.size, 0, none⟩) 1 1, .slice (some ⟨U.heap.size + 1 + 1 + 1, 0, none⟩) 1 1]) := hid (by rw [hZ]; exact (heap_cells HP'.out).1.away _ _ _ (by omega))
    have LZ : Hid (CellsAt Z (U.heap.size) [.bool false, .int .i64 0]) := hid (by rw [hZ]; exact (heap_cells HL.out).1.away _ _ _ (by omega))
    have SZ : Hid (CellsAt Z (U.heap.size + 1 + 1 + 1) [.bool true, .int .i64 7]) := hid (by rw [hZ]; exact (heap_cells HS.out).1.away _ _ _ (by omega))
    clear c0 c1 c2 c3
    have c0 := CZ 0 _ rfl
    have c1 := CZ 1 _ rfl
    have c2 := CZ 2 _ rfl
    have c3 := CZ 3 _ rfl
    skip
    clear hZ CZ s1 s0 s2 s3
    go_wp2_with fail
    refine (irMay_any _ _ _ _ _ _ _ _ _ twoL (fmC.set 1 (1, 1, 1 + d0, 0, 4, [], 0, 0, 0)) fmM (0) (3) _ (HU.out.kept UZ.out) (FIH.out Z (fmC.set 1 (1, 1, 1 + d0, 0, 4, [], 0, 0, 0)) AZ.out IZ.out (by show (fmC.set _ _).length ≤ 11; rw [List.length_set]; decide) (fm_set _ _ (by first | exact .inl rfl | exact .inr rfl))) (FMH.out Z MZ.out PZ.out LZ.out SZ.out) (LD0.out.up (kt BU.out UZ.out))).mono ?_
    rintro e t ⟨rfl, bt⟩
    rw [no_10 _ (by omega)]
    have BF := hid (kt (kt BU.out UZ.out) bt)
    clear bt pz c0 c1 c2 c3
    go_wp2_with fail
    go_ret
    exact ⟨rfl, BF.out⟩
  · have s0 := (heap_cells HI.out).1 22 _ rfl
    have s1 := (heap_cells HI.out).2 22
    have s2 := (heap_cells HI.out).1 (2 * 9 + 4) _ rfl
    have s3 := (heap_cells HI.out).2 (2 * 9 + 4)
    go_upto_region 48 with fail
    refine wp_name ?_
    intro Z hZ
    have UZ : Hid (Below U.heap.size U Z) := hid (by rw [hZ]; exact UW.out.setCell (by show U.heap.size ≤ U.heap.size + 1 + 1; omega) _)
    have pz : Z.cell? ⟨w2.heap.size, 0, none⟩ = some (.slice pv pn pc) := by rw [hZ]; exact cell_set_far PW.out (by show w2.heap.size ≠ U.heap.size + 1 + 1; omega)
    have CZ : CellsAt Z (U.heap.size + 1 + 1 + 1 + 1 + 1 + 1) [.int .i64 0, .int .i64 3, .slice (some ⟨U.heap.size + 1 + 1, 0, none⟩) 11 11, .slice (some ⟨U.heap.size + 1 + 1 + 1 + 1 + 1, 0, none⟩) 1 1] := by rw [hZ]; exact (heap_cells HC.out).1.away _ _ _ (by omega)
    have IZ : Hid (CellsAt Z (U.heap.size + 1 + 1) (irsV (.slice (some ⟨U.heap.size + 1, 0, none⟩) 2 2) (fmC.set 2 (3, 2, 1, 0, 9 + (1 + d0), [], 0, 0, 0)))) := hid (by rw [hZ]; exact (heap_cells HI.out).1.set 22 (.int .i64 (9 + (1 + d0))))
    have AZ : Hid (CellsAt Z (U.heap.size + 1) (ints [0, 1])) := hid (by rw [hZ]; exact (heap_cells HA.out).1.away _ _ _ (by omega))
    have MZ : Hid (CellsAt Z (U.heap.size + 1 + 1 + 1 + 1 + 1) [.slice (some ⟨U.heap.size + 1 + 1 + 1 + 1, 0, none⟩) 1 1]) := hid (by rw [hZ]; exact (heap_cells HM.out).1.away _ _ _ (by omega))
    have PZ : Hid (CellsAt Z (U.heap.size + 1 + 1 + 1 + 1) [.int .i64 0, .int .i64 1, .slice (some ⟨U.heap.size, 0, none⟩) 1 1, .slice (some ⟨U.heap.size + 1 + 1 + 1, 0, none⟩) 1 1]) := hid (by rw [hZ]; exact (heap_cells HP'.out).1.away _ _ _ (by omega))
    have LZ : Hid (CellsAt Z (U.heap.size) [.bool false, .int .i64 0]) := hid (by rw [hZ]; exact (heap_cells HL.out).1.away _ _ _ (by omega))
    have SZ : Hid (CellsAt Z (U.heap.size + 1 + 1 + 1) [.bool true, .int .i64 7]) := hid (by rw [hZ]; exact (heap_cells HS.out).1.away _ _ _ (by omega))
    clear c0 c1 c2 c3
    have c0 := CZ 0 _ rfl
    have c1 := CZ 1 _ rfl
    have c2 := CZ 2 _ rfl
    have c3 := CZ 3 _ rfl
    skip
    clear hZ CZ s1 s0 s2 s3
    go_wp2_with fail
    refine (irMay_any _ _ _ _ _ _ _ _ _ twoL (fmC.set 2 (3, 2, 1, 0, 9 + (1 + d0), [], 0, 0, 0)) fmM (0) (3) _ (HU.out.kept UZ.out) (FIH.out Z (fmC.set 2 (3, 2, 1, 0, 9 + (1 + d0), [], 0, 0, 0)) AZ.out IZ.out (by show (fmC.set _ _).length ≤ 11; rw [List.length_set]; decide) (fm_set _ _ (by first | exact .inl rfl | exact .inr rfl))) (FMH.out Z MZ.out PZ.out LZ.out SZ.out) (LD0.out.up (kt BU.out UZ.out))).mono ?_
    rintro e t ⟨rfl, bt⟩
    rw [no_11 _ (by omega)]
    have BF := hid (kt (kt BU.out UZ.out) bt)
    clear bt pz c0 c1 c2 c3
    go_wp2_with fail
    go_ret
    exact ⟨rfl, BF.out⟩
  · have s0 := (heap_cells HI.out).1 19 _ rfl
    have s1 := (heap_cells HI.out).2 19
    have s2 := (heap_cells HI.out).1 (2 * 9 + 1) _ rfl
    have s3 := (heap_cells HI.out).2 (2 * 9 + 1)
    go_upto_region 48 with fail
    refine wp_name ?_
    intro Z hZ
    have UZ : Hid (Below U.heap.size U Z) := hid (by rw [hZ]; exact UW.out.setCell (by show U.heap.size ≤ U.heap.size + 1 + 1; omega) _)
    have pz : Z.cell? ⟨w2.heap.size, 0, none⟩ = some (.slice pv pn pc) := by rw [hZ]; exact cell_set_far PW.out (by show w2.heap.size ≠ U.heap.size + 1 + 1; omega)
    have CZ : CellsAt Z (U.heap.size + 1 + 1 + 1 + 1 + 1 + 1) [.int .i64 0, .int .i64 3, .slice (some ⟨U.heap.size + 1 + 1, 0, none⟩) 11 11, .slice (some ⟨U.heap.size + 1 + 1 + 1 + 1 + 1, 0, none⟩) 1 1] := by rw [hZ]; exact (heap_cells HC.out).1.away _ _ _ (by omega)
    have IZ : Hid (CellsAt Z (U.heap.size + 1 + 1) (irsV (.slice (some ⟨U.heap.size + 1, 0, none⟩) 2 2) (fmC.set 2 (3, 2 + (1 + d0), 1, 0, 3, [], 0, 0, 0)))) := hid (by rw [hZ]; exact (heap_cells HI.out).1.set 19 (.int .i64 (2 + (1 + d0))))
    have AZ : Hid (CellsAt Z (U.heap.size + 1) (ints [0, 1])) := hid (by rw [hZ]; exact (heap_cells HA.out).1.away _ _ _ (by omega))
    have MZ : Hid (CellsAt Z (U.heap.size + 1 + 1 + 1 + 1 + 1) [.slice (some ⟨U.heap.size + 1 + 1 + 1 + 1, 0, none⟩) 1 1]) := hid (by rw [hZ]; exact (heap_cells HM.out).1.away _ _ _ (by omega))
    have PZ : Hid (CellsAt Z (U.heap.size + 1 + 1 + 1 + 1) [.int .i64 0, .int .i64 1, .slice (some ⟨U.heap.size, 0, none⟩) 1 1, .slice (some ⟨U.heap.size + 1 + 1 + 1, 0, none⟩) 1 1]) := hid (by rw [hZ]; exact (heap_cells HP'.out).1.away _ _ _ (by omega))
    have LZ : Hid (CellsAt Z (U.heap.size) [.bool false, .int .i64 0]) := hid (by rw [hZ]; exact (heap_cells HL.out).1.away _ _ _ (by omega))
    have SZ : Hid (CellsAt Z (U.heap.size + 1 + 1 + 1) [.bool true, .int .i64 7]) := hid (by rw [hZ]; exact (heap_cells HS.out).1.away _ _ _ (by omega))
    clear c0 c1 c2 c3
    have c0 := CZ 0 _ rfl
    have c1 := CZ 1 _ rfl
    have c2 := CZ 2 _ rfl
    have c3 := CZ 3 _ rfl
    skip
    clear hZ CZ s1 s0 s2 s3
    go_wp2_with fail
    refine (irMay_any _ _ _ _ _ _ _ _ _ twoL (fmC.set 2 (3, 2 + (1 + d0), 1, 0, 3, [], 0, 0, 0)) fmM (0) (3) _ (HU.out.kept UZ.out) (FIH.out Z (fmC.set 2 (3, 2 + (1 + d0), 1, 0, 3, [], 0, 0, 0)) AZ.out IZ.out (by show (fmC.set _ _).length ≤ 11; rw [List.length_set]; decide) (fm_set _ _ (by first | exact .inl rfl | exact .inr rfl))) (FMH.out Z MZ.out PZ.out LZ.out SZ.out) (LD0.out.up (kt BU.out UZ.out))).mono ?_
    rintro e t ⟨rfl, bt⟩
    rw [no_12 _ (by omega)]
    have BF := hid (kt (kt BU.out UZ.out) bt)
    clear bt pz c0 c1 c2 c3
    go_wp2_with fail
    go_ret
    exact ⟨rfl, BF.out⟩
  · have s0 := (heap_cells HI.out).1 30 _ rfl
    have s1 := (heap_cells HI.out).2 30
    have s2 := (heap_cells HI.out).1 (3 * 9 + 3) _ rfl
    have s3 := (heap_cells HI.out).2 (3 * 9 + 3)
    go_upto_region 48 with fail
    refine wp_name ?_
    intro Z hZ
    have UZ : Hid (Below U.heap.size U Z) := hid (by rw [hZ]; exact UW.out.setCell (by show U.heap.size ≤ U.heap.size + 1 + 1; omega) _)
    have pz : Z.cell? ⟨w2.heap.size, 0, none⟩ = some (.slice pv pn pc) := by rw [hZ]; exact cell_set_far PW.out (by show w2.heap.size ≠ U.heap.size + 1 + 1; omega)
    have CZ : CellsAt Z (U.heap.size + 1 + 1 + 1 + 1 + 1 + 1) [.int .i64 0, .int .i64 3, .slice (some ⟨U.heap.size + 1 + 1, 0, none⟩) 11 11, .slice (some ⟨U.heap.size + 1 + 1 + 1 + 1 + 1, 0, none⟩) 1 1] := by rw [hZ]; exact (heap_cells HC.out).1.away _ _ _ (by omega)
    have IZ : Hid (CellsAt Z (U.heap.size + 1 + 1) (irsV (.slice (some ⟨U.heap.size + 1, 0, none⟩) 2 2) (fmC.set 3 (9, 0, 2, 1 + (1 + d0), 5, [], 0, 0, 0)))) := hid (by rw [hZ]; exact (heap_cells HI.out).1.set 30 (.int .i64 (1 + (1 + d0))))
    have AZ : Hid (CellsAt Z (U.heap.size + 1) (ints [0, 1])) := hid (by rw [hZ]; exact (heap_cells HA.out).1.away _ _ _ (by omega))
    have MZ : Hid (CellsAt Z (U.heap.size + 1 + 1 + 1 + 1 + 1) [.slice (some ⟨U.heap.size + 1 + 1 + 1 + 1, 0, none⟩) 1 1]) := hid (by rw [hZ]; exact (heap_cells HM.out).1.away _ _ _ (by omega))
    have PZ : Hid (CellsAt Z (U.heap.size + 1 + 1 + 1 + 1) [.int .i64 0, .int .i64 1, .slice (some ⟨U.heap.size, 0, none⟩) 1 1, .slice (some ⟨U.heap.size + 1 + 1 + 1, 0, none⟩) 1 1]) := hid (by rw [hZ]; exact (heap_cells HP'.out).1.away _ _ _ (by omega))
    have LZ : Hid (CellsAt Z (U.heap.size) [.bool false, .int .i64 0]) := hid (by rw [hZ]; exact (heap_cells HL.out).1.away _ _ _ (by omega))
    have SZ : Hid (CellsAt Z (U.heap.size + 1 + 1 + 1) [.bool true, .int .i64 7]) := hid (by rw [hZ]; exact (heap_cells HS.out).1.away _ _ _ (by omega))
    clear c0 c1 c2 c3
    have c0 := CZ 0 _ rfl
    have c1 := CZ 1 _ rfl
    have c2 := CZ 2 _ rfl
    have c3 := CZ 3 _ rfl
    skip
    clear hZ CZ s1 s0 s2 s3
    go_wp2_with fail
    refine (irMay_any _ _ _ _ _ _ _ _ _ twoL (fmC.set 3 (9, 0, 2, 1 + (1 + d0), 5, [], 0, 0, 0)) fmM (0) (3) _ (HU.out.kept UZ.out) (FIH.out Z (fmC.set 3 (9, 0, 2, 1 + (1 + d0), 5, [], 0, 0, 0)) AZ.out IZ.out (by show (fmC.set _ _).length ≤ 11; rw [List.length_set]; decide) (fm_set _ _ (by first | exact .inl rfl | exact .inr rfl))) (FMH.out Z MZ.out PZ.out LZ.out SZ.out) (LD0.out.up (kt BU.out UZ.out))).mono ?_
    rintro e t ⟨rfl, bt⟩
    rw [no_13 _ (by omega)]
    have BF := hid (kt (kt BU.out UZ.out) bt)
    clear bt pz c0 c1 c2 c3
    go_wp2_with fail
    go_ret
    exact ⟨rfl, BF.out⟩
  · have s0 := (heap_cells HI.out).1 34 _ rfl
    have s1 := (heap_cells HI.out).2 34
    have s2 := (heap_cells HI.out).1 (3 * 9 + 7) _ rfl
    have s3 := (heap_cells HI.out).2 (3 * 9 + 7)
    go_upto_region 48 with fail
    refine wp_name ?_
    intro Z hZ
    have UZ : Hid (Below U.heap.size U Z) := hid (by rw [hZ]; exact UW.out.setCell (by show U.heap.size ≤ U.heap.size + 1 + 1; omega) _)
    have pz : Z.cell? ⟨w2.heap.size, 0, none⟩ = some (.slice pv pn pc) := by rw [hZ]; exact cell_set_far PW.out (by show w2.heap.size ≠ U.heap.size + 1 + 1; omega)
    have CZ : CellsAt Z (U.heap.size + 1 + 1 + 1 + 1 + 1 + 1) [.int .i64 0, .int .i64 3, .slice (some ⟨U.heap.size + 1 + 1, 0, none⟩) 11 11, .slice (some ⟨U.heap.size + 1 + 1 + 1 + 1 + 1, 0, none⟩) 1 1] := by rw [hZ]; exact (heap_cells HC.out).1.away _ _ _ (by omega)
    have IZ : Hid (CellsAt Z (U.heap.size + 1 + 1) (irsV (.slice (some ⟨U.heap.size + 1, 0, none⟩) 2 2) (fmC.set 3 (9, 0, 2, 1, 5, [], 0, 1 + d0, 0)))) := hid (by rw [hZ]; exact (heap_cells HI.out).1.set 34 (.int .i64 (1 + d0)))
    have AZ : Hid (CellsAt Z (U.heap.size + 1) (ints [0, 1])) := hid (by rw [hZ]; exact (heap_cells HA.out).1.away _ _ _ (by omega))
    have MZ : Hid (CellsAt Z (U.heap.size + 1 + 1 + 1 + 1 + 1) [.slice (some ⟨U.heap.size + 1 + 1 + 1 + 1, 0, none⟩) 1 1]) := hid (by rw [hZ]; exact (heap_cells HM.out).1.away _ _ _ (by omega))
    have PZ : Hid (CellsAt Z (U.heap.size + 1 + 1 + 1 + 1) [.int .i64 0, .int .i64 1, .slice (some ⟨U.heap.size, 0, none⟩) 1 1, .slice (some ⟨U.heap.size + 1 + 1 + 1, 0, none⟩) 1 1]) := hid (by rw [hZ]; exact (heap_cells HP'.out).1.away _ _ _ (by omega))
    have LZ : Hid (CellsAt Z (U.heap.size) [.bool false, .int .i64 0]) := hid (by rw [hZ]; exact (heap_cells HL.out).1.away _ _ _ (by omega))
    have SZ : Hid (CellsAt Z (U.heap.size + 1 + 1 + 1) [.bool true, .int .i64 7]) := hid (by rw [hZ]; exact (heap_cells HS.out).1.away _ _ _ (by omega))
    clear c0 c1 c2 c3
    have c0 := CZ 0 _ rfl
    have c1 := CZ 1 _ rfl
    have c2 := CZ 2 _ rfl
    have c3 := CZ 3 _ rfl
    skip
    clear hZ CZ s1 s0 s2 s3
    go_wp2_with fail
    refine (irMay_any _ _ _ _ _ _ _ _ _ twoL (fmC.set 3 (9, 0, 2, 1, 5, [], 0, 1 + d0, 0)) fmM (0) (3) _ (HU.out.kept UZ.out) (FIH.out Z (fmC.set 3 (9, 0, 2, 1, 5, [], 0, 1 + d0, 0)) AZ.out IZ.out (by show (fmC.set _ _).length ≤ 11; rw [List.length_set]; decide) (fm_set _ _ (by first | exact .inl rfl | exact .inr rfl))) (FMH.out Z MZ.out PZ.out LZ.out SZ.out) (LD0.out.up (kt BU.out UZ.out))).mono ?_
    rintro e t ⟨rfl, bt⟩
    rw [no_14 _ (by omega)]
    have BF := hid (kt (kt BU.out UZ.out) bt)
    clear bt pz c0 c1 c2 c3
    go_wp2_with fail
    go_ret
    exact ⟨rfl, BF.out⟩
  · have s0 := (heap_cells HI.out).1 42 _ rfl
    have s1 := (heap_cells HI.out).2 42
    have s2 := (heap_cells HI.out).1 (4 * 9 + 6) _ rfl
    have s3 := (heap_cells HI.out).2 (4 * 9 + 6)
    go_upto_region 48 with fail
    refine wp_name ?_
    intro Z hZ
    have UZ : Hid (Below U.heap.size U Z) := hid (by rw [hZ]; exact UW.out.setCell (by show U.heap.size ≤ U.heap.size + 1 + 1; omega) _)
    have pz : Z.cell? ⟨w2.heap.size, 0, none⟩ = some (.slice pv pn pc) := by rw [hZ]; exact cell_set_far PW.out (by show w2.heap.size ≠ U.heap.size + 1 + 1; omega)
    have CZ : CellsAt Z (U.heap.size + 1 + 1 + 1 + 1 + 1 + 1) [.int .i64 0, .int .i64 3, .slice (some ⟨U.heap.size + 1 + 1, 0, none⟩) 11 11, .slice (some ⟨U.heap.size + 1 + 1 + 1 + 1 + 1, 0, none⟩) 1 1] := by rw [hZ]; exact (heap_cells HC.out).1.away _ _ _ (by omega)
    have IZ : Hid (CellsAt Z (U.heap.size + 1 + 1) (irsV (.slice (some ⟨U.heap.size + 1, 0, none⟩) 2 2) (fmC.set 4 (5, 0, 2, 0, 0, [], 0, 0, 0)))) := hid (by rw [hZ]; exact (heap_cells HI.out).1.set 42 (.int .i64 (0)))
    have AZ : Hid (CellsAt Z (U.heap.size + 1) (ints [0, 1])) := hid (by rw [hZ]; exact (heap_cells HA.out).1.away _ _ _ (by omega))
    have MZ : Hid (CellsAt Z (U.heap.size + 1 + 1 + 1 + 1 + 1) [.slice (some ⟨U.heap.size + 1 + 1 + 1 + 1, 0, none⟩) 1 1]) := hid (by rw [hZ]; exact (heap_cells HM.out).1.away _ _ _ (by omega))
    have PZ : Hid (CellsAt Z (U.heap.size + 1 + 1 + 1 + 1) [.int .i64 0, .int .i64 1, .slice (some ⟨U.heap.size, 0, none⟩) 1 1, .slice (some ⟨U.heap.size + 1 + 1 + 1, 0, none⟩) 1 1]) := hid (by rw [hZ]; exact (heap_cells HP'.out).1.away _ _ _ (by omega))
    have LZ : Hid (CellsAt Z (U.heap.size) [.bool false, .int .i64 0]) := hid (by rw [hZ]; exact (heap_cells HL.out).1.away _ _ _ (by omega))
    have SZ : Hid (CellsAt Z (U.heap.size + 1 + 1 + 1) [.bool true, .int .i64 7]) := hid (by rw [hZ]; exact (heap_cells HS.out).1.away _ _ _ (by omega))
    clear c0 c1 c2 c3
    have c0 := CZ 0 _ rfl
    have c1 := CZ 1 _ rfl
    have c2 := CZ 2 _ rfl
    have c3 := CZ 3 _ rfl
    skip
    clear hZ CZ s1 s0 s2 s3
    go_wp2_with fail
    refine (irMay_any _ _ _ _ _ _ _ _ _ twoL (fmC.set 4 (5, 0, 2, 0, 0, [], 0, 0, 0)) fmM (0) (3) _ (HU.out.kept UZ.out) (FIH.out Z (fmC.set 4 (5, 0, 2, 0, 0, [], 0, 0, 0)) AZ.out IZ.out (by show (fmC.set _ _).length ≤ 11; rw [List.length_set]; decide) (fm_set _ _ (by first | exact .inl rfl | exact .inr rfl))) (FMH.out Z MZ.out PZ.out LZ.out SZ.out) (LD0.out.up (kt BU.out UZ.out))).mono ?_
    rintro e t ⟨rfl, bt⟩
    rw [no_15]
    have BF := hid (kt (kt BU.out UZ.out) bt)
    clear bt pz c0 c1 c2 c3
    go_wp2_with fail
    go_ret
    exact ⟨rfl, BF.out⟩
  · have s0 := (heap_cells HI.out).1 40 _ rfl
    have s1 := (heap_cells HI.out).2 40
    have s2 := (heap_cells HI.out).1 (4 * 9 + 4) _ rfl
    have s3 := (heap_cells HI.out).2 (4 * 9 + 4)
    go_upto_region 48 with fail
    refine wp_name ?_
    intro Z hZ
    have UZ : Hid (Below U.heap.size U Z) := hid (by rw [hZ]; exact UW.out.setCell (by show U.heap.size ≤ U.heap.size + 1 + 1; omega) _)
    have pz : Z.cell? ⟨w2.heap.size, 0, none⟩ = some (.slice pv pn pc) := by rw [hZ]; exact cell_set_far PW.out (by show w2.heap.size ≠ U.heap.size + 1 + 1; omega)
    have CZ : CellsAt Z (U.heap.size + 1 + 1 + 1 + 1 + 1 + 1) [.int .i64 0, .int .i64 3, .slice (some ⟨U.heap.size + 1 + 1, 0, none⟩) 11 11, .slice (some ⟨U.heap.size + 1 + 1 + 1 + 1 + 1, 0, none⟩) 1 1] := by rw [hZ]; exact (heap_cells HC.out).1.away _ _ _ (by omega)
    have IZ : Hid (CellsAt Z (U.heap.size + 1 + 1) (irsV (.slice (some ⟨U.heap.size + 1, 0, none⟩) 2 2) (fmC.set 4 (5, 0, 2, 0, 10 + (1 + d0), [], 1, 0, 0)))) := hid (by rw [hZ]; exact (heap_cells HI.out).1.set 40 (.int .i64 (10 + (1 + d0))))
    have AZ : Hid (CellsAt Z (U.heap.size + 1) (ints [0, 1])) := hid (by rw [hZ]; exact (heap_cells HA.out).1.away _ _ _ (by omega))
    have MZ : Hid (CellsAt Z (U.heap.size + 1 + 1 + 1 + 1 + 1) [.slice (some ⟨U.heap.size + 1 + 1 + 1 + 1, 0, none⟩) 1 1]) := hid (by rw [hZ]; exact (heap_cells HM.out).1.away _ _ _ (by omega))
    have PZ : Hid (CellsAt Z (U.heap.size + 1 + 1 + 1 + 1) [.int .i64 0, .int .i64 1, .slice (some ⟨U.heap.size, 0, none⟩) 1 1, .slice (some ⟨U.heap.size + 1 + 1 + 1, 0, none⟩) 1 1]) := hid (by rw [hZ]; exact (heap_cells HP'.out).1.away _ _ _ (by omega))
    have LZ : Hid (CellsAt Z (U.heap.size) [.bool false, .int .i64 0]) := hid (by rw [hZ]; exact (heap_cells HL.out).1.away _ _ _ (by omega))
    have SZ : Hid (CellsAt Z (U.heap.size + 1 + 1 + 1) [.bool true, .int .i64 7]) := hid (by rw [hZ]; exact (heap_cells HS.out).1.away _ _ _ (by omega))
    clear c0 c1 c2 c3
    have c0 := CZ 0 _ rfl
    have c1 := CZ 1 _ rfl
    have c2 := CZ 2 _ rfl
    have c3 := CZ 3 _ rfl
    skip
    clear hZ CZ s1 s0 s2 s3
    go_wp2_with fail
    refine (irMay_any _ _ _ _ _ _ _ _ _ twoL (fmC.set 4 (5, 0, 2, 0, 10 + (1 + d0), [], 1, 0, 0)) fmM (0) (3) _ (HU.out.kept UZ.out) (FIH.out Z (fmC.set 4 (5, 0, 2, 0, 10 + (1 + d0), [], 1, 0, 0)) AZ.out IZ.out (by show (fmC.set _ _).length ≤ 11; rw [List.length_set]; decide) (fm_set _ _ (by first | exact .inl rfl | exact .inr rfl))) (FMH.out Z MZ.out PZ.out LZ.out SZ.out) (LD0.out.up (kt BU.out UZ.out))).mono ?_
    rintro e t ⟨rfl, bt⟩
    rw [no_16 _ (by omega)]
    have BF := hid (kt (kt BU.out UZ.out) bt)
    clear bt pz c0 c1 c2 c3
    go_wp2_with fail
    go_ret
    exact ⟨rfl, BF.out⟩
  · have s0 := (heap_cells HI.out).1 50 _ rfl
    have s1 := (heap_cells HI.out).2 50
    have s2 := (heap_cells HI.out).1 (5 * 9 + 5) _ rfl
    have s3 := (heap_cells HI.out).2 (5 * 9 + 5)
    have AW0 : Below W.heap.size W (W.alloc (.cells #[.int .i64 0] 3)) := Below.alloc (Below.refl _ _) (Nat.le_refl _) _
    have ltI := heap_ltP HI.out
    have s4 := (heap_cells (heap_kept HI.out AW0)).1 50 _ rfl
    have s5 := (heap_cells (heap_kept HI.out AW0)).2 50
    go_upto_region 48 with fail
    refine wp_name ?_
    intro Z hZ
    obtain ⟨W2, hW2⟩ : ∃ W2 : World, W2 = W.setCell ⟨U.heap.size + 1 + 1, 50, none⟩ (.slice (some ⟨W.heap.size, 0, none⟩) 1 1) := ⟨_, rfl⟩
    rw [← hW2] at hZ
    have AW : Below W2.heap.size W2 (W2.alloc (.cells #[.int .i64 0] 3)) := Below.alloc (Below.refl _ _) (Nat.le_refl _) _
    have hs2 : W2.heap.size = W.heap.size := by rw [hW2]; simp
    have U2 : Below U.heap.size U W2 := by rw [hW2]; exact UW.out.setCell (by show U.heap.size ≤ U.heap.size + 1 + 1; omega) _
    have UZ : Hid (Below U.heap.size U Z) := hid (by rw [hZ]; exact kt U2 AW)
    have pz : Z.cell? ⟨w2.heap.size, 0, none⟩ = some (.slice pv pn pc) := by rw [hZ]; exact kept_cell AW (by rw [hW2]; exact cell_set_far PW.out (by show w2.heap.size ≠ U.heap.size + 1 + 1; omega))
    have CZ : CellsAt Z (U.heap.size + 1 + 1 + 1 + 1 + 1 + 1) [.int .i64 0, .int .i64 3, .slice (some ⟨U.heap.size + 1 + 1, 0, none⟩) 11 11, .slice (some ⟨U.heap.size + 1 + 1 + 1 + 1 + 1, 0, none⟩) 1 1] := by rw [hZ]; exact CellsAt.kept (by rw [hW2]; exact (heap_cells HC.out).1.away _ _ _ (by omega)) AW
    have IZ : Hid (CellsAt Z (U.heap.size + 1 + 1) (irsV (.slice (some ⟨W.heap.size, 0, none⟩) 1 1) (fmC.set 5 (6, 1, 0, 0, 1, [0], 1, 0, 0)))) := hid (by rw [hZ]; exact CellsAt.kept (by rw [hW2]; exact (heap_cells HI.out).1.set 50 (.slice (some ⟨W.heap.size, 0, none⟩) 1 1)) AW)
    have AZ : Hid (CellsAt Z W.heap.size (ints [0])) := hid (by rw [hZ, ← hs2]; exact (heap_cells (heap_alloc_new W2 (.cells #[.int .i64 0] 3))).1)
    have MZ : Hid (CellsAt Z (U.heap.size + 1 + 1 + 1 + 1 + 1) [.slice (some ⟨U.heap.size + 1 + 1 + 1 + 1, 0, none⟩) 1 1]) := hid (by rw [hZ]; exact CellsAt.kept (by rw [hW2]; exact (heap_cells HM.out).1.away _ _ _ (by omega)) AW)
    have PZ : Hid (CellsAt Z (U.heap.size + 1 + 1 + 1 + 1) [.int .i64 0, .int .i64 1, .slice (some ⟨U.heap.size, 0, none⟩) 1 1, .slice (some ⟨U.heap.size + 1 + 1 + 1, 0, none⟩) 1 1]) := hid (by rw [hZ]; exact CellsAt.kept (by rw [hW2]; exact (heap_cells HP'.out).1.away _ _ _ (by omega)) AW)
    have LZ : Hid (CellsAt Z (U.heap.size) [.bool false, .int .i64 0]) := hid (by rw [hZ]; exact CellsAt.kept (by rw [hW2]; exact (heap_cells HL.out).1.away _ _ _ (by omega)) AW)
    have SZ : Hid (CellsAt Z (U.heap.size + 1 + 1 + 1) [.bool true, .int .i64 7]) := hid (by rw [hZ]; exact CellsAt.kept (by rw [hW2]; exact (heap_cells HS.out).1.away _ _ _ (by omega)) AW)
    clear c0 c1 c2 c3 AW AW0 s4 s5
    have c0 := CZ 0 _ rfl
    have c1 := CZ 1 _ rfl
    have c2 := CZ 2 _ rfl
    have c3 := CZ 3 _ rfl
    clear hW2 U2 hs2 ltI
    clear hZ CZ s1 s0 s2 s3
    go_wp2_with fail
    refine (irMay_any _ _ _ _ _ _ _ _ _ twoL (fmC.set 5 (6, 1, 0, 0, 1, [0], 1, 0, 0)) fmM (0) (3) _ (HU.out.kept UZ.out) (IZ.out.irs (fun x m hn => ⟨_, _, _, rfl, by rw [(fm_args17 x m).resolve_left hn]; exact ints_cells AZ.out (by decide)⟩) (by decide) (by decide)) (FMH.out Z MZ.out PZ.out LZ.out SZ.out) (LD0.out.up (kt BU.out UZ.out))).mono ?_
    rintro e t ⟨rfl, bt⟩
    rw [no_17]
    have BF := hid (kt (kt BU.out UZ.out) bt)
    clear bt pz c0 c1 c2 c3
    go_wp2_with fail
    go_ret
    exact ⟨rfl, BF.out⟩
  · have h6 : k = 18 ∨ k = 19 ∨ k = 20 ∨ k = 21 ∨ k = 22 ∨ k = 23 := by omega
    rcases h6 with rfl | rfl | rfl | rfl | rfl | rfl
    · go_wp2_with fail
      refine (wrong10_any pv pn pc U _ 18 (1 + d0) HU.out (LD0.out.up BU.out) UW.out HL.out HA.out HI.out HS.out HP'.out HM.out (by omega) (by omega)).mono ?_
      rintro e t ⟨rfl, bt⟩
      have BF := hid (kt BU.out bt)
      clear bt c0 c1 c2 c3 pW
      go_wp2_with fail
      go_ret
      exact ⟨rfl, BF.out⟩
    · go_wp2_with fail
      refine (wrong10_any pv pn pc U _ 19 (1 + d0) HU.out (LD0.out.up BU.out) UW.out HL.out HA.out HI.out HS.out HP'.out HM.out (by omega) (by omega)).mono ?_
      rintro e t ⟨rfl, bt⟩
      have BF := hid (kt BU.out bt)
      clear bt c0 c1 c2 c3 pW
      go_wp2_with fail
      go_ret
      exact ⟨rfl, BF.out⟩
    · go_wp2_with fail
      refine (wrong10_any pv pn pc U _ 20 (1 + d0) HU.out (LD0.out.up BU.out) UW.out HL.out HA.out HI.out HS.out HP'.out HM.out (by omega) (by omega)).mono ?_
      rintro e t ⟨rfl, bt⟩
      have BF := hid (kt BU.out bt)
      clear bt c0 c1 c2 c3 pW
      go_wp2_with fail
      go_ret
      exact ⟨rfl, BF.out⟩
    · go_wp2_with fail
      refine (wrong10_any pv pn pc U _ 21 (1 + d0) HU.out (LD0.out.up BU.out) UW.out HL.out HA.out HI.out HS.out HP'.out HM.out (by omega) (by omega)).mono ?_
      rintro e t ⟨rfl, bt⟩
      have BF := hid (kt BU.out bt)
      clear bt c0 c1 c2 c3 pW
      go_wp2_with fail
      go_ret
      exact ⟨rfl, BF.out⟩
    · go_wp2_with fail
      refine (wrong10_any pv pn pc U _ 22 (1 + d0) HU.out (LD0.out.up BU.out) UW.out HL.out HA.out HI.out HS.out HP'.out HM.out (by omega) (by omega)).mono ?_
      rintro e t ⟨rfl, bt⟩
      have BF := hid (kt BU.out bt)
      clear bt c0 c1 c2 c3 pW
      go_wp2_with fail
      go_ret
      exact ⟨rfl, BF.out⟩
    · go_wp2_with fail
      refine (wrong10_any pv pn pc U _ 23 (1 + d0) HU.out (LD0.out.up BU.out) UW.out HL.out HA.out HI.out HS.out HP'.out HM.out (by omega) (by omega)).mono ?_
      rintro e t ⟨rfl, bt⟩
      have BF := hid (kt BU.out bt)
      clear bt c0 c1 c2 c3 pW
      go_wp2_with fail
      go_ret
      exact ⟨rfl, BF.out⟩

set_option maxRecDepth 100000 in
theorem lifted (os : Os) (started : os.Started) (H : Type) (enc : TypeId × Value → H) :
    ReturnsInHanded {} Tryz.checked os 4 .any (fun w args => (Rows.irFormsSpec.pre enc Tryz.prog Tryz.f4 [] false w args ∧ laidMetH Tryz.prog [("math/bits.deBruijn32tab", Rows.laid_math_bits_deBruijn32tab), ("math/bits.deBruijn64tab", Rows.laid_math_bits_deBruijn64tab), ("internal/strconv.uint64pow10", Rows.laid_internal_strconv_uint64pow10), ("errors.errorType", Rows.laid_errors_errorType), ("swage/pack.errForm", Rows.laid_swage_pack_errForm), ("swage/pack.errEnd", Rows.laid_swage_pack_errEnd)] w) ∧ sizedMet enc Tryz.prog Tryz.f4 (OpenSpec.ofChange Rows.irFormsSpec) false w args) (Rows.irFormsSpec.post enc Tryz.prog Tryz.f4 false true false false) := by
  refine returnsInHanded_of_change_and (C := Tryz.checked) (X := fun w _ => laidMetH Tryz.prog [("math/bits.deBruijn32tab", Rows.laid_math_bits_deBruijn32tab), ("math/bits.deBruijn64tab", Rows.laid_math_bits_deBruijn64tab), ("internal/strconv.uint64pow10", Rows.laid_internal_strconv_uint64pow10), ("errors.errorType", Rows.laid_errors_errorType), ("swage/pack.errForm", Rows.laid_swage_pack_errForm), ("swage/pack.errEnd", Rows.laid_swage_pack_errEnd)] w) (fun _ _ _ hh h => h.of_heap hh) own started (by kernel_rfl) Tryz.func4
    (ChangeSpec.witness_shaped (enc := enc) (C := Tryz.checked) (os := os) (X := fun w _ => laidMetH Tryz.prog [("math/bits.deBruijn32tab", Rows.laid_math_bits_deBruijn32tab), ("math/bits.deBruijn64tab", Rows.laid_math_bits_deBruijn64tab), ("internal/strconv.uint64pow10", Rows.laid_internal_strconv_uint64pow10), ("errors.errorType", Rows.laid_errors_errorType), ("swage/pack.errForm", Rows.laid_swage_pack_errForm), ("swage/pack.errEnd", Rows.laid_swage_pack_errEnd)] w) false (World.doorLaid Tryz.prog 400 os) #[.int .i64 0, .int .i64 0] 8 rfl (World.shaped_of_RefB (by kernel_rfl) (by kernel_rfl)) (by kernel_rfl) (by kernel_rfl) (by kernel_rfl) (door_met os _)) ?_
  intro W base args ds gs before hval0 hW hcnd hsz0 hL _
  have hval : ∀ (j : Nat) t v, Tryz.f4.params[j]? = some t → args[j]? = some v → Value.okWide Tryz.prog W .any base t v := hval0
  have hW' := hW
  obtain ⟨p, q, hA0, hV, rfl, hfz, hnd⟩ := hW
  have hA : DataW.TrodAll enc Tryz.prog W 0 (fun _ => true) true Tryz.f4.params.toList args.toList ds p := hA0
  have hsz : (DataW.weightsEach Tryz.prog (Tryz.f4.params.toList ++ Rows.irFormsSpec.plain.varTypes Tryz.prog) (ds ++ gs)).all (· ≤ reachBytes) = true := hsz0
  rw [Tryz.params4] at hA hval hsz
  obtain ⟨v0, vs0, d0, ds0, p0, q0, hargs, rfl, rfl, h0, r0⟩ := trodAll_cons hA
  obtain ⟨v1, vs1, d1, ds1, p1, q1, rfl, rfl, rfl, h1, r1⟩ := trodAll_cons r0
  obtain ⟨rfl, rfl, rfl⟩ := trodAll_nil r1
  obtain rfl : args = #[v0, v1] := by cases args; simp_all
  obtain ⟨rfl, rfl⟩ := trodVars_none hV
  have k0 := h0
  have lt0 : ∀ x ∈ p0, x.block < W.heap.size := by obtain ⟨m, hm⟩ := k0; exact DataW.trod_lt m _ _ _ hm
  have k1 := h1
  have lt1 : ∀ x ∈ p1, x.block < W.heap.size := by obtain ⟨m, hm⟩ := k1; exact DataW.trod_lt m _ _ _ hm
  obtain ⟨a0, rfl, rfl, rfl, w0⟩ := open_int Tryz.underlying3 (hval 0 3 v0 rfl rfl) h0
  obtain ⟨a1, rfl, rfl, rfl, w1⟩ := open_int Tryz.underlying3 (hval 1 3 v1 rfl rfl) h1
  clear hA0 hval0
  refine (walk a0 a1 W w0 w1 (ld_of hL)).mono fun e W' ⟨he, bel⟩ => ?_
  subst he
  exact ⟨_, rfl, _, _, _, [], _, [], hW', trodAll_mk1 (shut_bool Tryz.underlying4 _), (trodAll_cons_mk (Below.trod laidOut (by kernel_rfl) (of_decide_eq_true (by kernel_rfl)) k0 bel lt0) (trodAll_cons_mk (Below.trod laidOut (by kernel_rfl) (of_decide_eq_true (by kernel_rfl)) k1 bel lt1) trodAll_mk0)), rfl, bel.frame _, fun h => by cases h⟩

theorem over : Rows.irFormsRow.holds Tryz.pinned (OpenSpec.ofChange Rows.irFormsSpec) :=
  OpenClaim.holds_of_wide 4 Tryz.f4 rfl rfl rfl rfl rfl rfl rfl ⟨rfl, rfl, rfl, rfl, rfl⟩ rfl rfl rfl rfl rfl (by kernel_rfl) Tryz.func4 (by kernel_rfl)
    (of_decide_eq_true (by kernel_rfl)) (by unfold Func.isWrapper; first | (rw [if_pos (by decide +kernel)]; kernel_rfl) | (rw [if_neg (by decide +kernel)]; exact ⟨rfl, rfl⟩))
    (fun os started H enc _ => lifted os started H enc)
end Go.Proofs.YtfnfbebkeoilfaaGreatDoor.irForms
namespace Go.Proofs.YtfnfbebkeoilfaaGreatDoor
open Go
theorem irForms_holds : Rows.IrFormsCardSaid :=
  Claim7.holds_tied_plain_at .later [] [.data, .data, .data, .handle, .sentinel, .sentinel] true (true, "af14792d463d770b1eecd619858a17615b4fc506b811793aef6635ab7fdea3b6") true
    irForms.over (fun _ h => by cases h) (by kernel_rfl) (fun _ h => by cases h) irForms_row_tie rfl ⟨rfl, rfl⟩ (by kernel_rfl) rfl
    (fun f fn hf hfn => by
      obtain rfl : f = 4 := Option.some.inj ((show Tryz.prog.funcNamed "swage/swagelaw10.IrForms" = some 4 by kernel_rfl).symm.trans hf) |>.symm
      obtain rfl : fn = Tryz.f4 := (Option.some.inj (Tryz.func4.symm.trans hfn)).symm
      exact ⟨by kernel_rfl, fun j t ht => by
        rw [Tryz.params4] at ht
        have hm : t ∈ [3, 3] := by simpa using Array.mem_of_getElem? ht
        have hall : ([3, 3].all fun u => !Tryz.prog.wantsStandIn u) = true := by kernel_rfl
        exact (show Tryz.prog.wantsStandIn t = false by simpa using List.all_eq_true.1 hall t hm)⟩)
    (by kernel_rfl)
#print axioms irForms_holds
end Go.Proofs.YtfnfbebkeoilfaaGreatDoor
