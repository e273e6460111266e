/- For any program, any profile, any function, any list of integers, any pc and any truth value the law Profs returns true: prof.New, prof.Called, prof.Branched and prof.May answer as the document's own reckoning does, in memory of their own, and what is handed in stays as it was. (The package's variables hold what the program's text lays.) -/
import Derived.Test.YtppmkoigblimmaaGreatDoorRows
import Derived.WalkKit
import Derived.ProofKit
import Derived.OpenShut
import Derived.ShutString
import Derived.ChangeOld
import Derived.Below
import Derived.Carry
import Derived.Lib.SmallJoins
import Derived.Handy
import Derived.WalkSmall
import Derived.SizedLaws
import Derived.Test.YtppmkoigblimmaaGreatDoorOpen
import Derived.Test.YtppmkoigblimmaaGreatDoorOpenInts
import Derived.Test.YtppmkoigblimmaaGreatDoorOpenProf
import Derived.Test.YtppmkoigblimmaaGreatDoorLaidOpenV
import Derived.Test.YtppmkoigblimmaaGreatDoorCards
import Derived.Test.YtppmkoigblimmaaGreatDoorTie
import Derived.SevenTiedAt
import Derived.LaidMore
import Derived.Stop.Joined
import Derived.Test.YtppmkoigblimmaaGreatDoorAwake9
import Derived.Test.YtppmkoigblimmaaGreatDoorJ9c
import Derived.Test.YtppmkoigblimmaaGreatDoorJ9d
import Derived.Lib.QuietBelow
import Derived.Deep.QuietTactic
import Derived.BigQuiet
namespace Go.Proofs.YtppmkoigblimmaaGreatDoor.profs
open Go.ChangeShapes Go.WideShapes Go.ChangeAt Go.RowKit
open Go.ChangeMaps (open_string shut_string)
set_option linter.unusedVariables false

theorem own : ownKnob Tryz.prog.godebug = none := by kernel_rfl
theorem laidOut : laidOutB Tryz.prog = true := by kernel_rfl

theorem num_below (x : Int) (w : World) : Calls Tryz.prog 15 #[.int .i64 x] w fun e w' => e = .returned (.int .i64 x) ∧ Below w.heap.size w w' :=
  (num_any _ _).mono (fun _ _ h => ⟨h.1, h.2 ▸ Below.refl _ _⟩)
set_option maxRecDepth 100000 in
set_option maxHeartbeats 20000000 in
theorem walk (a0 : Option Addr) (n0 c0 : Nat) (l0 : List Fn) (a1 : Option Addr) (n1 c1 : Nat) (l1 : List Fp) (a2 : Int) (a3 : Option Addr) (n3 c3 : Nat) (l3 : List Int) (a4 : Int) (a5 : Bool) (w : World) (w0 : Fns w a0 n0 c0 l0) (w1 : Sl layFp 80 w a1 n1 c1 l1) (w2 : (Lit.int .i64 a2).wf = true) (w3 : Ints w a3 n3 c3 l3) (w4 : (Lit.int .i64 a4).wf = true) (ld : Ld w) :
    Calls Tryz.prog 3 #[.agg #[.slice a0 n0 c0], .agg #[.slice a1 n1 c1], .int .i64 a2, .slice a3 n3 c3, .int .i64 a4, .bool a5] w fun e w' => e = .returned (.bool true) ∧ Below w.heap.size w w' := by
  have LD0 := hid ld
  clear ld
  have W0 := hid w0
  have W1 := hid w1
  have W3 := hid w3
  clear w0 w1 w3
  have U0 : Hid (∃ U : World, U = (w.alloc (.cells #[.slice a0 n0 c0] 24)).alloc (.cells #[.slice a1 n1 c1] 27)) := hid ⟨_, rfl⟩
  obtain ⟨U, hU⟩ := U0.out
  have BU : Hid (Below w.heap.size w U) := hid (by rw [hU]; go_grown)
  have P0 : Hid (U.cell? ⟨w.heap.size, 0, none⟩ = some (.slice a0 n0 c0)) := hid (by rw [hU]; simp [go_sem])
  have R0 : Hid (U.cell? ⟨w.heap.size + 1, 0, none⟩ = some (.slice a1 n1 c1)) := hid (by rw [hU]; simp [go_sem])
  have EU := hid hU
  clear hU U0
  go_enter Tryz.func3, Tryz.ntmps3
  go_wp2_with fail
  refine calls_inU (U := U) (by rw [EU.out]) ?_
  refine (copyProf_any _ _ _ l1 _ (W1.out.kept BU.out)).mono ?_
  rintro e u1 ⟨xv, rfl, ox, b1⟩
  obtain ⟨xa, xn, xc, rfl, rx⟩ := ox.reads
  have B1 := hid b1
  have RX := hid rx
  clear b1 rx ox EU
  go_upto_region 2 with fail
  refine wp_name ?_
  intro X hX
  have AX : Hid (Below u1.heap.size u1 X) := hid (by rw [hX]; exact Below.alloc (Below.refl _ _) (Nat.le_refl _) _)
  have BX : Hid (Below w.heap.size w X) := hid (kt BU.out (kt B1.out AX.out))
  have PX : Hid (X.cell? ⟨w.heap.size, 0, none⟩ = some (.slice a0 n0 c0)) := hid (kept_cell (kt B1.out AX.out) P0.out)
  have QX : Hid (X.cell? ⟨w.heap.size + 1, 0, none⟩ = some (.slice a1 n1 c1)) := hid (kept_cell (kt B1.out AX.out) R0.out)
  have CX : Hid (X.cell? ⟨u1.heap.size, 0, none⟩ = some (.slice xa xn xc)) := hid (by rw [hX]; simp [go_sem])
  have XR := hid (RX.out.kept AX.out)
  have W0X := hid (W0.out.kept BX.out)
  have W1X := hid (W1.out.kept BX.out)
  have W3X := hid (W3.out.kept BX.out)
  have LDX := hid (LD0.out.up BX.out)
  have D0 : Hid (Below X.heap.size X X) := hid (Below.refl _ _)
  clear hX RX P0 R0 W0 W1 W3 LD0 B1 AX BU
  have p := PX.out
  go_wp2_with fail
  refine (prNew_any _ _ _ l0 _ (W0X.out.kept D0.out) (LDX.out.up D0.out)).mono ?_
  rintro e vA ⟨zA, rfl, oA, bA⟩
  obtain ⟨aA, nA, cA, rfl, rA⟩ := oA.reads
  have OA := hid oA
  have RA := hid rA
  have BA := hid bA
  clear oA rA bA
  go_upto_region 3 with fail
  refine wp_name ?_
  intro Y1 hY1
  have KA : Hid (Below vA.heap.size vA Y1) := hid (by rw [hY1]; exact Below.alloc (Below.refl _ _) (Nat.le_refl _) _)
  have CA : Hid (Y1.cell? ⟨vA.heap.size, 0, none⟩ = some (.slice aA nA cA)) := hid (by rw [hY1]; simp [go_sem])
  have S1 : Hid (Below X.heap.size X Y1) := hid (kt BA.out KA.out)
  have D1 : Hid (Below X.heap.size X Y1) := hid (kt D0.out S1.out)
  have HSA : Hid (X.heap.size ≤ X.heap.size) := hid D0.out.size
  clear hY1
  clear p
  have p := kept_cell D1.out PX.out
  have q := kept_cell D1.out QX.out
  go_wp2_with fail
  refine (refNew_any _ _ _ l0 _ (W0X.out.kept D1.out)).mono ?_
  rintro e vB ⟨zB, rfl, oB, bB⟩
  obtain ⟨aB, nB, cB, rfl, rB⟩ := oB.reads
  have OB := hid oB
  have RB := hid rB
  have BB := hid bB
  clear oB rB bB
  go_upto_region 4 with fail
  refine wp_name ?_
  intro Y2 hY2
  have KB : Hid (Below vB.heap.size vB Y2) := hid (by rw [hY2]; exact Below.alloc (Below.refl _ _) (Nat.le_refl _) _)
  have CB : Hid (Y2.cell? ⟨vB.heap.size, 0, none⟩ = some (.slice aB nB cB)) := hid (by rw [hY2]; simp [go_sem])
  have S2 : Hid (Below Y1.heap.size Y1 Y2) := hid (kt BB.out KB.out)
  have D2 : Hid (Below X.heap.size X Y2) := hid (kt D1.out S2.out)
  have HSB : Hid (X.heap.size ≤ Y1.heap.size) := hid D1.out.size
  clear hY2
  clear p q
  have p := kept_cell D2.out PX.out
  have q := kept_cell D2.out CX.out
  go_wp2_with fail
  refine (prCalled_any _ _ _ l0 _ _ _ l1 a2 _ _ _ l3 _ (W0X.out.kept D2.out) (XR.out.kept D2.out) (W3X.out.kept D2.out) (LDX.out.up D2.out)).mono ?_
  rintro e vC ⟨zC, rfl, oC, bC⟩
  obtain ⟨aC, nC, cC, rfl, rC⟩ := oC.reads
  have OC := hid oC
  have RC := hid rC
  have BC := hid bC
  clear oC rC bC
  go_upto_region 5 with fail
  refine wp_name ?_
  intro Y3 hY3
  have KC : Hid (Below vC.heap.size vC Y3) := hid (by rw [hY3]; exact Below.alloc (Below.refl _ _) (Nat.le_refl _) _)
  have CC : Hid (Y3.cell? ⟨vC.heap.size, 0, none⟩ = some (.slice aC nC cC)) := hid (by rw [hY3]; simp [go_sem])
  have S3 : Hid (Below Y2.heap.size Y2 Y3) := hid (kt BC.out KC.out)
  have D3 : Hid (Below X.heap.size X Y3) := hid (kt D2.out S3.out)
  have HSC : Hid (X.heap.size ≤ Y2.heap.size) := hid D2.out.size
  clear hY3
  clear p q
  have p := kept_cell D3.out PX.out
  have q := kept_cell D3.out QX.out
  go_wp2_with fail
  refine (refCalled_any _ _ _ l0 _ _ _ l1 a2 _ _ _ l3 _ (W0X.out.kept D3.out) (W1X.out.kept D3.out) (W3X.out.kept D3.out)).mono ?_
  rintro e vF ⟨zF, rfl, oF, bF⟩
  obtain ⟨aF, nF, cF, rfl, rF⟩ := oF.reads
  have OF := hid oF
  have RF := hid rF
  have BF := hid bF
  clear oF rF bF
  go_upto_region 6 with fail
  refine wp_name ?_
  intro Y4 hY4
  have KF : Hid (Below vF.heap.size vF Y4) := hid (by rw [hY4]; exact Below.alloc (Below.refl _ _) (Nat.le_refl _) _)
  have CF : Hid (Y4.cell? ⟨vF.heap.size, 0, none⟩ = some (.slice aF nF cF)) := hid (by rw [hY4]; simp [go_sem])
  have S4 : Hid (Below Y3.heap.size Y3 Y4) := hid (kt BF.out KF.out)
  have D4 : Hid (Below X.heap.size X Y4) := hid (kt D3.out S4.out)
  have HSF : Hid (X.heap.size ≤ Y3.heap.size) := hid D3.out.size
  clear hY4
  clear p q
  have p := kept_cell D4.out PX.out
  have q := kept_cell D4.out CX.out
  go_wp2_with fail
  refine (prBranched_any _ _ _ l0 _ _ _ l1 a2 a4 a5 _ (W0X.out.kept D4.out) (XR.out.kept D4.out) (LDX.out.up D4.out)).mono ?_
  rintro e vG ⟨zG, rfl, oG, bG⟩
  obtain ⟨aG, nG, cG, rfl, rG⟩ := oG.reads
  have OG := hid oG
  have RG := hid rG
  have BG := hid bG
  clear oG rG bG
  go_upto_region 7 with fail
  refine wp_name ?_
  intro Y5 hY5
  have KG : Hid (Below vG.heap.size vG Y5) := hid (by rw [hY5]; exact Below.alloc (Below.refl _ _) (Nat.le_refl _) _)
  have CG : Hid (Y5.cell? ⟨vG.heap.size, 0, none⟩ = some (.slice aG nG cG)) := hid (by rw [hY5]; simp [go_sem])
  have S5 : Hid (Below Y4.heap.size Y4 Y5) := hid (kt BG.out KG.out)
  have D5 : Hid (Below X.heap.size X Y5) := hid (kt D4.out S5.out)
  have HSG : Hid (X.heap.size ≤ Y4.heap.size) := hid D4.out.size
  clear hY5
  clear p q
  have p := kept_cell D5.out PX.out
  have q := kept_cell D5.out QX.out
  go_wp2_with fail
  refine (refBranched_any _ _ _ l0 _ _ _ l1 a2 a4 a5 _ (W0X.out.kept D5.out) (W1X.out.kept D5.out)).mono ?_
  rintro e vH ⟨zH, rfl, oH, bH⟩
  obtain ⟨aH, nH, cH, rfl, rH⟩ := oH.reads
  have OH := hid oH
  have RH := hid rH
  have BH := hid bH
  clear oH rH bH
  go_upto_region 8 with fail
  refine wp_name ?_
  intro Y6 hY6
  have KH : Hid (Below vH.heap.size vH Y6) := hid (by rw [hY6]; exact Below.alloc (Below.refl _ _) (Nat.le_refl _) _)
  have CH : Hid (Y6.cell? ⟨vH.heap.size, 0, none⟩ = some (.slice aH nH cH)) := hid (by rw [hY6]; simp [go_sem])
  have S6 : Hid (Below Y5.heap.size Y5 Y6) := hid (kt BH.out KH.out)
  have D6 : Hid (Below X.heap.size X Y6) := hid (kt D5.out S6.out)
  have HSH : Hid (X.heap.size ≤ Y5.heap.size) := hid D5.out.size
  clear hY6
  clear p q
  have g0 := cell_regrown (kept_cell D6.out PX.out)
  have g1 := cell_regrown (kept_cell D6.out QX.out)
  have g2 := cell_regrown (kept_cell D6.out CX.out)
  have hA := cell_regrown (kept_cell (kt (kt (kt (kt S2.out S3.out) S4.out) S5.out) S6.out) CA.out)
  have R6A := hid (RA.out.kept (kt KA.out (kt (kt (kt (kt S2.out S3.out) S4.out) S5.out) S6.out)))
  have O6A := hid (OA.out.kept (kt KA.out (kt (kt (kt (kt S2.out S3.out) S4.out) S5.out) S6.out)))
  have hB := cell_regrown (kept_cell (kt (kt (kt S3.out S4.out) S5.out) S6.out) CB.out)
  have R6B := hid (RB.out.kept (kt KB.out (kt (kt (kt S3.out S4.out) S5.out) S6.out)))
  have O6B := hid (OB.out.kept (kt KB.out (kt (kt (kt S3.out S4.out) S5.out) S6.out)))
  have hC := cell_regrown (kept_cell (kt (kt S4.out S5.out) S6.out) CC.out)
  have R6C := hid (RC.out.kept (kt KC.out (kt (kt S4.out S5.out) S6.out)))
  have O6C := hid (OC.out.kept (kt KC.out (kt (kt S4.out S5.out) S6.out)))
  have hF := cell_regrown (kept_cell (kt S5.out S6.out) CF.out)
  have R6F := hid (RF.out.kept (kt KF.out (kt S5.out S6.out)))
  have O6F := hid (OF.out.kept (kt KF.out (kt S5.out S6.out)))
  have hG := cell_regrown (kept_cell S6.out CG.out)
  have R6G := hid (RG.out.kept (kt KG.out S6.out))
  have O6G := hid (OG.out.kept (kt KG.out S6.out))
  have hH := cell_regrown CH.out
  have R6H := hid (RH.out.kept KH.out)
  have XR6 := hid (XR.out.kept D6.out)
  have W06 := hid (W0X.out.kept D6.out)
  have W16 := hid (W1X.out.kept D6.out)
  have LD6 := hid (LDX.out.up D6.out)
  generalize newP l0 = LA at *
  generalize newE l0 = EA at *
  generalize calledP l0 l1 a2 l3 = LC at *
  generalize calledE l0 l1 a2 l3 = EC at *
  generalize branchP l0 l1 a2 a4 a5 = LG at *
  generalize branchE l0 l1 a2 a4 = EG at *
  go_wp2_with fail
  refine wp_region_quiet_below (by kernel_rfl) (by kernel_rfl) ?_
  repeat (go_big_quiet_step (first | (go_at_call 15; exact Calls.regrown_of (num_below _ _)) | (go_at_call 14; first | with_reducible exact Calls.regrown_of (sameProf_same _ _ _ _ _ _ LA _ (R6A.out.kept (below_regrown _ _ _)) (R6B.out.kept (below_regrown _ _ _))) | with_reducible exact Calls.regrown_of (sameProf_same _ _ _ _ _ _ LC _ (R6C.out.kept (below_regrown _ _ _)) (R6F.out.kept (below_regrown _ _ _))) | with_reducible exact Calls.regrown_of (sameProf_same _ _ _ _ _ _ LG _ (R6G.out.kept (below_regrown _ _ _)) (R6H.out.kept (below_regrown _ _ _)))) | (go_at_call 16; exact Calls.regrown_of (prMay_any _ _ _ l0 _ _ _ l1 _ (W06.out.kept (below_regrown _ _ _)) (XR6.out.kept (below_regrown _ _ _)) (LD6.out.up (below_regrown _ _ _)))) | (go_at_call 17; exact Calls.regrown_of (refProfMay_any _ _ _ l0 _ _ _ l1 _ (W06.out.kept (below_regrown _ _ _)) (W16.out.kept (below_regrown _ _ _))))))
  refine wpQuiet_nil ?_
  intro _ hw'
  obtain ⟨⟨dq, osq⟩, hw''⟩ := hw'
  subst hw''
  have bq := below_regrown Y6 dq osq
  have D7 := hid (kt D6.out bq)
  have SA := hid ((O6A.out.kept bq).soft (base := X.heap.size) (fun b hb _ => Nat.le_trans HSA.out hb))
  have SC := hid ((O6C.out.kept bq).soft (base := X.heap.size) (fun b hb _ => Nat.le_trans HSC.out hb))
  have SG := hid ((O6G.out.kept bq).soft (base := X.heap.size) (fun b hb _ => Nat.le_trans HSG.out hb))
  clear g0 g1 g2 hA hB hC hF hG hH
  have hz7 := D7.out.size
  have pA := kept_cell bq (kept_cell (kt (kt (kt (kt S2.out S3.out) S4.out) S5.out) S6.out) CA.out)
  have CC6 := hid (kept_cell bq (kept_cell (kt (kt S4.out S5.out) S6.out) CC.out))
  have CG6 := hid (kept_cell bq (kept_cell S6.out CG.out))
  clear bq
  go_wp2_with fail
  refine (spoilProf_any _ _ _ X.heap.size _ SA.out R6A.out.room R6A.out.cap hz7).mono ?_
  rintro e w8 ⟨rfl, l8, b8⟩
  have D8 := hid (D7.out.trans b8)
  have L8 := hid l8
  have pC := l8.slice CC6.out
  have hz8 := D8.out.size
  clear pA l8 b8
  go_wp2_with fail
  refine (spoilProf_any _ _ _ X.heap.size _ (SC.out.like L8.out) R6C.out.room R6C.out.cap hz8).mono ?_
  rintro e w9 ⟨rfl, l9, b9⟩
  have D9 := hid (D8.out.trans b9)
  have L9 := hid (L8.out.trans l9)
  have pG := (L8.out.trans l9).slice CG6.out
  have hz9 := D9.out.size
  clear pC l9 b9
  go_wp2_with fail
  refine (spoilProf_any _ _ _ X.heap.size _ (SG.out.like L9.out) R6G.out.room R6G.out.cap hz9).mono ?_
  rintro e w10 ⟨rfl, l10, b10⟩
  have D10 := hid (D9.out.trans b10)
  have pX := kept_cell D10.out CX.out
  have pQ := kept_cell D10.out QX.out
  clear pG l10 b10
  go_wp2_with fail
  refine (sameProf_same _ _ _ _ _ _ l1 _ (XR.out.kept D10.out) (W1X.out.kept D10.out)).mono ?_
  rintro e w11 ⟨rfl, b11⟩
  have D11 := hid (kt D10.out b11)
  clear b11 pX pQ
  go_wp2_with fail
  refine (awake9_any _ (LDX.out.up D11.out)).mono ?_
  rintro e w12 ⟨rfl, b12⟩
  have D12 := hid (kt (kt BX.out D11.out) b12)
  clear b12
  go_wp2_with fail
  go_ret
  exact ⟨rfl, D12.out⟩

set_option maxRecDepth 100000 in
theorem lifted (os : Os) (started : os.Started) (H : Type) (enc : TypeId × Value → H) :
    ReturnsInHanded {} Tryz.checked os 3 .any (fun w args => (Rows.profsSpec.pre enc Tryz.prog Tryz.f3 [] false w args ∧ laidMetH Tryz.prog [("math/bits.deBruijn32tab", Rows.laid_math_bits_deBruijn32tab), ("math/bits.deBruijn64tab", Rows.laid_math_bits_deBruijn64tab), ("internal/strconv.uint64pow10", Rows.laid_internal_strconv_uint64pow10), ("errors.errorType", Rows.laid_errors_errorType), ("swage/pack.errForm", Rows.laid_swage_pack_errForm), ("swage/pack.errEnd", Rows.laid_swage_pack_errEnd)] w) ∧ sizedMet enc Tryz.prog Tryz.f3 (OpenSpec.ofChange Rows.profsSpec) false w args) (Rows.profsSpec.post enc Tryz.prog Tryz.f3 false true false false) := by
  refine returnsInHanded_of_change_and (C := Tryz.checked) (X := fun w _ => laidMetH Tryz.prog [("math/bits.deBruijn32tab", Rows.laid_math_bits_deBruijn32tab), ("math/bits.deBruijn64tab", Rows.laid_math_bits_deBruijn64tab), ("internal/strconv.uint64pow10", Rows.laid_internal_strconv_uint64pow10), ("errors.errorType", Rows.laid_errors_errorType), ("swage/pack.errForm", Rows.laid_swage_pack_errForm), ("swage/pack.errEnd", Rows.laid_swage_pack_errEnd)] w) (fun _ _ _ hh h => h.of_heap hh) own started (by kernel_rfl) Tryz.func3
    (ChangeSpec.witness_shaped (enc := enc) (C := Tryz.checked) (os := os) (X := fun w _ => laidMetH Tryz.prog [("math/bits.deBruijn32tab", Rows.laid_math_bits_deBruijn32tab), ("math/bits.deBruijn64tab", Rows.laid_math_bits_deBruijn64tab), ("internal/strconv.uint64pow10", Rows.laid_internal_strconv_uint64pow10), ("errors.errorType", Rows.laid_errors_errorType), ("swage/pack.errForm", Rows.laid_swage_pack_errForm), ("swage/pack.errEnd", Rows.laid_swage_pack_errEnd)] w) false (World.doorLaid Tryz.prog 400 os) #[.agg #[.slice none 0 0], .agg #[.slice none 0 0], .int .i64 0, .slice none 0 0, .int .i64 0, .bool false] 8 rfl (World.shaped_of_RefB (by kernel_rfl) (by kernel_rfl)) (by kernel_rfl) (by kernel_rfl) (by kernel_rfl) (door_met os _)) ?_
  intro W base args ds gs before hval0 hW hcnd hsz0 hL _
  have hval : ∀ (j : Nat) t v, Tryz.f3.params[j]? = some t → args[j]? = some v → Value.okWide Tryz.prog W .any base t v := hval0
  have hW' := hW
  obtain ⟨p, q, hA0, hV, rfl, hfz, hnd⟩ := hW
  have hA : DataW.TrodAll enc Tryz.prog W 0 (fun _ => true) true Tryz.f3.params.toList args.toList ds p := hA0
  have hsz : (DataW.weightsEach Tryz.prog (Tryz.f3.params.toList ++ Rows.profsSpec.plain.varTypes Tryz.prog) (ds ++ gs)).all (· ≤ reachBytes) = true := hsz0
  rw [Tryz.params3] at hA hval hsz
  obtain ⟨v0, vs0, d0, ds0, p0, q0, hargs, rfl, rfl, h0, r0⟩ := trodAll_cons hA
  obtain ⟨v1, vs1, d1, ds1, p1, q1, rfl, rfl, rfl, h1, r1⟩ := trodAll_cons r0
  obtain ⟨v2, vs2, d2, ds2, p2, q2, rfl, rfl, rfl, h2, r2⟩ := trodAll_cons r1
  obtain ⟨v3, vs3, d3, ds3, p3, q3, rfl, rfl, rfl, h3, r3⟩ := trodAll_cons r2
  obtain ⟨v4, vs4, d4, ds4, p4, q4, rfl, rfl, rfl, h4, r4⟩ := trodAll_cons r3
  obtain ⟨v5, vs5, d5, ds5, p5, q5, rfl, rfl, rfl, h5, r5⟩ := trodAll_cons r4
  obtain ⟨rfl, rfl, rfl⟩ := trodAll_nil r5
  obtain rfl : args = #[v0, v1, v2, v3, v4, v5] := by cases args; simp_all
  obtain ⟨rfl, rfl⟩ := trodVars_none hV
  have k0 := h0
  have lt0 : ∀ x ∈ p0, x.block < W.heap.size := by obtain ⟨m, hm⟩ := k0; exact DataW.trod_lt m _ _ _ hm
  have k1 := h1
  have lt1 : ∀ x ∈ p1, x.block < W.heap.size := by obtain ⟨m, hm⟩ := k1; exact DataW.trod_lt m _ _ _ hm
  have k2 := h2
  have lt2 : ∀ x ∈ p2, x.block < W.heap.size := by obtain ⟨m, hm⟩ := k2; exact DataW.trod_lt m _ _ _ hm
  have k3 := h3
  have lt3 : ∀ x ∈ p3, x.block < W.heap.size := by obtain ⟨m, hm⟩ := k3; exact DataW.trod_lt m _ _ _ hm
  have k4 := h4
  have lt4 : ∀ x ∈ p4, x.block < W.heap.size := by obtain ⟨m, hm⟩ := k4; exact DataW.trod_lt m _ _ _ hm
  have k5 := h5
  have lt5 : ∀ x ∈ p5, x.block < W.heap.size := by obtain ⟨m, hm⟩ := k5; exact DataW.trod_lt m _ _ _ hm
  obtain ⟨a0, n0, c0, l0, rfl, w0⟩ := open_program (hval 0 24 v0 rfl rfl) h0 (fun k hk => by simpa using List.all_eq_true.1 hsz k (DataW.weights_mem_each (j := 0) rfl rfl k hk))
  obtain ⟨a1, n1, c1, l1, rfl, w1⟩ := open_prof (hval 1 27 v1 rfl rfl) h1 (fun k hk => by simpa using List.all_eq_true.1 hsz k (DataW.weights_mem_each (j := 1) rfl rfl k hk))
  obtain ⟨a2, rfl, rfl, rfl, w2⟩ := open_int Tryz.underlying3 (hval 2 3 v2 rfl rfl) h2
  obtain ⟨a3, n3, c3, l3, rfl, w3⟩ := open_intsP (hval 3 28 v3 rfl rfl) h3 (fun k hk => by simpa using List.all_eq_true.1 hsz k (DataW.weights_mem_each (j := 3) rfl rfl k hk))
  obtain ⟨a4, rfl, rfl, rfl, w4⟩ := open_int Tryz.underlying3 (hval 4 3 v4 rfl rfl) h4
  obtain ⟨a5, rfl, rfl, rfl⟩ := open_bool Tryz.underlying4 (hval 5 4 v5 rfl rfl) h5
  clear hA0 hval0
  refine (walk a0 n0 c0 l0 a1 n1 c1 l1 a2 a3 n3 c3 l3 a4 a5 W w0 w1 w2 w3 w4 (ld_of hL)).mono fun e W' ⟨he, bel⟩ => ?_
  subst he
  exact ⟨_, rfl, _, _, _, [], _, [], hW', trodAll_mk1 (shut_bool Tryz.underlying4 _), (trodAll_cons_mk (Below.trod laidOut (by kernel_rfl) (of_decide_eq_true (by kernel_rfl)) k0 bel lt0) (trodAll_cons_mk (Below.trod laidOut (by kernel_rfl) (of_decide_eq_true (by kernel_rfl)) k1 bel lt1) (trodAll_cons_mk (Below.trod laidOut (by kernel_rfl) (of_decide_eq_true (by kernel_rfl)) k2 bel lt2) (trodAll_cons_mk (Below.trod laidOut (by kernel_rfl) (of_decide_eq_true (by kernel_rfl)) k3 bel lt3) (trodAll_cons_mk (Below.trod laidOut (by kernel_rfl) (of_decide_eq_true (by kernel_rfl)) k4 bel lt4) (trodAll_cons_mk (Below.trod laidOut (by kernel_rfl) (of_decide_eq_true (by kernel_rfl)) k5 bel lt5) trodAll_mk0)))))), rfl, bel.frame _, fun h => by cases h⟩

theorem over : Rows.profsRow.holds Tryz.pinned (OpenSpec.ofChange Rows.profsSpec) :=
  OpenClaim.holds_of_wide 3 Tryz.f3 rfl rfl rfl rfl rfl rfl rfl ⟨rfl, rfl, rfl, rfl, rfl⟩ rfl rfl rfl rfl rfl (by kernel_rfl) Tryz.func3 (by kernel_rfl)
    (of_decide_eq_true (by kernel_rfl)) (by unfold Func.isWrapper; first | (rw [if_pos (by decide +kernel)]; kernel_rfl) | (rw [if_neg (by decide +kernel)]; exact ⟨rfl, rfl⟩))
    (fun os started H enc _ => lifted os started H enc)
end Go.Proofs.YtppmkoigblimmaaGreatDoor.profs
namespace Go.Proofs.YtppmkoigblimmaaGreatDoor
open Go
theorem profs_holds : Rows.ProfsCardSaid :=
  Claim7.holds_tied_plain_at .later [] [.data, .data, .data, .handle, .sentinel, .sentinel] true (true, "812bda82e1a40458e8dfd141f08c207631568d80ebc24ad44e2f48ba26e3f76f") true
    profs.over (fun _ h => by cases h) (by kernel_rfl) (fun _ h => by cases h) profs_row_tie rfl ⟨rfl, rfl⟩ (by kernel_rfl) rfl
    (fun f fn hf hfn => by
      obtain rfl : f = 3 := Option.some.inj ((show Tryz.prog.funcNamed "swage/swagelaw9.Profs" = some 3 by kernel_rfl).symm.trans hf) |>.symm
      obtain rfl : fn = Tryz.f3 := (Option.some.inj (Tryz.func3.symm.trans hfn)).symm
      exact ⟨by kernel_rfl, fun j t ht => by
        rw [Tryz.params3] at ht
        have hm : t ∈ [24, 27, 3, 28, 3, 4] := by simpa using Array.mem_of_getElem? ht
        have hall : ([24, 27, 3, 28, 3, 4].all fun u => !Tryz.prog.wantsStandIn u) = true := by kernel_rfl
        exact (show Tryz.prog.wantsStandIn t = false by simpa using List.all_eq_true.1 hall t hm)⟩)
    (by kernel_rfl)
#print axioms profs_holds
end Go.Proofs.YtppmkoigblimmaaGreatDoor
