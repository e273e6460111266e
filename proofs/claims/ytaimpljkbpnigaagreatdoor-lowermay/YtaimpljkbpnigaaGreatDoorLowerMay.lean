/- For any program the law LowerMay returns true: of each function of what is verified lower.Lower makes code that may be, which costs as much as what it stands for, with a poll ahead of whatever goes back, and as many metas as polls. (The package's variables hold what the program's text lays.) -/
import Derived.Test.YtaimpljkbpnigaaGreatDoorRows
import Derived.WalkKit
import Derived.ProofKit
import Derived.OpenShut
import Derived.ShutString
import Derived.ChangeOld
import Derived.Below
import Derived.Carry
import Derived.Lib.SmallJoins
import Derived.Handy
import Derived.WalkSmall
import Derived.SizedLaws
import Derived.Test.YtaimpljkbpnigaaGreatDoorOpen
import Derived.Test.YtaimpljkbpnigaaGreatDoorLaidOpenV
import Derived.Test.YtaimpljkbpnigaaGreatDoorCards
import Derived.Test.YtaimpljkbpnigaaGreatDoorTie
import Derived.SevenTiedAt
import Derived.LaidMore
import Derived.Stop.Joined
import Derived.Test.YtaimpljkbpnigaaGreatDoorJ11f
import Derived.Test.YtaimpljkbpnigaaGreatDoorJ10d
import Derived.Test.YtaimpljkbpnigaaGreatDoorJ11c
import Derived.Test.YtaimpljkbpnigaaGreatDoorJ11d
import Derived.Test.YtaimpljkbpnigaaGreatDoorJ10a
import Derived.Test.YtaimpljkbpnigaaGreatDoorJ10f
namespace Go.Proofs.YtaimpljkbpnigaaGreatDoor.lowerMay
open Go.ChangeShapes Go.WideShapes Go.ChangeAt Go.RowKit
open Go.ChangeMaps (open_string shut_string)
set_option linter.unusedVariables false

theorem own : ownKnob Tryz.prog.godebug = none := by kernel_rfl
theorem laidOut : laidOutB Tryz.prog = true := by kernel_rfl

theorem calls_inI {P : Program} {f : FuncId} {args : Array Value} {w w' : World} {Q : Ending → World → Prop} (e : w = w') (h : Calls P f args w' Q) : Calls P f args w Q := e ▸ h
/-- How many polls stand ahead of place j. -/
def pollsN (L : List IrT) (j : Nat) : Nat := (L.take j).countP (fun x => decide (x.1 = 10))
theorem pollsN_succ {L : List IrT} {j : Nat} {x : IrT} (h : L[j]? = some x) : pollsN L (j + 1) = pollsN L j + (if x.1 = 10 then 1 else 0) := by
  unfold pollsN
  rw [List.take_add_one, h, List.countP_append]
  congr 1
  by_cases hx : x.1 = 10 <;> simp [hx]
theorem pollsN_le (L : List IrT) (j : Nat) : pollsN L j ≤ j := by
  unfold pollsN
  exact Nat.le_trans List.countP_le_length (by rw [List.length_take]; omega)
theorem pollsN_all {L : List IrT} {pl : List Int} : pollsN (L.map (toPlace pl)) (L.map (toPlace pl)).length = L.countP (fun x => decide (x.1 = 10)) := by
  unfold pollsN
  rw [List.take_length, List.countP_map]
  congr 1
  funext x
  show decide ((toPlace pl x).1 = 10) = decide (x.1 = 10)
  rw [(place_kind pl x).1]
set_option maxRecDepth 100000 in
set_option maxHeartbeats 20000000 in
theorem walk (a0 : Option Addr) (n0 c0 : Nat) (l0 : List Fn) (w : World) (w0 : Fns w a0 n0 c0 l0) (ld : Ld w) :
    Calls Tryz.prog 4 #[.agg #[.slice a0 n0 c0]] w fun e w' => e = .returned (.bool true) ∧ Below w.heap.size w w' := by
  have LD0 := hid ld
  clear ld
  have W0 := hid w0
  have LN := hid w0.len
  have hpr := w0.room
  have hpc := w0.cap
  clear w0
  have U0 : Hid (∃ U : World, U = w.alloc (.cells #[.slice a0 n0 c0] 24)) := hid ⟨_, rfl⟩
  obtain ⟨U, hU⟩ := U0.out
  have BU : Hid (Below w.heap.size w U) := hid (by rw [hU]; go_grown)
  have P0 : Hid (U.cell? ⟨w.heap.size, 0, none⟩ = some (.slice a0 n0 c0)) := hid (by rw [hU]; simp [go_sem])
  have EU := hid hU
  have WU := hid (W0.out.kept BU.out)
  have LDU := hid (LD0.out.up BU.out)
  clear hU U0 W0 LD0
  go_enter Tryz.func4, Tryz.ntmps4
  go_wp2_with fail
  refine calls_inI (w' := U) (by rw [EU.out]) ?_
  refine (awake11_any _ LDU.out).mono ?_
  rintro e u1 ⟨rfl, b1⟩
  have B1 := hid b1
  have p0 := kept_cell b1 P0.out
  clear b1 EU
  go_wp2_with fail
  clear p0
  go_loopw [3] (fun i wr => ∃ q : Nat, q ≤ n0 ∧ i = .int .i64 q ∧ Below U.heap.size U wr) (fun i _ => n0 - (intOf i).toNat)
  case atStart => exact ⟨0, Nat.zero_le _, rfl, B1.out⟩
  case round =>
    clear B1
    obtain ⟨q, hq, rfl, hb⟩ := hrel
    obtain ⟨V, hV⟩ : ∃ X : World, X = wr := ⟨_, rfl⟩
    subst hV
    have HB := hid hb
    have p0 := kept_cell hb P0.out
    clear hb
    by_cases hlt : q < n0
    · obtain ⟨⟨cf, rg, cl, ml⟩, hV⟩ : ∃ x, lowerV l0 (q : Int) = x := ⟨_, rfl⟩
      obtain ⟨E, hE⟩ : ∃ x, lowerE l0 (q : Int) = x := ⟨_, rfl⟩
      have LA := lwrLower_any a0 n0 c0 l0 (q : Int) V (WU.out.kept HB.out) (LDU.out.up HB.out)
      rw [hV, hE] at LA
      have LA' := hid LA
      have HV := hid hV
      have HE := hid hE
      clear LA hV hE
      go_wp2_with fail
      refine LA'.out.mono ?_
      rintro e v1 ⟨av, am, N1, N2, rfl, oa, oam, -, -, -, b⟩
      obtain ⟨ca, cn, cc, rfl, ra⟩ := oa.reads
      obtain ⟨ma, mn, mc, rfl, rm⟩ := oam.reads
      have RA := hid ra
      have RM := hid rm
      have V1 := hid b
      clear oa oam ra rm b p0
      go_upto_region 7 with fail
      refine wp_name ?_
      intro Y hY
      have AY : Hid (Below v1.heap.size v1 Y) := hid (by rw [hY]; exact Below.alloc (Below.refl _ _) (Nat.le_refl _) _)
      have CA : Hid (Y.cell? ⟨v1.heap.size, 0, none⟩ = some (.int .i64 cf) ∧ Y.cell? ⟨v1.heap.size, 1, none⟩ = some (.int .i64 rg) ∧ Y.cell? ⟨v1.heap.size, 2, none⟩ = some (.slice ca cn cc) ∧ Y.cell? ⟨v1.heap.size, 3, none⟩ = some (.slice ma mn mc)) := hid (by rw [hY]; exact ⟨by simp [go_sem], by simp [go_sem], by simp [go_sem], by simp [go_sem]⟩)
      have BY : Hid (Below U.heap.size U Y) := hid (kt HB.out (kt V1.out AY.out))
      have RY := hid (RA.out.kept AY.out)
      have RMY := hid (RM.out.kept AY.out)
      clear hY RA RM
      by_cases hv : verV l0 = 0
      rotate_left
      · have e1 : lowOk l0 (q : Int) = false := by unfold lowOk; rw [decide_eq_false hv]; rfl
        have e2 : E = 1100 := by rw [← HE.out]; exact if_neg (by rw [e1]; simp)
        have e3 : (cf, rg, cl, ml) = noCd := by rw [← HV.out]; exact if_neg (by rw [e1]; simp)
        cases e3
        subst e2
        have hcn : cn = 0 := RY.out.len
        subst hcn
        have y2 := CA.out.2.2.1
        go_wp2_with (first | (go_at_call 11; refine (num_any _ _).mono ?_; rintro e w' ⟨rfl, hw⟩; rw [hw]; clear hw))
        go_ret
        exact ⟨rfl, kt BU.out BY.out⟩
      have hqf : q < l0.length := by rw [← LN.out]; exact hlt
      obtain ⟨⟨gx, gy, fl⟩, e3⟩ : ∃ x, l0.getD q noFn = x := ⟨_, rfl⟩
      have hle := lower_eq hv hqf e3
      have e2 : E = 0 := by rw [← HE.out]; exact hle.2
      have e4 := HV.out.symm.trans hle.1
      have HM := hid (low_may hv hqf e3)
      rw [HV.out] at HM
      cases e4
      subst e2
      have HVV := hid hv
      have E3 := hid e3
      have y0 := CA.out.1
      have y1 := CA.out.2.1
      have y2 := CA.out.2.2.1
      have y3 := CA.out.2.2.2
      have p0 := kept_cell BY.out P0.out
      have q0 : (0 : Int) ≤ (q : Int) := by omega
      clear e3 hle hv
      go_wp2_with (first | (go_at_call 11; refine (num_any _ _).mono ?_; rintro e w' ⟨rfl, hw⟩; rw [hw]; clear hw))
      refine (irMay_any _ _ _ _ _ _ _ _ _ l0 _ _ _ _ _ (WU.out.kept BY.out) RY.out RMY.out (LDU.out.up BY.out)).mono ?_
      rintro e Z ⟨rfl, bz⟩
      rw [HM.out]
      have YZ := hid bz
      have BZ : Hid (Below U.heap.size U Z) := hid (kt BY.out bz)
      replace y0 := kept_cell bz y0
      replace y2 := kept_cell bz y2
      replace y3 := kept_cell bz y3
      clear bz y1 p0
      obtain ⟨L0, hL0⟩ : ∃ L, (lowN l0 q (gx, gy, fl) fl.length).1 = L := ⟨_, rfl⟩
      obtain ⟨pl, hpl⟩ : ∃ L, (lowN l0 q (gx, gy, fl) fl.length).2.2 = L := ⟨_, rfl⟩
      obtain ⟨ML, hML⟩ : ∃ L, (lowN l0 q (gx, gy, fl) fl.length).2.1 = L := ⟨_, rfl⟩
      have LW : Hid (∀ (j : Nat) (x : IrT), L0[j]? = some x → (x.1 = 10 ∧ x.2.2.2.2.2.2.1 = 0) ∨ (¬ x.1 = 10 ∧ x.2.2.2.2.2.2.1 = 1 ∧ ((x.1 = 4 ∨ x.1 = 5) → (toPlace pl x).2.2.2.2.1 ≤ (j : Int) → 1 ≤ j ∧ ∃ y, L0[j - 1]? = some y ∧ y.1 = 10))) := hid (by
        intro j x hx
        have h := low_walk (ps := l0) (f := q) (gx := gx) (gy := gy) (fl := fl) HVV.out E3.out (j := j) (x := x) (by rw [hL0]; exact hx)
        rw [hL0, hpl] at h
        exact h)
      have LC : Hid (L0.countP (fun x => decide (x.1 = 10)) = ML.length) := hid (by
        have h := low_count (ps := l0) (f := q) (gx := gx) (gy := gy) (fl := fl) fl.length (Nat.le_refl _)
        rw [hL0, hML] at h
        exact h)
      have LB : Hid (L0.length ≤ 128) := hid (by
        have h := low_len l0 q (gx, gy, fl) fl.length
        have h2 := ver_fn HVV.out hqf E3.out
        rw [hL0] at h
        omega)
      rw [hL0, hpl] at RY
      rw [hML] at RMY
      have RZ := hid (RY.out.kept YZ.out)
      have hcn : cn ≤ 128 := by have h := RZ.out.len; rw [List.length_map] at h; have := LB.out; omega
      have HML : Hid (mn = ML.length) := hid RMY.out.len
      have hcc := RZ.out.cap
      have hcr := RZ.out.room
      have CZ := hid (And.intro y2 y3)
      clear hL0 hpl hML HM RY RMY E3 HVV HV HE LA'
      go_wp2_with fail
      clear y0 y2 y3 q0
      go_loopw [6, 7] (fun n i wr => ∃ j : Nat, j ≤ cn ∧ i = .int .i64 j ∧ n = .int .i64 (pollsN (L0.map (toPlace pl)) j : Int) ∧ Below Z.heap.size Z wr) (fun _ i _ => cn - (intOf i).toNat)
      case atStart => exact ⟨0, Nat.zero_le _, rfl, rfl, Below.refl _ _⟩
      case round =>
        obtain ⟨j, hj, rfl, rfl, hb⟩ := hrel
        obtain ⟨N, hN⟩ : ∃ X : World, X = wr := ⟨_, rfl⟩
        subst hN
        have HN := hid hb
        have y2 := kept_cell hb CZ.out.1
        have y3 := kept_cell hb CZ.out.2
        clear hb
        by_cases hltj : j < cn
        · obtain ⟨b, o, kd, r, ra, rb, k, xa, xn, xc, args, cost, mt, ip, rfl, hx, e0, e1, e2, e3, e4, e5, e6, e7, e8, -⟩ := ir_at (RZ.out.kept HN.out) j hltj
          have HX := hid hx
          have hps := pollsN_succ hx
          have hpb := pollsN_le (L0.map (toPlace pl)) j
          obtain ⟨x, hx0, hxp⟩ : ∃ x, L0[j]? = some x ∧ toPlace pl x = (kd, r, ra, rb, k, args, cost, mt, ip) := by
            rw [List.getElem?_map] at hx
            cases h : L0[j]? with
            | none => rw [h] at hx; cases hx
            | some x => rw [h] at hx; exact ⟨x, rfl, Option.some.inj hx⟩
          have hkd : x.1 = kd := by rw [← (place_kind pl x).1, hxp]
          have hco : x.2.2.2.2.2.2.1 = cost := by rw [← (place_kind pl x).2, hxp]
          have hw := LW.out j x hx0
          rw [hkd, hco, hxp] at hw
          obtain ⟨n, hn⟩ : ∃ n : Nat, pollsN (L0.map (toPlace pl)) j = n := ⟨_, rfl⟩
          rw [hn] at hps hpb
          rw [hn]
          have HPS := hid hps
          have RZ2 := hid (RZ.out)
          clear hx hx0 hxp hkd hco hn hps
          go_upto_region 16 with fail
          refine wp_name ?_
          intro N2 hN2
          have b2 : Below N.heap.size N N2 := by rw [hN2]; exact Below.alloc (Below.refl _ _) (Nat.le_refl _) _
          have x0 : N2.cell? ⟨N.heap.size, 0, none⟩ = some (.int .i64 kd) := by rw [hN2]; simp [go_sem]
          have x4 : N2.cell? ⟨N.heap.size, 4, none⟩ = some (.int .i64 k) := by rw [hN2]; simp [go_sem]
          have x6 : N2.cell? ⟨N.heap.size, 6, none⟩ = some (.int .i64 cost) := by rw [hN2]; simp [go_sem]
          have HN2 : Hid (Below Z.heap.size Z N2) := hid (kt HN.out b2)
          replace y2 := kept_cell b2 y2
          clear hN2 b2 e0 e1 e2 e3 e4 e5 e6 e7 e8 y3
          rcases hw with ⟨rfl, rfl⟩ | ⟨h10, rfl, hbk⟩
          · go_wp2_with fail
            go_roundw
            case rel => exact ⟨j + 1, hltj, by go_num, by rw [HPS.out]; simp, HN2.out⟩
            case measure => simp [intOf]; omega
          · have g10 : (kd == 10) = false := by simpa using h10
            have EP : Hid (pollsN (L0.map (toPlace pl)) (j + 1) = n) := hid (by rw [HPS.out, if_neg h10]; rfl)
            by_cases h4 : kd = 4
            · subst h4
              have HBK := hid (hbk (by decide))
              clear hbk
              by_cases hle : k ≤ (j : Int)
              · have d1 : decide (k ≤ (j : Int)) = true := by simpa using hle
                obtain ⟨hj1, y, hy, hy10⟩ := HBK.out hle
                obtain ⟨j', rfl⟩ : ∃ j' : Nat, j = j' + 1 := ⟨j - 1, by omega⟩
                obtain ⟨b', o', kd', r', ra', rb', k', xa', xn', xc', args', cost', mt', ip', eb, hx', f0, -, -, -, -, -, -, -, -, -⟩ := ir_at (RZ2.out.kept HN2.out) j' (by omega)
                cases eb
                have hk10 : kd' = 10 := by
                  rw [List.getElem?_map, show L0[j']? = some y from hy] at hx'
                  have h := Option.some.inj hx'
                  have h2 := (place_kind pl y).1
                  rw [h, hy10] at h2
                  exact h2
                subst hk10
                clear hx' hy HBK HPS
                go_wp2_with fail
                go_roundw
                case rel => exact ⟨j' + 1 + 1, hltj, by go_num, by rw [EP.out], HN2.out⟩
                case measure => simp [intOf]; omega
              · have d1 : decide (k ≤ (j : Int)) = false := by simpa using hle
                clear HBK HPS
                go_wp2_with fail
                go_roundw
                case rel => exact ⟨j + 1, hltj, by go_num, by rw [EP.out], HN2.out⟩
                case measure => simp [intOf]; omega
            · have g4 : (kd == 4) = false := by simpa using h4
              by_cases h5 : kd = 5
              · subst h5
                have HBK := hid (hbk (by decide))
                clear hbk
                by_cases hle : k ≤ (j : Int)
                · have d1 : decide (k ≤ (j : Int)) = true := by simpa using hle
                  obtain ⟨hj1, y, hy, hy10⟩ := HBK.out hle
                  obtain ⟨j', rfl⟩ : ∃ j' : Nat, j = j' + 1 := ⟨j - 1, by omega⟩
                  obtain ⟨b', o', kd', r', ra', rb', k', xa', xn', xc', args', cost', mt', ip', eb, hx', f0, -, -, -, -, -, -, -, -, -⟩ := ir_at (RZ2.out.kept HN2.out) j' (by omega)
                  cases eb
                  have hk10 : kd' = 10 := by
                    rw [List.getElem?_map, show L0[j']? = some y from hy] at hx'
                    have h := Option.some.inj hx'
                    have h2 := (place_kind pl y).1
                    rw [h, hy10] at h2
                    exact h2
                  subst hk10
                  clear hx' hy HBK HPS
                  go_wp2_with fail
                  go_roundw
                  case rel => exact ⟨j' + 1 + 1, hltj, by go_num, by rw [EP.out], HN2.out⟩
                  case measure => simp [intOf]; omega
                · have d1 : decide (k ≤ (j : Int)) = false := by simpa using hle
                  clear HBK HPS
                  go_wp2_with fail
                  go_roundw
                  case rel => exact ⟨j + 1, hltj, by go_num, by rw [EP.out], HN2.out⟩
                  case measure => simp [intOf]; omega
              · have g5 : (kd == 5) = false := by simpa using h5
                clear hbk HPS
                go_wp2_with fail
                go_roundw
                case rel => exact ⟨j + 1, hltj, by go_num, by rw [EP.out], HN2.out⟩
                case measure => simp [intOf]; omega
        · have hjc : j = cn := by omega
          subst hjc
          have hend : pollsN (L0.map (toPlace pl)) j = mn := by
            have h := RZ.out.len
            rw [h, pollsN_all, LC.out, HML.out]
          rw [hend]
          go_wp2_with fail
          go_roundw
          case rel => exact ⟨q + 1, hlt, by go_num, kt BZ.out HN.out⟩
          case measure => simp [intOf]; omega
    · go_wp2_with fail
      go_ret
      exact ⟨rfl, kt BU.out HB.out⟩

set_option maxRecDepth 100000 in
theorem lifted (os : Os) (started : os.Started) (H : Type) (enc : TypeId × Value → H) :
    ReturnsInHanded {} Tryz.checked os 4 .any (fun w args => (Rows.lowerMaySpec.pre enc Tryz.prog Tryz.f4 [] false w args ∧ laidMetH Tryz.prog [("math/bits.deBruijn32tab", Rows.laid_math_bits_deBruijn32tab), ("math/bits.deBruijn64tab", Rows.laid_math_bits_deBruijn64tab), ("internal/strconv.uint64pow10", Rows.laid_internal_strconv_uint64pow10), ("errors.errorType", Rows.laid_errors_errorType), ("swage/pack.errForm", Rows.laid_swage_pack_errForm), ("swage/pack.errEnd", Rows.laid_swage_pack_errEnd)] w) ∧ sizedMet enc Tryz.prog Tryz.f4 (OpenSpec.ofChange Rows.lowerMaySpec) false w args) (Rows.lowerMaySpec.post enc Tryz.prog Tryz.f4 false true false false) := by
  refine returnsInHanded_of_change_and (C := Tryz.checked) (X := fun w _ => laidMetH Tryz.prog [("math/bits.deBruijn32tab", Rows.laid_math_bits_deBruijn32tab), ("math/bits.deBruijn64tab", Rows.laid_math_bits_deBruijn64tab), ("internal/strconv.uint64pow10", Rows.laid_internal_strconv_uint64pow10), ("errors.errorType", Rows.laid_errors_errorType), ("swage/pack.errForm", Rows.laid_swage_pack_errForm), ("swage/pack.errEnd", Rows.laid_swage_pack_errEnd)] w) (fun _ _ _ hh h => h.of_heap hh) own started (by kernel_rfl) Tryz.func4
    (ChangeSpec.witness_shaped (enc := enc) (C := Tryz.checked) (os := os) (X := fun w _ => laidMetH Tryz.prog [("math/bits.deBruijn32tab", Rows.laid_math_bits_deBruijn32tab), ("math/bits.deBruijn64tab", Rows.laid_math_bits_deBruijn64tab), ("internal/strconv.uint64pow10", Rows.laid_internal_strconv_uint64pow10), ("errors.errorType", Rows.laid_errors_errorType), ("swage/pack.errForm", Rows.laid_swage_pack_errForm), ("swage/pack.errEnd", Rows.laid_swage_pack_errEnd)] w) false (World.doorLaid Tryz.prog 400 os) #[.agg #[.slice none 0 0]] 8 rfl (World.shaped_of_RefB (by kernel_rfl) (by kernel_rfl)) (by kernel_rfl) (by kernel_rfl) (by kernel_rfl) (door_met os _)) ?_
  intro W base args ds gs before hval0 hW hcnd hsz0 hL _
  have hval : ∀ (j : Nat) t v, Tryz.f4.params[j]? = some t → args[j]? = some v → Value.okWide Tryz.prog W .any base t v := hval0
  have hW' := hW
  obtain ⟨p, q, hA0, hV, rfl, hfz, hnd⟩ := hW
  have hA : DataW.TrodAll enc Tryz.prog W 0 (fun _ => true) true Tryz.f4.params.toList args.toList ds p := hA0
  have hsz : (DataW.weightsEach Tryz.prog (Tryz.f4.params.toList ++ Rows.lowerMaySpec.plain.varTypes Tryz.prog) (ds ++ gs)).all (· ≤ reachBytes) = true := hsz0
  rw [Tryz.params4] at hA hval hsz
  obtain ⟨v0, vs0, d0, ds0, p0, q0, hargs, rfl, rfl, h0, r0⟩ := trodAll_cons hA
  obtain ⟨rfl, rfl, rfl⟩ := trodAll_nil r0
  obtain rfl : args = #[v0] := by cases args; simp_all
  obtain ⟨rfl, rfl⟩ := trodVars_none hV
  have k0 := h0
  have lt0 : ∀ x ∈ p0, x.block < W.heap.size := by obtain ⟨m, hm⟩ := k0; exact DataW.trod_lt m _ _ _ hm
  obtain ⟨a0, n0, c0, l0, rfl, w0⟩ := open_program (hval 0 24 v0 rfl rfl) h0 (fun k hk => by simpa using List.all_eq_true.1 hsz k (DataW.weights_mem_each (j := 0) rfl rfl k hk))
  clear hA0 hval0
  refine (walk a0 n0 c0 l0 W w0 (ld_of hL)).mono fun e W' ⟨he, bel⟩ => ?_
  subst he
  exact ⟨_, rfl, _, _, _, [], _, [], hW', trodAll_mk1 (shut_bool Tryz.underlying4 _), (trodAll_cons_mk (Below.trod laidOut (by kernel_rfl) (of_decide_eq_true (by kernel_rfl)) k0 bel lt0) trodAll_mk0), rfl, bel.frame _, fun h => by cases h⟩

theorem over : Rows.lowerMayRow.holds Tryz.pinned (OpenSpec.ofChange Rows.lowerMaySpec) :=
  OpenClaim.holds_of_wide 4 Tryz.f4 rfl rfl rfl rfl rfl rfl rfl ⟨rfl, rfl, rfl, rfl, rfl⟩ rfl rfl rfl rfl rfl (by kernel_rfl) Tryz.func4 (by kernel_rfl)
    (of_decide_eq_true (by kernel_rfl)) (by unfold Func.isWrapper; first | (rw [if_pos (by decide +kernel)]; kernel_rfl) | (rw [if_neg (by decide +kernel)]; exact ⟨rfl, rfl⟩))
    (fun os started H enc _ => lifted os started H enc)
end Go.Proofs.YtaimpljkbpnigaaGreatDoor.lowerMay
namespace Go.Proofs.YtaimpljkbpnigaaGreatDoor
open Go
theorem lowerMay_holds : Rows.LowerMayCardSaid :=
  Claim7.holds_tied_plain_at .later [] [.data, .data, .data, .handle, .sentinel, .sentinel] true (true, "51ad92c745e9affde3203d71f52c7c02a7ce038a9bed1ac76f940f19edd66073") true
    lowerMay.over (fun _ h => by cases h) (by kernel_rfl) (fun _ h => by cases h) lowerMay_row_tie rfl ⟨rfl, rfl⟩ (by kernel_rfl) rfl
    (fun f fn hf hfn => by
      obtain rfl : f = 4 := Option.some.inj ((show Tryz.prog.funcNamed "swage/swagelaw11.LowerMay" = some 4 by kernel_rfl).symm.trans hf) |>.symm
      obtain rfl : fn = Tryz.f4 := (Option.some.inj (Tryz.func4.symm.trans hfn)).symm
      exact ⟨by kernel_rfl, fun j t ht => by
        rw [Tryz.params4] at ht
        have hm : t ∈ [24] := by simpa using Array.mem_of_getElem? ht
        have hall : ([24].all fun u => !Tryz.prog.wantsStandIn u) = true := by kernel_rfl
        exact (show Tryz.prog.wantsStandIn t = false by simpa using List.all_eq_true.1 hall t hm)⟩)
    (by kernel_rfl)
#print axioms lowerMay_holds
end Go.Proofs.YtaimpljkbpnigaaGreatDoor
