/- For any program the law PackSizes returns true: its bytes are as many as its functions and instructions need; no conditions. -/
import Derived.Test.YtlknaanheieneaaDoorRows
import Derived.WalkKit
import Derived.ProofKit
import Derived.OpenShut
import Derived.ShutString
import Derived.ChangeOld
import Derived.Below
import Derived.Carry
import Derived.Lib.SmallJoins
import Derived.Handy
import Derived.WalkSmall
import Derived.SizedLaws
import Derived.Test.YtlknaanheieneaaDoorOpen
import Derived.Test.YtlknaanheieneaaDoorLaidOpen
import Derived.Test.YtlknaanheieneaaDoorCards
import Derived.Test.YtlknaanheieneaaDoorTie
import Derived.SevenTiedAt
import Derived.LaidMore
import Derived.Stop.Joined
import Derived.Test.YtlknaanheieneaaDoorAwake3
namespace Go.Proofs.YtlknaanheieneaaDoor.packSizes
open Go.ChangeShapes Go.WideShapes Go.ChangeAt Go.RowKit
open Go.ChangeMaps (open_string shut_string)
set_option linter.unusedVariables false

theorem own : ownKnob Tryd.prog.godebug = none := by kernel_rfl
theorem laidOut : laidOutB Tryd.prog = true := by kernel_rfl

theorem size_step {l : List (Int × Int)} {k : Nat} {p : Int × Int} (e : l.getD k (0, 0) = p) (hk : k < l.length) : (codeBytes (l.take (k + 1))).length = (codeBytes (l.take k)).length + (insBytes p).length := by
  rw [take_snoc_getD hk e, codeBytes_snoc, List.length_append]
theorem size_fn {l : List Fn} {q : Nat} {x y : Int} {c : List (Int × Int)} (e : l.getD q noFn = (x, y, c)) (hq : q < l.length) : (fnsBytes (l.take (q + 1))).length = (fnsBytes (l.take q)).length + 3 + (codeBytes c).length := by
  rw [take_snoc_getD hq e, fnsBytes_snoc, List.length_append]
  simp [fnBytes]
  omega
set_option maxRecDepth 100000 in
set_option maxHeartbeats 20000000 in
theorem walk (a0 : Option Addr) (n0 c0 : Nat) (l0 : List Fn) (w : World) (w0 : Fns w a0 n0 c0 l0) (ld : Ld w) :
    Calls Tryd.prog 7 #[.agg #[.slice a0 n0 c0]] w fun e w' => e = .returned (.bool true) ∧ Below w.heap.size w w' := by
  have LD0 := hid ld
  clear ld
  go_enter Tryd.func7, Tryd.ntmps7
  go_wp2_with fail
  refine (awake3_any _ (LD0.out.up (by go_grown))).mono ?_
  rintro e u1 ⟨rfl, b1⟩
  have p1 := kept_cell b1 (b := w.heap.size) (o := 0) (v := .slice a0 n0 c0) (by simp [go_sem])
  have W1 := hid ((w0.kept (by go_grown)).kept b1)
  have B1 : Hid (Below w.heap.size w u1) := hid (kt (by go_grown) b1)
  clear b1
  go_wp2_with fail
  refine (putL _ _ _ l0 _ W1.out (LD0.out.up B1.out)).mono ?_
  rintro e u2 ⟨rfl, b2⟩
  have p2 := kept_cell b2 p1
  have W2 := hid (W1.out.kept b2)
  have B2 : Hid (Below w.heap.size w u2) := hid (kt B1.out b2)
  clear b2 p1
  cases hpk : packsB l0
  · rw [putE_no hpk, putS_no hpk]
    go_wp2_with (first | (go_at_call 13; refine (num_any _ _).mono ?_; rintro e w' ⟨rfl, hw⟩; rw [hw]; clear hw))
    go_ret
    exact ⟨rfl, B2.out⟩
  · have hip := putS_ok hpk
    have hln := packs_len hpk
    have L := hid w0.len
    have hn8 : n0 ≤ 8 := by have := L.out; omega
    have hcap := w0.cap
    have hsize : (putS l0).size = 4 + (fnsBytes l0).length := by rw [← hip.2, str_len]; simp [putBytes]; omega
    have HS := hid hsize
    have hb := fnsBytes_len hpk
    rw [putE_ok hpk]
    generalize putS l0 = sa at HS
    clear hip hsize hln
    go_wp2_with (first | (go_at_call 13; refine (num_any _ _).mono ?_; rintro e w' ⟨rfl, hw⟩; rw [hw]; clear hw))
    go_loop [5, 6] (fun z i => ∃ q : Nat, q ≤ n0 ∧ i = .int .i64 q ∧ z = .int .i64 ((4 + (fnsBytes (l0.take q)).length : Nat) : Int)) (fun _ i => n0 - (intOf i).toNat)
    case atStart => exact ⟨0, Nat.zero_le _, rfl, by simp [fnsBytes]⟩
    case round =>
      obtain ⟨q, hq, rfl, rfl⟩ := hrel
      have hbq := hb q
      by_cases hlt : q < n0
      · obtain ⟨b1, o1, x1, y1, a1, n1, m1, l1, rfl, e1, k1, k2, k3, i1⟩ := W2.out.at q hlt
        have hf : fnB (x1, y1, l1) = true := fnB_of hpk (by have := L.out; omega) e1
        have hbd := fnB_bd hf
        have L1 := hid i1.len
        have hn64 : n1 ≤ 64 := by have := L1.out; omega
        have hc1 := i1.cap
        have E1 := hid e1
        have HB := hid hb
        clear e1 hf hbd hb
        generalize hz : (fnsBytes (l0.take q)).length = zq at hbq
        have HZ := hid hz
        clear hz
        go_wp2
        go_loop [5, 7] (fun z j => ∃ k : Nat, k ≤ n1 ∧ j = .int .i64 k ∧ z = .int .i64 ((4 + zq + 3 + (codeBytes (l1.take k)).length : Nat) : Int)) (fun _ j => n1 - (intOf j).toNat)
        case atStart => exact ⟨0, Nat.zero_le _, rfl, by simp [codeBytes]; try omega⟩
        case round =>
          obtain ⟨k, hk, rfl, rfl⟩ := hrel
          have hcl := codeBytes_len (l1.take k)
          have hcl2 : (l1.take k).length ≤ 64 := by rw [List.length_take]; have := L1.out; omega
          by_cases hlk : k < n1
          · obtain ⟨b2, o2, p, r, rfl, e2, d1, d2⟩ := i1.at k hlk
            have E2 := hid e2
            clear e2
            by_cases h0 : p = 0
            · subst h0
              have HI := hid (show (insBytes (0, r)).length = 5 from rfl)
              have HSt := hid (size_step E2.out (by have := L1.out; omega))
              go_wp2
              go_round
              case rel => exact ⟨k + 1, by omega, by go_num, by rw [HSt.out, HI.out]; go_num⟩
              case measure => simp [intOf]; omega
            by_cases h1 : p = 1
            · subst h1
              have HI := hid (show (insBytes (1, r)).length = 2 from rfl)
              have HSt := hid (size_step E2.out (by have := L1.out; omega))
              go_wp2
              go_round
              case rel => exact ⟨k + 1, by omega, by go_num, by rw [HSt.out, HI.out]; go_num⟩
              case measure => simp [intOf]; omega
            by_cases h2 : p = 2
            · subst h2
              have HI := hid (show (insBytes (2, r)).length = 2 from rfl)
              have HSt := hid (size_step E2.out (by have := L1.out; omega))
              go_wp2
              go_round
              case rel => exact ⟨k + 1, by omega, by go_num, by rw [HSt.out, HI.out]; go_num⟩
              case measure => simp [intOf]; omega
            by_cases h12 : p = 12
            · subst h12
              have HI := hid (show (insBytes (12, r)).length = 2 from rfl)
              have HSt := hid (size_step E2.out (by have := L1.out; omega))
              go_wp2
              go_round
              case rel => exact ⟨k + 1, by omega, by go_num, by rw [HSt.out, HI.out]; go_num⟩
              case measure => simp [intOf]; omega
            by_cases h13 : p = 13
            · subst h13
              have HI := hid (show (insBytes (13, r)).length = 2 from rfl)
              have HSt := hid (size_step E2.out (by have := L1.out; omega))
              go_wp2
              go_round
              case rel => exact ⟨k + 1, by omega, by go_num, by rw [HSt.out, HI.out]; go_num⟩
              case measure => simp [intOf]; omega
            by_cases h14 : p = 14
            · subst h14
              have HI := hid (show (insBytes (14, r)).length = 2 from rfl)
              have HSt := hid (size_step E2.out (by have := L1.out; omega))
              go_wp2
              go_round
              case rel => exact ⟨k + 1, by omega, by go_num, by rw [HSt.out, HI.out]; go_num⟩
              case measure => simp [intOf]; omega
            have hsm : smallB p = false := by simp [smallB]; omega
            have HI := hid (show (insBytes (p, r)).length = 1 by rw [insBytes_else h0 hsm]; rfl)
            have HSt := hid (size_step E2.out (by have := L1.out; omega))
            clear hsm
            go_wp2
            go_round
            case rel => exact ⟨k + 1, by omega, by go_num, by rw [HSt.out, HI.out]; go_num⟩
            case measure => simp [intOf]; omega
          · have HF := hid (size_fn E1.out (by have := L.out; omega))
            have HT : Hid (l1.take k = l1) := List.take_of_length_le (by have := L1.out; omega)
            go_wp2
            go_round
            case rel => exact ⟨q + 1, by omega, by go_num, by rw [HF.out, HZ.out, HT.out]; go_num⟩
            case measure => simp [intOf]; omega
      · have HT : Hid (l0.take q = l0) := List.take_of_length_le (by have := L.out; omega)
        have hsz2 : ((sa.size : Int) == 4 + ((fnsBytes (l0.take q)).length : Int)) = true := by rw [HS.out, HT.out]; simp
        go_wp2
        go_ret
        exact ⟨ret_bool (decide_eq_true (by omega)), B2.out⟩

set_option maxRecDepth 100000 in
theorem lifted (os : Os) (started : os.Started) (H : Type) (enc : TypeId × Value → H) :
    ReturnsInHanded {} Tryd.checked os 7 .any (fun w args => (Rows.packSizesSpec.pre enc Tryd.prog Tryd.f7 [] false w args ∧ laidMetH Tryd.prog [("math/bits.deBruijn32tab", Rows.laid_math_bits_deBruijn32tab), ("math/bits.deBruijn64tab", Rows.laid_math_bits_deBruijn64tab), ("internal/strconv.uint64pow10", Rows.laid_internal_strconv_uint64pow10), ("swage/pack.errForm", Rows.laid_swage_pack_errForm), ("swage/pack.errEnd", Rows.laid_swage_pack_errEnd)] w) ∧ sizedMet enc Tryd.prog Tryd.f7 (OpenSpec.ofChange Rows.packSizesSpec) false w args) (Rows.packSizesSpec.post enc Tryd.prog Tryd.f7 false true false false) := by
  refine returnsInHanded_of_change_and (C := Tryd.checked) (X := fun w _ => laidMetH Tryd.prog [("math/bits.deBruijn32tab", Rows.laid_math_bits_deBruijn32tab), ("math/bits.deBruijn64tab", Rows.laid_math_bits_deBruijn64tab), ("internal/strconv.uint64pow10", Rows.laid_internal_strconv_uint64pow10), ("swage/pack.errForm", Rows.laid_swage_pack_errForm), ("swage/pack.errEnd", Rows.laid_swage_pack_errEnd)] w) (fun _ _ _ hh h => h.of_heap hh) own started (by kernel_rfl) Tryd.func7
    (ChangeSpec.witness_shaped (enc := enc) (C := Tryd.checked) (os := os) (X := fun w _ => laidMetH Tryd.prog [("math/bits.deBruijn32tab", Rows.laid_math_bits_deBruijn32tab), ("math/bits.deBruijn64tab", Rows.laid_math_bits_deBruijn64tab), ("internal/strconv.uint64pow10", Rows.laid_internal_strconv_uint64pow10), ("swage/pack.errForm", Rows.laid_swage_pack_errForm), ("swage/pack.errEnd", Rows.laid_swage_pack_errEnd)] w) false (World.doorLaid Tryd.prog 400 os) #[.agg #[.slice none 0 0]] 8 rfl (World.shaped_of_RefB (by kernel_rfl) (by kernel_rfl)) (by kernel_rfl) (by kernel_rfl) (by kernel_rfl) (door_met os _)) ?_
  intro W base args ds gs before hval0 hW hcnd hsz0 hL _
  have hval : ∀ (j : Nat) t v, Tryd.f7.params[j]? = some t → args[j]? = some v → Value.okWide Tryd.prog W .any base t v := hval0
  have hW' := hW
  obtain ⟨p, q, hA0, hV, rfl, hfz, hnd⟩ := hW
  have hA : DataW.TrodAll enc Tryd.prog W 0 (fun _ => true) true Tryd.f7.params.toList args.toList ds p := hA0
  have hsz : (DataW.weightsEach Tryd.prog (Tryd.f7.params.toList ++ Rows.packSizesSpec.plain.varTypes Tryd.prog) (ds ++ gs)).all (· ≤ reachBytes) = true := hsz0
  rw [Tryd.params7] at hA hval hsz
  obtain ⟨v0, vs0, d0, ds0, p0, q0, hargs, rfl, rfl, h0, r0⟩ := trodAll_cons hA
  obtain ⟨rfl, rfl, rfl⟩ := trodAll_nil r0
  obtain rfl : args = #[v0] := by cases args; simp_all
  obtain ⟨rfl, rfl⟩ := trodVars_none hV
  have k0 := h0
  have lt0 : ∀ x ∈ p0, x.block < W.heap.size := by obtain ⟨m, hm⟩ := k0; exact DataW.trod_lt m _ _ _ hm
  obtain ⟨a0, n0, c0, l0, rfl, w0⟩ := open_program (hval 0 24 v0 rfl rfl) h0 (fun k hk => by simpa using List.all_eq_true.1 hsz k (DataW.weights_mem_each (j := 0) rfl rfl k hk))
  clear hA0 hval0
  refine (walk a0 n0 c0 l0 W w0 (ld_of hL)).mono fun e W' ⟨he, bel⟩ => ?_
  subst he
  exact ⟨_, rfl, _, _, _, [], _, [], hW', trodAll_mk1 (shut_bool Tryd.underlying4 _), (trodAll_cons_mk (Below.trod laidOut (by kernel_rfl) (of_decide_eq_true (by kernel_rfl)) k0 bel lt0) trodAll_mk0), rfl, bel.frame _, fun h => by cases h⟩

theorem over : Rows.packSizesRow.holds Tryd.pinned (OpenSpec.ofChange Rows.packSizesSpec) :=
  OpenClaim.holds_of_wide 7 Tryd.f7 rfl rfl rfl rfl rfl rfl rfl ⟨rfl, rfl, rfl, rfl, rfl⟩ rfl rfl rfl rfl rfl (by kernel_rfl) Tryd.func7 (by kernel_rfl)
    (of_decide_eq_true (by kernel_rfl)) (by unfold Func.isWrapper; first | (rw [if_pos (by decide +kernel)]; kernel_rfl) | (rw [if_neg (by decide +kernel)]; exact ⟨rfl, rfl⟩))
    (fun os started H enc _ => lifted os started H enc)
end Go.Proofs.YtlknaanheieneaaDoor.packSizes
namespace Go.Proofs.YtlknaanheieneaaDoor
open Go
theorem packSizes_holds : Rows.PackSizesCardSaid :=
  Claim7.holds_tied_plain_at .later [] [.data, .data, .data, .sentinel, .sentinel] true (true, "f144d9048f5c4b297b1d9f684961b5a3ac68166b4a9617bb131c147bab0c1bb5") true
    packSizes.over (fun _ h => by cases h) (by kernel_rfl) (fun _ h => by cases h) packSizes_row_tie rfl ⟨rfl, rfl⟩ (by kernel_rfl) rfl
    (fun f fn hf hfn => by
      obtain rfl : f = 7 := Option.some.inj ((show Tryd.prog.funcNamed "swage/swagelaw3.PackSizes" = some 7 by kernel_rfl).symm.trans hf) |>.symm
      obtain rfl : fn = Tryd.f7 := (Option.some.inj (Tryd.func7.symm.trans hfn)).symm
      exact ⟨by kernel_rfl, fun j t ht => by
        rw [Tryd.params7] at ht
        have hm : t ∈ [24] := by simpa using Array.mem_of_getElem? ht
        have hall : ([24].all fun u => !Tryd.prog.wantsStandIn u) = true := by kernel_rfl
        exact (show Tryd.prog.wantsStandIn t = false by simpa using List.all_eq_true.1 hall t hm)⟩)
    (by kernel_rfl)
#print axioms packSizes_holds
end Go.Proofs.YtlknaanheieneaaDoor
