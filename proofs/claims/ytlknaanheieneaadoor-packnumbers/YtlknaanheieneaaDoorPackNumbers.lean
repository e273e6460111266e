/- For any integer the law PackNumbers returns true: its number of 32 bits is put in four bytes, the lowest one first, and comes back; no conditions. -/
import Derived.Test.YtlknaanheieneaaDoorRows
import Derived.WalkKit
import Derived.ProofKit
import Derived.OpenShut
import Derived.ShutString
import Derived.ChangeOld
import Derived.Below
import Derived.Carry
import Derived.Lib.SmallJoins
import Derived.Handy
import Derived.WalkSmall
import Derived.SizedLaws
import Derived.Test.YtlknaanheieneaaDoorLaidOpen
import Derived.Test.YtlknaanheieneaaDoorCards
import Derived.Test.YtlknaanheieneaaDoorTie
import Derived.SevenTiedAt
import Derived.LaidMore
import Derived.Stop.Joined
import Derived.Test.YtlknaanheieneaaDoorAwake3
import Derived.Laws.BitsAllLaws
namespace Go.Proofs.YtlknaanheieneaaDoor.packNumbers
open Go.ChangeShapes Go.WideShapes Go.ChangeAt Go.RowKit
open Go.ChangeMaps (open_string shut_string)
set_option linter.unusedVariables false

theorem own : ownKnob Tryd.prog.godebug = none := by kernel_rfl
theorem laidOut : laidOutB Tryd.prog = true := by kernel_rfl

def numProg (v : Int) : List Fn := [(0, 0, [(0, v), (16, 0)])]
theorem num_packs {v : Int} (h : isNum v = true) : packsB (numProg v) = true := by
  have h1 : mayB 0 v = true := by rw [may0]; exact h
  have h2 : mayB 16 0 = true := by decide
  simp [packsB, numProg, fnB, codeB, h1, h2]
theorem num_bytes (v : Int) : putBytes (numProg v) = [84, 105, 107, 1, 0, 0, 2, 0, c0 v, c1 v, c2 v, c3 v, 16] := rfl
theorem at_sb {s : ByteArray} {xs : List Int} (h : sb s = xs) (i : Nat) (hi : i < s.size) : (s[i].toNat : Int) = xs.getD i 0 := by rw [sb_at s i hi, h]
theorem or_step (a b i : Nat) (ha : a < 2 ^ i) : a ||| (b * 2 ^ i) = a + b * 2 ^ i := by
  have h := Nat.two_pow_add_eq_or_of_lt ha b
  rw [Nat.or_comm, Nat.mul_comm b, ← h, Nat.add_comm]
theorem or4 (v : Int) : bits .or .u32 (bits .or .u32 (bits .or .u32 (c0 v % 4294967296) (c1 v % 4294967296 * 256 % 4294967296)) (c2 v % 4294967296 * 65536 % 4294967296)) (c3 v % 4294967296 * 16777216 % 4294967296) = v % 4294967296 := by
  obtain ⟨x0, h0⟩ := Int.eq_ofNat_of_zero_le (show 0 ≤ c0 v by unfold c0; omega)
  obtain ⟨x1, h1⟩ := Int.eq_ofNat_of_zero_le (show 0 ≤ c1 v by unfold c1; omega)
  obtain ⟨x2, h2⟩ := Int.eq_ofNat_of_zero_le (show 0 ≤ c2 v by unfold c2; omega)
  obtain ⟨x3, h3⟩ := Int.eq_ofNat_of_zero_le (show 0 ≤ c3 v by unfold c3; omega)
  have b0 : x0 < 256 := by unfold c0 at h0; omega
  have b1 : x1 < 256 := by unfold c1 at h1; omega
  have b2 : x2 < 256 := by unfold c2 at h2; omega
  have b3 : x3 < 256 := by unfold c3 at h3; omega
  have hv : v % 4294967296 = ((x0 + x1 * 256 + x2 * 65536 + x3 * 16777216 : Nat) : Int) := by unfold c0 at h0; unfold c1 at h1; unfold c2 at h2; unfold c3 at h3; omega
  rw [hv, h0, h1, h2, h3]
  rw [show ((x0 : Int)) % 4294967296 = ((x0 : Nat) : Int) by omega, show ((x1 : Int)) % 4294967296 * 256 % 4294967296 = ((x1 * 2 ^ 8 : Nat) : Int) by omega, show ((x2 : Int)) % 4294967296 * 65536 % 4294967296 = ((x2 * 2 ^ 16 : Nat) : Int) by omega, show ((x3 : Int)) % 4294967296 * 16777216 % 4294967296 = ((x3 * 2 ^ 24 : Nat) : Int) by omega]
  rw [u32_or_nat _ _ (by omega) (by omega), or_step x0 x1 8 (by omega), u32_or_nat _ _ (by omega) (by omega), or_step _ x2 16 (by omega), u32_or_nat _ _ (by omega) (by omega), or_step _ x3 24 (by omega)]
theorem wrap_same (x : Int) : wrap32 x % 4294967296 = IntKind.u64.wrap x % 4294967296 := by rw [IntKind.wrap_u64]; unfold wrap32; omega
set_option maxRecDepth 100000 in
set_option maxHeartbeats 20000000 in
theorem walk (a0 : Int) (w : World) (w0 : (Lit.int .i64 a0).wf = true) (ld : Ld w) :
    Calls Tryd.prog 6 #[.int .i64 a0] w fun e w' => e = .returned (.bool true) ∧ Below w.heap.size w w' := by
  have LD0 := hid ld
  clear ld
  have hnum := num_wrap a0
  have hpk := num_packs hnum
  have hip := putS_ok hpk
  have hsb : sb (putS (numProg (wrap32 a0))) = [84, 105, 107, 1, 0, 0, 2, 0, c0 (wrap32 a0), c1 (wrap32 a0), c2 (wrap32 a0), c3 (wrap32 a0), 16] := by rw [← num_bytes, ← sb_str (putBytes_bd hpk), hip.2]
  have hsz : (putS (numProg (wrap32 a0))).size = 13 := by rw [← sb_len, hsb]; rfl
  have ho := own_lit1 43 46
  have HPK := hid hpk
  have HIP := hid hip
  have HSB := hid hsb
  have HSZ := hid hsz
  clear hnum hpk hip hsb hsz w0 ho
  go_enter Tryd.func6, Tryd.ntmps6
  go_wp2_with fail
  refine (awake3_any _ LD0.out).mono ?_
  rintro e u1 ⟨rfl, b1⟩
  go_wp2_with fail
  have ho := own_lit1 43 46 u1 0 0 [(0, wrap32 a0), (16, 0)] _ 2 rfl rfl (by omega)
  obtain ⟨a2, n2, c2, e2, hf0⟩ := ho.reads (by simp)
  cases e2
  have hf1 := hf0.kept (Below.alloc (Below.refl _ _) (Nat.le_refl _) (.cells #[.slice (some ⟨u1.heap.size + 1, 0, none⟩) 1 1] 24))
  have HF := hid hf1
  clear ho hf0 hf1
  rw [wrap32_u, wrap64_wrap32]
  refine (putL _ _ _ (numProg (wrap32 a0)) _ HF.out (LD0.out.up (kt b1 (by go_grown)))).mono ?_
  rintro e u2 ⟨rfl, b2⟩
  rw [putE_ok HPK.out]
  generalize putS (numProg (wrap32 a0)) = s at HIP HSB HSZ ⊢
  have hsz : s.size = 13 := HSZ.out
  have v7 := at_sb HSB.out 7 (by omega)
  have v8 := at_sb HSB.out 8 (by omega)
  have v9 := at_sb HSB.out 9 (by omega)
  have v10 := at_sb HSB.out 10 (by omega)
  have v11 := at_sb HSB.out 11 (by omega)
  have v12 := at_sb HSB.out 12 (by omega)
  simp at v7 v8 v9 v10 v11 v12
  go_wp2_with (first | (go_at_call 13; refine (num_any _ _).mono ?_; rintro e w' ⟨rfl, hw⟩; rw [hw]; clear hw))
  go_quiet (fail)
  go_wp2_with fail
  rw [or4, wrap_same]
  refine (getL s _ (by omega) (LD0.out.up (kt (kt (kt b1 (Below.alloc (Below.alloc (Below.alloc (Below.refl _ _) (Nat.le_refl _) _) (by simp) _) (by simp; omega) _)) b2) (below_drewN (Below.refl _ _) _)))).mono ?_
  rintro e u3 ⟨vq, eq, rfl, b3, ⟨lq, pq, rfl, oq⟩ | ⟨nq', _⟩⟩
  rotate_left
  · exact absurd HIP.out (nq' _)
  obtain rfl := isPut_one pq HIP.out
  obtain ⟨aq, mq, cq, rfl, fq⟩ := oq.reads (by simp [numProg])
  have p2 := kept_cell b2 (b := u1.heap.size + 1 + 1) (o := 0) (v := .slice (some ⟨u1.heap.size + 1, 0, none⟩) 1 1) (by simp [go_sem])
  have b3' : Below u2.heap.size u2 u3 := kt (below_drewN (Below.refl _ _) _) b3
  have p3 := kept_cell b3' p2
  have P3 := hid ((HF.out.kept b2).kept b3')
  have BB : Hid (Below w.heap.size w u3) := hid (kt (kt (kt b1 (Below.alloc (Below.alloc (Below.alloc (Below.refl _ _) (Nat.le_refl _) _) (by simp) _) (by simp; omega) _)) b2) b3')
  have p4 := kept_cell (Below.alloc (Below.refl _ _) (Nat.le_refl _) (.cells #[.slice aq mq cq] 24)) p3
  have P4 := hid (P3.out.kept (Below.alloc (Below.refl _ _) (Nat.le_refl _) (.cells #[.slice aq mq cq] 24)))
  have Q4 := hid (fq.kept (Below.alloc (Below.refl _ _) (Nat.le_refl _) (.cells #[.slice aq mq cq] 24)))
  clear b1 b2 b3 b3' oq fq pq p2 p3
  go_wp2_with (first | (go_at_call 13; refine (num_any _ _).mono ?_; rintro e w' ⟨rfl, hw⟩; rw [hw]; clear hw))
  refine (sameProgram_any _ _ _ _ _ _ _ _ _ P4.out Q4.out).mono ?_
  rintro e u5 ⟨rfl, b5⟩
  rw [decide_eq_true (show ([(0, 0, [(0, wrap32 a0), (16, 0)])] : List Fn) = numProg (wrap32 a0) from rfl)]
  go_wp2_with (first | (go_at_call 13; refine (num_any _ _).mono ?_; rintro e w' ⟨rfl, hw⟩; rw [hw]; clear hw))
  go_ret
  exact ⟨rfl, kt (kt BB.out (by go_grown)) b5⟩

set_option maxRecDepth 100000 in
theorem lifted (os : Os) (started : os.Started) (H : Type) (enc : TypeId × Value → H) :
    ReturnsInHanded {} Tryd.checked os 6 .any (fun w args => (Rows.packNumbersSpec.pre enc Tryd.prog Tryd.f6 [] false w args ∧ laidMetH Tryd.prog [("math/bits.deBruijn32tab", Rows.laid_math_bits_deBruijn32tab), ("math/bits.deBruijn64tab", Rows.laid_math_bits_deBruijn64tab), ("internal/strconv.uint64pow10", Rows.laid_internal_strconv_uint64pow10), ("swage/pack.errForm", Rows.laid_swage_pack_errForm), ("swage/pack.errEnd", Rows.laid_swage_pack_errEnd)] w) ∧ sizedMet enc Tryd.prog Tryd.f6 (OpenSpec.ofChange Rows.packNumbersSpec) false w args) (Rows.packNumbersSpec.post enc Tryd.prog Tryd.f6 false true false false) := by
  refine returnsInHanded_of_change_and (C := Tryd.checked) (X := fun w _ => laidMetH Tryd.prog [("math/bits.deBruijn32tab", Rows.laid_math_bits_deBruijn32tab), ("math/bits.deBruijn64tab", Rows.laid_math_bits_deBruijn64tab), ("internal/strconv.uint64pow10", Rows.laid_internal_strconv_uint64pow10), ("swage/pack.errForm", Rows.laid_swage_pack_errForm), ("swage/pack.errEnd", Rows.laid_swage_pack_errEnd)] w) (fun _ _ _ hh h => h.of_heap hh) own started (by kernel_rfl) Tryd.func6
    (ChangeSpec.witness_shaped (enc := enc) (C := Tryd.checked) (os := os) (X := fun w _ => laidMetH Tryd.prog [("math/bits.deBruijn32tab", Rows.laid_math_bits_deBruijn32tab), ("math/bits.deBruijn64tab", Rows.laid_math_bits_deBruijn64tab), ("internal/strconv.uint64pow10", Rows.laid_internal_strconv_uint64pow10), ("swage/pack.errForm", Rows.laid_swage_pack_errForm), ("swage/pack.errEnd", Rows.laid_swage_pack_errEnd)] w) false (World.doorLaid Tryd.prog 400 os) #[.int .i64 0] 8 rfl (World.shaped_of_RefB (by kernel_rfl) (by kernel_rfl)) (by kernel_rfl) (by kernel_rfl) (by kernel_rfl) (door_met os _)) ?_
  intro W base args ds gs before hval0 hW hcnd hsz0 hL _
  have hval : ∀ (j : Nat) t v, Tryd.f6.params[j]? = some t → args[j]? = some v → Value.okWide Tryd.prog W .any base t v := hval0
  have hW' := hW
  obtain ⟨p, q, hA0, hV, rfl, hfz, hnd⟩ := hW
  have hA : DataW.TrodAll enc Tryd.prog W 0 (fun _ => true) true Tryd.f6.params.toList args.toList ds p := hA0
  have hsz : (DataW.weightsEach Tryd.prog (Tryd.f6.params.toList ++ Rows.packNumbersSpec.plain.varTypes Tryd.prog) (ds ++ gs)).all (· ≤ reachBytes) = true := hsz0
  rw [Tryd.params6] at hA hval hsz
  obtain ⟨v0, vs0, d0, ds0, p0, q0, hargs, rfl, rfl, h0, r0⟩ := trodAll_cons hA
  obtain ⟨rfl, rfl, rfl⟩ := trodAll_nil r0
  obtain rfl : args = #[v0] := by cases args; simp_all
  obtain ⟨rfl, rfl⟩ := trodVars_none hV
  have k0 := h0
  have lt0 : ∀ x ∈ p0, x.block < W.heap.size := by obtain ⟨m, hm⟩ := k0; exact DataW.trod_lt m _ _ _ hm
  obtain ⟨a0, rfl, rfl, rfl, w0⟩ := open_int Tryd.underlying3 (hval 0 3 v0 rfl rfl) h0
  clear hA0 hval0
  refine (walk a0 W w0 (ld_of hL)).mono fun e W' ⟨he, bel⟩ => ?_
  subst he
  exact ⟨_, rfl, _, _, _, [], _, [], hW', trodAll_mk1 (shut_bool Tryd.underlying4 _), (trodAll_cons_mk (Below.trod laidOut (by kernel_rfl) (of_decide_eq_true (by kernel_rfl)) k0 bel lt0) trodAll_mk0), rfl, bel.frame _, fun h => by cases h⟩

theorem over : Rows.packNumbersRow.holds Tryd.pinned (OpenSpec.ofChange Rows.packNumbersSpec) :=
  OpenClaim.holds_of_wide 6 Tryd.f6 rfl rfl rfl rfl rfl rfl rfl ⟨rfl, rfl, rfl, rfl, rfl⟩ rfl rfl rfl rfl rfl (by kernel_rfl) Tryd.func6 (by kernel_rfl)
    (of_decide_eq_true (by kernel_rfl)) (by unfold Func.isWrapper; first | (rw [if_pos (by decide +kernel)]; kernel_rfl) | (rw [if_neg (by decide +kernel)]; exact ⟨rfl, rfl⟩))
    (fun os started H enc _ => lifted os started H enc)
end Go.Proofs.YtlknaanheieneaaDoor.packNumbers
namespace Go.Proofs.YtlknaanheieneaaDoor
open Go
theorem packNumbers_holds : Rows.PackNumbersCardSaid :=
  Claim7.holds_tied_plain_at .later [] [.data, .data, .data, .sentinel, .sentinel] true (true, "f144d9048f5c4b297b1d9f684961b5a3ac68166b4a9617bb131c147bab0c1bb5") true
    packNumbers.over (fun _ h => by cases h) (by kernel_rfl) (fun _ h => by cases h) packNumbers_row_tie rfl ⟨rfl, rfl⟩ (by kernel_rfl) rfl
    (fun f fn hf hfn => by
      obtain rfl : f = 6 := Option.some.inj ((show Tryd.prog.funcNamed "swage/swagelaw3.PackNumbers" = some 6 by kernel_rfl).symm.trans hf) |>.symm
      obtain rfl : fn = Tryd.f6 := (Option.some.inj (Tryd.func6.symm.trans hfn)).symm
      exact ⟨by kernel_rfl, fun j t ht => by
        rw [Tryd.params6] at ht
        have hm : t ∈ [3] := by simpa using Array.mem_of_getElem? ht
        have hall : ([3].all fun u => !Tryd.prog.wantsStandIn u) = true := by kernel_rfl
        exact (show Tryd.prog.wantsStandIn t = false by simpa using List.all_eq_true.1 hall t hm)⟩)
    (by kernel_rfl)
#print axioms packNumbers_holds
end Go.Proofs.YtlknaanheieneaaDoor
