/- For any program, any integer and any list of integers the law ProfCounts returns true: a profile that is told of so many calls counts as many as they came, of each argument as often the same value as it was, and it may be a profile of the program. (The package's variables hold what the program's text lays.) -/
import Derived.Test.YtppmkoigblimmaaGreatDoorRows
import Derived.WalkKit
import Derived.ProofKit
import Derived.OpenShut
import Derived.ShutString
import Derived.ChangeOld
import Derived.Below
import Derived.Carry
import Derived.Lib.SmallJoins
import Derived.Handy
import Derived.WalkSmall
import Derived.SizedLaws
import Derived.Test.YtppmkoigblimmaaGreatDoorOpen
import Derived.Test.YtppmkoigblimmaaGreatDoorOpenInts
import Derived.Test.YtppmkoigblimmaaGreatDoorLaidOpenV
import Derived.Test.YtppmkoigblimmaaGreatDoorCards
import Derived.Test.YtppmkoigblimmaaGreatDoorTie
import Derived.SevenTiedAt
import Derived.LaidMore
import Derived.Stop.Joined
import Derived.Test.YtppmkoigblimmaaGreatDoorAwake9
import Derived.Test.YtppmkoigblimmaaGreatDoorOneProf
import Derived.Test.YtppmkoigblimmaaGreatDoorPlainCnt
import Derived.Deep.AppendLies
import Derived.Deep.QuietTactic
import Derived.BigQuiet
namespace Go.Proofs.YtppmkoigblimmaaGreatDoor.profCounts
open Go.ChangeShapes Go.WideShapes Go.ChangeAt Go.RowKit
open Go.ChangeMaps (open_string shut_string)
set_option linter.unusedVariables false

theorem own : ownKnob Tryz.prog.godebug = none := by kernel_rfl
theorem laidOut : laidOutB Tryz.prog = true := by kernel_rfl

set_option maxRecDepth 100000 in
set_option maxHeartbeats 20000000 in
theorem walk (a0 : Option Addr) (n0 c0 : Nat) (l0 : List Fn) (a1 : Int) (a2 : Option Addr) (n2 c2 : Nat) (l2 : List Int) (w : World) (w0 : Fns w a0 n0 c0 l0) (w1 : (Lit.int .i64 a1).wf = true) (w2 : Ints w a2 n2 c2 l2) (ld : Ld w) :
    Calls Tryz.prog 4 #[.agg #[.slice a0 n0 c0], .int .i64 a1, .slice a2 n2 c2] w fun e w' => e = .returned (.bool true) ∧ Below w.heap.size w w' := by
  have LD0 := hid ld
  clear ld
  have W0 := hid w0
  have W2 := hid w2
  have LP := hid w0.len
  have LW := hid w2.len
  have hpr := w0.room
  have hpc := w0.cap
  have hwr := w2.room
  have hwc := w2.cap
  have U0 : Hid (∃ U : World, U = w.alloc (.cells #[.slice a0 n0 c0] 24)) := hid ⟨_, rfl⟩
  obtain ⟨U, hU⟩ := U0.out
  have BU : Hid (Below w.heap.size w U) := hid (by rw [hU]; exact Below.alloc (Below.refl _ _) (Nat.le_refl _) _)
  have P0 : Hid (U.cell? ⟨w.heap.size, 0, none⟩ = some (.slice a0 n0 c0)) := hid (by rw [hU]; simp [go_sem])
  have EU := hid hU
  clear hU U0 w0 w2
  go_enter Tryz.func4, Tryz.ntmps4
  go_wp2_with fail
  refine calls_inU (U := U) (by rw [EU.out]) ?_
  refine (awake9_any _ (LD0.out.up BU.out)).mono ?_
  rintro e w1 ⟨rfl, b1⟩
  have B1 := hid (kt BU.out b1)
  have p1 := kept_cell b1 P0.out
  have P1 := hid p1
  clear b1 EU P0
  go_wp2_with fail
  refine (prNew_any _ _ _ l0 _ (W0.out.kept B1.out) (LD0.out.up B1.out)).mono ?_
  rintro e w4 ⟨rv, rfl, o4, b4⟩
  obtain ⟨ra, rn, rc, rfl, r4⟩ := o4.reads
  have R4 := hid r4
  have B4 := hid (kt B1.out b4)
  have P4 := hid (kept_cell b4 P1.out)
  clear o4 r4 b4 p1 P1
  go_upto_region 4 with fail
  refine wp_name ?_
  intro V hV
  have A4 : Hid (Below w4.heap.size w4 V) := hid (by rw [hV]; exact Below.alloc (Below.refl _ _) (Nat.le_refl _) _)
  have QV : Hid (V.cell? ⟨w4.heap.size, 0, none⟩ = some (.slice ra rn rc) ∧ V.frozen? ⟨w4.heap.size, 0, none⟩ = false) := hid (by rw [hV]; exact ⟨by simp [go_sem], by simp [go_sem]⟩)
  have hsV : w4.heap.size < V.heap.size := by rw [hV]; simp
  clear hV
  have p5 := kept_cell A4.out P4.out
  by_cases hv : verV l0 = 0
  rotate_left
  · have E : Hid (newE l0 = 900) := hid (by unfold newE; rw [if_neg hv])
    rw [E.out]
    clear hv
    go_wp2_with (first | (go_at_call 15; refine (num_any _ _).mono ?_; rintro e w' ⟨rfl, hw⟩; rw [hw]; clear hw))
    go_ret
    exact ⟨rfl, kt B4.out A4.out⟩
  have E : Hid (newE l0 = 0) := hid (by unfold newE; rw [if_pos hv])
  have EP : Hid (newP l0 = l0.map newFp) := hid (by unfold newP; rw [if_pos hv])
  rw [E.out]
  rw [EP.out] at R4
  have hsm := ver_some hv
  have hn1 : 1 ≤ n0 := by have := LP.out; omega
  have hn8 : n0 ≤ 8 := by have := LP.out; omega
  have hn0 : ((n0 : Int) == 0) = false := by simp; omega
  have HV := hid hv
  clear hv hsm
  obtain ⟨hk0, hk1⟩ := umod_bd a1 (n0 : Int) (by omega)
  generalize hkk : (IntKind.u64.wrap a1).tmod (n0 : Int) = kk at hk0 hk1
  obtain ⟨k, rfl⟩ := Int.eq_ofNat_of_zero_le hk0
  have hkn : k < n0 := by omega
  have hkp : k < l0.length := by rw [← LP.out]; exact hkn
  obtain ⟨b0, o0, fx, fy, ca, cn, cc, code, rfl, e3, d0, d1, d2, i3⟩ := (W0.out.kept B4.out).at k hkn
  have HFN := hid e3
  have CL := hid i3.len
  obtain ⟨an, rfl⟩ : ∃ an : Nat, fx = an := ⟨fx.toNat, by have := (ver_fn HV.out hkp e3).1; omega⟩
  have han : an ≤ 4 := by have := ver_fn HV.out hkp e3; omega
  have D0 := hid d0
  have hb0 := lt_of_cell d0
  have R0 : Hid (Sl layFp 80 V ra rn rc (cntR l2 l0 k cn an 0)) := hid (by rw [cnt_zero hkp HFN.out CL.out]; exact R4.out.kept A4.out)
  clear d0 d1 d2 i3 e3
  have dV := kept_cell A4.out D0.out
  go_wp2_with (first | (go_at_call 15; refine (num_any _ _).mono ?_; rintro e w' ⟨rfl, hw⟩; rw [hw]; clear hw))
  clear p5 dV
  go_loopw [10, 11, 12] (fun s m i wr => ∃ (q : Nat) (xa : Option Addr) (xn xc : Nat), q ≤ n2 ∧ q ≤ 20 ∧ s = .int .i64 (sameN l2 q : Int) ∧ m = .int .i64 q ∧ i = .int .i64 q ∧ wr.cell? ⟨w4.heap.size, 0, none⟩ = some (.slice xa xn xc) ∧ wr.frozen? ⟨w4.heap.size, 0, none⟩ = false ∧ Sl layFp 80 wr xa xn xc (cntR l2 l0 k cn an q) ∧ Below w4.heap.size w4 wr) (fun _ _ i _ => n2 - (intOf i).toNat)
  case atStart => exact ⟨0, ra, rn, rc, Nat.zero_le _, by omega, rfl, rfl, rfl, QV.out.1, QV.out.2, R0.out, A4.out⟩
  case round =>
    clear R0 QV A4 hsV R4
    obtain ⟨q, xa, xn, xc, hq, hq20, rfl, rfl, rfl, hx, hxf, hr, hb⟩ := hrel
    obtain ⟨Z, hZ⟩ : ∃ Z : World, Z = wr := ⟨_, rfl⟩
    subst hZ
    have XC := hid (And.intro hx hxf)
    have HR := hid hr
    have HB := hid hb
    have hsz := lt_of_cell hx
    have hrr := hr.room
    have hrc := hr.cap
    have XL : Hid (xn = l0.length) := hid (by have := hr.len; unfold cntR at this; simpa using this)
    have pz := kept_cell hb P4.out
    have dz := kept_cell hb D0.out
    clear hx hxf hr hb
    by_cases hlt : q < n2 ∧ q < 20
    · obtain ⟨hl2, hl20⟩ := hlt
      have HN2 : Hid (0 < n2) := hid (by omega)
      obtain ⟨b2, o2, rfl, r2⟩ := (W2.out.kept (kt B4.out HB.out)).row (by omega)
      have c2 := r2 q hl2
      have c20 := r2 0 (by omega)
      have hm := and3 (l2.getD q 0)
      have hm0 := and3 (l2.getD 0 0)
      rw [show l2.getD q 0 % 4 = val4 l2 q from rfl] at hm
      rw [show l2.getD 0 0 % 4 = val4 l2 0 from rfl] at hm0
      generalize l2.getD q 0 = xq at c2 hm
      generalize l2.getD 0 0 = x0 at c20 hm0
      have hvb := val4_bd l2 q
      obtain ⟨hv0, hv4⟩ := hvb
      have CC := hid (And.intro c2 (And.intro c20 (And.intro hm hm0)))
      have HSN : Hid (sameN l2 (q + 1) = sameN l2 q + (if val4 l2 q = val4 l2 0 then 1 else 0)) := hid rfl
      have KC := hid (cnt_call (l := l2) HV.out hkp HFN.out CL.out hl20)
      generalize hvq : val4 l2 q = v at hm hv0 hv4 CC HSN KC
      generalize hvz : val4 l2 0 = z at hm0 CC HSN
      have ss := sameN_le l2 q
      clear r2 hvq hvz c20 hm0
      obtain ⟨i0, hi, hz0, hz1, hz2⟩ := info_parts Tryz.infoInt
      have PZ := hid (And.intro pz dz)
      go_wp2_with fail
      clear c2 hm pz dz
      go_loopw [14, 15] (fun sl j wx => ∃ jj : Nat, jj ≤ an ∧ j = .int .i64 jj ∧ wx.ownsRow Z.heap.size 3 1 sl jj (ints (argsV jj v)) ∧ Below Z.heap.size Z wx) (fun _ j _ => an - (intOf j).toNat)
      case atStart => exact ⟨0, Nat.zero_le _, rfl, World.ownsRow_nil _ _ _ _, Below.refl _ _⟩
      case round =>
        obtain ⟨jj, hj, rfl, ho, hbx⟩ := hrel
        obtain ⟨sa, sn, sc, rfl, _⟩ := ints_of_owns (l := argsV jj v) (by rw [argsV_len]; exact ho) (by rw [argsV_len]; omega)
        have px := kept_cell hbx PZ.out.1
        have dx := kept_cell hbx PZ.out.2
        have HBX := hid hbx
        have HO0 := hid ho
        have hsx := hbx.size
        clear hbx
        by_cases hjl : jj < an
        · have HO := hid (ho.alloc (.cells #[.int .i64 (v + (jj : Int))] 3))
          have hnews := World.news_of_block (heap_alloc_new wr (.cells #[.int .i64 (v + (jj : Int))] 3))
          clear ho HO0
          go_wp2_with (at_builtin; go_must ((refine wpList_append_lies _ rfl _ _ 28 rfl Z.heap.size 3 i0 (.int .i64 0) 1 8 Tryz.underlying28 hi hz0 hz1 hz2 rfl (by decide) (.slice sa sn sc) jj (ints (argsV jj v)) rfl HO.out ⟨wr.heap.size, 0, none⟩ 1 1 [.int .i64 (v + (jj : Int))] rfl rfl hnews (by intro u hu; simp at hu; subst hu; rfl) (by decide) (by unfold maxLen; omega) (by omega) (by simp; omega) (wr.heap.size + 1) (by simp) ?_; intro g' cap' w6 ho6 hg6 hat hlt6; have P := hid (And.intro ho6 (And.intro hg6 hat)); clear ho6 hg6 hat hlt6)))
          go_roundw
          case rel =>
            obtain ⟨p1, p2, p3⟩ := P.out
            refine ⟨jj + 1, by omega, by go_num, ?_, ?_⟩
            · rw [argsV_snoc, ints_app]
              exact p1
            · have fr6 : Frm (fun b => (Value.slice sa sn sc).ownBlock = some b) (wr.alloc (.cells #[.int .i64 (v + (jj : Int))] 3)) w6 := Frm.of_grown p2 (fun k hk => hk)
              exact Below.trans (kt HBX.out (Below.alloc (Below.refl _ _) (Nat.le_refl _) _)) (fr6.below (by simp; omega) (fun b hb e => by have := (HO.out.lt _ e).1; omega))
          case measure => simp [intOf] <;> omega
        · obtain rfl : jj = an := by omega
          obtain ⟨ya, yn, yc, ey, iy⟩ := ints_of_owns (l := argsV jj v) (by rw [argsV_len]; exact ho) (by rw [argsV_len]; omega)
          cases ey
          have IY := hid iy
          have xx := kept_cell HBX.out XC.out.1
          clear ho HO0 iy
          go_wp2_with fail
          refine (prCalled_any _ _ _ l0 _ _ _ (cntR l2 l0 k cn jj q) (k : Int) _ _ _ (argsV jj v) _ (W0.out.kept (kt B4.out (HB.out.trans (HBX.out.mono (by omega))))) (HR.out.kept HBX.out) IY.out (LD0.out.up (kt B4.out (HB.out.trans (HBX.out.mono (by omega)))))).mono ?_
          rintro e t1 ⟨sv, rfl, os, bs⟩
          rw [KC.out.2]
          rw [KC.out.1] at os
          obtain ⟨ta, tn, tc, rfl, rt⟩ := os.reads
          have OS := hid os
          have BS := hid bs
          clear rt os bs px dx xx
          go_upto_region 18 with fail
          refine wp_name ?_
          intro T hT
          have AT : Hid (Below t1.heap.size t1 T) := hid (by rw [hT]; exact Below.alloc (Below.refl _ _) (Nat.le_refl _) _)
          have tb : T.cell? ⟨t1.heap.size, 0, none⟩ = some (.slice ta tn tc) := by rw [hT]; simp [go_sem]
          have BZT : Hid (Below Z.heap.size Z T) := hid (kt HBX.out (kt BS.out AT.out))
          have tx := kept_cell BZT.out XC.out.1
          have txf : T.frozen? ⟨w4.heap.size, 0, none⟩ = false := (BZT.out.frozen (p := ⟨w4.heap.size, 0, none⟩) hsz).trans XC.out.2
          clear hT
          go_upto_region 21 with (first | (go_at_call 15; refine (num_any _ _).mono ?_; rintro e w' ⟨rfl, hw⟩; rw [hw]; clear hw))
          refine wp_name ?_
          intro T2 hT2
          have x2 : T2.cell? ⟨w4.heap.size, 0, none⟩ = some (.slice ta tn tc) := by rw [hT2]; exact World.cell?_setCell_same _ _ _ tx
          have xf2 : T2.frozen? ⟨w4.heap.size, 0, none⟩ = false := by rw [hT2, World.frozen?_setCell]; exact txf
          have B24 : Hid (Below w4.heap.size w4 T2) := hid (by rw [hT2]; exact (HB.out.trans (BZT.out.mono (by omega))).setCell (Nat.le_refl _) _)
          have RT2 : Hid (Sl layFp 80 T2 ta tn tc (cntR l2 l0 k cn jj (q + 1))) := hid (by
            rw [hT2]
            have := ((OS.out.kept AT.out).set ⟨w4.heap.size, 0, none⟩ (.slice ta tn tc) (by show ¬ wr.heap.size ≤ w4.heap.size; omega)).reads
            obtain ⟨_, _, _, e, h⟩ := this
            cases e
            exact h)
          have BZ2 : Hid (Below w4.heap.size Z T2) := hid (by rw [hT2]; exact Below.setCell (p := ⟨w4.heap.size, 0, none⟩) (BZT.out.mono (Nat.le_of_lt hsz)) (Nat.le_refl _) _)
          obtain ⟨b2', o2', e2', r2'⟩ := (W2.out.kept (kt B4.out B24.out)).row HN2.out
          cases e2'
          have c20' := r2' 0 HN2.out
          obtain ⟨_, c20, _, hm0⟩ := CC.out
          have hb2 : b2 < w4.heap.size := by
            obtain ⟨b2'', o2'', e2'', r2''⟩ := (W2.out.kept B4.out).row HN2.out
            cases e2''
            exact lt_of_cell (r2'' 0 HN2.out)
          have c20z : T2.cell? ⟨b2, o2, none⟩ = some (.int .i64 x0) := by
            have := (BZ2.out.cell (p := ⟨b2, o2, none⟩) hb2).trans (by simpa using c20)
            exact this
          clear hT2 tx txf tb r2' c20' c20
          by_cases hvz : v = z
          · have hsq : Hid ((sameN l2 (q + 1) : Int) = (sameN l2 q : Int) + 1) := hid (by have := HSN.out; rw [if_pos hvz] at this; omega)
            subst hvz
            go_wp2_with fail
            go_roundw
            case rel => exact ⟨q + 1, ta, tn, tc, by omega, by omega, by rw [hsq.out], by go_num, by go_num, x2, xf2, RT2.out, B24.out⟩
            case measure => simp [intOf]; omega
          · have hsq : Hid (sameN l2 (q + 1) = sameN l2 q) := hid (by have := HSN.out; rw [if_neg hvz] at this; omega)
            have hvz' : (v == z) = false := by simpa using hvz
            clear hvz
            go_wp2_with fail
            go_roundw
            case rel => exact ⟨q + 1, ta, tn, tc, by omega, by omega, by rw [hsq.out], by go_num, by go_num, x2, xf2, RT2.out, B24.out⟩
            case measure => simp [intOf]; omega
    · obtain rfl : xn = n0 := by have := XL.out; have := LP.out; omega
      have hgk : (cntR l2 l0 k cn an q)[k]? = some (cntF l2 cn an q) := by
        unfold cntR
        rw [List.getElem?_set_self (by simpa using hkp)]
      obtain ⟨g, o, x, ja, jn, jc, jl, fa, fn, fc, fl, aa, m, ac, al, rfl, hx, e0, e1, e2, e3, i1, i2, i3⟩ := fp_at HR.out k hkn
      rw [hgk] at hx
      have hcf : cntF l2 cn an q = (x, jl, fl, al) := Option.some.inj hx
      obtain ⟨hcx, hcj, hcl, hca⟩ : (q : Int) = x ∧ List.replicate cn 0 = jl ∧ List.replicate cn 0 = fl ∧ capAt l2 an q = al := by
        unfold cntF at hcf
        simpa using hcf
      subst hcx
      obtain rfl : m = an := by have := i3.len; rw [← hca, capAt_len] at this; exact this
      have HCA := hid hca
      have I3 := hid i3
      have hmr := i3.room
      have hmc := i3.cap
      have ss := sameN_le l2 q
      have MAY := hid (cnt_may (l := l2) HV.out hkp HFN.out CL.out hq20)
      have x0 := XC.out.1
      have HX0 := hid x0
      have PZ := hid (And.intro pz (And.intro dz e3))
      have hkx : (k : Int) < (xn : Int) := by omega
      clear hx hcf hcj hcl hca i1 i2 i3 hgk e1 e2
      have fin : Hid (∀ (a : Act), True) := hid (fun _ => trivial)
      by_cases hq2 : q < n2
      all_goals
        have hq2' : (decide ((q : Int) < (n2 : Int)) = true ∧ q = 20) ∨ decide ((q : Int) < (n2 : Int)) = false := by
          by_cases h : q < n2
          · left; exact ⟨by simpa using h, by omega⟩
          · right; simpa using h
        go_wp2_with fail
        go_quiet (fail)
        have BQ : Hid (Below Z.heap.size Z (Z.drewN nq)) := hid (below_drewN (Below.refl _ _) _)
        generalize Z.drewN nq = Y at BQ ⊢
        have q0 := kept_cell BQ.out HX0.out
        have q1 := kept_cell BQ.out PZ.out.1
        have q2 := kept_cell BQ.out PZ.out.2.1
        have q3 := kept_cell BQ.out PZ.out.2.2
        clear x0 e3 pz dz e0 hq2'
        go_wp2_with fail
        clear q0 q1 q2 q3
        generalize hQ : (q : Int) = Q
        generalize hSS : (sameN l2 q : Int) = SS
        have hQ0 : 0 ≤ Q := by omega
        have hQ1 : Q ≤ 20 := by omega
        have hS0 : 0 ≤ SS := by omega
        have hS1 : SS ≤ Q := by omega
        obtain ⟨D, hD⟩ : ∃ D, Q - SS = D := ⟨_, rfl⟩
        have HQ := hid hQ
        have HSS := hid hSS
        have HQN := hid hq
        clear hQ hSS hq2 ss hq hq20
        go_loopw [18] (fun j wx => ∃ jj : Nat, jj ≤ m ∧ j = .int .i64 jj ∧ Below Z.heap.size Z wx) (fun j _ => m - (intOf j).toNat)
        case atStart => exact ⟨0, Nat.zero_le _, rfl, BQ.out⟩
        case round =>
          clear BQ
          obtain ⟨jj, hj, rfl, hbx⟩ := hrel
          have q0 := kept_cell hbx HX0.out
          have q1 := kept_cell hbx PZ.out.1
          have q3 := kept_cell hbx PZ.out.2.2
          have HBX := hid hbx
          by_cases hjl : jj < m
          · obtain ⟨b9, o9, x9, y9, z9, rfl, hx9, k0, k1, k2⟩ := ap_at (I3.out.kept hbx) jj hjl
            rw [← HCA.out] at hx9
            have hA9 : Below wr.heap.size wr (wr.alloc (.cells #[.int .i64 x9, .int .i64 y9, .int .i64 z9] 53)) := Below.alloc (Below.refl _ _) (Nat.le_refl _) _
            have HA9 := hid hA9
            rcases Nat.eq_zero_or_pos q with hq0 | hqp
            · have h9 : (x9, y9, z9) = noAp := by
                unfold capAt at hx9
                rw [if_pos hq0] at hx9
                exact List.eq_of_mem_replicate (List.mem_of_getElem? hx9)
              obtain ⟨rfl, rfl⟩ : y9 = SS ∧ z9 = D := by
                have e : x9 = 0 ∧ y9 = 0 ∧ z9 = 0 := by unfold noAp at h9; simpa using h9
                have := HQ.out
                omega
              have t3 : ¬ (0 : Int) < Q := by have := HQ.out; omega
              clear hx9 h9 hbx hA9 hq0
              go_wp2_with fail
              have t5 : decide ((0 : Int) < Q) = false := by simpa using t3
              go_quiet (fail)
              go_wp2_with fail
              go_roundw
              case rel => exact ⟨jj + 1, by omega, by go_num, below_drewN (kt HBX.out HA9.out) _⟩
              case measure => simp [intOf]; omega
            · have h9 : (x9, y9, z9) = (val4 l2 0 + (jj : Int), (sameN l2 q : Int), (q : Int) - (sameN l2 q : Int)) := by
                unfold capAt at hx9
                rw [if_neg (by omega), List.getElem?_map, List.getElem?_range hjl] at hx9
                exact (Option.some.inj hx9).symm
              obtain ⟨rfl, rfl, rfl⟩ : x9 = val4 l2 0 + (jj : Int) ∧ y9 = SS ∧ z9 = D := by
                rw [HQ.out, HSS.out] at h9
                have e : x9 = val4 l2 0 + (jj : Int) ∧ y9 = SS ∧ z9 = Q - SS := by simpa using h9
                exact ⟨e.1, e.2.1, by omega⟩
              have HN2 : Hid (0 < n2) := hid (by have := HQN.out; omega)
              have s1 := sameN_pos l2 q hqp
              obtain ⟨bv, ov, rfl, rv⟩ := (W2.out.kept (kt B4.out (HB.out.trans (HBX.out.mono (by omega))))).row HN2.out
              have cv := rv 0 HN2.out
              have hm0 := and3 (l2.getD 0 0)
              rw [show l2.getD 0 0 % 4 = val4 l2 0 from rfl] at hm0
              have hvb := val4_bd l2 0
              obtain ⟨hv0, hv4⟩ := hvb
              generalize l2.getD 0 0 = xz at cv hm0
              generalize val4 l2 0 = z at hm0 hv0 hv4 k0 HA9
              have cv' := kept_cell HA9.out (show wr.cell? ⟨bv, ov, none⟩ = some (.int .i64 xz) by simpa using cv)
              clear hx9 h9 hbx hA9 rv cv
              have hqp' : (0 : Int) < Q := by have := HQ.out; omega
              clear hqp s1
              go_wp2_with fail
              have t6 : decide ((0 : Int) < Q) = true := by simpa using hqp'
              have hn2 : 0 < n2 := HN2.out
              have hn2' : (0 : Int) < (n2 : Int) := by omega
              go_quiet (fail)
              go_wp2_with fail
              go_roundw
              case rel => exact ⟨jj + 1, by omega, by go_num, below_drewN (kt HBX.out HA9.out) _⟩
              case measure => simp [intOf]; omega
          · clear hbx
            go_wp2_with fail
            refine (prMay_any _ _ _ l0 _ _ _ (cntR l2 l0 k cn m q) _ (W0.out.kept (kt B4.out (HB.out.trans (HBX.out.mono (by omega))))) (HR.out.kept HBX.out) (LD0.out.up (kt B4.out (HB.out.trans (HBX.out.mono (by omega)))))).mono ?_
            rintro e t9 ⟨rfl, b9⟩
            rw [MAY.out]
            have B9 := hid (kt (kt B4.out (HB.out.trans (HBX.out.mono (by omega)))) b9)
            clear b9 q0 q1 q3
            go_wp2_with fail
            go_ret
            exact ⟨rfl, B9.out⟩

set_option maxRecDepth 100000 in
theorem lifted (os : Os) (started : os.Started) (H : Type) (enc : TypeId × Value → H) :
    ReturnsInHanded {} Tryz.checked os 4 .any (fun w args => (Rows.profCountsSpec.pre enc Tryz.prog Tryz.f4 [] false w args ∧ laidMetH Tryz.prog [("math/bits.deBruijn32tab", Rows.laid_math_bits_deBruijn32tab), ("math/bits.deBruijn64tab", Rows.laid_math_bits_deBruijn64tab), ("internal/strconv.uint64pow10", Rows.laid_internal_strconv_uint64pow10), ("errors.errorType", Rows.laid_errors_errorType), ("swage/pack.errForm", Rows.laid_swage_pack_errForm), ("swage/pack.errEnd", Rows.laid_swage_pack_errEnd)] w) ∧ sizedMet enc Tryz.prog Tryz.f4 (OpenSpec.ofChange Rows.profCountsSpec) false w args) (Rows.profCountsSpec.post enc Tryz.prog Tryz.f4 false true false false) := by
  refine returnsInHanded_of_change_and (C := Tryz.checked) (X := fun w _ => laidMetH Tryz.prog [("math/bits.deBruijn32tab", Rows.laid_math_bits_deBruijn32tab), ("math/bits.deBruijn64tab", Rows.laid_math_bits_deBruijn64tab), ("internal/strconv.uint64pow10", Rows.laid_internal_strconv_uint64pow10), ("errors.errorType", Rows.laid_errors_errorType), ("swage/pack.errForm", Rows.laid_swage_pack_errForm), ("swage/pack.errEnd", Rows.laid_swage_pack_errEnd)] w) (fun _ _ _ hh h => h.of_heap hh) own started (by kernel_rfl) Tryz.func4
    (ChangeSpec.witness_shaped (enc := enc) (C := Tryz.checked) (os := os) (X := fun w _ => laidMetH Tryz.prog [("math/bits.deBruijn32tab", Rows.laid_math_bits_deBruijn32tab), ("math/bits.deBruijn64tab", Rows.laid_math_bits_deBruijn64tab), ("internal/strconv.uint64pow10", Rows.laid_internal_strconv_uint64pow10), ("errors.errorType", Rows.laid_errors_errorType), ("swage/pack.errForm", Rows.laid_swage_pack_errForm), ("swage/pack.errEnd", Rows.laid_swage_pack_errEnd)] w) false (World.doorLaid Tryz.prog 400 os) #[.agg #[.slice none 0 0], .int .i64 0, .slice none 0 0] 8 rfl (World.shaped_of_RefB (by kernel_rfl) (by kernel_rfl)) (by kernel_rfl) (by kernel_rfl) (by kernel_rfl) (door_met os _)) ?_
  intro W base args ds gs before hval0 hW hcnd hsz0 hL _
  have hval : ∀ (j : Nat) t v, Tryz.f4.params[j]? = some t → args[j]? = some v → Value.okWide Tryz.prog W .any base t v := hval0
  have hW' := hW
  obtain ⟨p, q, hA0, hV, rfl, hfz, hnd⟩ := hW
  have hA : DataW.TrodAll enc Tryz.prog W 0 (fun _ => true) true Tryz.f4.params.toList args.toList ds p := hA0
  have hsz : (DataW.weightsEach Tryz.prog (Tryz.f4.params.toList ++ Rows.profCountsSpec.plain.varTypes Tryz.prog) (ds ++ gs)).all (· ≤ reachBytes) = true := hsz0
  rw [Tryz.params4] at hA hval hsz
  obtain ⟨v0, vs0, d0, ds0, p0, q0, hargs, rfl, rfl, h0, r0⟩ := trodAll_cons hA
  obtain ⟨v1, vs1, d1, ds1, p1, q1, rfl, rfl, rfl, h1, r1⟩ := trodAll_cons r0
  obtain ⟨v2, vs2, d2, ds2, p2, q2, rfl, rfl, rfl, h2, r2⟩ := trodAll_cons r1
  obtain ⟨rfl, rfl, rfl⟩ := trodAll_nil r2
  obtain rfl : args = #[v0, v1, v2] := by cases args; simp_all
  obtain ⟨rfl, rfl⟩ := trodVars_none hV
  have k0 := h0
  have lt0 : ∀ x ∈ p0, x.block < W.heap.size := by obtain ⟨m, hm⟩ := k0; exact DataW.trod_lt m _ _ _ hm
  have k1 := h1
  have lt1 : ∀ x ∈ p1, x.block < W.heap.size := by obtain ⟨m, hm⟩ := k1; exact DataW.trod_lt m _ _ _ hm
  have k2 := h2
  have lt2 : ∀ x ∈ p2, x.block < W.heap.size := by obtain ⟨m, hm⟩ := k2; exact DataW.trod_lt m _ _ _ hm
  obtain ⟨a0, n0, c0, l0, rfl, w0⟩ := open_program (hval 0 24 v0 rfl rfl) h0 (fun k hk => by simpa using List.all_eq_true.1 hsz k (DataW.weights_mem_each (j := 0) rfl rfl k hk))
  obtain ⟨a1, rfl, rfl, rfl, w1⟩ := open_int Tryz.underlying3 (hval 1 3 v1 rfl rfl) h1
  obtain ⟨a2, n2, c2, l2, rfl, w2⟩ := open_intsP (hval 2 28 v2 rfl rfl) h2 (fun k hk => by simpa using List.all_eq_true.1 hsz k (DataW.weights_mem_each (j := 2) rfl rfl k hk))
  clear hA0 hval0
  refine (walk a0 n0 c0 l0 a1 a2 n2 c2 l2 W w0 w1 w2 (ld_of hL)).mono fun e W' ⟨he, bel⟩ => ?_
  subst he
  exact ⟨_, rfl, _, _, _, [], _, [], hW', trodAll_mk1 (shut_bool Tryz.underlying4 _), (trodAll_cons_mk (Below.trod laidOut (by kernel_rfl) (of_decide_eq_true (by kernel_rfl)) k0 bel lt0) (trodAll_cons_mk (Below.trod laidOut (by kernel_rfl) (of_decide_eq_true (by kernel_rfl)) k1 bel lt1) (trodAll_cons_mk (Below.trod laidOut (by kernel_rfl) (of_decide_eq_true (by kernel_rfl)) k2 bel lt2) trodAll_mk0))), rfl, bel.frame _, fun h => by cases h⟩

theorem over : Rows.profCountsRow.holds Tryz.pinned (OpenSpec.ofChange Rows.profCountsSpec) :=
  OpenClaim.holds_of_wide 4 Tryz.f4 rfl rfl rfl rfl rfl rfl rfl ⟨rfl, rfl, rfl, rfl, rfl⟩ rfl rfl rfl rfl rfl (by kernel_rfl) Tryz.func4 (by kernel_rfl)
    (of_decide_eq_true (by kernel_rfl)) (by unfold Func.isWrapper; first | (rw [if_pos (by decide +kernel)]; kernel_rfl) | (rw [if_neg (by decide +kernel)]; exact ⟨rfl, rfl⟩))
    (fun os started H enc _ => lifted os started H enc)
end Go.Proofs.YtppmkoigblimmaaGreatDoor.profCounts
namespace Go.Proofs.YtppmkoigblimmaaGreatDoor
open Go
theorem profCounts_holds : Rows.ProfCountsCardSaid :=
  Claim7.holds_tied_plain_at .later [] [.data, .data, .data, .handle, .sentinel, .sentinel] true (true, "812bda82e1a40458e8dfd141f08c207631568d80ebc24ad44e2f48ba26e3f76f") true
    profCounts.over (fun _ h => by cases h) (by kernel_rfl) (fun _ h => by cases h) profCounts_row_tie rfl ⟨rfl, rfl⟩ (by kernel_rfl) rfl
    (fun f fn hf hfn => by
      obtain rfl : f = 4 := Option.some.inj ((show Tryz.prog.funcNamed "swage/swagelaw9.ProfCounts" = some 4 by kernel_rfl).symm.trans hf) |>.symm
      obtain rfl : fn = Tryz.f4 := (Option.some.inj (Tryz.func4.symm.trans hfn)).symm
      exact ⟨by kernel_rfl, fun j t ht => by
        rw [Tryz.params4] at ht
        have hm : t ∈ [24, 3, 28] := by simpa using Array.mem_of_getElem? ht
        have hall : ([24, 3, 28].all fun u => !Tryz.prog.wantsStandIn u) = true := by kernel_rfl
        exact (show Tryz.prog.wantsStandIn t = false by simpa using List.all_eq_true.1 hall t hm)⟩)
    (by kernel_rfl)
#print axioms profCounts_holds
end Go.Proofs.YtppmkoigblimmaaGreatDoor
