/- For either truth value the law LowerBack returns true: what goes back has a poll ahead, whose meta has all that stands there. (The package's variables hold what the program's text lays.) -/
import Derived.Test.YtaimpljkbpnigaaGreatDoorRows
import Derived.WalkKit
import Derived.ProofKit
import Derived.OpenShut
import Derived.ShutString
import Derived.ChangeOld
import Derived.Below
import Derived.Carry
import Derived.Lib.SmallJoins
import Derived.Handy
import Derived.WalkSmall
import Derived.SizedLaws
import Derived.Test.YtaimpljkbpnigaaGreatDoorLaidOpenV
import Derived.Test.YtaimpljkbpnigaaGreatDoorCards
import Derived.Test.YtaimpljkbpnigaaGreatDoorTie
import Derived.SevenTiedAt
import Derived.LaidMore
import Derived.Stop.Joined
import Derived.Test.YtaimpljkbpnigaaGreatDoorJ11f
import Derived.Test.YtaimpljkbpnigaaGreatDoorJ10d
import Derived.Test.YtaimpljkbpnigaaGreatDoorJ11c
import Derived.Test.YtaimpljkbpnigaaGreatDoorJ11d
import Derived.Test.YtaimpljkbpnigaaGreatDoorJ10a
import Derived.Test.YtaimpljkbpnigaaGreatDoorJ10f
namespace Go.Proofs.YtaimpljkbpnigaaGreatDoor.lowerBack
open Go.ChangeShapes Go.WideShapes Go.ChangeAt Go.RowKit
open Go.ChangeMaps (open_string shut_string)
set_option linter.unusedVariables false

theorem own : ownKnob Tryz.prog.godebug = none := by kernel_rfl
theorem laidOut : laidOutB Tryz.prog = true := by kernel_rfl

theorem inss_new {u : World} {H n : Nat} {l : List (Int × Int)} {cs : Array Value} {t : TypeId} (hH : u.heap.size = H) (hcs : cs = (flat2 l).toArray) (hn : n = l.length) (hl : l.length * 16 ≤ 140737488351232) : Inss (u.alloc (.cells cs t)) (some ⟨H, 0, none⟩) n n l := by
  subst hH
  subst hcs
  subst hn
  have := allocs_inss u [.cells (flat2 l).toArray t] 0 l t rfl hl
  simpa [allocs] using this
set_option maxHeartbeats 1000000 in
theorem small11_any (x y : Int) (a : Option Addr) (n c : Nat) (l : List (Int × Int)) (w : World) (h : Inss w a n c l) :
    Calls Tryz.prog 17 #[.int .i64 x, .int .i64 y, .slice a n c] w fun e w' => ∃ v vn vc, e = .returned (.agg #[.slice v vn vc]) ∧ Fns w' v vn vc [(x, y, l)] ∧ Below w.heap.size w w' := by
  have hA : Below w.heap.size w (w.alloc (.cells #[.slice (some ⟨w.heap.size + 1, 0, none⟩) 1 1] 24)) := Below.alloc (Below.refl _ _) (Nat.le_refl _) _
  have F := hid (fns_one (h.kept hA) x y 51)
  have B : Hid (Below w.heap.size w ((w.alloc (.cells #[.slice (some ⟨w.heap.size + 1, 0, none⟩) 1 1] 24)).alloc (.cells #[.int .i64 x, .int .i64 y, .slice a n c] 51))) := hid (Below.alloc hA (by simp) _)
  clear h hA
  go_enter Tryz.func17, Tryz.ntmps17
  go_wp2_with fail
  refine bodyPost_ret (v := .agg #[.slice (some ⟨w.heap.size + 1, 0, none⟩) 1 1]) (by simp [results, Tryz.results17, go_sem]) rfl ⟨_, _, _, rfl, ?_, ?_⟩
  · have := F.out; simp at this; simpa [go_sem] using this
  · simpa [go_sem] using B.out


def bkF : List (Int × Int) := [(0, 4), (0, 5), (11, 0), (11, 0), (12, 0)]
def bkZ : List (Int × Int) := [(0, 4), (0, 5), (2, 0), (13, 0), (0, 1), (16, 0)]
def bkFc : List IrT := [(1, 1, 0, 0, 4, [], 1, 0, 0), (1, 2, 0, 0, 5, [], 1, 0, 1), (0, 0, 0, 0, 0, [], 1, 0, 2), (0, 0, 0, 0, 0, [], 1, 0, 3), (10, 0, 0, 0, 0, [], 0, 0, 4), (4, 0, 0, 0, 0, [], 1, 0, 4)]
def bkZc : List IrT := [(1, 1, 0, 0, 4, [], 1, 0, 0), (1, 2, 0, 0, 5, [], 1, 0, 1), (2, 0, 2, 0, 0, [], 1, 0, 2), (10, 0, 0, 0, 0, [], 0, 0, 3), (5, 0, 1, 0, 0, [], 1, 0, 3), (1, 1, 0, 0, 1, [], 1, 0, 4), (8, 0, 1, 0, 0, [], 1, 0, 5)]
theorem bkF_v : lowerV [(0, 1, bkF)] 0 = (0, 9, bkFc, [[(0, 4, [(false, 0)], [])]]) ∧ lowerE [(0, 1, bkF)] 0 = 0 := ⟨by kernel_rfl, by kernel_rfl⟩
theorem bkZ_v : lowerV [(0, 1, bkZ)] 0 = (0, 9, bkZc, [[(0, 3, [(false, 0)], [(false, 1)])]]) ∧ lowerE [(0, 1, bkZ)] 0 = 0 := ⟨by kernel_rfl, by kernel_rfl⟩
theorem src_new {u : World} {H : Nat} {k : Bool} {v : Int} (hH : u.heap.size = H) : Sl laySrcs 16 (u.alloc (.cells #[.bool k, .int .i64 v] 63)) (some ⟨H, 0, none⟩) 1 1 [(k, v)] := by
  subst hH
  refine ⟨rfl, Nat.le_refl _, by omega, fun e => (by cases e), fun _ => ⟨u.heap.size, 0, rfl, fun i x hx => ?_⟩⟩
  obtain rfl : i = 0 := by have := (List.getElem?_eq_some_iff.1 hx).1; simpa using this
  cases hx
  exact ⟨by show (u.alloc _).cell? ⟨u.heap.size, 0, none⟩ = _; simp [go_sem], by show (u.alloc _).cell? ⟨u.heap.size, 1, none⟩ = _; simp [go_sem]⟩
set_option maxRecDepth 100000 in
set_option maxHeartbeats 20000000 in
theorem walk (a0 : Bool) (w : World)  (ld : Ld w) :
    Calls Tryz.prog 6 #[.bool a0] w fun e w' => e = .returned (.bool true) ∧ Below w.heap.size w w' := by
  have LD0 := hid ld
  clear ld
  go_enter Tryz.func6, Tryz.ntmps6
  go_wp2_with fail
  refine (awake11_any _ LD0.out).mono ?_
  rintro e u1 ⟨rfl, b1⟩
  have B1 := hid b1
  clear b1
  go_upto_region 4 with fail
  refine wp_name ?_
  intro U hU
  have AU : Hid (Below u1.heap.size u1 U) := hid (by rw [hU]; exact Below.alloc (Below.refl _ _) (Nat.le_refl _) _)
  have IU : Hid (Inss U (some ⟨u1.heap.size, 0, none⟩) 5 5 bkF) := hid (by rw [hU]; exact inss_new rfl rfl rfl (by decide))
  have BU := hid (kt B1.out AU.out)
  clear hU
  cases a0
  · go_wp2_with fail
    refine (small11_any _ _ _ _ _ bkF _ IU.out).mono ?_
    rintro e v1 ⟨pv, pn, pc, rfl, hp, b⟩
    have BV := hid (kt BU.out b)
    have LA := lwrLower_any pv pn pc [(0, 1, bkF)] 0 v1 hp (LD0.out.up BV.out)
    rw [bkF_v.1, bkF_v.2] at LA
    have LA2 := hid LA
    clear LA hp b
    go_wp2_with fail
    refine LA2.out.mono ?_
    rintro e v2 ⟨av, am, N1, N2, rfl, oa, oam, -, -, -, b⟩
    obtain ⟨ca, cn, cc, rfl, ra⟩ := oa.reads
    obtain ⟨ma, mn, mc, rfl, rm⟩ := oam.reads
    have hcn : cn = 6 := ra.len
    have hmn : mn = 1 := rm.len
    subst hcn
    subst hmn
    have RA := hid ra
    have RM := hid rm
    have B2 := hid (kt BV.out b)
    clear oa oam ra rm b
    go_upto_region 7 with fail
    refine wp_name ?_
    intro Y hY
    have AY : Hid (Below v2.heap.size v2 Y) := hid (by rw [hY]; exact Below.alloc (Below.refl _ _) (Nat.le_refl _) _)
    have y2 : Y.cell? ⟨v2.heap.size, 2, none⟩ = some (.slice ca 6 cc) := by rw [hY]; simp [go_sem]
    have y3 : Y.cell? ⟨v2.heap.size, 3, none⟩ = some (.slice ma 1 mc) := by rw [hY]; simp [go_sem]
    have Y23 := hid (And.intro y2 y3)
    obtain ⟨bm, om, pa, pn, pc, parts, rfl, hxm, t0, hpp⟩ := meta_at (RM.out.kept AY.out) 0 (by omega)
    have hps := (Option.some.inj hxm)
    subst hps
    have hpn : pn = 1 := hpp.len
    subst hpn
    obtain ⟨bp, op, f0, x0, la, ln, lc, ll, sa, sn, sc, sl, rfl, hxp, q0, q1, q2, q3, hll, hsl⟩ := part_at hpp 0 (by omega)
    have hpt : ((0 : Int), (4 : Int), [(false, (0 : Int))], ([] : List SrcT)) = (f0, x0, ll, sl) := Option.some.inj hxp
    cases hpt
    have LL := hid hll
    have SL := hid hsl
    have hln : ln = 1 := hll.len
    have hsn : sn = 0 := hsl.len
    subst hln
    subst hsn
    simp only [Nat.zero_mul, Nat.add_zero] at t0 q0 q1 q2 q3
    clear hY hxm hxp hpp hll hsl
    go_upto_region 11 with (first | (go_at_call 11; refine (num_any _ _).mono ?_; rintro e w' ⟨rfl, hw⟩; rw [hw]; clear hw))
    refine wp_name ?_
    intro Z hZ
    have AZ : Hid (Below Y.heap.size Y Z) := hid (by rw [hZ]; exact Below.alloc (Below.refl _ _) (Nat.le_refl _) _)
    have m0 : Z.cell? ⟨Y.heap.size, 0, none⟩ = some (.int .i64 0) := by rw [hZ]; simp [go_sem]
    have m1 : Z.cell? ⟨Y.heap.size, 1, none⟩ = some (.int .i64 4) := by rw [hZ]; simp [go_sem]
    have m2 : Z.cell? ⟨Y.heap.size, 2, none⟩ = some (.slice la 1 lc) := by rw [hZ]; simp [go_sem]
    have m3 : Z.cell? ⟨Y.heap.size, 3, none⟩ = some (.slice sa 0 sc) := by rw [hZ]; simp [go_sem]
    have MZ := hid (And.intro m0 (And.intro m1 (And.intro m2 m3)))
    have y2' := kept_cell AZ.out y2
    have VZ : Hid (Below v2.heap.size v2 Z) := hid (kt AY.out AZ.out)
    clear hZ m0 m1 m2 m3 y2 y3 t0 q0 q1 q2 q3
    obtain ⟨b1, o1, kd, r, ra, rb, k, xa1, xn1, xc1, args, cost, mt, ip, rfl, hx, e0, e1, e2, e3, e4, e5, e6, e7, e8, hargs⟩ := ir_at (RA.out.kept VZ.out) 4 (by omega)
    have hx' : ((10 : Int), (0 : Int), (0 : Int), (0 : Int), (0 : Int), ([] : List Int), (0 : Int), (0 : Int), (4 : Int)) = (kd, r, ra, rb, k, args, cost, mt, ip) := Option.some.inj hx
    cases hx'
    have IA := hid hargs
    clear hx hargs
    go_wp2_with fail
    refine (sameIr_same _ _ _ _ _ _ _ _ _ _ _ [] _ _ _ _ IA.out (Ints.nil _)).mono ?_
    rintro e s1 ⟨rfl, c1⟩
    have C1 := hid c1
    replace y2' := kept_cell c1 y2'
    clear c1 e0 e1 e2 e3 e4 e5 e6 e7 e8 IA
    obtain ⟨b2, o2, kd, r, ra, rb, k, xa2, xn2, xc2, args, cost, mt, ip, eb, hx, e0, e1, e2, e3, e4, e5, e6, e7, e8, hargs⟩ := ir_at (RA.out.kept (kt VZ.out C1.out)) 5 (by omega)
    cases eb
    have hx' : ((4 : Int), (0 : Int), (0 : Int), (0 : Int), (0 : Int), ([] : List Int), (1 : Int), (0 : Int), (4 : Int)) = (kd, r, ra, rb, k, args, cost, mt, ip) := Option.some.inj hx
    cases hx'
    have IA := hid hargs
    clear hx hargs
    go_wp2_with fail
    refine (sameIr_same _ _ _ _ _ _ _ _ _ _ _ [] _ _ _ _ IA.out (Ints.nil _)).mono ?_
    rintro e s2 ⟨rfl, c2⟩
    have C2 := hid (kt C1.out c2)
    obtain ⟨m0, m1, m2, m3⟩ := MZ.out
    replace m0 := kept_cell C2.out m0
    replace m1 := kept_cell C2.out m1
    replace m2 := kept_cell C2.out m2
    replace m3 := kept_cell C2.out m3
    clear c2 e0 e1 e2 e3 e4 e5 e6 e7 e8 IA y2'
    go_wp2_with fail
    have D1 : Hid (Below s2.heap.size s2 (s2.alloc (.cells #[.bool false, .int .i64 0] 63))) := hid (Below.alloc (Below.refl _ _) (Nat.le_refl _) _)
    refine (sameSrcs_any _ _ _ _ _ _ [(false, 0)] [(false, 0)] _ (LL.out.kept (kt AZ.out (kt C2.out D1.out))) (src_new rfl)).mono ?_
    rintro e s3 ⟨rfl, c3⟩
    rw [decide_eq_true rfl]
    have BF := hid (kt B2.out (kt VZ.out (kt C2.out (kt D1.out c3))))
    have m3 := kept_cell (kt D1.out c3) m3
    clear c3 m0 m1 m2
    go_wp2_with fail
    go_ret
    exact ⟨rfl, BF.out⟩
  · go_upto_region 6 with fail
    refine wp_name ?_
    intro X hX
    have AX : Hid (Below U.heap.size U X) := hid (by rw [hX]; exact Below.alloc (Below.refl _ _) (Nat.le_refl _) _)
    have IX : Hid (Inss X (some ⟨U.heap.size, 0, none⟩) 6 6 bkZ) := hid (by rw [hX]; exact inss_new rfl rfl rfl (by decide))
    have BX := hid (kt BU.out AX.out)
    clear hX
    go_wp2_with fail
    refine (small11_any _ _ _ _ _ bkZ _ IX.out).mono ?_
    rintro e v1 ⟨pv, pn, pc, rfl, hp, b⟩
    have BV := hid (kt BX.out b)
    have LA := lwrLower_any pv pn pc [(0, 1, bkZ)] 0 v1 hp (LD0.out.up BV.out)
    rw [bkZ_v.1, bkZ_v.2] at LA
    have LA2 := hid LA
    clear LA hp b
    go_wp2_with fail
    refine LA2.out.mono ?_
    rintro e v2 ⟨av, am, N1, N2, rfl, oa, oam, -, -, -, b⟩
    obtain ⟨ca, cn, cc, rfl, ra⟩ := oa.reads
    obtain ⟨ma, mn, mc, rfl, rm⟩ := oam.reads
    have hcn : cn = 7 := ra.len
    have hmn : mn = 1 := rm.len
    subst hcn
    subst hmn
    have RA := hid ra
    have RM := hid rm
    have B2 := hid (kt BV.out b)
    clear oa oam ra rm b
    go_upto_region 7 with fail
    refine wp_name ?_
    intro Y hY
    have AY : Hid (Below v2.heap.size v2 Y) := hid (by rw [hY]; exact Below.alloc (Below.refl _ _) (Nat.le_refl _) _)
    have y2 : Y.cell? ⟨v2.heap.size, 2, none⟩ = some (.slice ca 7 cc) := by rw [hY]; simp [go_sem]
    have y3 : Y.cell? ⟨v2.heap.size, 3, none⟩ = some (.slice ma 1 mc) := by rw [hY]; simp [go_sem]
    have Y23 := hid (And.intro y2 y3)
    obtain ⟨bm, om, pa, pn, pc, parts, rfl, hxm, t0, hpp⟩ := meta_at (RM.out.kept AY.out) 0 (by omega)
    have hps := (Option.some.inj hxm)
    subst hps
    have hpn : pn = 1 := hpp.len
    subst hpn
    obtain ⟨bp, op, f0, x0, la, ln, lc, ll, sa, sn, sc, sl, rfl, hxp, q0, q1, q2, q3, hll, hsl⟩ := part_at hpp 0 (by omega)
    have hpt : ((0 : Int), (3 : Int), [(false, (0 : Int))], [(false, (1 : Int))]) = (f0, x0, ll, sl) := Option.some.inj hxp
    cases hpt
    have LL := hid hll
    have SL := hid hsl
    have hln : ln = 1 := hll.len
    have hsn : sn = 1 := hsl.len
    subst hln
    subst hsn
    simp only [Nat.zero_mul, Nat.add_zero] at t0 q0 q1 q2 q3
    clear hY hxm hxp hpp hll hsl
    go_upto_region 12 with (first | (go_at_call 11; refine (num_any _ _).mono ?_; rintro e w' ⟨rfl, hw⟩; rw [hw]; clear hw))
    refine wp_name ?_
    intro Z hZ
    have AZ : Hid (Below Y.heap.size Y Z) := hid (by rw [hZ]; exact Below.alloc (Below.refl _ _) (Nat.le_refl _) _)
    have m0 : Z.cell? ⟨Y.heap.size, 0, none⟩ = some (.int .i64 0) := by rw [hZ]; simp [go_sem]
    have m1 : Z.cell? ⟨Y.heap.size, 1, none⟩ = some (.int .i64 3) := by rw [hZ]; simp [go_sem]
    have m2 : Z.cell? ⟨Y.heap.size, 2, none⟩ = some (.slice la 1 lc) := by rw [hZ]; simp [go_sem]
    have m3 : Z.cell? ⟨Y.heap.size, 3, none⟩ = some (.slice sa 1 sc) := by rw [hZ]; simp [go_sem]
    have MZ := hid (And.intro m0 (And.intro m1 (And.intro m2 m3)))
    have y2' := kept_cell AZ.out y2
    have VZ : Hid (Below v2.heap.size v2 Z) := hid (kt AY.out AZ.out)
    clear hZ m0 m1 m2 m3 y2 y3 t0 q0 q1 q2 q3
    obtain ⟨b1, o1, kd, r, ra, rb, k, xa1, xn1, xc1, args, cost, mt, ip, rfl, hx, e0, e1, e2, e3, e4, e5, e6, e7, e8, hargs⟩ := ir_at (RA.out.kept VZ.out) 3 (by omega)
    have hx' : ((10 : Int), (0 : Int), (0 : Int), (0 : Int), (0 : Int), ([] : List Int), (0 : Int), (0 : Int), (3 : Int)) = (kd, r, ra, rb, k, args, cost, mt, ip) := Option.some.inj hx
    cases hx'
    have IA := hid hargs
    clear hx hargs
    go_wp2_with fail
    refine (sameIr_same _ _ _ _ _ _ _ _ _ _ _ [] _ _ _ _ IA.out (Ints.nil _)).mono ?_
    rintro e s1 ⟨rfl, c1⟩
    have C1 := hid c1
    replace y2' := kept_cell c1 y2'
    clear c1 e0 e1 e2 e3 e4 e5 e6 e7 e8 IA
    obtain ⟨b2, o2, kd, r, ra, rb, k, xa2, xn2, xc2, args, cost, mt, ip, eb, hx, e0, e1, e2, e3, e4, e5, e6, e7, e8, hargs⟩ := ir_at (RA.out.kept (kt VZ.out C1.out)) 4 (by omega)
    cases eb
    have hx' : ((5 : Int), (0 : Int), (1 : Int), (0 : Int), (0 : Int), ([] : List Int), (1 : Int), (0 : Int), (3 : Int)) = (kd, r, ra, rb, k, args, cost, mt, ip) := Option.some.inj hx
    cases hx'
    have IA := hid hargs
    clear hx hargs
    go_wp2_with fail
    refine (sameIr_same _ _ _ _ _ _ _ _ _ _ _ [] _ _ _ _ IA.out (Ints.nil _)).mono ?_
    rintro e s2 ⟨rfl, c2⟩
    have C2 := hid (kt C1.out c2)
    obtain ⟨m0, m1, m2, m3⟩ := MZ.out
    replace m0 := kept_cell C2.out m0
    replace m1 := kept_cell C2.out m1
    replace m2 := kept_cell C2.out m2
    replace m3 := kept_cell C2.out m3
    clear c2 e0 e1 e2 e3 e4 e5 e6 e7 e8 IA y2'
    go_wp2_with fail
    have D1 : Hid (Below s2.heap.size s2 (s2.alloc (.cells #[.bool false, .int .i64 1] 63))) := hid (Below.alloc (Below.refl _ _) (Nat.le_refl _) _)
    refine (sameSrcs_any _ _ _ _ _ _ [(false, 1)] [(false, 1)] _ (SL.out.kept (kt AZ.out (kt C2.out D1.out))) (src_new rfl)).mono ?_
    rintro e s3 ⟨rfl, c3⟩
    rw [decide_eq_true rfl]
    have C3 := hid (kt C2.out (kt D1.out c3))
    have m2 := kept_cell (kt D1.out c3) m2
    clear c3 m0 m1 m3
    go_wp2_with fail
    have D2 : Hid (Below s3.heap.size s3 (s3.alloc (.cells #[.bool false, .int .i64 0] 63))) := hid (Below.alloc (Below.refl _ _) (Nat.le_refl _) _)
    refine (sameSrcs_any _ _ _ _ _ _ [(false, 0)] [(false, 0)] _ (LL.out.kept (kt AZ.out (kt C3.out D2.out))) (src_new rfl)).mono ?_
    rintro e s4 ⟨rfl, c4⟩
    rw [decide_eq_true rfl]
    have BF := hid (kt B2.out (kt VZ.out (kt C3.out (kt D2.out c4))))
    clear c4 m2
    go_wp2_with fail
    go_ret
    exact ⟨rfl, BF.out⟩

set_option maxRecDepth 100000 in
theorem lifted (os : Os) (started : os.Started) (H : Type) (enc : TypeId × Value → H) :
    ReturnsInHanded {} Tryz.checked os 6 .any (fun w args => (Rows.lowerBackSpec.pre enc Tryz.prog Tryz.f6 [] false w args ∧ laidMetH Tryz.prog [("math/bits.deBruijn32tab", Rows.laid_math_bits_deBruijn32tab), ("math/bits.deBruijn64tab", Rows.laid_math_bits_deBruijn64tab), ("internal/strconv.uint64pow10", Rows.laid_internal_strconv_uint64pow10), ("errors.errorType", Rows.laid_errors_errorType), ("swage/pack.errForm", Rows.laid_swage_pack_errForm), ("swage/pack.errEnd", Rows.laid_swage_pack_errEnd)] w) ∧ sizedMet enc Tryz.prog Tryz.f6 (OpenSpec.ofChange Rows.lowerBackSpec) false w args) (Rows.lowerBackSpec.post enc Tryz.prog Tryz.f6 false true false false) := by
  refine returnsInHanded_of_change_and (C := Tryz.checked) (X := fun w _ => laidMetH Tryz.prog [("math/bits.deBruijn32tab", Rows.laid_math_bits_deBruijn32tab), ("math/bits.deBruijn64tab", Rows.laid_math_bits_deBruijn64tab), ("internal/strconv.uint64pow10", Rows.laid_internal_strconv_uint64pow10), ("errors.errorType", Rows.laid_errors_errorType), ("swage/pack.errForm", Rows.laid_swage_pack_errForm), ("swage/pack.errEnd", Rows.laid_swage_pack_errEnd)] w) (fun _ _ _ hh h => h.of_heap hh) own started (by kernel_rfl) Tryz.func6
    (ChangeSpec.witness_shaped (enc := enc) (C := Tryz.checked) (os := os) (X := fun w _ => laidMetH Tryz.prog [("math/bits.deBruijn32tab", Rows.laid_math_bits_deBruijn32tab), ("math/bits.deBruijn64tab", Rows.laid_math_bits_deBruijn64tab), ("internal/strconv.uint64pow10", Rows.laid_internal_strconv_uint64pow10), ("errors.errorType", Rows.laid_errors_errorType), ("swage/pack.errForm", Rows.laid_swage_pack_errForm), ("swage/pack.errEnd", Rows.laid_swage_pack_errEnd)] w) false (World.doorLaid Tryz.prog 400 os) #[.bool false] 8 rfl (World.shaped_of_RefB (by kernel_rfl) (by kernel_rfl)) (by kernel_rfl) (by kernel_rfl) (by kernel_rfl) (door_met os _)) ?_
  intro W base args ds gs before hval0 hW hcnd hsz0 hL _
  have hval : ∀ (j : Nat) t v, Tryz.f6.params[j]? = some t → args[j]? = some v → Value.okWide Tryz.prog W .any base t v := hval0
  have hW' := hW
  obtain ⟨p, q, hA0, hV, rfl, hfz, hnd⟩ := hW
  have hA : DataW.TrodAll enc Tryz.prog W 0 (fun _ => true) true Tryz.f6.params.toList args.toList ds p := hA0
  have hsz : (DataW.weightsEach Tryz.prog (Tryz.f6.params.toList ++ Rows.lowerBackSpec.plain.varTypes Tryz.prog) (ds ++ gs)).all (· ≤ reachBytes) = true := hsz0
  rw [Tryz.params6] at hA hval hsz
  obtain ⟨v0, vs0, d0, ds0, p0, q0, hargs, rfl, rfl, h0, r0⟩ := trodAll_cons hA
  obtain ⟨rfl, rfl, rfl⟩ := trodAll_nil r0
  obtain rfl : args = #[v0] := by cases args; simp_all
  obtain ⟨rfl, rfl⟩ := trodVars_none hV
  have k0 := h0
  have lt0 : ∀ x ∈ p0, x.block < W.heap.size := by obtain ⟨m, hm⟩ := k0; exact DataW.trod_lt m _ _ _ hm
  obtain ⟨a0, rfl, rfl, rfl⟩ := open_bool Tryz.underlying4 (hval 0 4 v0 rfl rfl) h0
  clear hA0 hval0
  refine (walk a0 W  (ld_of hL)).mono fun e W' ⟨he, bel⟩ => ?_
  subst he
  exact ⟨_, rfl, _, _, _, [], _, [], hW', trodAll_mk1 (shut_bool Tryz.underlying4 _), (trodAll_cons_mk (Below.trod laidOut (by kernel_rfl) (of_decide_eq_true (by kernel_rfl)) k0 bel lt0) trodAll_mk0), rfl, bel.frame _, fun h => by cases h⟩

theorem over : Rows.lowerBackRow.holds Tryz.pinned (OpenSpec.ofChange Rows.lowerBackSpec) :=
  OpenClaim.holds_of_wide 6 Tryz.f6 rfl rfl rfl rfl rfl rfl rfl ⟨rfl, rfl, rfl, rfl, rfl⟩ rfl rfl rfl rfl rfl (by kernel_rfl) Tryz.func6 (by kernel_rfl)
    (of_decide_eq_true (by kernel_rfl)) (by unfold Func.isWrapper; first | (rw [if_pos (by decide +kernel)]; kernel_rfl) | (rw [if_neg (by decide +kernel)]; exact ⟨rfl, rfl⟩))
    (fun os started H enc _ => lifted os started H enc)
end Go.Proofs.YtaimpljkbpnigaaGreatDoor.lowerBack
namespace Go.Proofs.YtaimpljkbpnigaaGreatDoor
open Go
theorem lowerBack_holds : Rows.LowerBackCardSaid :=
  Claim7.holds_tied_plain_at .later [] [.data, .data, .data, .handle, .sentinel, .sentinel] true (true, "51ad92c745e9affde3203d71f52c7c02a7ce038a9bed1ac76f940f19edd66073") true
    lowerBack.over (fun _ h => by cases h) (by kernel_rfl) (fun _ h => by cases h) lowerBack_row_tie rfl ⟨rfl, rfl⟩ (by kernel_rfl) rfl
    (fun f fn hf hfn => by
      obtain rfl : f = 6 := Option.some.inj ((show Tryz.prog.funcNamed "swage/swagelaw11.LowerBack" = some 6 by kernel_rfl).symm.trans hf) |>.symm
      obtain rfl : fn = Tryz.f6 := (Option.some.inj (Tryz.func6.symm.trans hfn)).symm
      exact ⟨by kernel_rfl, fun j t ht => by
        rw [Tryz.params6] at ht
        have hm : t ∈ [4] := by simpa using Array.mem_of_getElem? ht
        have hall : ([4].all fun u => !Tryz.prog.wantsStandIn u) = true := by kernel_rfl
        exact (show Tryz.prog.wantsStandIn t = false by simpa using List.all_eq_true.1 hall t hm)⟩)
    (by kernel_rfl)
#print axioms lowerBack_holds
end Go.Proofs.YtaimpljkbpnigaaGreatDoor
