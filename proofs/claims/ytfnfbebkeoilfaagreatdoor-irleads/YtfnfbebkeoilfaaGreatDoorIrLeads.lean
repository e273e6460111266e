/- For any list of integers the law IrLeads returns true: of a row of jumps each place that is gone to, and each one behind a jump, is a leader, and nothing else is. (The package's variables hold what the program's text lays.) -/
import Derived.Test.YtfnfbebkeoilfaaGreatDoorRows
import Derived.WalkKit
import Derived.ProofKit
import Derived.OpenShut
import Derived.ShutString
import Derived.ChangeOld
import Derived.Below
import Derived.Carry
import Derived.Lib.SmallJoins
import Derived.Handy
import Derived.WalkSmall
import Derived.SizedLaws
import Derived.Test.YtfnfbebkeoilfaaGreatDoorJ1o
import Derived.Test.YtfnfbebkeoilfaaGreatDoorLaidOpenV
import Derived.Test.YtfnfbebkeoilfaaGreatDoorCards
import Derived.Test.YtfnfbebkeoilfaaGreatDoorTie
import Derived.SevenTiedAt
import Derived.LaidMore
import Derived.Stop.Joined
import Derived.Test.YtfnfbebkeoilfaaGreatDoorJ10f
import Derived.Test.YtfnfbebkeoilfaaGreatDoorJ10h
import Derived.Test.YtfnfbebkeoilfaaGreatDoorJ10c
import Derived.Test.YtfnfbebkeoilfaaGreatDoorJ10d
import Derived.Test.YtfnfbebkeoilfaaGreatDoorJ10g
namespace Go.Proofs.YtfnfbebkeoilfaaGreatDoor.irLeads
open Go.ChangeShapes Go.WideShapes Go.ChangeAt Go.RowKit
open Go.ChangeMaps (open_string shut_string)
set_option linter.unusedVariables false

theorem own : ownKnob Tryz.prog.godebug = none := by kernel_rfl
theorem laidOut : laidOutB Tryz.prog = true := by kernel_rfl

theorem and3 (n : Int) : bits .and .i64 n 3 = n % 4 := by
  have hm : (BitVec.ofInt 64 3).toNat = 2 ^ 2 - 1 := by decide
  show IntKind.i64.wrap ((BitVec.ofInt 64 n &&& BitVec.ofInt 64 3).toNat : Nat) = n % 4
  rw [BitVec.toNat_and, BitVec.toNat_ofInt, hm, Nat.and_two_pow_sub_one_eq_mod, IntKind.wrap_i64]
  omega
def toV (k : Nat) (t : Int) : Int := (IntKind.u64.wrap (t / 4)).tmod ((k : Int) + 1)
theorem app_after {V w5 w6 : World} {G g' cap' q : Nat} {c : Value} {l : List IrT} {t : List (List Value)} {F : Nat → Nat → Prop} {Bx : Nat → Prop} {cs : List Value} {y : IrT} (sn : SnocIn layIr 42 V (fun b => G < b) c l t F) (hq : l.length = q) (hr : (q + 1) * 88 ≤ 140737488351232)
    (ho : w6.ownsRow 0 42 layIr.size (.slice (some ⟨g', 0, none⟩) (q + 1) cap') (q + 1) (t.flatten ++ cs)) (hg : w5.grownBy w6 c.ownBlock) (hat : c.ownBlock = some g' ∨ g' = w5.heap.size) (bl : Below V.heap.size V w5) (hx : layIr.owns w5 Bx cs y) (hbx : ∀ b, Bx b → V.heap.size ≤ b) (hG : G < V.heap.size) :
    OSl layIr 42 88 w6 (fun b => G < b) (.slice (some ⟨g', 0, none⟩) (q + 1) cap') (l ++ [y]) ∧ Frm (fun b => G < b) V w6 :=
  ⟨(sn.snoc hq hr ho hg hat bl hx hbx).sub (fun b hb _ => by rcases hb with hb | hb; exact hb; show G < b; omega),
   (Frm.of_below bl).trans (Frm.of_grown hg (fun k hk => (sn.own k hk).1.1)) (fun _ _ h => h)⟩
theorem bools_setB (bs : List Bool) (i : Nat) (v : Bool) : (bools bs).set i (.bool v) = bools (bs.set i v) := by
  unfold bools; rw [List.map_set]
theorem mark_put {w : World} {g n base : Nat} {bs : List Bool} (h : MarkSt w g n base bs) (i : Nat) (v : Bool) : MarkSt (w.setCell ⟨g, i, none⟩ (.bool v)) g n base (bs.set i v) := by
  refine ⟨by simpa using h.len, ?_⟩
  have := (h.row.stored i (.bool v)).1
  rw [bools_setB] at this
  exact this
theorem mark_bools {w : World} {g n base : Nat} {bs : List Bool} (h : MarkSt w g n base bs) (hn : n * 8 ≤ 140737488351232) : Bools w (some ⟨g, 0, none⟩) n n bs := by
  have hl := h.len
  subst hl
  obtain ⟨_, _, _, e, hb⟩ := bools_of_owns h.row hn
  cases e
  exact hb
theorem set_same {bs : List Bool} {i : Nat} {v : Bool} (h : bs.getD i false = v) (hi : i < bs.length) : bs.set i v = bs := by
  subst h
  rw [List.getD_eq_getElem?_getD, List.getElem?_eq_getElem hi]
  exact List.set_getElem_self hi
set_option maxRecDepth 100000 in
set_option maxHeartbeats 20000000 in
theorem walk (a0 : Option Addr) (n0 c0 : Nat) (l0 : List Int) (w : World) (w0 : Ints w a0 n0 c0 l0) (ld : Ld w) :
    Calls Tryz.prog 5 #[.slice a0 n0 c0] w fun e w' => e = .returned (.bool true) ∧ Below w.heap.size w w' := by
  have LD0 := hid ld
  clear ld
  have W0 := hid w0
  have LN := hid w0.len
  have hcr := w0.room
  have hcc := w0.cap
  clear w0
  obtain ⟨i0, hi, hz0, hz1, hz2⟩ := info_parts Tryz.infoIr
  obtain ⟨k, hk⟩ : ∃ k : Nat, min (n0 : Int) 30 = (k : Int) := ⟨min n0 30, by omega⟩
  have HK : Hid (k ≤ n0 ∧ k ≤ 30) := hid (by omega)
  have hmk := run_make_row' (P := Tryz.prog) 32 4 (.bool false) 1 Tryz.underlying32 Tryz.infoBool rfl .i64 .i64 (k + 1) (by have := HK.out; omega) (by have := HK.out; omega)
  rw [Int.natCast_add, Int.natCast_one] at hmk
  go_enter Tryz.func5, Tryz.ntmps5
  go_wp2_with fail
  refine (awake10_any _ LD0.out).mono ?_
  rintro e w1 ⟨rfl, b1⟩
  have B1 := hid b1
  clear b1
  go_upto_region 5 with fail
  have hk30 : k ≤ 30 := HK.out.2
  go_upto_region 6 with fail
  clear hk
  refine wp_name ?_
  intro U hU
  have AU : Hid (Below w1.heap.size w1 U) := hid (by rw [hU]; exact Below.alloc (Below.refl _ _) (Nat.le_refl _) _)
  have ST : Hid (MarkSt U w1.heap.size (k + 1) w1.heap.size (List.replicate (k + 1) false)) := hid (by rw [hU]; exact MarkSt.make w1 (k + 1) _ (Nat.le_refl _) (by unfold maxLen; omega))
  have j0 := ST.out.at 0 (by omega)
  have jf := ST.out.free 0
  clear hU hmk
  go_upto_region 7 with fail
  refine wp_name ?_
  intro V hV
  obtain ⟨f, hf⟩ : ∃ f : Nat → Int × Int, f = fun i => (l0.getD i 0 % 4, toV k (l0.getD i 0)) := ⟨_, rfl⟩
  have AV : Hid (Below w1.heap.size w1 V) := hid (by rw [hV]; exact AU.out.setCell (Nat.le_refl _) _)
  have SV : Hid (MarkSt V w1.heap.size (k + 1) w1.heap.size (wantJ f k 0)) := hid (by rw [hV, wantJ_zero]; exact ST.out.put 0)
  have OV : Hid (OSl layIr 42 88 V (fun b => w1.heap.size < b) (.slice none 0 0) (codeJ f 0)) := hid (OSl.nil _ _ _ _ _)
  have ZV : Hid (w1.heap.size < V.heap.size) := hid (SV.out.lt.2)
  clear hV j0 jf ST AU
  go_wp2_with fail
  go_loopw [4, 6] (fun c i wr => ∃ q : Nat, q ≤ k ∧ i = .int .i64 q ∧ OSl layIr 42 88 wr (fun b => w1.heap.size < b) c (codeJ f q) ∧ MarkSt wr w1.heap.size (k + 1) w1.heap.size (wantJ f k q) ∧ Below w1.heap.size w1 wr) (fun _ i _ => k - (intOf i).toNat)
  case atStart => exact ⟨0, Nat.zero_le _, rfl, OV.out, SV.out, AV.out⟩
  case round =>
    clear OV SV AV ZV
    obtain ⟨q, hq, rfl, oc, st, hb⟩ := hrel
    obtain ⟨Z, hZ⟩ : ∃ Z : World, Z = wr := ⟨_, rfl⟩
    subst hZ
    have hzs := st.lt.2
    have ST := hid st
    have HB := hid hb
    have OC := hid oc
    obtain ⟨va, vn, vc, rfl, vs⟩ := oc.reads
    have hvn : vn = q := by have := vs.len; rw [codeJ_len] at this; exact this
    subst hvn
    have hvc := vs.cap
    clear st hb oc vs
    by_cases hlt : vn < k
    · obtain ⟨b, o, rfl, hr⟩ := W0.out.row (by have := HK.out; omega)
      have hbw := lt_of_cell (hr vn (by have := HK.out; omega))
      have hbz : b < w1.heap.size := Nat.lt_of_lt_of_le hbw B1.out.size
      have e0 := (kept_cell (kt B1.out HB.out) (hr vn (by have := HK.out; omega)))
      obtain ⟨t, ht⟩ : ∃ t : Int, l0.getD vn 0 = t := ⟨_, rfl⟩
      rw [ht] at e0
      clear hr hbw
      have hm := and3 t
      have hq0 : vn < n0 := by have := HK.out; omega
      obtain ⟨hT0, hT1⟩ := umod_bd (t / 4) ((k : Int) + 1) (by omega)
      obtain ⟨tN, hT⟩ : ∃ tN : Nat, (IntKind.u64.wrap (t / 4)).tmod ((k : Int) + 1) = (tN : Int) := ⟨_, (Int.toNat_of_nonneg hT0).symm⟩
      have htk : tN < k + 1 := by omega
      have FQ : Hid (f vn = (t % 4, (tN : Int))) := hid (by rw [hf]; show (l0.getD vn 0 % 4, toV k (l0.getD vn 0)) = _; rw [ht]; unfold toV; rw [hT])
      have hc : t % 4 = 0 ∨ t % 4 = 1 ∨ t % 4 = 2 ∨ t % 4 = 3 := by omega
      have ht4 : vn + 1 < k + 1 := by omega
      clear hT0 hT1 ht hf
      rcases hc with h | h | h | h
      · rw [h] at hm FQ
        clear h
        have hA4 : Below Z.heap.size Z (Z.alloc (.cells #[.int .i64 4, .int .i64 0, .int .i64 0, .int .i64 0, .int .i64 (tN : Int), .slice none 0 0, .int .i64 1, .int .i64 0, .int .i64 0] 42)) := Below.alloc (Below.refl _ _) (Nat.le_refl _) _
        have L4 := hid hA4
        have OX := hid (ir_owns (w := (Z.alloc (.cells #[.int .i64 4, .int .i64 0, .int .i64 0, .int .i64 0, .int .i64 (tN : Int), .slice none 0 0, .int .i64 1, .int .i64 0, .int .i64 0] 42))) (kd :=  4) (r := 0) (ra := 0) (rb := 0) (k :=  (tN : Int)) (cost :=  1) (mt := 0) (ip := 0) (OSl.nil layI 3 8 (Z.alloc (.cells #[.int .i64 4, .int .i64 0, .int .i64 0, .int .i64 0, .int .i64 (tN : Int), .slice none 0 0, .int .i64 1, .int .i64 0, .int .i64 0] 42)) (fun _ => False)))
        obtain ⟨t', F', sn⟩ := OC.out.snocIn
        have SN := hid sn
        have HRW : Hid (Z.ownsRow 0 42 9 (.slice va vn vc) vn t'.flatten) := hid (by have := sn.row; rwa [(codeJ_len f vn)] at this)
        clear hA4 sn
        go_upto_region 21 with (at_builtin; refine wpList_append_lies _ rfl _ _ 25 rfl 0 42 i0 (.agg #[.int .i64 0, .int .i64 0, .int .i64 0, .int .i64 0, .int .i64 0, .slice none 0 0, .int .i64 0, .int .i64 0, .int .i64 0]) 9 88 Tryz.underlying25 hi hz0 hz1 hz2 rfl (by decide) (.slice va vn vc) vn t'.flatten rfl (owns_kept HRW.out L4.out) ⟨Z.heap.size, 0, none⟩ 1 1 [.int .i64 4, .int .i64 0, .int .i64 0, .int .i64 0, .int .i64 (tN : Int), .slice none 0 0, .int .i64 1, .int .i64 0, .int .i64 0] rfl rfl (news_of rfl _ 42) (by intro u hu; simp only [List.mem_cons, List.not_mem_nil, or_false] at hu; rcases hu with rfl | rfl | rfl | rfl | rfl | rfl | rfl | rfl | rfl <;> rfl) (by decide) (by unfold maxLen; omega) (by omega) (Nat.zero_le _) (Z.heap.size + 1) (by simp) ?_; intro g cap w6 ho6 hg6 hat hlt6; have P := hid (app_after SN.out (codeJ_len f vn) (by omega) ho6 hg6 (by simpa using hat) L4.out OX.out (fun b hb => hb.elim) hzs); have M6 := hid (ST.out.frm P.out.2 (Nat.lt_irrefl _)); have e6 := P.out.2.cell e0 (by omega); have x0 := M6.out.at tN htk; have xf := M6.out.free tN; clear e0; clear ho6 hg6 hat hlt6)
        refine wp_name ?_
        intro Y hY
        have MY : Hid (MarkSt Y w1.heap.size (k + 1) w1.heap.size ((wantJ f k vn).set tN true)) := hid (by rw [hY]; exact M6.out.put tN)
        have OY : Hid (OSl layIr 42 88 Y (fun b => w1.heap.size < b) (.slice (some ⟨g, 0, none⟩) (vn + 1) cap) (codeJ f (vn + 1))) := hid (by rw [hY, codeJ_succ, FQ.out]; exact P.out.1.set _ _ (Nat.lt_irrefl _))
        have BY : Hid (Below w1.heap.size w1 Y) := hid (by rw [hY]; exact (HB.out.trans (P.out.2.below (Nat.le_of_lt hzs) (fun k hk => by omega))).setCell (Nat.le_refl _) _)
        have e7 : Y.cell? ⟨b, o + vn, none⟩ = some (.int .i64 t) := by rw [hY]; exact cell_set_far e6 (by show b ≠ w1.heap.size; omega)
        clear hY e6 x0 xf
        obtain ⟨bb, hbb⟩ : ∃ bb : Bool, ((wantJ f k vn).set tN true).getD (vn + 1) false = bb := ⟨_, rfl⟩
        have g1 := MY.out.at (vn + 1) ht4
        have g2 := MY.out.free (vn + 1)
        rw [hbb] at g1
        cases bb
        · go_wp2_with fail
          go_roundw
          case rel => exact ⟨vn + 1, hlt, by go_num, OY.out.set _ _ (Nat.lt_irrefl _), by rw [wantJ_go hlt FQ.out (.inl rfl) (Nat.le_of_lt_succ htk)]; exact mark_put MY.out (vn + 1) true, BY.out.setCell (Nat.le_refl _) _⟩
          case measure => simp [intOf]; omega
        · go_wp2_with fail
          go_roundw
          case rel => exact ⟨vn + 1, hlt, by go_num, OY.out.set _ _ (Nat.lt_irrefl _), by rw [wantJ_go hlt FQ.out (.inl rfl) (Nat.le_of_lt_succ htk)]; exact mark_put MY.out (vn + 1) true, BY.out.setCell (Nat.le_refl _) _⟩
          case measure => simp [intOf]; omega
      · rw [h] at hm FQ
        clear h
        have hA4 : Below Z.heap.size Z (Z.alloc (.cells #[.int .i64 5, .int .i64 0, .int .i64 0, .int .i64 0, .int .i64 (tN : Int), .slice none 0 0, .int .i64 1, .int .i64 0, .int .i64 0] 42)) := Below.alloc (Below.refl _ _) (Nat.le_refl _) _
        have L4 := hid hA4
        have OX := hid (ir_owns (w := (Z.alloc (.cells #[.int .i64 5, .int .i64 0, .int .i64 0, .int .i64 0, .int .i64 (tN : Int), .slice none 0 0, .int .i64 1, .int .i64 0, .int .i64 0] 42))) (kd :=  5) (r := 0) (ra := 0) (rb := 0) (k :=  (tN : Int)) (cost :=  1) (mt := 0) (ip := 0) (OSl.nil layI 3 8 (Z.alloc (.cells #[.int .i64 5, .int .i64 0, .int .i64 0, .int .i64 0, .int .i64 (tN : Int), .slice none 0 0, .int .i64 1, .int .i64 0, .int .i64 0] 42)) (fun _ => False)))
        obtain ⟨t', F', sn⟩ := OC.out.snocIn
        have SN := hid sn
        have HRW : Hid (Z.ownsRow 0 42 9 (.slice va vn vc) vn t'.flatten) := hid (by have := sn.row; rwa [(codeJ_len f vn)] at this)
        clear hA4 sn
        go_upto_region 21 with (at_builtin; refine wpList_append_lies _ rfl _ _ 25 rfl 0 42 i0 (.agg #[.int .i64 0, .int .i64 0, .int .i64 0, .int .i64 0, .int .i64 0, .slice none 0 0, .int .i64 0, .int .i64 0, .int .i64 0]) 9 88 Tryz.underlying25 hi hz0 hz1 hz2 rfl (by decide) (.slice va vn vc) vn t'.flatten rfl (owns_kept HRW.out L4.out) ⟨Z.heap.size, 0, none⟩ 1 1 [.int .i64 5, .int .i64 0, .int .i64 0, .int .i64 0, .int .i64 (tN : Int), .slice none 0 0, .int .i64 1, .int .i64 0, .int .i64 0] rfl rfl (news_of rfl _ 42) (by intro u hu; simp only [List.mem_cons, List.not_mem_nil, or_false] at hu; rcases hu with rfl | rfl | rfl | rfl | rfl | rfl | rfl | rfl | rfl <;> rfl) (by decide) (by unfold maxLen; omega) (by omega) (Nat.zero_le _) (Z.heap.size + 1) (by simp) ?_; intro g cap w6 ho6 hg6 hat hlt6; have P := hid (app_after SN.out (codeJ_len f vn) (by omega) ho6 hg6 (by simpa using hat) L4.out OX.out (fun b hb => hb.elim) hzs); have M6 := hid (ST.out.frm P.out.2 (Nat.lt_irrefl _)); have e6 := P.out.2.cell e0 (by omega); have x0 := M6.out.at tN htk; have xf := M6.out.free tN; clear e0; clear ho6 hg6 hat hlt6)
        refine wp_name ?_
        intro Y hY
        have MY : Hid (MarkSt Y w1.heap.size (k + 1) w1.heap.size ((wantJ f k vn).set tN true)) := hid (by rw [hY]; exact M6.out.put tN)
        have OY : Hid (OSl layIr 42 88 Y (fun b => w1.heap.size < b) (.slice (some ⟨g, 0, none⟩) (vn + 1) cap) (codeJ f (vn + 1))) := hid (by rw [hY, codeJ_succ, FQ.out]; exact P.out.1.set _ _ (Nat.lt_irrefl _))
        have BY : Hid (Below w1.heap.size w1 Y) := hid (by rw [hY]; exact (HB.out.trans (P.out.2.below (Nat.le_of_lt hzs) (fun k hk => by omega))).setCell (Nat.le_refl _) _)
        have e7 : Y.cell? ⟨b, o + vn, none⟩ = some (.int .i64 t) := by rw [hY]; exact cell_set_far e6 (by show b ≠ w1.heap.size; omega)
        clear hY e6 x0 xf
        obtain ⟨bb, hbb⟩ : ∃ bb : Bool, ((wantJ f k vn).set tN true).getD (vn + 1) false = bb := ⟨_, rfl⟩
        have g1 := MY.out.at (vn + 1) ht4
        have g2 := MY.out.free (vn + 1)
        rw [hbb] at g1
        cases bb
        · go_wp2_with fail
          go_roundw
          case rel => exact ⟨vn + 1, hlt, by go_num, OY.out.set _ _ (Nat.lt_irrefl _), by rw [wantJ_go hlt FQ.out (.inr rfl) (Nat.le_of_lt_succ htk)]; exact mark_put MY.out (vn + 1) true, BY.out.setCell (Nat.le_refl _) _⟩
          case measure => simp [intOf]; omega
        · go_wp2_with fail
          go_roundw
          case rel => exact ⟨vn + 1, hlt, by go_num, OY.out.set _ _ (Nat.lt_irrefl _), by rw [wantJ_go hlt FQ.out (.inr rfl) (Nat.le_of_lt_succ htk)]; exact mark_put MY.out (vn + 1) true, BY.out.setCell (Nat.le_refl _) _⟩
          case measure => simp [intOf]; omega
      · rw [h] at hm FQ
        clear h
        have hA4 : Below Z.heap.size Z (Z.alloc (.cells #[.int .i64 8, .int .i64 0, .int .i64 0, .int .i64 0, .int .i64 0, .slice none 0 0, .int .i64 0, .int .i64 0, .int .i64 0] 42)) := Below.alloc (Below.refl _ _) (Nat.le_refl _) _
        have L4 := hid hA4
        have OX := hid (ir_owns (w := (Z.alloc (.cells #[.int .i64 8, .int .i64 0, .int .i64 0, .int .i64 0, .int .i64 0, .slice none 0 0, .int .i64 0, .int .i64 0, .int .i64 0] 42))) (kd :=  8) (r := 0) (ra := 0) (rb := 0) (k :=  0) (cost :=  0) (mt := 0) (ip := 0) (OSl.nil layI 3 8 (Z.alloc (.cells #[.int .i64 8, .int .i64 0, .int .i64 0, .int .i64 0, .int .i64 0, .slice none 0 0, .int .i64 0, .int .i64 0, .int .i64 0] 42)) (fun _ => False)))
        obtain ⟨t', F', sn⟩ := OC.out.snocIn
        have SN := hid sn
        have HRW : Hid (Z.ownsRow 0 42 9 (.slice va vn vc) vn t'.flatten) := hid (by have := sn.row; rwa [(codeJ_len f vn)] at this)
        clear hA4 sn
        go_upto_region 21 with (at_builtin; refine wpList_append_lies _ rfl _ _ 25 rfl 0 42 i0 (.agg #[.int .i64 0, .int .i64 0, .int .i64 0, .int .i64 0, .int .i64 0, .slice none 0 0, .int .i64 0, .int .i64 0, .int .i64 0]) 9 88 Tryz.underlying25 hi hz0 hz1 hz2 rfl (by decide) (.slice va vn vc) vn t'.flatten rfl (owns_kept HRW.out L4.out) ⟨Z.heap.size, 0, none⟩ 1 1 [.int .i64 8, .int .i64 0, .int .i64 0, .int .i64 0, .int .i64 0, .slice none 0 0, .int .i64 0, .int .i64 0, .int .i64 0] rfl rfl (news_of rfl _ 42) (by intro u hu; simp only [List.mem_cons, List.not_mem_nil, or_false] at hu; rcases hu with rfl | rfl | rfl | rfl | rfl | rfl | rfl | rfl | rfl <;> rfl) (by decide) (by unfold maxLen; omega) (by omega) (Nat.zero_le _) (Z.heap.size + 1) (by simp) ?_; intro g cap w6 ho6 hg6 hat hlt6; have P := hid (app_after SN.out (codeJ_len f vn) (by omega) ho6 hg6 (by simpa using hat) L4.out OX.out (fun b hb => hb.elim) hzs); have M6 := hid (ST.out.frm P.out.2 (Nat.lt_irrefl _)); have e6 := P.out.2.cell e0 (by omega); clear e0; clear ho6 hg6 hat hlt6)
        refine wp_name ?_
        intro Y hY
        have MY : Hid (MarkSt Y w1.heap.size (k + 1) w1.heap.size (wantJ f k vn)) := hid (by rw [hY]; exact M6.out)
        have OY : Hid (OSl layIr 42 88 Y (fun b => w1.heap.size < b) (.slice (some ⟨g, 0, none⟩) (vn + 1) cap) (codeJ f (vn + 1))) := hid (by rw [hY, codeJ_succ, FQ.out]; exact P.out.1)
        have BY : Hid (Below w1.heap.size w1 Y) := hid (by rw [hY]; exact HB.out.trans (P.out.2.below (Nat.le_of_lt hzs) (fun k hk => by omega)))
        have e7 : Y.cell? ⟨b, o + vn, none⟩ = some (.int .i64 t) := by rw [hY]; exact e6
        clear hY e6
        obtain ⟨bb, hbb⟩ : ∃ bb : Bool, (wantJ f k vn).getD (vn + 1) false = bb := ⟨_, rfl⟩
        have g1 := MY.out.at (vn + 1) ht4
        have g2 := MY.out.free (vn + 1)
        rw [hbb] at g1
        cases bb
        · go_wp2_with fail
          go_roundw
          case rel => exact ⟨vn + 1, hlt, by go_num, OY.out.set _ _ (Nat.lt_irrefl _), by rw [wantJ_ret hlt FQ.out]; exact mark_put MY.out (vn + 1) true, BY.out.setCell (Nat.le_refl _) _⟩
          case measure => simp [intOf]; omega
        · go_wp2_with fail
          go_roundw
          case rel => exact ⟨vn + 1, hlt, by go_num, OY.out.set _ _ (Nat.lt_irrefl _), by rw [wantJ_ret hlt FQ.out]; exact mark_put MY.out (vn + 1) true, BY.out.setCell (Nat.le_refl _) _⟩
          case measure => simp [intOf]; omega
      · rw [h] at hm FQ
        clear h
        have hA4 : Below Z.heap.size Z (Z.alloc (.cells #[.int .i64 1, .int .i64 0, .int .i64 0, .int .i64 0, .int .i64 (tN : Int), .slice none 0 0, .int .i64 0, .int .i64 0, .int .i64 0] 42)) := Below.alloc (Below.refl _ _) (Nat.le_refl _) _
        have L4 := hid hA4
        have OX := hid (ir_owns (w := (Z.alloc (.cells #[.int .i64 1, .int .i64 0, .int .i64 0, .int .i64 0, .int .i64 (tN : Int), .slice none 0 0, .int .i64 0, .int .i64 0, .int .i64 0] 42))) (kd :=  1) (r := 0) (ra := 0) (rb := 0) (k :=  (tN : Int)) (cost :=  0) (mt := 0) (ip := 0) (OSl.nil layI 3 8 (Z.alloc (.cells #[.int .i64 1, .int .i64 0, .int .i64 0, .int .i64 0, .int .i64 (tN : Int), .slice none 0 0, .int .i64 0, .int .i64 0, .int .i64 0] 42)) (fun _ => False)))
        obtain ⟨t', F', sn⟩ := OC.out.snocIn
        have SN := hid sn
        have HRW : Hid (Z.ownsRow 0 42 9 (.slice va vn vc) vn t'.flatten) := hid (by have := sn.row; rwa [(codeJ_len f vn)] at this)
        clear hA4 sn
        go_upto_region 21 with (at_builtin; refine wpList_append_lies _ rfl _ _ 25 rfl 0 42 i0 (.agg #[.int .i64 0, .int .i64 0, .int .i64 0, .int .i64 0, .int .i64 0, .slice none 0 0, .int .i64 0, .int .i64 0, .int .i64 0]) 9 88 Tryz.underlying25 hi hz0 hz1 hz2 rfl (by decide) (.slice va vn vc) vn t'.flatten rfl (owns_kept HRW.out L4.out) ⟨Z.heap.size, 0, none⟩ 1 1 [.int .i64 1, .int .i64 0, .int .i64 0, .int .i64 0, .int .i64 (tN : Int), .slice none 0 0, .int .i64 0, .int .i64 0, .int .i64 0] rfl rfl (news_of rfl _ 42) (by intro u hu; simp only [List.mem_cons, List.not_mem_nil, or_false] at hu; rcases hu with rfl | rfl | rfl | rfl | rfl | rfl | rfl | rfl | rfl <;> rfl) (by decide) (by unfold maxLen; omega) (by omega) (Nat.zero_le _) (Z.heap.size + 1) (by simp) ?_; intro g cap w6 ho6 hg6 hat hlt6; have P := hid (app_after SN.out (codeJ_len f vn) (by omega) ho6 hg6 (by simpa using hat) L4.out OX.out (fun b hb => hb.elim) hzs); have M6 := hid (ST.out.frm P.out.2 (Nat.lt_irrefl _)); have e6 := P.out.2.cell e0 (by omega); clear e0; clear ho6 hg6 hat hlt6)
        refine wp_name ?_
        intro Y hY
        have MY : Hid (MarkSt Y w1.heap.size (k + 1) w1.heap.size (wantJ f k vn)) := hid (by rw [hY]; exact M6.out)
        have OY : Hid (OSl layIr 42 88 Y (fun b => w1.heap.size < b) (.slice (some ⟨g, 0, none⟩) (vn + 1) cap) (codeJ f (vn + 1))) := hid (by rw [hY, codeJ_succ, FQ.out]; exact P.out.1)
        have BY : Hid (Below w1.heap.size w1 Y) := hid (by rw [hY]; exact HB.out.trans (P.out.2.below (Nat.le_of_lt hzs) (fun k hk => by omega)))
        have e7 : Y.cell? ⟨b, o + vn, none⟩ = some (.int .i64 t) := by rw [hY]; exact e6
        clear hY e6
        obtain ⟨bb, hbb⟩ : ∃ bb : Bool, (wantJ f k vn).getD (vn + 1) false = bb := ⟨_, rfl⟩
        have g1 := MY.out.at (vn + 1) ht4
        have g2 := MY.out.free (vn + 1)
        rw [hbb] at g1
        cases bb
        · go_wp2_with fail
          go_roundw
          case rel => exact ⟨vn + 1, hlt, by go_num, OY.out.set _ _ (Nat.lt_irrefl _), by rw [wantJ_stay hlt FQ.out]; have h := mark_put MY.out (vn + 1) false; rw [set_same hbb (by rw [wantJ_len]; exact ht4)] at h; exact h, BY.out.setCell (Nat.le_refl _) _⟩
          case measure => simp [intOf]; omega
        · go_wp2_with fail
          go_roundw
          case rel => exact ⟨vn + 1, hlt, by go_num, OY.out.set _ _ (Nat.lt_irrefl _), by rw [wantJ_stay hlt FQ.out]; have h := mark_put MY.out (vn + 1) true; rw [set_same hbb (by rw [wantJ_len]; exact ht4)] at h; exact h, BY.out.setCell (Nat.le_refl _) _⟩
          case measure => simp [intOf]; omega
    · have hqk : vn = k := by omega
      subst hqk
      have hA4 : Below Z.heap.size Z (Z.alloc (.cells #[.int .i64 8, .int .i64 0, .int .i64 0, .int .i64 0, .int .i64 0, .slice none 0 0, .int .i64 0, .int .i64 0, .int .i64 0] 42)) := Below.alloc (Below.refl _ _) (Nat.le_refl _) _
      have L4 := hid hA4
      have OX := hid (ir_owns (w := (Z.alloc (.cells #[.int .i64 8, .int .i64 0, .int .i64 0, .int .i64 0, .int .i64 0, .slice none 0 0, .int .i64 0, .int .i64 0, .int .i64 0] 42))) (kd :=  8) (r := 0) (ra := 0) (rb := 0) (k :=  0) (cost :=  0) (mt := 0) (ip := 0) (OSl.nil layI 3 8 (Z.alloc (.cells #[.int .i64 8, .int .i64 0, .int .i64 0, .int .i64 0, .int .i64 0, .slice none 0 0, .int .i64 0, .int .i64 0, .int .i64 0] 42)) (fun _ => False)))
      obtain ⟨t', F', sn⟩ := OC.out.snocIn
      have SN := hid sn
      have HRW : Hid (Z.ownsRow 0 42 9 (.slice va vn vc) vn t'.flatten) := hid (by have := sn.row; rwa [(codeJ_len f vn)] at this)
      clear hA4 sn
      go_wp2_with (at_builtin; refine wpList_append_lies _ rfl _ _ 25 rfl 0 42 i0 (.agg #[.int .i64 0, .int .i64 0, .int .i64 0, .int .i64 0, .int .i64 0, .slice none 0 0, .int .i64 0, .int .i64 0, .int .i64 0]) 9 88 Tryz.underlying25 hi hz0 hz1 hz2 rfl (by decide) (.slice va vn vc) vn t'.flatten rfl (owns_kept HRW.out L4.out) ⟨Z.heap.size, 0, none⟩ 1 1 [.int .i64 8, .int .i64 0, .int .i64 0, .int .i64 0, .int .i64 0, .slice none 0 0, .int .i64 0, .int .i64 0, .int .i64 0] rfl rfl (news_of rfl _ 42) (by intro u hu; simp only [List.mem_cons, List.not_mem_nil, or_false] at hu; rcases hu with rfl | rfl | rfl | rfl | rfl | rfl | rfl | rfl | rfl <;> rfl) (by decide) (by unfold maxLen; omega) (by omega) (Nat.zero_le _) (Z.heap.size + 1) (by simp) ?_; intro g cap w6 ho6 hg6 hat hlt6; have P := hid (app_after SN.out (codeJ_len f vn) (by omega) ho6 hg6 (by simpa using hat) L4.out OX.out (fun b hb => hb.elim) hzs); have M6 := hid (ST.out.frm P.out.2 (Nat.lt_irrefl _)); clear ho6 hg6 hat hlt6)
      obtain ⟨_, _, _, e5, r5⟩ := P.out.1.reads
      cases e5
      have B6 : Hid (Below w.heap.size w w6) := hid (kt B1.out (HB.out.trans (P.out.2.below (Nat.le_of_lt hzs) (fun k hk => by omega))))
      refine (irLeaders_any _ _ _ _ _ _ (allJ f vn) _ _ _ r5).mono ?_
      rintro e w7 ⟨lv, rfl, ho, b7⟩
      rw [leadsJ] at ho
      obtain ⟨la, ln, lc, rfl, li⟩ := bools_of_owns ho (by rw [wantJ_len]; omega)
      have LI := hid li
      have M7 := hid (M6.out.kept b7)
      have B7 := hid (kt B6.out b7)
      clear ho li b7 r5
      go_wp2_with fail
      refine (sameBools_any _ _ _ _ _ _ (wantJ f vn vn) (wantJ f vn vn) _ LI.out (mark_bools M7.out (by omega))).mono ?_
      rintro e w8 ⟨rfl, b8⟩
      rw [decide_eq_true rfl]
      have B8 := hid (kt B7.out b8)
      clear b8
      go_wp2_with fail
      go_ret
      exact ⟨rfl, B8.out⟩

set_option maxRecDepth 100000 in
theorem lifted (os : Os) (started : os.Started) (H : Type) (enc : TypeId × Value → H) :
    ReturnsInHanded {} Tryz.checked os 5 .any (fun w args => (Rows.irLeadsSpec.pre enc Tryz.prog Tryz.f5 [] false w args ∧ laidMetH Tryz.prog [("math/bits.deBruijn32tab", Rows.laid_math_bits_deBruijn32tab), ("math/bits.deBruijn64tab", Rows.laid_math_bits_deBruijn64tab), ("internal/strconv.uint64pow10", Rows.laid_internal_strconv_uint64pow10), ("errors.errorType", Rows.laid_errors_errorType), ("swage/pack.errForm", Rows.laid_swage_pack_errForm), ("swage/pack.errEnd", Rows.laid_swage_pack_errEnd)] w) ∧ sizedMet enc Tryz.prog Tryz.f5 (OpenSpec.ofChange Rows.irLeadsSpec) false w args) (Rows.irLeadsSpec.post enc Tryz.prog Tryz.f5 false true false false) := by
  refine returnsInHanded_of_change_and (C := Tryz.checked) (X := fun w _ => laidMetH Tryz.prog [("math/bits.deBruijn32tab", Rows.laid_math_bits_deBruijn32tab), ("math/bits.deBruijn64tab", Rows.laid_math_bits_deBruijn64tab), ("internal/strconv.uint64pow10", Rows.laid_internal_strconv_uint64pow10), ("errors.errorType", Rows.laid_errors_errorType), ("swage/pack.errForm", Rows.laid_swage_pack_errForm), ("swage/pack.errEnd", Rows.laid_swage_pack_errEnd)] w) (fun _ _ _ hh h => h.of_heap hh) own started (by kernel_rfl) Tryz.func5
    (ChangeSpec.witness_shaped (enc := enc) (C := Tryz.checked) (os := os) (X := fun w _ => laidMetH Tryz.prog [("math/bits.deBruijn32tab", Rows.laid_math_bits_deBruijn32tab), ("math/bits.deBruijn64tab", Rows.laid_math_bits_deBruijn64tab), ("internal/strconv.uint64pow10", Rows.laid_internal_strconv_uint64pow10), ("errors.errorType", Rows.laid_errors_errorType), ("swage/pack.errForm", Rows.laid_swage_pack_errForm), ("swage/pack.errEnd", Rows.laid_swage_pack_errEnd)] w) false (World.doorLaid Tryz.prog 400 os) #[.slice none 0 0] 8 rfl (World.shaped_of_RefB (by kernel_rfl) (by kernel_rfl)) (by kernel_rfl) (by kernel_rfl) (by kernel_rfl) (door_met os _)) ?_
  intro W base args ds gs before hval0 hW hcnd hsz0 hL _
  have hval : ∀ (j : Nat) t v, Tryz.f5.params[j]? = some t → args[j]? = some v → Value.okWide Tryz.prog W .any base t v := hval0
  have hW' := hW
  obtain ⟨p, q, hA0, hV, rfl, hfz, hnd⟩ := hW
  have hA : DataW.TrodAll enc Tryz.prog W 0 (fun _ => true) true Tryz.f5.params.toList args.toList ds p := hA0
  have hsz : (DataW.weightsEach Tryz.prog (Tryz.f5.params.toList ++ Rows.irLeadsSpec.plain.varTypes Tryz.prog) (ds ++ gs)).all (· ≤ reachBytes) = true := hsz0
  rw [Tryz.params5] at hA hval hsz
  obtain ⟨v0, vs0, d0, ds0, p0, q0, hargs, rfl, rfl, h0, r0⟩ := trodAll_cons hA
  obtain ⟨rfl, rfl, rfl⟩ := trodAll_nil r0
  obtain rfl : args = #[v0] := by cases args; simp_all
  obtain ⟨rfl, rfl⟩ := trodVars_none hV
  have k0 := h0
  have lt0 : ∀ x ∈ p0, x.block < W.heap.size := by obtain ⟨m, hm⟩ := k0; exact DataW.trod_lt m _ _ _ hm
  obtain ⟨a0, n0, c0, l0, rfl, w0⟩ := open_intsP (hval 0 40 v0 rfl rfl) h0 (fun k hk => by simpa using List.all_eq_true.1 hsz k (DataW.weights_mem_each (j := 0) rfl rfl k hk))
  clear hA0 hval0
  refine (walk a0 n0 c0 l0 W w0 (ld_of hL)).mono fun e W' ⟨he, bel⟩ => ?_
  subst he
  exact ⟨_, rfl, _, _, _, [], _, [], hW', trodAll_mk1 (shut_bool Tryz.underlying4 _), (trodAll_cons_mk (Below.trod laidOut (by kernel_rfl) (of_decide_eq_true (by kernel_rfl)) k0 bel lt0) trodAll_mk0), rfl, bel.frame _, fun h => by cases h⟩

theorem over : Rows.irLeadsRow.holds Tryz.pinned (OpenSpec.ofChange Rows.irLeadsSpec) :=
  OpenClaim.holds_of_wide 5 Tryz.f5 rfl rfl rfl rfl rfl rfl rfl ⟨rfl, rfl, rfl, rfl, rfl⟩ rfl rfl rfl rfl rfl (by kernel_rfl) Tryz.func5 (by kernel_rfl)
    (of_decide_eq_true (by kernel_rfl)) (by unfold Func.isWrapper; first | (rw [if_pos (by decide +kernel)]; kernel_rfl) | (rw [if_neg (by decide +kernel)]; exact ⟨rfl, rfl⟩))
    (fun os started H enc _ => lifted os started H enc)
end Go.Proofs.YtfnfbebkeoilfaaGreatDoor.irLeads
namespace Go.Proofs.YtfnfbebkeoilfaaGreatDoor
open Go
theorem irLeads_holds : Rows.IrLeadsCardSaid :=
  Claim7.holds_tied_plain_at .later [] [.data, .data, .data, .handle, .sentinel, .sentinel] true (true, "af14792d463d770b1eecd619858a17615b4fc506b811793aef6635ab7fdea3b6") true
    irLeads.over (fun _ h => by cases h) (by kernel_rfl) (fun _ h => by cases h) irLeads_row_tie rfl ⟨rfl, rfl⟩ (by kernel_rfl) rfl
    (fun f fn hf hfn => by
      obtain rfl : f = 5 := Option.some.inj ((show Tryz.prog.funcNamed "swage/swagelaw10.IrLeads" = some 5 by kernel_rfl).symm.trans hf) |>.symm
      obtain rfl : fn = Tryz.f5 := (Option.some.inj (Tryz.func5.symm.trans hfn)).symm
      exact ⟨by kernel_rfl, fun j t ht => by
        rw [Tryz.params5] at ht
        have hm : t ∈ [40] := by simpa using Array.mem_of_getElem? ht
        have hall : ([40].all fun u => !Tryz.prog.wantsStandIn u) = true := by kernel_rfl
        exact (show Tryz.prog.wantsStandIn t = false by simpa using List.all_eq_true.1 hall t hm)⟩)
    (by kernel_rfl)
#print axioms irLeads_holds
end Go.Proofs.YtfnfbebkeoilfaaGreatDoor
