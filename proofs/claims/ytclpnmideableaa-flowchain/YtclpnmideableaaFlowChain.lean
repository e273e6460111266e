/- For any integers and any size the law FlowChain returns true: of a chain of jumps flow.Reached tells just what it goes through, flow.Leaders tells all, flow.Next tells where each jump goes; no conditions. -/
import Derived.Test.YtclpnmideableaaRows
import Derived.WalkKit
import Derived.ProofKit
import Derived.OpenShut
import Derived.ShutString
import Derived.ChangeOld
import Derived.Below
import Derived.Carry
import Derived.Lib.SmallJoins
import Derived.Handy
import Derived.WalkSmall
import Derived.SizedLaws
import Derived.Test.YtclpnmideableaaOpenInts
import Derived.Test.YtclpnmideableaaMade
import Derived.Test.YtclpnmideableaaPlainChain
import Derived.Deep.LoopGhost
namespace Go.Proofs.Ytclpnmideableaa.flowChain
open Go.ChangeShapes Go.WideShapes Go.ChangeAt Go.RowKit
open Go.ChangeMaps (open_string shut_string)
set_option linter.unusedVariables false

theorem own : ownKnob Try.prog.godebug = none := by kernel_rfl
theorem laidOut : laidOutB Try.prog = true := by kernel_rfl

/-- The world as FlowChain has it ahead of its loops. -/
def chainW (u : World) (n : Nat) : World := ((u.alloc (.cells (madeCells #[.int .i64 0, .int .i64 0] (n * 2)) 50)).alloc (.cells #[.int .i64 0, .int .i64 0, .slice (some ⟨u.heap.size, 0, none⟩) n n] 28)).alloc (.cells (madeCells #[.bool false] n) 4)
theorem chainW_below (u : World) (n : Nat) : Below u.heap.size u (chainW u n) := Below.alloc (Below.alloc (Below.alloc (Below.refl _ _) (Nat.le_refl _) _) (by simp) _) (by simp; omega) _
theorem chainW_box (u : World) (n : Nat) : FB (chainW u n) (u.heap.size + 1) 0 0 (.slice (some ⟨u.heap.size, 0, none⟩) n n) := ⟨by simp [chainW, go_sem], by simp [chainW, go_sem], by simp [chainW, go_sem]⟩
theorem chainW_code (u : World) (n : Nat) (hn : n ≤ 1000) : (chainW u n).ownsRow u.heap.size 50 2 (.slice (some ⟨u.heap.size, 0, none⟩) n n) n (flat2 (List.replicate n (0, 0))) := by
  have o := World.ownsRow_lit (base := u.heap.size) (e := 50) (size := 2) u (madeCells #[.int .i64 0, .int .i64 0] (n * 2)) n (Nat.le_refl _) (by unfold maxLen; omega) (size_madeCells _ _)
  rw [made_pairs] at o
  exact (o.alloc _).alloc _
theorem chainW_seen (u : World) (n : Nat) (hn : n ≤ 1000) : MarkSt (chainW u n) (u.heap.size + 1 + 1) n u.heap.size (List.replicate n false) := by
  have := MarkSt.make ((u.alloc (.cells (madeCells #[.int .i64 0, .int .i64 0] (n * 2)) 50)).alloc (.cells #[.int .i64 0, .int .i64 0, .slice (some ⟨u.heap.size, 0, none⟩) n n] 28)) n u.heap.size (by simp; omega) (by unfold maxLen; omega)
  rw [show ((u.alloc (.cells (madeCells #[.int .i64 0, .int .i64 0] (n * 2)) 50)).alloc (.cells #[.int .i64 0, .int .i64 0, .slice (some ⟨u.heap.size, 0, none⟩) n n] 28)).heap.size = u.heap.size + 1 + 1 by simp] at this
  exact this
/-- The code's row. -/
structure CodeSt (w : World) (g n base : Nat) (cur : List (Int × Int)) : Prop where
  len : cur.length = n
  row : w.ownsRow base 50 2 (.slice (some ⟨g, 0, none⟩) n n) n (flat2 cur)
theorem CodeSt.frm {S : Nat → Prop} {w w' : World} {g n base : Nat} {cur : List (Int × Int)} (h : CodeSt w g n base cur) (hf : Frm S w w') (hg : ¬ S g) : CodeSt w' g n base cur := ⟨h.len, hf.owns h.row (fun k hk => by have e : g = k := Option.some.inj hk; rw [← e]; exact hg)⟩
theorem CodeSt.put {w : World} {g n base : Nat} {cur : List (Int × Int)} (h : CodeSt w g n base cur) (q : Nat) (x y : Int) : CodeSt ((w.setCell ⟨g, q * 2, none⟩ (.int .i64 x)).setCell ⟨g, q * 2 + 1, none⟩ (.int .i64 y)) g n base (cur.set q (x, y)) := by
  refine ⟨by simpa using h.len, ?_⟩
  have h1 := (h.row.stored (q * 2) (.int .i64 x)).1
  have h2 := (h1.stored (q * 2 + 1) (.int .i64 y)).1
  rw [flat2_set] at h2
  exact h2
theorem CodeSt.inss {w : World} {g n base : Nat} {cur : List (Int × Int)} (h : CodeSt w g n base cur) (hn : n ≤ 1000) : Inss w (some ⟨g, 0, none⟩) n n cur := by
  obtain ⟨_, _, _, e, hi⟩ := inss_of_owns (w := w) (l := cur) (by rw [h.len]; exact h.row) (by rw [h.len]; omega)
  cases e
  exact hi
theorem CodeSt.at {w : World} {g n base : Nat} {cur : List (Int × Int)} (h : CodeSt w g n base cur) (hn : n ≤ 1000) (q : Nat) (hq : q < n) : w.cell? ⟨g, q * 2, none⟩ = some (.int .i64 (cur.getD q (0, 0)).1) ∧ w.cell? ⟨g, q * 2 + 1, none⟩ = some (.int .i64 (cur.getD q (0, 0)).2) ∧ ∀ o, w.frozen? ⟨g, o, none⟩ = false := by
  have hl := h.len
  have f := flat2_len cur
  refine ⟨?_, ?_, fun o => h.row.frozenAt o⟩
  · rw [h.row.cellAt _ (by omega), flat2_even cur q (by omega)]
  · rw [h.row.cellAt _ (by omega), flat2_odd cur q (by omega)]
theorem FB.frm {S : Nat → Prop} {u u' : World} {b : Nat} {x y : Int} {s : Value} (h : FB u b x y s) (hf : Frm S u u') (hb : ¬ S b) : FB u' b x y s := ⟨hf.cell h.1 hb, hf.cell h.2.1 hb, hf.cell h.2.2 hb⟩

set_option maxRecDepth 100000 in
set_option maxHeartbeats 20000000 in
theorem walk (a0 : Option Addr) (n0 c0 : Nat) (l0 : List Int) (a1 : Int) (w : World) (w0 : Ints w a0 n0 c0 l0) (w1 : (Lit.int .i64 a1).wf = true) :
    Calls Try.prog 6 #[.slice a0 n0 c0, .int .i64 a1] w fun e w' => e = .returned (.bool true) ∧ Below w.heap.size w w' := by
  have hm := and31 a1
  have hm0 : 0 ≤ a1 % 32 ∧ a1 % 32 < 32 := by omega
  generalize a1 % 32 = m at hm hm0
  obtain ⟨hm1, hm2⟩ := hm0
  obtain ⟨mm, rfl⟩ := Int.eq_ofNat_of_zero_le hm1
  have hr0 := w0.room
  have hc0 := w0.cap
  have hmk1 : ∀ u : World, (Instr.makeSlice 26 (.int .i64 (2 + (mm : Int))) (.int .i64 (2 + (mm : Int)))).run Try.prog u = .ok (.slice (some ⟨u.heap.size, 0, none⟩) (2 + mm) (2 + mm)) (u.alloc (.cells (madeCells #[.int .i64 0, .int .i64 0] ((2 + mm) * 2)) 50)) := by
    intro u
    rw [show (2 + (mm : Int)) = ((2 + mm : Nat) : Int) by omega]
    exact make_inss (2 + mm) (by omega) u
  have hmk2 : ∀ u : World, (Instr.makeSlice 37 (.int .i64 (2 + (mm : Int))) (.int .i64 (2 + (mm : Int)))).run Try.prog u = .ok (.slice (some ⟨u.heap.size, 0, none⟩) (2 + mm) (2 + mm)) (u.alloc (.cells (madeCells #[.bool false] (2 + mm)) 4)) := by
    intro u
    rw [show (2 + (mm : Int)) = ((2 + mm : Nat) : Int) by omega]
    exact run_make_row' (P := Try.prog) 37 4 (.bool false) 1 Try.underlying37 Try.infoBool rfl .i64 .i64 (2 + mm) (by omega) (by omega) u
  have W0 := hid w0
  clear w1 hm1 w0
  go_enter Try.func6, Try.ntmps6
  go_wp2_with fail
  refine (awake4_any _).mono ?_
  rintro e u1 ⟨rfl, b1⟩
  have B1 := hid b1
  have hs1 := b1.size
  clear b1
  have B2 : Hid (Below w.heap.size w (chainW u1 (2 + mm))) := hid (kt B1.out (chainW_below u1 (2 + mm)))
  go_wp2_with fail
  go_loopw [8] (fun s wr => ∃ q : Nat, q ≤ 2 + mm ∧ s = .int .i64 q ∧ ∃ cur, CodeSt wr u1.heap.size (2 + mm) u1.heap.size cur ∧ Jumps cur (2 + mm) q ∧ FB wr (u1.heap.size + 1) 0 0 (.slice (some ⟨u1.heap.size, 0, none⟩) (2 + mm) (2 + mm)) ∧ MarkSt wr (u1.heap.size + 1 + 1) (2 + mm) u1.heap.size (List.replicate (2 + mm) false) ∧ Below w.heap.size w wr) (fun s _ => 2 + mm - (intOf s).toNat)
  case atStart => exact ⟨0, Nat.zero_le _, rfl, _, ⟨by simp, chainW_code u1 _ (by omega)⟩, fun i hi => by omega, chainW_box u1 _, chainW_seen u1 _ (by omega), B2.out⟩
  case round =>
    clear B2
    obtain ⟨q, hq, rfl, cur, cs, hj, fb, ms, hb⟩ := hrel
    by_cases hlt : q < 2 + mm
    · obtain ⟨x0, x1, x2⟩ := fb
      obtain ⟨d0, d1, df⟩ := cs.at (by omega) q hlt
      have df0 := df (q * 2)
      have df1 := df (q * 2 + 1)
      have hcl := cs.len
      have FIN : Hid (∀ t : Nat, t < 2 + mm → CodeSt ((wr.setCell ⟨u1.heap.size, q * 2, none⟩ (.int .i64 12)).setCell ⟨u1.heap.size, q * 2 + 1, none⟩ (.int .i64 (t : Int))) u1.heap.size (2 + mm) u1.heap.size (cur.set q (12, (t : Int))) ∧ Jumps (cur.set q (12, (t : Int))) (2 + mm) (q + 1) ∧ FB ((wr.setCell ⟨u1.heap.size, q * 2, none⟩ (.int .i64 12)).setCell ⟨u1.heap.size, q * 2 + 1, none⟩ (.int .i64 (t : Int))) (u1.heap.size + 1) 0 0 (.slice (some ⟨u1.heap.size, 0, none⟩) (2 + mm) (2 + mm)) ∧ MarkSt ((wr.setCell ⟨u1.heap.size, q * 2, none⟩ (.int .i64 12)).setCell ⟨u1.heap.size, q * 2 + 1, none⟩ (.int .i64 (t : Int))) (u1.heap.size + 1 + 1) (2 + mm) u1.heap.size (List.replicate (2 + mm) false) ∧ Below w.heap.size w ((wr.setCell ⟨u1.heap.size, q * 2, none⟩ (.int .i64 12)).setCell ⟨u1.heap.size, q * 2 + 1, none⟩ (.int .i64 (t : Int)))) := hid (by
        intro t ht
        have hf : Frm (fun k => k = u1.heap.size) wr ((wr.setCell ⟨u1.heap.size, q * 2, none⟩ (.int .i64 12)).setCell ⟨u1.heap.size, q * 2 + 1, none⟩ (.int .i64 (t : Int))) := (Frm.set (S := fun k => k = u1.heap.size) (p := ⟨u1.heap.size, q * 2, none⟩) _ rfl).trans (Frm.set (S := fun k => k = u1.heap.size) (p := ⟨u1.heap.size, q * 2 + 1, none⟩) _ rfl) (fun _ _ h => h)
        exact ⟨cs.put q 12 t, hj.set (by omega) ht, FB.frm ⟨x0, x1, x2⟩ hf (by omega), ms.frm hf (by omega), hb.trans (hf.below hb.size (fun k hk => by omega))⟩)
      clear cs hj ms df
      by_cases hst : q < n0
      · obtain ⟨b1, o1, rfl, hrow⟩ := W0.out.row (by omega)
        have cz := kept_cell hb (hrow q hst)
        generalize hz : l0.getD q 0 = z at cz
        clear hz hrow
        obtain ⟨ht0, ht1⟩ := umod_bd z (2 + (mm : Int)) (by omega)
        generalize htt : (IntKind.u64.wrap z).tmod (2 + (mm : Int)) = tt at ht0 ht1
        obtain ⟨t, rfl⟩ := Int.eq_ofNat_of_zero_le ht0
        have F := hid (FIN.out t (by omega))
        go_wp2_with fail
        go_roundw
        case rel => exact ⟨q + 1, by omega, by go_num, _, F.out⟩
        case measure => simp [intOf]; omega
      · have F := hid (FIN.out 0 (by omega))
        go_wp2_with fail
        go_roundw
        case rel => exact ⟨q + 1, by omega, by go_num, _, F.out⟩
        case measure => simp [intOf]; omega
    · have hqn : q = 2 + mm := by omega
      subst hqn
      have hcl := cs.len
      have JJ : Hid (Jumps cur cur.length cur.length) := hid (by rw [hcl]; exact hj)
      have HC : Hid (codeB cur = true) := hid (JJ.out.code (by omega) (by omega))
      have HL := hid hcl
      have A := hid (And.intro cs (And.intro fb (And.intro ms hb)))
      clear cs fb ms hj hb hcl
      go_wp2_with fail
      go_loopg [10] (2 + mm) (fun k s wz => ∃ bs, ∃ p : Nat, k = unm bs ∧ s = .int .i64 p ∧ QInv cur bs [(p : Int)] ∧ MarkSt wz (u1.heap.size + 1 + 1) (2 + mm) u1.heap.size bs ∧ CodeSt wz u1.heap.size (2 + mm) u1.heap.size cur ∧ FB wz (u1.heap.size + 1) 0 0 (.slice (some ⟨u1.heap.size, 0, none⟩) (2 + mm) (2 + mm)) ∧ Below w.heap.size w wz)
      case atStart => exact ⟨List.replicate (2 + mm) false, 0, by rw [unm_rep], rfl, by have := QInv.start (l := cur) (by have := HL.out; omega); rw [HL.out] at this; exact this, A.out.2.2.1, A.out.1, A.out.2.1, A.out.2.2.2⟩
      case round =>
        clear A
        obtain ⟨bs, p, hk, rfl, inv, ms, cs, fb, hb⟩ := hrel
        obtain ⟨p', e', hpl, -⟩ := inv.work p (by simp)
        have hpn : p < 2 + mm := by have := HL.out; omega
        clear e' hpl p'
        have HK := hid hk
        clear hk
        have cM := ms.at p hpn
        have fM := ms.free p
        cases hbp : bs.getD p false
        · rw [hbp] at cM
          obtain ⟨t, ht, e1⟩ := JJ.out p (by have := HL.out; omega)
          have hnx := JJ.out.next (by have := HL.out; omega) e1
          obtain ⟨d0, d1, df⟩ := cs.at (by omega) p hpn
          rw [e1] at d1
          have fr : Frm (fun k => k = u1.heap.size + 1 + 1) wr (wr.setCell ⟨u1.heap.size + 1 + 1, p, none⟩ (.bool true)) := Frm.set _ rfl
          have cs' := cs.frm fr (by omega)
          have fb' := FB.frm fb fr (by omega)
          have IV : Hid (QInv cur (bs.set p true) [(t : Int)]) := hid (by have := inv.take; rw [hnx] at this; exact this)
          have FN := hid (And.intro (ms.put p) (And.intro cs' (And.intro fb' (hb.trans (fr.below hb.size (fun k hk => by omega))))))
          have HU := hid (unm_set (by rw [ms.len]; exact hpn) hbp)
          obtain ⟨x0, x1, x2⟩ := fb
          clear ms cs inv hnx e1 d0 df fr cs' fb'
          go_wp2_with fail
          go_roundg (unm (bs.set p true))
          case measure => have := HK.out; have := HU.out; omega
          case rel => exact ⟨bs.set p true, t, rfl, rfl, IV.out, FN.out.1, FN.out.2.1, FN.out.2.2.1, FN.out.2.2.2⟩
        · rw [hbp] at cM
          have MK : Hid (Marked cur bs) := hid (inv.skip hbp).done
          have MS := hid ms
          have CS := hid cs
          have FBh := hid fb
          have HB := hid hb
          obtain ⟨x0, x1, x2⟩ := fb
          have BL := hid ms.len
          clear ms cs inv hb
          go_wp2_with fail
          refine (reached_any 0 0 _ _ _ cur wr (CS.out.inss (by omega))).mono ?_
          rintro e v1 ⟨vr, br, rfl, rr, orr, b1⟩
          rw [show cE cur = 0 by simp [cE, HC.out]]
          obtain rfl := Rd.eq (.inl ⟨HC.out, MK.out⟩) rr
          have C1 := hid b1
          obtain ⟨ar, nr, cr, rfl, ir⟩ := bools_of_owns orr (by have := BL.out; omega)
          have IR := hid ir
          have HB1 := hid (kt HB.out b1)
          clear orr ir rr b1 x0 x1 x2 cM fM
          obtain ⟨x0, x1, x2⟩ := FBh.out.kept C1.out
          go_wp2_with fail
          refine (leaders_any 0 0 _ _ _ cur v1 ((CS.out.inss (by omega)).kept C1.out)).mono ?_
          rintro e v2 ⟨vl, rfl, ol, b2⟩
          rw [show cE cur = 0 by simp [cE, HC.out]]
          have C2 := hid (kt C1.out b2)
          have HLL : Hid ((leadL cur).length = 2 + mm) := hid ((leadL_len HC.out).trans HL.out)
          have ol' : v2.ownsRow v1.heap.size 4 1 vl (2 + mm) (bools (leadL cur)) := by have := ol; rw [HLL.out] at this; exact this
          obtain ⟨gl, cl, rfl, hgl, _⟩ := ol'.form (by omega)
          have OL := hid ol'
          have hcl := cap_of ol'
          have IR2 := hid (IR.out.kept b2)
          have HB2 := hid (kt HB1.out b2)
          have IS2 : Hid (Bools v2 (some ⟨u1.heap.size + 1 + 1, 0, none⟩) (2 + mm) (2 + mm) bs) := hid (by
            obtain ⟨_, _, _, e, h⟩ := bools_of_owns (w := v2) (l := bs) (by rw [BL.out]; exact (MS.out.kept C2.out).row) (by rw [BL.out]; omega)
            cases e; exact h)
          clear ol ol' b2 x0 x1 x2
          go_wp2_with (first | (go_at_call 16; refine (num_any _ _).mono ?_; rintro e w' ⟨rfl, hw⟩; rw [hw]; clear hw))
          refine (sameBools_any _ _ _ _ _ _ bs bs _ IR2.out IS2.out).mono ?_
          rintro e v3 ⟨rfl, b3⟩
          rw [decide_eq_true rfl]
          have C3 := hid (kt C2.out b3)
          have OL3 := hid (owns_kept OL.out b3)
          have HB3 := hid (kt HB2.out b3)
          have CS3 := hid (CS.out.frm (Frm.of_below (S := fun _ => False) C3.out) (fun h => h))
          have FB3 := hid (FBh.out.kept C3.out)
          clear b3
          go_wp2_with fail
          go_loopw [15] (fun s wz => ∃ q : Nat, q ≤ 2 + mm ∧ s = .int .i64 q ∧ CodeSt wz u1.heap.size (2 + mm) u1.heap.size cur ∧ FB wz (u1.heap.size + 1) 0 0 (.slice (some ⟨u1.heap.size, 0, none⟩) (2 + mm) (2 + mm)) ∧ wz.ownsRow v1.heap.size 4 1 (.slice (some ⟨gl, 0, none⟩) (2 + mm) cl) (2 + mm) (bools (leadL cur)) ∧ Below w.heap.size w wz) (fun s _ => 2 + mm - (intOf s).toNat)
          case atStart => exact ⟨0, Nat.zero_le _, rfl, CS3.out, FB3.out, OL3.out, HB3.out⟩
          case round =>
            clear CS3 FB3 OL3 HB3
            obtain ⟨q, hq, rfl, cs, fb, ol, hb⟩ := hrel
            by_cases hlt : q < 2 + mm
            · obtain ⟨t, ht, e1⟩ := JJ.out q (by have := HL.out; omega)
              have hnx := JJ.out.next (by have := HL.out; omega) e1
              have hNE : nxE cur (q : Int) = 0 ∧ nxL cur (q : Int) = [(t : Int)] := by
                have h1 : nxOk cur (q : Int) = true := by rw [nxOk, HC.out, show inB cur.length (q : Int) = true by simp [inB]; have := HL.out; omega]; rfl
                exact ⟨by simp [nxE, h1], by simp [nxL, h1, hnx]⟩
              have CQ := hid cs
              have FQ := hid fb
              have OQ := hid ol
              have E1 := hid e1
              obtain ⟨x0, x1, x2⟩ := fb
              clear cs ol hnx e1
              go_wp2_with fail
              refine (flowNext_any 0 0 q _ _ _ cur wr (CQ.out.inss (by omega))).mono ?_
              rintro e v5 ⟨vn, rfl, on, b5⟩
              rw [hNE.1]
              rw [hNE.2] at on
              obtain ⟨an, nn, cn, rfl, iN⟩ := ints_of_owns on (by simp)
              have C5 := hid b5
              have cs5 := CQ.out.frm (Frm.of_below (S := fun _ => False) b5) (fun h => h)
              obtain ⟨d0, d1, -⟩ := cs5.at (by omega) q hlt
              rw [E1.out] at d1
              clear x0 x1 x2 d0
              obtain ⟨x0, x1, x2⟩ := FQ.out.kept b5
              have K5 : Hid (Ints (v5.alloc (.cells #[.int .i64 (t : Int)] 3)) (some ⟨v5.heap.size, 0, none⟩) 1 1 [(t : Int)]) := hid (ints_new v5 [(t : Int)] 3 (by simp))
              have B5 : Hid (Below v5.heap.size v5 (v5.alloc (.cells #[.int .i64 (t : Int)] 3))) := hid (Below.alloc (Below.refl _ _) (Nat.le_refl _) _)
              have N5 := hid (iN.kept B5.out)
              clear hNE on iN b5 cs5
              go_wp2_with (first | (go_at_call 16; refine (num_any _ _).mono ?_; rintro e w' ⟨rfl, hw⟩; rw [hw]; clear hw))
              refine (sameInts_any _ _ _ _ _ _ [(t : Int)] [(t : Int)] _ N5.out K5.out).mono ?_
              rintro e v6 ⟨rfl, b6⟩
              rw [decide_eq_true rfl]
              have C6 := hid (kt (kt C5.out B5.out) b6)
              have ol6 := owns_kept OQ.out C6.out
              have cL := ol6.cellAt q (by omega)
              rw [bools_at _ q (by rw [HLL.out]; exact hlt), JJ.out.lead HC.out (by have := HL.out; omega)] at cL
              have R := hid (And.intro (CQ.out.frm (Frm.of_below (S := fun _ => False) C6.out) (fun h => h)) (And.intro (FQ.out.kept C6.out) (And.intro ol6 (kt hb C6.out))))
              clear ol6 b6 x0 x1 x2 d1
              go_wp2_with fail
              go_roundw
              case rel => exact ⟨q + 1, by omega, by go_num, R.out⟩
              case measure => simp [intOf]; omega
            · clear cs fb ol
              go_wp2_with fail
              go_ret
              exact ⟨rfl, hb⟩

set_option maxRecDepth 100000 in
theorem lifted (os : Os) (started : os.Started) (H : Type) (enc : TypeId × Value → H) :
    ReturnsInHanded {} Try.checked os 6 .any (Rows.flowChainSpec.pre6 enc Try.prog Try.f6 Rows.flowChainRow.domain false) (Rows.flowChainSpec.post enc Try.prog Try.f6 false true false false) := by
  refine returnsInHanded_of_change_sized (C := Try.checked) own started (by kernel_rfl) Try.func6
    (ChangeSpec.witness6 (enc := enc) (C := Try.checked) false ⟨#[], #[.slice none 0 0, .int .i64 0], []⟩ 8 (by kernel_rfl) (by kernel_rfl) (by kernel_rfl) (by kernel_rfl)) ?_
  intro W base args ds gs before hval0 hW hcnd hsz0 _
  have hval : ∀ (j : Nat) t v, Try.f6.params[j]? = some t → args[j]? = some v → Value.okWide Try.prog W .any base t v := hval0
  have hW' := hW
  obtain ⟨p, q, hA0, hV, rfl, hfz, hnd⟩ := hW
  have hA : DataW.TrodAll enc Try.prog W 0 (fun _ => true) true Try.f6.params.toList args.toList ds p := hA0
  have hsz : (DataW.weightsEach Try.prog (Try.f6.params.toList ++ Rows.flowChainSpec.plain.varTypes Try.prog) (ds ++ gs)).all (· ≤ reachBytes) = true := hsz0
  rw [Try.params6] at hA hval hsz
  obtain ⟨v0, vs0, d0, ds0, p0, q0, hargs, rfl, rfl, h0, r0⟩ := trodAll_cons hA
  obtain ⟨v1, vs1, d1, ds1, p1, q1, rfl, rfl, rfl, h1, r1⟩ := trodAll_cons r0
  obtain ⟨rfl, rfl, rfl⟩ := trodAll_nil r1
  obtain rfl : args = #[v0, v1] := by cases args; simp_all
  obtain ⟨rfl, rfl⟩ := trodVars_none hV
  have k0 := h0
  have lt0 : ∀ x ∈ p0, x.block < W.heap.size := by obtain ⟨m, hm⟩ := k0; exact DataW.trod_lt m _ _ _ hm
  have k1 := h1
  have lt1 : ∀ x ∈ p1, x.block < W.heap.size := by obtain ⟨m, hm⟩ := k1; exact DataW.trod_lt m _ _ _ hm
  obtain ⟨a0, n0, c0, l0, rfl, w0⟩ := open_intsP (hval 0 31 v0 rfl rfl) h0 (fun k hk => by simpa using List.all_eq_true.1 hsz k (DataW.weights_mem_each (j := 0) rfl rfl k hk))
  obtain ⟨a1, rfl, rfl, rfl, w1⟩ := open_int Try.underlying3 (hval 1 3 v1 rfl rfl) h1
  clear hA0 hval0
  refine (walk a0 n0 c0 l0 a1 W w0 w1).mono fun e W' ⟨he, bel⟩ => ?_
  subst he
  exact ⟨_, rfl, _, _, _, [], _, [], hW', trodAll_mk1 (shut_bool Try.underlying4 _), (trodAll_cons_mk (Below.trod laidOut (by kernel_rfl) (of_decide_eq_true (by kernel_rfl)) k0 bel lt0) (trodAll_cons_mk (Below.trod laidOut (by kernel_rfl) (of_decide_eq_true (by kernel_rfl)) k1 bel lt1) trodAll_mk0)), rfl, bel.frame _, fun h => by cases h⟩

theorem over : Rows.flowChainRow.holds Try.pinned (OpenSpec.ofChange Rows.flowChainSpec) :=
  OpenClaim.holds_of_wide 6 Try.f6 rfl rfl rfl rfl rfl rfl rfl ⟨rfl, rfl, rfl, rfl, rfl⟩ rfl rfl rfl rfl rfl (by kernel_rfl) Try.func6 (by kernel_rfl)
    (of_decide_eq_true (by kernel_rfl)) (by unfold Func.isWrapper; first | (rw [if_pos (by decide +kernel)]; kernel_rfl) | (rw [if_neg (by decide +kernel)]; exact ⟨rfl, rfl⟩))
    (fun os started H enc _ => lifted os started H enc)
end Go.Proofs.Ytclpnmideableaa.flowChain
namespace Go.Proofs.Ytclpnmideableaa
theorem flowChain_holds : Rows.FlowChainSaid := flowChain.over
#print axioms flowChain_holds
end Go.Proofs.Ytclpnmideableaa
