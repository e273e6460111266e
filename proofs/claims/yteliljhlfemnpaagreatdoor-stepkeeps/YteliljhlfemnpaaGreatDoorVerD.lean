/- Package verify's walker: all that comes behind one instruction. -/
import Derived.Test.YteliljhlfemnpaaGreatDoorVerC
namespace Go.Proofs.YteliljhlfemnpaaGreatDoor
open Go.RowKit
set_option linter.unusedVariables false

set_option maxHeartbeats 8000000 in
set_option maxRecDepth 100000 in
theorem goOn_any {w : World} {base gw gh : Nat} {pa : Option Addr} {pn pc : Nat} {ps : List Fn} {x y : Int} {a : Option Addr} {n c : Nat} {l : List (Int × Int)} {out ws : List Int} {gq o cap : Nat} (W : Wk w base gw gh (.slice pa pn pc) x y (.slice a n c) n out (.slice (some ⟨gq, o, none⟩) ws.length cap))
    (Q : Queue w base gq o cap ws) (h1 : gw ≠ gh) (h2 : gq ≠ gw) (h3 : gq ≠ gh)
    (hp : Fns w pa pn pc ps) (h : Inss w a n c l) (hk : packsB ps = true) (hc : codeB l = true) (p : Nat) (hpl : p < n) (hR : rangedB pn y n (insAt l p).1 (insAt l p).2 = true) (I : HInv l out ws) (hcur : 0 ≤ out.getD p 0) (hr : Reach l p) (hle : negs out + ws.length ≤ 64) :
    Calls Tryz.prog 120 #[.pointer (some ⟨gw, 0, none⟩), .int .i64 p] w fun e w' => Frm (fun k => k = gw ∨ k = gh ∨ k = gq) w w' ∧
      ((e = .returned (.bool false) ∧ stepH ps l out ws p = none) ∨ (e = .returned (.bool true) ∧ ∃ out' ws' gq' o' cap', stepH ps l out ws p = some (out', ws') ∧ HInv l out' ws' ∧ negs out' + ws'.length = negs out + ws.length ∧ Wk w' base gw gh (.slice pa pn pc) x y (.slice a n c) n out' (.slice (some ⟨gq', o', none⟩) ws'.length cap') ∧ Queue w' base gq' o' cap' ws' ∧ (gq' = gq ∨ w.heap.size ≤ gq'))) := by
  have L := hid h.len
  have hn : n ≤ 64 := by rw [L.out]; simp [codeB] at hc; exact hc.1.2
  have hcur8 := (I.high p (by have := L.out; omega)).2
  have HB := hid (behind_any W hp h hk hc p hpl hR ⟨hcur, hcur8⟩)
  have w1 := W.x
  have w2 := W.y
  have w3 := W.f
  have NXE : Hid (nxL l (p : Int) = nextL l p ∧ nxE l (p : Int) = 0) := hid (by
    have e : nxOk l (p : Int) = true := by rw [nxOk, hc, show inB l.length (p : Int) = true by simp [inB]; have := L.out; omega]; rfl
    unfold nxL nxE; rw [if_pos e, if_pos e, Int.toNat_natCast]; exact ⟨rfl, rfl⟩)
  by_cases bad : takesAt ps l p ≤ out.getD p 0 ∧ goesTo ps l out p ≤ 8
  rotate_left
  · have hst : stepH ps l out ws p = none := stepH_bad (by omega)
    rw [show (decide (takesAt ps l p ≤ out.getD p 0) && decide (goesTo ps l out p ≤ 8)) = false by rw [Bool.and_eq_false_iff, decide_eq_false_iff_not, decide_eq_false_iff_not]; omega] at HB
    have HST := hid hst
    clear hst bad
    go_enter Tryz.func120, Tryz.ntmps120
    go_wp2_with fail
    refine HB.out.mono ?_
    rintro e u ⟨rfl, hb⟩
    go_wp2_with fail
    go_ret
    exact ⟨Frm.of_below hb, .inl ⟨rfl, HST.out⟩⟩
  · obtain ⟨g1, g2⟩ := bad
    rw [show (decide (takesAt ps l p ≤ out.getD p 0) && decide (goesTo ps l out p ≤ 8)) = true by rw [decide_eq_true g1, decide_eq_true g2]; rfl] at HB
    have SG : Hid (stepH ps l out ws p = putHs (goesTo ps l out p) (nextL l p) (out, ws)) := hid (stepH_go (by omega) (by omega))
    have h0 : 0 ≤ goesTo ps l out p := by
      have := puts_bd (insAt l p).1
      unfold goesTo; omega
    generalize hhv : goesTo ps l out p = hv at *
    have HW := hid W
    have HQ := hid Q
    have HI := hid h
    have HV := hid I
    have hgw := lt_of_cell w1
    have hgh := W.num.lt.2
    have hgq := Q.lt
    clear W Q h I hhv hp hk hR g1
    go_enter Tryz.func120, Tryz.ntmps120
    go_wp2_with fail
    refine HB.out.mono ?_
    rintro e u ⟨rfl, hb⟩
    have v1 := kept_cell hb w1
    have v2 := kept_cell hb w2
    have v3 := kept_cell hb w3
    have B := hid hb
    clear hb w1 w2 w3
    go_wp2_with fail
    refine (flowNext_any _ _ _ _ _ _ l _ (HI.out.kept B.out)).mono ?_
    rintro e u5 ⟨vn, rfl, on, b5⟩
    rw [NXE.out.1] at on
    rw [NXE.out.2]
    have hu5 := b5.size
    have XL := hid (nextL_len l p)
    obtain ⟨an, nn, cn, rfl, iN⟩ := ints_of_owns on (by have := XL.out; omega)
    have hnn : Hid (nn = (nextL l p).length) := hid iN.len
    have hcn := iN.cap
    have hrn := iN.room
    have ON := hid on
    have B5 := hid (kt B.out b5)
    have hsz := B5.out.size
    clear on iN b5 v1 v2 v3
    go_wp2_with fail
    go_loopw [30] (fun s wz => ∃ j : Nat, j ≤ nn ∧ s = .int .i64 j ∧ ∃ out' ws' gz oz capz, Wk wz base gw gh (.slice pa pn pc) x y (.slice a n c) n out' (.slice (some ⟨gz, oz, none⟩) ws'.length capz) ∧ Queue wz base gz oz capz ws' ∧ (gz = gq ∨ u5.heap.size ≤ gz) ∧ HInv l out' ws' ∧ putHs hv ((nextL l p).drop j) (out', ws') = putHs hv (nextL l p) (out, ws) ∧ negs out' + ws'.length = negs out + ws.length ∧ wz.ownsRow u.heap.size 3 1 (.slice an nn cn) (nextL l p).length (ints (nextL l p)) ∧ u5.heap.size ≤ wz.heap.size ∧ Frm (fun k => k = gw ∨ k = gh ∨ k = gq) w wz) (fun s _ => nn - (intOf s).toNat)
    case atStart => exact ⟨0, Nat.zero_le _, rfl, out, ws, gq, o, cap, HW.out.kept B5.out, HQ.out.frm (Frm.of_below (S := fun _ => False) B5.out) (fun h => h), .inl rfl, HV.out, rfl, rfl, ON.out, Nat.le_refl _, Frm.of_below B5.out⟩
    case round =>
      obtain ⟨j, hj, rfl, out', ws', gz, oz, capz, wk, qz, hgz, inz, hput, hng, ozn, hsz5, fz⟩ := hrel
      have XB : Hid (∀ k, (Value.slice an nn cn).ownBlock = some k → k < u5.heap.size) := hid (fun k hk => (ON.out.lt k hk).2)
      have hlz : ws'.length ≤ 64 := by omega
      by_cases hlj : j < nn
      rotate_left
      · have hjn : j = nn := by omega
        subst hjn
        rw [List.drop_eq_nil_of_le (by have := hnn.out; omega)] at hput
        have hst : stepH ps l out ws p = some (out', ws') := by rw [SG.out, ← hput]; rfl
        have R := hid (And.intro hst (And.intro inz (And.intro hng (And.intro wk qz))))
        have FZ := hid fz
        clear hst inz hng wk qz hput ozn fz
        go_wp2_with fail
        go_ret
        exact ⟨FZ.out, .inr ⟨rfl, out', ws', gz, oz, capz, R.out.1, R.out.2.1, R.out.2.2.1, R.out.2.2.2.1, R.out.2.2.2.2, by rcases hgz with e | e; (exact .inl e); (right; omega)⟩⟩
      · obtain ⟨gn, cn', e2, hgn, hgnl⟩ := ozn.form (by have := hnn.out; omega)
        cases e2
        have hgn5 : gn < u5.heap.size := XB.out gn rfl
        have cX5 := ozn.cellAt j (by have := hnn.out; omega)
        rw [ints_at (nextL l p) j (by have := hnn.out; omega)] at cX5
        have hmem : (nextL l p).getD j 0 ∈ nextL l p := by have := hnn.out; simp [List.getD_eq_getElem?_getD, show j < (nextL l p).length by omega]
        have hrg5 := nextL_in _ hmem
        obtain ⟨q5, hq5⟩ : ∃ q5 : Nat, (nextL l p).getD j 0 = q5 := ⟨((nextL l p).getD j 0).toNat, by omega⟩
        rw [hq5] at cX5 hrg5 hmem
        have hqn5 : q5 < n := by have := L.out; omega
        rw [drop_at (d := 0) (by have := hnn.out; omega) hq5] at hput
        have hol := wk.num.len
        have hlow := (inz.high q5 (by have := L.out; omega)).1
        have hgzw : gz ≠ gw := by rcases hgz with e | e; (rw [e]; exact h2); omega
        have hgzh : gz ≠ gh := by rcases hgz with e | e; (rw [e]; exact h3); omega
        have hgzn : gn ≠ gz := by rcases hgz with e | e; (have := B.out.size; omega); omega
        have hgnw : gn ≠ gw := by have := B.out.size; omega
        have hgnh : gn ≠ gh := by have := B.out.size; omega
        by_cases hneg : out'.getD q5 0 < 0
        · have CQ := hid (come_q wk qz hn h1 hgzw hgzh q5 hqn5 hv hlz (by omega))
          have RI := hid (inz.put hr hmem h0 g2 hneg)
          have RN : Hid (negs (out'.set q5 hv) + (ws' ++ [(q5 : Int)]).length = negs out + ws.length) := hid (by have h2 := negs_set (out := out') (i := q5) (h := hv) (by omega) hneg h0; rw [List.length_append, List.length_singleton]; omega)
          have RP : Hid (putHs hv ((nextL l p).drop (j + 1)) (out'.set q5 hv, ws' ++ [(q5 : Int)]) = putHs hv (nextL l p) (out, ws)) := hid (by rw [← hput, putHs_new hneg])
          have OZ := hid ozn
          have FZ := hid fz
          clear inz hng wk qz hput ozn fz hmem hrg5 hneg
          go_wp2_with fail
          refine CQ.out.mono ?_
          rintro e w8 ⟨rfl, g8, o8, cap8, wk8, q8, at8, f8⟩
          have R8 := hid (And.intro wk8 (And.intro q8 (And.intro at8 f8)))
          clear wk8 q8 at8 f8 CQ
          go_wp2_with fail
          go_roundw
          case rel =>
            obtain ⟨wk8, q8, at8, f8⟩ := R8.out
            exact ⟨j + 1, by omega, by go_num, _, _, g8, o8, cap8, wk8, q8, by rcases at8 with e | e; (rw [e]; exact hgz); (right; omega), RI.out, RP.out, RN.out, f8.owns OZ.out (fun k hk => by have e : gn = k := Option.some.inj hk; omega), by have := f8.size; omega, FZ.out.trans f8 (fun i hi hx => by rcases hx with e | e | e; (exact .inl e); (exact .inr (.inl e)); (rcases hgz with e' | e'; (right; right; omega); omega))⟩
          case measure => simp [intOf]; omega
        · have CO := hid (come_old wk hn q5 hqn5 hv (by omega))
          by_cases heq : out'.getD q5 0 = hv
          · rw [decide_eq_true heq] at CO
            have R := hid (And.intro inz (And.intro hng (And.intro wk (And.intro qz (And.intro ozn fz)))))
            have RP : Hid (putHs hv ((nextL l p).drop (j + 1)) (out', ws') = putHs hv (nextL l p) (out, ws)) := hid (by rw [← hput, putHs_same hneg heq])
            clear inz hng wk qz hput ozn fz hmem hrg5 hneg heq
            go_wp2_with fail
            refine CO.out.mono ?_
            rintro e w8 ⟨rfl, rfl⟩
            go_wp2_with fail
            go_roundw
            case rel => exact ⟨j + 1, by omega, by go_num, out', ws', gz, oz, capz, R.out.2.2.1, R.out.2.2.2.1, hgz, R.out.1, RP.out, R.out.2.1, R.out.2.2.2.2.1, hsz5, R.out.2.2.2.2.2⟩
            case measure => simp [intOf]; omega
          · rw [decide_eq_false heq] at CO
            have hst : stepH ps l out ws p = none := by rw [SG.out, ← hput, putHs_other hneg heq]
            have HST := hid hst
            have FZ := hid fz
            clear inz hng wk qz hput ozn fz hmem hrg5 hneg heq hst
            go_wp2_with fail
            refine CO.out.mono ?_
            rintro e w8 ⟨rfl, rfl⟩
            go_wp2_with fail
            go_ret
            exact ⟨FZ.out, .inl ⟨rfl, HST.out⟩⟩

end Go.Proofs.YteliljhlfemnpaaGreatDoor
