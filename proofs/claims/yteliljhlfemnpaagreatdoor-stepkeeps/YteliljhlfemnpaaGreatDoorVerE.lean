/- Package verify's walk: the whole. -/
import Derived.Test.YteliljhlfemnpaaGreatDoorVerD
import Derived.Deep.LoopGhost
import Derived.Deep.RegionHeld3
namespace Go.Proofs.YteliljhlfemnpaaGreatDoor
open Go.RowKit
set_option linter.unusedVariables false

/-- The error that stands beside a number: none, where it is 0. -/
def errN (pc num : Int) : Value := if num = 0 then .nilIface else flt pc num

set_option maxRecDepth 100000 in
set_option maxHeartbeats 8000000 in
theorem walk_any (pa : Option Addr) (pn pc : Nat) (ps : List Fn) (x y : Int) (a : Option Addr) (n c : Nat) (l : List (Int × Int)) (w : World) (hp : Fns w pa pn pc ps) (h : Inss w a n c l) (hk : packsB ps = true) (hc : codeB l = true)
    (hR : ∀ i, Reach l i → rangedB pn y n (insAt l i).1 (insAt l i).2 = true) :
    Calls Tryz.prog 97 #[.agg #[.slice pa pn pc], .agg #[.int .i64 x, .int .i64 y, .slice a n c]] w fun e w' => ∃ v, e = .returned (.tuple #[v, errN (walkV ps l).2.1 (walkV ps l).2.2]) ∧ w'.ownsRow w.heap.size 3 1 v (walkV ps l).1.length (ints (walkV ps l).1) ∧ Below w.heap.size w w' := by
  obtain ⟨i0, hi, hz0, hz1, hz2⟩ := info_parts Tryz.infoInt
  have L := hid h.len
  have LP := hid hp.len
  have hcp := h.cap
  have hr := h.room
  have hpr := hp.room
  have hpc := hp.cap
  have hlen : 1 ≤ n ∧ n ≤ 64 := by rw [L.out]; simp [codeB] at hc; exact hc.1
  have HC := hid hc
  have HPK := hid hk
  have HR := hid hR
  have HI := hid h
  have HP := hid hp
  generalize hV : walkV ps l = V
  have HV := hid hV
  obtain ⟨V1, V2, V3⟩ := V
  clear hc hk hR h hp hV
  have hmk := run_make_row' (P := Tryz.prog) 26 3 (.int .i64 0) 8 Tryz.underlying26 Tryz.infoInt rfl .i64 .i64 n (by omega) (by omega)
  go_enter Tryz.func97, Tryz.ntmps97
  go_wp2_with fail
  go_region_held3 (fun w' => w'.cell? ⟨w.heap.size, 0, none⟩ = some (.slice pa pn pc) ∧ w'.cell? ⟨w.heap.size + 1, 0, none⟩ = some (.int .i64 x) ∧ w'.cell? ⟨w.heap.size + 1, 1, none⟩ = some (.int .i64 y) ∧ w'.cell? ⟨w.heap.size + 1, 2, none⟩ = some (.slice a n c)) (go_keep) (fail)
  · obtain ⟨w3, hw3⟩ : ∃ w3 : World, w3 = ((((w.alloc (.cells #[.slice pa pn pc] 24)).alloc (.cells #[.int .i64 x, .int .i64 y, .slice a n c] 63)).alloc (.cells (madeCells #[.int .i64 0] n) 3)).alloc (.cells #[.slice pa pn pc, .int .i64 x, .int .i64 y, .slice a n c, .slice (some ⟨w.heap.size + 1 + 1, 0, none⟩) n n, .slice none 0 0] 164)).drew := ⟨_, rfl⟩
    have B3 : Hid (Below w.heap.size w w3) := hid (by rw [hw3]; exact Below.drew (Below.alloc (Below.alloc (Below.alloc (Below.alloc (Below.refl _ _) (Nat.le_refl _) _) (by simp) _) (by simp; omega) _) (by simp; omega) _))
    have N3 : Hid (NumSt w3 ((w.heap.size + 1 + 1)) n w.heap.size (List.replicate 0 (-1) ++ List.replicate (n - 0) 0)) := hid (by
      rw [hw3, List.replicate_zero, List.nil_append, Nat.sub_zero]
      have := NumSt.make ((w.alloc (.cells #[.slice pa pn pc] 24)).alloc (.cells #[.int .i64 x, .int .i64 y, .slice a n c] 63)) n w.heap.size (by simp; omega) (by unfold maxLen; omega)
      rw [show ((w.alloc (.cells #[.slice pa pn pc] 24)).alloc (.cells #[.int .i64 x, .int .i64 y, .slice a n c] 63)).heap.size = w.heap.size + 1 + 1 by simp] at this
      exact (this.kept (Below.alloc (Below.refl _ _) (Nat.le_refl _) _)).kept (Below.drew (Below.refl _ _)))
    have K3 : Hid (Wk w3 w.heap.size (w.heap.size + 1 + 1 + 1) (w.heap.size + 1 + 1) (.slice pa pn pc) x y (.slice a n c) n (List.replicate 0 (-1) ++ List.replicate (n - 0) 0) (.slice none 0 0)) := hid (by
      refine ⟨?_, ?_, ?_, ?_, ?_, ?_, ?_, N3.out⟩
      all_goals (rw [hw3]; simp [go_sem]))
    have hne : (w.heap.size + 1 + 1 + 1) ≠ (w.heap.size + 1 + 1) := by omega
    rw [← hw3]
    have E3 := hid hw3
    clear hw3 N3 hmk
    have k4 := K3.out.h
    go_wp2_with fail
    go_loopw [20] (fun s wr => ∃ q : Nat, q ≤ n ∧ s = .int .i64 q ∧ Wk wr w.heap.size (w.heap.size + 1 + 1 + 1) (w.heap.size + 1 + 1) (.slice pa pn pc) x y (.slice a n c) n (List.replicate q (-1) ++ List.replicate (n - q) 0) (.slice none 0 0) ∧ Below w.heap.size w wr) (fun s _ => n - (intOf s).toNat)
    case atStart => exact ⟨0, Nat.zero_le _, rfl, K3.out, B3.out⟩
    case round =>
      clear K3 B3 E3 k4
      obtain ⟨q, hq, rfl, wk, hb⟩ := hrel
      by_cases hlt : q < n
      · have c1 := wk.num.at q hlt
        have f1 := wk.num.free q
        have c4 := wk.h
        have R : Hid (Wk (wr.setCell ⟨w.heap.size + 1 + 1, q, none⟩ (.int .i64 (-1))) w.heap.size (w.heap.size + 1 + 1 + 1) (w.heap.size + 1 + 1) (.slice pa pn pc) x y (.slice a n c) n (List.replicate (q + 1) (-1) ++ List.replicate (n - (q + 1)) 0) (.slice none 0 0) ∧ Below w.heap.size w (wr.setCell ⟨w.heap.size + 1 + 1, q, none⟩ (.int .i64 (-1)))) := hid (by
          have fr : Frm (fun k => k = (w.heap.size + 1 + 1)) wr (wr.setCell ⟨w.heap.size + 1 + 1, q, none⟩ (.int .i64 (-1))) := Frm.set _ rfl
          exact ⟨⟨fr.cell wk.p hne, fr.cell wk.x hne, fr.cell wk.y hne, fr.cell wk.f hne, fr.cell wk.h hne, fr.cell wk.q hne, fr.free wk.q wk.free hne, by rw [← rep_step q n hlt]; exact wk.num.put q (-1)⟩, hb.trans (fr.below hb.size (fun k hk => by omega))⟩)
        clear wk
        go_wp2_with fail
        go_roundw
        case rel => exact ⟨q + 1, by omega, by go_num, R.out⟩
        case measure => simp [intOf]; omega
      · have hqn : q = n := by omega
        subst hqn
        rw [show q - q = 0 by omega, List.replicate_zero, List.append_nil] at wk
        have CF := hid (come_first wk hlen.2 hb.size hne 0 (by omega) 0 (by rw [List.getD_eq_getElem?_getD, List.getElem?_replicate, if_pos (by omega)]; rfl))
        have hgw := lt_of_cell wk.p
        have hgh := wk.num.lt.2
        have HB := hid hb
        clear wk hb
        go_wp2_with fail
        refine CF.out.mono ?_
        rintro e w4 ⟨rfl, g4, cap4, k4, q4, at4, f4⟩
        have R0 : Hid (Wk w4 w.heap.size (w.heap.size + 1 + 1 + 1) (w.heap.size + 1 + 1) (.slice pa pn pc) x y (.slice a q c) q ((List.replicate l.length (-1)).set 0 0) (.slice (some ⟨g4, 0, none⟩) 1 cap4) ∧ Queue w4 w.heap.size g4 0 cap4 [0] ∧ Below w.heap.size w w4) := hid ⟨by rw [← L.out]; exact k4, by simpa using q4, HB.out.trans (f4.below HB.out.size (fun k hk => by omega))⟩
        have hg4 : g4 ≠ (w.heap.size + 1 + 1 + 1) ∧ g4 ≠ (w.heap.size + 1 + 1) := by omega
        clear k4 q4 at4 f4 CF
        go_wp2_with fail
        go_loopg [] q (fun k wr => ∃ out ws gq o cap, Wk wr w.heap.size (w.heap.size + 1 + 1 + 1) (w.heap.size + 1 + 1) (.slice pa pn pc) x y (.slice a q c) q out (.slice (some ⟨gq, o, none⟩) ws.length cap) ∧ Queue wr w.heap.size gq o cap ws ∧ (gq ≠ (w.heap.size + 1 + 1 + 1) ∧ gq ≠ (w.heap.size + 1 + 1)) ∧ HInv l out ws ∧ negs out + ws.length ≤ k ∧ k ≤ q ∧ walkF ps l k out ws = (V1, V2, V3) ∧ Below w.heap.size w wr)
        case atStart => exact ⟨_, [0], _, _, _, R0.out.1, R0.out.2.1, hg4, HInv.start (by have := L.out; omega), by have h1 := negs_start l.length (by have := L.out; omega); have := L.out; show _ + 1 ≤ q; omega, Nat.le_refl _, by rw [← HV.out, walkV, ← L.out], R0.out.2.2⟩
        case round =>
          clear R0 hg4 hgw hgh
          obtain ⟨out, ws, gq, o, cap, wk, qu, ⟨hg1, hg2⟩, inv, hle, hlq, hwf, hb⟩ := hrel
          have HK := hid (And.intro hle hlq)
          have HW := hid hwf
          have hcq := qu.len
          have c5 := wk.q
          have f5 := wk.free
          have c4 := wk.h
          have hgw := lt_of_cell wk.p
          have hgh := wk.num.lt.2
          have hlw : ws.length ≤ 64 := by omega
          clear hle hlq hwf
          cases ws with
          | nil =>
            have e1 := HW.out
            rw [walkF_nil] at e1
            simp only [Prod.mk.injEq] at e1
            obtain ⟨rfl, rfl, rfl⟩ := e1
            have NS := hid wk.num
            have c5' : wr.cell? ⟨w.heap.size + 1 + 1 + 1, 5, none⟩ = some (.slice (some ⟨gq, o, none⟩) 0 cap) := c5
            clear wk qu inv HW c5
            go_wp2_with fail
            go_ret2
            refine ⟨_, rfl, ?_, hb⟩
            rw [NS.out.len]
            exact NS.out.row
          | cons xx ws0 =>
            obtain ⟨p, rfl, hpl', hreach, hcur0⟩ := inv.work xx (by simp)
            have hpn : p < q := by have := L.out; omega
            obtain ⟨k', rfl⟩ : ∃ k', gk = k' + 1 := ⟨gk - 1, by have := HK.out; simp at this; omega⟩
            have cX := qu.head
            have hgl := qu.lt
            have hgo := qu.old
            have hl1 : ((p : Int) :: ws0).length = ws0.length + 1 := by simp
            rw [hl1] at hcq hlw c5
            have GO : Hid (∀ o', Queue wr w.heap.size gq o' (cap - 1) ws0 → Calls Tryz.prog 120 #[.pointer (some ⟨w.heap.size + 1 + 1 + 1, 0, none⟩), .int .i64 p] (wr.setCell ⟨w.heap.size + 1 + 1 + 1, 5, none⟩ (.slice (some ⟨gq, o', none⟩) ws0.length (cap - 1))) fun e w' => Frm (fun k => k = (w.heap.size + 1 + 1 + 1) ∨ k = (w.heap.size + 1 + 1) ∨ k = gq) (wr.setCell ⟨w.heap.size + 1 + 1 + 1, 5, none⟩ (.slice (some ⟨gq, o', none⟩) ws0.length (cap - 1))) w' ∧
      ((e = .returned (.bool false) ∧ stepH ps l out ws0 p = none) ∨ (e = .returned (.bool true) ∧ ∃ out' ws' gq' o' cap', stepH ps l out ws0 p = some (out', ws') ∧ HInv l out' ws' ∧ negs out' + ws'.length = negs out + ws0.length ∧ Wk w' w.heap.size (w.heap.size + 1 + 1 + 1) (w.heap.size + 1 + 1) (.slice pa pn pc) x y (.slice a q c) q out' (.slice (some ⟨gq', o', none⟩) ws'.length cap') ∧ Queue w' w.heap.size gq' o' cap' ws' ∧ (gq' = gq ∨ wr.heap.size ≤ gq')))) := hid (fun o' qt => by
              have fr : Frm (fun k => k = (w.heap.size + 1 + 1 + 1)) wr (wr.setCell ⟨w.heap.size + 1 + 1 + 1, 5, none⟩ (.slice (some ⟨gq, o', none⟩) ws0.length (cap - 1))) := Frm.set _ rfl
              have hB : Below w.heap.size w (wr.setCell ⟨w.heap.size + 1 + 1 + 1, 5, none⟩ (.slice (some ⟨gq, o', none⟩) ws0.length (cap - 1))) := hb.trans (fr.below hb.size (fun k hk => by omega))
              have := goOn_any (wk.stored hne (.slice (some ⟨gq, o', none⟩) ws0.length (cap - 1))) (qt.frm fr hg1) hne hg1 hg2 (HP.out.kept hB) (HI.out.kept hB) HPK.out HC.out p hpn (HR.out p hreach) inv.tail hcur0 hreach (by have := HK.out; simp only [List.length_cons] at this; omega)
              simpa using this)
            have QT : Hid (∃ o', (cap = 1 → o' = o) ∧ (¬ cap = 1 → o' = o + 1) ∧ Queue wr w.heap.size gq o' (cap - 1) ws0) := hid (by
              have qt := qu.tail
              by_cases h1 : cap = 1
              · have e0 : ws0 = [] := List.length_eq_zero_iff.1 (by omega)
                refine ⟨o, fun _ => rfl, fun h => absurd h1 h, ⟨qt.old, qt.lt, qt.len, ?_, ?_⟩⟩
                · rw [e0]; intro j v hv; simp [ints] at hv
                · intro j hj; omega
              · exact ⟨o + 1, fun h => absurd h h1, fun _ => rfl, qt⟩)
            clear wk qu inv hl1 hreach hcur0
            by_cases h1 : cap = 1
            · obtain ⟨o', e1, -, QT0⟩ := QT.out
              have e1 := e1 h1
              subst e1
              have e0 : ws0 = [] := List.length_eq_zero_iff.1 (by omega)
              have GG := hid (GO.out _ QT0)
              clear QT0 QT GO
              subst e0
              subst h1
              go_wp2_with fail
              refine GG.out.mono ?_
              rintro e w6 ⟨f6, ⟨rfl, hst⟩ | ⟨rfl, out', ws', gq', o6, cap', hst, inv', hng, wk', qu', at6⟩⟩
              · have B6 : Hid (Below w.heap.size w w6) := hid ((hb.trans ((Frm.set (S := fun k => k = (w.heap.size + 1 + 1 + 1)) (p := ⟨w.heap.size + 1 + 1 + 1, 5, none⟩) _ rfl).below hb.size (fun k hk => by omega))).trans (f6.below (by simpa using hb.size) (fun k hk => by omega)))
                have e9 := (walkF_bad (k := k') hst).symm.trans HW.out
                simp only [Prod.mk.injEq] at e9
                obtain ⟨rfl, rfl, rfl⟩ := e9
                clear f6 hst GG
                go_wp2_with fail
                go_ret2
                exact ⟨_, rfl, World.ownsRow_nil _ _ _ _, B6.out⟩
              · have B6 : Hid (Below w.heap.size w w6) := hid ((hb.trans ((Frm.set (S := fun k => k = (w.heap.size + 1 + 1 + 1)) (p := ⟨w.heap.size + 1 + 1 + 1, 5, none⟩) _ rfl).below hb.size (fun k hk => by omega))).trans (f6.below (by simpa using hb.size) (fun k hk => by omega)))
                have HWn : Hid (walkF ps l k' out' ws' = (V1, V2, V3)) := hid ((walkF_go (k := k') hst).symm.trans HW.out)
                have R := hid (And.intro wk' (And.intro qu' (And.intro inv' (And.intro hng at6))))
                clear f6 hst GG wk' qu' inv' hng at6
                go_wp2_with fail
                go_roundg k'
                case measure => omega
                case rel =>
                  obtain ⟨r1, r2, r3, r4, r5⟩ := R.out
                  exact ⟨out', ws', gq', o6, cap', r1, r2, by rcases r5 with e | e; (rw [e]; exact ⟨hg1, hg2⟩); (have := r1.num.lt; omega), r3, by have h1 := HK.out.1; simp only [List.length_cons] at h1; omega, by have := HK.out; omega, HWn.out, B6.out⟩
            · obtain ⟨o', -, e1, QT0⟩ := QT.out
              have e1 := e1 h1
              subst e1
              have GG := hid (GO.out _ QT0)
              clear QT0 QT GO
              go_wp2_with fail
              refine GG.out.mono ?_
              rintro e w6 ⟨f6, ⟨rfl, hst⟩ | ⟨rfl, out', ws', gq', o6, cap', hst, inv', hng, wk', qu', at6⟩⟩
              · have B6 : Hid (Below w.heap.size w w6) := hid ((hb.trans ((Frm.set (S := fun k => k = (w.heap.size + 1 + 1 + 1)) (p := ⟨w.heap.size + 1 + 1 + 1, 5, none⟩) _ rfl).below hb.size (fun k hk => by omega))).trans (f6.below (by simpa using hb.size) (fun k hk => by omega)))
                have e9 := (walkF_bad (k := k') hst).symm.trans HW.out
                simp only [Prod.mk.injEq] at e9
                obtain ⟨rfl, rfl, rfl⟩ := e9
                clear f6 hst GG
                go_wp2_with fail
                go_ret2
                exact ⟨_, rfl, World.ownsRow_nil _ _ _ _, B6.out⟩
              · have B6 : Hid (Below w.heap.size w w6) := hid ((hb.trans ((Frm.set (S := fun k => k = (w.heap.size + 1 + 1 + 1)) (p := ⟨w.heap.size + 1 + 1 + 1, 5, none⟩) _ rfl).below hb.size (fun k hk => by omega))).trans (f6.below (by simpa using hb.size) (fun k hk => by omega)))
                have HWn : Hid (walkF ps l k' out' ws' = (V1, V2, V3)) := hid ((walkF_go (k := k') hst).symm.trans HW.out)
                have R := hid (And.intro wk' (And.intro qu' (And.intro inv' (And.intro hng at6))))
                clear f6 hst GG wk' qu' inv' hng at6
                go_wp2_with fail
                go_roundg k'
                case measure => omega
                case rel =>
                  obtain ⟨r1, r2, r3, r4, r5⟩ := R.out
                  exact ⟨out', ws', gq', o6, cap', r1, r2, by rcases r5 with e | e; (rw [e]; exact ⟨hg1, hg2⟩); (have := r1.num.lt; omega), r3, by have h1 := HK.out.1; simp only [List.length_cons] at h1; omega, by have := HK.out; omega, HWn.out, B6.out⟩
  · obtain ⟨w3, hw3⟩ : ∃ w3 : World, w3 = ((((w.alloc (.cells #[.slice pa pn pc] 24)).alloc (.cells #[.int .i64 x, .int .i64 y, .slice a n c] 63)).alloc (.cells #[.slice pa pn pc, .int .i64 x, .int .i64 y, .slice a n c, .slice (some ⟨w.heap.size + 1 + 1 + 1, 0, none⟩) n n, .slice none 0 0] 164)).alloc (.cells (madeCells #[.int .i64 0] n) 3)).drew := ⟨_, rfl⟩
    have B3 : Hid (Below w.heap.size w w3) := hid (by rw [hw3]; exact Below.drew (Below.alloc (Below.alloc (Below.alloc (Below.alloc (Below.refl _ _) (Nat.le_refl _) _) (by simp) _) (by simp; omega) _) (by simp; omega) _))
    have N3 : Hid (NumSt w3 ((w.heap.size + 1 + 1 + 1)) n w.heap.size (List.replicate 0 (-1) ++ List.replicate (n - 0) 0)) := hid (by
      rw [hw3, List.replicate_zero, List.nil_append, Nat.sub_zero]
      have := NumSt.make (((w.alloc (.cells #[.slice pa pn pc] 24)).alloc (.cells #[.int .i64 x, .int .i64 y, .slice a n c] 63)).alloc (.cells #[.slice pa pn pc, .int .i64 x, .int .i64 y, .slice a n c, .slice (some ⟨w.heap.size + 1 + 1 + 1, 0, none⟩) n n, .slice none 0 0] 164)) n w.heap.size (by simp; omega) (by unfold maxLen; omega)
      rw [show (((w.alloc (.cells #[.slice pa pn pc] 24)).alloc (.cells #[.int .i64 x, .int .i64 y, .slice a n c] 63)).alloc (.cells #[.slice pa pn pc, .int .i64 x, .int .i64 y, .slice a n c, .slice (some ⟨w.heap.size + 1 + 1 + 1, 0, none⟩) n n, .slice none 0 0] 164)).heap.size = w.heap.size + 1 + 1 + 1 by simp] at this
      exact this.kept (Below.drew (Below.refl _ _)))
    have K3 : Hid (Wk w3 w.heap.size (w.heap.size + 1 + 1) (w.heap.size + 1 + 1 + 1) (.slice pa pn pc) x y (.slice a n c) n (List.replicate 0 (-1) ++ List.replicate (n - 0) 0) (.slice none 0 0)) := hid (by
      refine ⟨?_, ?_, ?_, ?_, ?_, ?_, ?_, N3.out⟩
      all_goals (rw [hw3]; simp [go_sem]))
    have hne : (w.heap.size + 1 + 1) ≠ (w.heap.size + 1 + 1 + 1) := by omega
    rw [← hw3]
    have E3 := hid hw3
    clear hw3 N3 hmk
    have k4 := K3.out.h
    go_wp2_with fail
    go_loopw [20] (fun s wr => ∃ q : Nat, q ≤ n ∧ s = .int .i64 q ∧ Wk wr w.heap.size (w.heap.size + 1 + 1) (w.heap.size + 1 + 1 + 1) (.slice pa pn pc) x y (.slice a n c) n (List.replicate q (-1) ++ List.replicate (n - q) 0) (.slice none 0 0) ∧ Below w.heap.size w wr) (fun s _ => n - (intOf s).toNat)
    case atStart => exact ⟨0, Nat.zero_le _, rfl, K3.out, B3.out⟩
    case round =>
      clear K3 B3 E3 k4
      obtain ⟨q, hq, rfl, wk, hb⟩ := hrel
      by_cases hlt : q < n
      · have c1 := wk.num.at q hlt
        have f1 := wk.num.free q
        have c4 := wk.h
        have R : Hid (Wk (wr.setCell ⟨w.heap.size + 1 + 1 + 1, q, none⟩ (.int .i64 (-1))) w.heap.size (w.heap.size + 1 + 1) (w.heap.size + 1 + 1 + 1) (.slice pa pn pc) x y (.slice a n c) n (List.replicate (q + 1) (-1) ++ List.replicate (n - (q + 1)) 0) (.slice none 0 0) ∧ Below w.heap.size w (wr.setCell ⟨w.heap.size + 1 + 1 + 1, q, none⟩ (.int .i64 (-1)))) := hid (by
          have fr : Frm (fun k => k = (w.heap.size + 1 + 1 + 1)) wr (wr.setCell ⟨w.heap.size + 1 + 1 + 1, q, none⟩ (.int .i64 (-1))) := Frm.set _ rfl
          exact ⟨⟨fr.cell wk.p hne, fr.cell wk.x hne, fr.cell wk.y hne, fr.cell wk.f hne, fr.cell wk.h hne, fr.cell wk.q hne, fr.free wk.q wk.free hne, by rw [← rep_step q n hlt]; exact wk.num.put q (-1)⟩, hb.trans (fr.below hb.size (fun k hk => by omega))⟩)
        clear wk
        go_wp2_with fail
        go_roundw
        case rel => exact ⟨q + 1, by omega, by go_num, R.out⟩
        case measure => simp [intOf]; omega
      · have hqn : q = n := by omega
        subst hqn
        rw [show q - q = 0 by omega, List.replicate_zero, List.append_nil] at wk
        have CF := hid (come_first wk hlen.2 hb.size hne 0 (by omega) 0 (by rw [List.getD_eq_getElem?_getD, List.getElem?_replicate, if_pos (by omega)]; rfl))
        have hgw := lt_of_cell wk.p
        have hgh := wk.num.lt.2
        have HB := hid hb
        clear wk hb
        go_wp2_with fail
        refine CF.out.mono ?_
        rintro e w4 ⟨rfl, g4, cap4, k4, q4, at4, f4⟩
        have R0 : Hid (Wk w4 w.heap.size (w.heap.size + 1 + 1) (w.heap.size + 1 + 1 + 1) (.slice pa pn pc) x y (.slice a q c) q ((List.replicate l.length (-1)).set 0 0) (.slice (some ⟨g4, 0, none⟩) 1 cap4) ∧ Queue w4 w.heap.size g4 0 cap4 [0] ∧ Below w.heap.size w w4) := hid ⟨by rw [← L.out]; exact k4, by simpa using q4, HB.out.trans (f4.below HB.out.size (fun k hk => by omega))⟩
        have hg4 : g4 ≠ (w.heap.size + 1 + 1) ∧ g4 ≠ (w.heap.size + 1 + 1 + 1) := by omega
        clear k4 q4 at4 f4 CF
        go_wp2_with fail
        go_loopg [] q (fun k wr => ∃ out ws gq o cap, Wk wr w.heap.size (w.heap.size + 1 + 1) (w.heap.size + 1 + 1 + 1) (.slice pa pn pc) x y (.slice a q c) q out (.slice (some ⟨gq, o, none⟩) ws.length cap) ∧ Queue wr w.heap.size gq o cap ws ∧ (gq ≠ (w.heap.size + 1 + 1) ∧ gq ≠ (w.heap.size + 1 + 1 + 1)) ∧ HInv l out ws ∧ negs out + ws.length ≤ k ∧ k ≤ q ∧ walkF ps l k out ws = (V1, V2, V3) ∧ Below w.heap.size w wr)
        case atStart => exact ⟨_, [0], _, _, _, R0.out.1, R0.out.2.1, hg4, HInv.start (by have := L.out; omega), by have h1 := negs_start l.length (by have := L.out; omega); have := L.out; show _ + 1 ≤ q; omega, Nat.le_refl _, by rw [← HV.out, walkV, ← L.out], R0.out.2.2⟩
        case round =>
          clear R0 hg4 hgw hgh
          obtain ⟨out, ws, gq, o, cap, wk, qu, ⟨hg1, hg2⟩, inv, hle, hlq, hwf, hb⟩ := hrel
          have HK := hid (And.intro hle hlq)
          have HW := hid hwf
          have hcq := qu.len
          have c5 := wk.q
          have f5 := wk.free
          have c4 := wk.h
          have hgw := lt_of_cell wk.p
          have hgh := wk.num.lt.2
          have hlw : ws.length ≤ 64 := by omega
          clear hle hlq hwf
          cases ws with
          | nil =>
            have e1 := HW.out
            rw [walkF_nil] at e1
            simp only [Prod.mk.injEq] at e1
            obtain ⟨rfl, rfl, rfl⟩ := e1
            have NS := hid wk.num
            have c5' : wr.cell? ⟨w.heap.size + 1 + 1, 5, none⟩ = some (.slice (some ⟨gq, o, none⟩) 0 cap) := c5
            clear wk qu inv HW c5
            go_wp2_with fail
            go_ret2
            refine ⟨_, rfl, ?_, hb⟩
            rw [NS.out.len]
            exact NS.out.row
          | cons xx ws0 =>
            obtain ⟨p, rfl, hpl', hreach, hcur0⟩ := inv.work xx (by simp)
            have hpn : p < q := by have := L.out; omega
            obtain ⟨k', rfl⟩ : ∃ k', gk = k' + 1 := ⟨gk - 1, by have := HK.out; simp at this; omega⟩
            have cX := qu.head
            have hgl := qu.lt
            have hgo := qu.old
            have hl1 : ((p : Int) :: ws0).length = ws0.length + 1 := by simp
            rw [hl1] at hcq hlw c5
            have GO : Hid (∀ o', Queue wr w.heap.size gq o' (cap - 1) ws0 → Calls Tryz.prog 120 #[.pointer (some ⟨w.heap.size + 1 + 1, 0, none⟩), .int .i64 p] (wr.setCell ⟨w.heap.size + 1 + 1, 5, none⟩ (.slice (some ⟨gq, o', none⟩) ws0.length (cap - 1))) fun e w' => Frm (fun k => k = (w.heap.size + 1 + 1) ∨ k = (w.heap.size + 1 + 1 + 1) ∨ k = gq) (wr.setCell ⟨w.heap.size + 1 + 1, 5, none⟩ (.slice (some ⟨gq, o', none⟩) ws0.length (cap - 1))) w' ∧
      ((e = .returned (.bool false) ∧ stepH ps l out ws0 p = none) ∨ (e = .returned (.bool true) ∧ ∃ out' ws' gq' o' cap', stepH ps l out ws0 p = some (out', ws') ∧ HInv l out' ws' ∧ negs out' + ws'.length = negs out + ws0.length ∧ Wk w' w.heap.size (w.heap.size + 1 + 1) (w.heap.size + 1 + 1 + 1) (.slice pa pn pc) x y (.slice a q c) q out' (.slice (some ⟨gq', o', none⟩) ws'.length cap') ∧ Queue w' w.heap.size gq' o' cap' ws' ∧ (gq' = gq ∨ wr.heap.size ≤ gq')))) := hid (fun o' qt => by
              have fr : Frm (fun k => k = (w.heap.size + 1 + 1)) wr (wr.setCell ⟨w.heap.size + 1 + 1, 5, none⟩ (.slice (some ⟨gq, o', none⟩) ws0.length (cap - 1))) := Frm.set _ rfl
              have hB : Below w.heap.size w (wr.setCell ⟨w.heap.size + 1 + 1, 5, none⟩ (.slice (some ⟨gq, o', none⟩) ws0.length (cap - 1))) := hb.trans (fr.below hb.size (fun k hk => by omega))
              have := goOn_any (wk.stored hne (.slice (some ⟨gq, o', none⟩) ws0.length (cap - 1))) (qt.frm fr hg1) hne hg1 hg2 (HP.out.kept hB) (HI.out.kept hB) HPK.out HC.out p hpn (HR.out p hreach) inv.tail hcur0 hreach (by have := HK.out; simp only [List.length_cons] at this; omega)
              simpa using this)
            have QT : Hid (∃ o', (cap = 1 → o' = o) ∧ (¬ cap = 1 → o' = o + 1) ∧ Queue wr w.heap.size gq o' (cap - 1) ws0) := hid (by
              have qt := qu.tail
              by_cases h1 : cap = 1
              · have e0 : ws0 = [] := List.length_eq_zero_iff.1 (by omega)
                refine ⟨o, fun _ => rfl, fun h => absurd h1 h, ⟨qt.old, qt.lt, qt.len, ?_, ?_⟩⟩
                · rw [e0]; intro j v hv; simp [ints] at hv
                · intro j hj; omega
              · exact ⟨o + 1, fun h => absurd h h1, fun _ => rfl, qt⟩)
            clear wk qu inv hl1 hreach hcur0
            by_cases h1 : cap = 1
            · obtain ⟨o', e1, -, QT0⟩ := QT.out
              have e1 := e1 h1
              subst e1
              have e0 : ws0 = [] := List.length_eq_zero_iff.1 (by omega)
              have GG := hid (GO.out _ QT0)
              clear QT0 QT GO
              subst e0
              subst h1
              go_wp2_with fail
              refine GG.out.mono ?_
              rintro e w6 ⟨f6, ⟨rfl, hst⟩ | ⟨rfl, out', ws', gq', o6, cap', hst, inv', hng, wk', qu', at6⟩⟩
              · have B6 : Hid (Below w.heap.size w w6) := hid ((hb.trans ((Frm.set (S := fun k => k = (w.heap.size + 1 + 1)) (p := ⟨w.heap.size + 1 + 1, 5, none⟩) _ rfl).below hb.size (fun k hk => by omega))).trans (f6.below (by simpa using hb.size) (fun k hk => by omega)))
                have e9 := (walkF_bad (k := k') hst).symm.trans HW.out
                simp only [Prod.mk.injEq] at e9
                obtain ⟨rfl, rfl, rfl⟩ := e9
                clear f6 hst GG
                go_wp2_with fail
                go_ret2
                exact ⟨_, rfl, World.ownsRow_nil _ _ _ _, B6.out⟩
              · have B6 : Hid (Below w.heap.size w w6) := hid ((hb.trans ((Frm.set (S := fun k => k = (w.heap.size + 1 + 1)) (p := ⟨w.heap.size + 1 + 1, 5, none⟩) _ rfl).below hb.size (fun k hk => by omega))).trans (f6.below (by simpa using hb.size) (fun k hk => by omega)))
                have HWn : Hid (walkF ps l k' out' ws' = (V1, V2, V3)) := hid ((walkF_go (k := k') hst).symm.trans HW.out)
                have R := hid (And.intro wk' (And.intro qu' (And.intro inv' (And.intro hng at6))))
                clear f6 hst GG wk' qu' inv' hng at6
                go_wp2_with fail
                go_roundg k'
                case measure => omega
                case rel =>
                  obtain ⟨r1, r2, r3, r4, r5⟩ := R.out
                  exact ⟨out', ws', gq', o6, cap', r1, r2, by rcases r5 with e | e; (rw [e]; exact ⟨hg1, hg2⟩); (have := r1.num.lt; omega), r3, by have h1 := HK.out.1; simp only [List.length_cons] at h1; omega, by have := HK.out; omega, HWn.out, B6.out⟩
            · obtain ⟨o', -, e1, QT0⟩ := QT.out
              have e1 := e1 h1
              subst e1
              have GG := hid (GO.out _ QT0)
              clear QT0 QT GO
              go_wp2_with fail
              refine GG.out.mono ?_
              rintro e w6 ⟨f6, ⟨rfl, hst⟩ | ⟨rfl, out', ws', gq', o6, cap', hst, inv', hng, wk', qu', at6⟩⟩
              · have B6 : Hid (Below w.heap.size w w6) := hid ((hb.trans ((Frm.set (S := fun k => k = (w.heap.size + 1 + 1)) (p := ⟨w.heap.size + 1 + 1, 5, none⟩) _ rfl).below hb.size (fun k hk => by omega))).trans (f6.below (by simpa using hb.size) (fun k hk => by omega)))
                have e9 := (walkF_bad (k := k') hst).symm.trans HW.out
                simp only [Prod.mk.injEq] at e9
                obtain ⟨rfl, rfl, rfl⟩ := e9
                clear f6 hst GG
                go_wp2_with fail
                go_ret2
                exact ⟨_, rfl, World.ownsRow_nil _ _ _ _, B6.out⟩
              · have B6 : Hid (Below w.heap.size w w6) := hid ((hb.trans ((Frm.set (S := fun k => k = (w.heap.size + 1 + 1)) (p := ⟨w.heap.size + 1 + 1, 5, none⟩) _ rfl).below hb.size (fun k hk => by omega))).trans (f6.below (by simpa using hb.size) (fun k hk => by omega)))
                have HWn : Hid (walkF ps l k' out' ws' = (V1, V2, V3)) := hid ((walkF_go (k := k') hst).symm.trans HW.out)
                have R := hid (And.intro wk' (And.intro qu' (And.intro inv' (And.intro hng at6))))
                clear f6 hst GG wk' qu' inv' hng at6
                go_wp2_with fail
                go_roundg k'
                case measure => omega
                case rel =>
                  obtain ⟨r1, r2, r3, r4, r5⟩ := R.out
                  exact ⟨out', ws', gq', o6, cap', r1, r2, by rcases r5 with e | e; (rw [e]; exact ⟨hg1, hg2⟩); (have := r1.num.lt; omega), r3, by have h1 := HK.out.1; simp only [List.length_cons] at h1; omega, by have := HK.out; omega, HWn.out, B6.out⟩

end Go.Proofs.YteliljhlfemnpaaGreatDoor
