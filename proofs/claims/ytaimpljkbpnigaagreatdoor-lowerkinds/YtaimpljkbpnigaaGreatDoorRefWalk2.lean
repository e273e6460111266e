/- What the document's own walk returns: the whole. -/
import Derived.Test.YtaimpljkbpnigaaGreatDoorRefWalk
import Derived.Deep.LoopGhost
namespace Go.Proofs.YtaimpljkbpnigaaGreatDoor
open Go.RowKit
set_option linter.unusedVariables false

theorem walkF_nil (ps : List Fn) (l : List (Int × Int)) (k : Nat) (out : List Int) : walkF ps l k out [] = (out, 0, 0) := by cases k <;> rfl
theorem walkF_bad {ps : List Fn} {l : List (Int × Int)} {k p : Nat} {out ws : List Int} (h : stepH ps l out ws p = none) : walkF ps l (k + 1) out ((p : Int) :: ws) = ([], (p : Int), 502) := by simp [walkF, h]
theorem walkF_go {ps : List Fn} {l : List (Int × Int)} {k p : Nat} {out ws : List Int} {s : List Int × List Int} (h : stepH ps l out ws p = some s) : walkF ps l (k + 1) out ((p : Int) :: ws) = walkF ps l k s.1 s.2 := by simp [walkF, h]
theorem stepH_bad {ps : List Fn} {l : List (Int × Int)} {p : Nat} {out ws : List Int} (h : out.getD p 0 < takesAt ps l p ∨ 8 < goesTo ps l out p) : stepH ps l out ws p = none := if_pos h
theorem stepH_go {ps : List Fn} {l : List (Int × Int)} {p : Nat} {out ws : List Int} (h : ¬ out.getD p 0 < takesAt ps l p) (h' : ¬ 8 < goesTo ps l out p) : stepH ps l out ws p = putHs (goesTo ps l out p) (nextL l p) (out, ws) := if_neg (by omega)
theorem putHs_new {h : Int} {q : Nat} {xs out ws : List Int} (hn : out.getD q 0 < 0) : putHs h ((q : Int) :: xs) (out, ws) = putHs h xs (out.set q h, ws ++ [(q : Int)]) := by
  have : putH h (out, ws) (q : Int) = some (out.set q h, ws ++ [(q : Int)]) := by unfold putH; rw [if_pos (by simpa using hn)]; simp
  simp only [putHs, this]
theorem putHs_same {h : Int} {q : Nat} {xs out ws : List Int} (hn : ¬ out.getD q 0 < 0) (he : out.getD q 0 = h) : putHs h ((q : Int) :: xs) (out, ws) = putHs h xs (out, ws) := by
  have : putH h (out, ws) (q : Int) = some (out, ws) := by unfold putH; rw [if_neg (by simpa using hn), if_pos (by simpa using he)]
  simp only [putHs, this]
theorem putHs_other {h : Int} {q : Nat} {xs out ws : List Int} (hn : ¬ out.getD q 0 < 0) (he : ¬ out.getD q 0 = h) : putHs h ((q : Int) :: xs) (out, ws) = none := by
  have : putH h (out, ws) (q : Int) = none := by unfold putH; rw [if_neg (by simpa using hn), if_neg (by simpa using he)]
  simp only [putHs, this]
theorem takes_bd (k m : Int) (hm : 0 ≤ m ∧ m ≤ 4) : 0 ≤ takesV k m ∧ takesV k m ≤ 4 := by
  unfold takesV; split
  · omega
  split
  · omega
  split <;> omega
theorem puts_bd (k : Int) : 0 ≤ putsV k ∧ putsV k ≤ 2 := by
  unfold putsV; split
  · omega
  split <;> omega
theorem code_may {l : List (Int × Int)} {p : Nat} (hc : codeB l = true) (hp : p < l.length) : mayB (insAt l p).1 (insAt l p).2 = true := by
  unfold codeB at hc
  simp only [Bool.and_eq_true, List.all_eq_true] at hc
  exact hc.2 _ (by simp [insAt, List.getD_eq_getElem?_getD, hp])
theorem args_bd {ps : List Fn} (hk : packsB ps = true) {k A : Int} (hA : k = 14 → 0 ≤ A ∧ A < ps.length) : 0 ≤ argsOf ps k A ∧ argsOf ps k A ≤ 4 := by
  unfold argsOf
  split
  · rename_i h
    obtain ⟨h1, h2⟩ := hA h
    have := fnB_of hk (q := A.toNat) (by omega) rfl
    generalize ps.getD A.toNat noFn = f at this ⊢
    obtain ⟨x, y, l⟩ := f
    have := fnB_bd this
    show 0 ≤ x ∧ x ≤ 4
    omega
  · omega
theorem drop_at {α : Type} {l : List α} {j : Nat} {d x : α} (h : j < l.length) (e : l.getD j d = x) : l.drop j = x :: l.drop (j + 1) := by
  rw [List.drop_eq_getElem_cons h, ← e]; simp [List.getD_eq_getElem?_getD, h]

set_option maxRecDepth 100000 in
set_option maxHeartbeats 8000000 in
theorem refWalk_any (pa : Option Addr) (pn pc : Nat) (ps : List Fn) (x y : Int) (a : Option Addr) (n c : Nat) (l : List (Int × Int)) (w : World) (hp : Fns w pa pn pc ps) (h : Inss w a n c l) (hk : packsB ps = true) (hc : codeB l = true)
    (hR : ∀ i, Reach l i → rangedB pn y n (insAt l i).1 (insAt l i).2 = true) :
    Calls Tryz.prog 63 #[.agg #[.slice pa pn pc], .agg #[.int .i64 x, .int .i64 y, .slice a n c]] w fun e w' => ∃ v, e = .returned (.tuple #[v, .int .i64 (walkV ps l).2.1, .int .i64 (walkV ps l).2.2]) ∧ w'.ownsRow w.heap.size 3 1 v (walkV ps l).1.length (ints (walkV ps l).1) ∧ Below w.heap.size w w' := by
  obtain ⟨i0, hi, hz0, hz1, hz2⟩ := info_parts Tryz.infoInt
  have L := hid h.len
  have LP := hid hp.len
  have hcp := h.cap
  have hr := h.room
  have hpr := hp.room
  have hpc := hp.cap
  have hlen : 1 ≤ n ∧ n ≤ 64 := by rw [L.out]; simp [codeB] at hc; exact hc.1
  have hpl : 1 ≤ pn ∧ pn ≤ 8 := by rw [LP.out]; simp [packsB] at hk; exact hk.1
  have HC := hid hc
  have HPK := hid hk
  have HR := hid hR
  have HI := hid h
  have HP := hid hp
  generalize hV : walkV ps l = V
  have HV := hid hV
  obtain ⟨V1, V2, V3⟩ := V
  clear hc hk hR h hp hV
  have hmk := run_make_row' (P := Tryz.prog) 42 3 (.int .i64 0) 8 Tryz.underlying42 Tryz.infoInt rfl .i64 .i64 n (by omega) (by omega)
  have W3 : Hid (∃ w3 : World, w3 = ((w.alloc (.cells #[.slice pa pn pc] 24)).alloc (.cells #[.int .i64 x, .int .i64 y, .slice a n c] 51)).alloc (.cells (madeCells #[.int .i64 0] n) 3)) := hid ⟨_, rfl⟩
  obtain ⟨w3, hw3⟩ := W3.out
  have N3 : Hid (NumSt w3 (w.heap.size + 1 + 1) n w.heap.size (List.replicate 0 (-1) ++ List.replicate (n - 0) 0)) := hid (by
    have := NumSt.make ((w.alloc (.cells #[.slice pa pn pc] 24)).alloc (.cells #[.int .i64 x, .int .i64 y, .slice a n c] 51)) n w.heap.size (by simp; omega) (by unfold maxLen; omega)
    rw [show ((w.alloc (.cells #[.slice pa pn pc] 24)).alloc (.cells #[.int .i64 x, .int .i64 y, .slice a n c] 51)).heap.size = w.heap.size + 1 + 1 by simp] at this
    rw [hw3]; simpa using this)
  have P3 : Hid (PB w3 w.heap.size (.slice pa pn pc)) := hid (by rw [hw3]; simp [PB, go_sem])
  have F3 : Hid (FB5 w3 (w.heap.size + 1) x y (.slice a n c)) := hid (by rw [hw3]; exact ⟨by simp [go_sem], by simp [go_sem], by simp [go_sem]⟩)
  have B3 : Hid (Below w.heap.size w w3) := hid (by rw [hw3]; exact Below.alloc (Below.alloc (Below.alloc (Below.refl _ _) (Nat.le_refl _) _) (by simp) _) (by simp; omega) _)
  have E3 := hid hw3
  clear hw3 W3
  go_enter Tryz.func63, Tryz.ntmps63
  go_wp2_with fail
  rw [← E3.out]
  go_loopw [8] (fun s wr => ∃ q : Nat, q ≤ n ∧ s = .int .i64 q ∧ NumSt wr (w.heap.size + 1 + 1) n w.heap.size (List.replicate q (-1) ++ List.replicate (n - q) 0) ∧ PB wr w.heap.size (.slice pa pn pc) ∧ FB5 wr (w.heap.size + 1) x y (.slice a n c) ∧ Below w.heap.size w wr) (fun s _ => n - (intOf s).toNat)
  case atStart => exact ⟨0, Nat.zero_le _, rfl, N3.out, P3.out, F3.out, B3.out⟩
  case round =>
    clear N3 P3 F3 B3 E3 hmk
    obtain ⟨q, hq, rfl, ns, pb, fb, hb⟩ := hrel
    by_cases hlt : q < n
    · have c1 := ns.at q hlt
      have f1 := ns.free q
      have fr : Frm (fun k => k = w.heap.size + 1 + 1) wr (wr.setCell ⟨w.heap.size + 1 + 1, q, none⟩ (.int .i64 (-1))) := Frm.set _ rfl
      have R : Hid (NumSt (wr.setCell ⟨w.heap.size + 1 + 1, q, none⟩ (.int .i64 (-1))) (w.heap.size + 1 + 1) n w.heap.size (List.replicate (q + 1) (-1) ++ List.replicate (n - (q + 1)) 0) ∧ PB (wr.setCell ⟨w.heap.size + 1 + 1, q, none⟩ (.int .i64 (-1))) w.heap.size (.slice pa pn pc) ∧ FB5 (wr.setCell ⟨w.heap.size + 1 + 1, q, none⟩ (.int .i64 (-1))) (w.heap.size + 1) x y (.slice a n c) ∧ Below w.heap.size w (wr.setCell ⟨w.heap.size + 1 + 1, q, none⟩ (.int .i64 (-1)))) :=
        hid ⟨by rw [← rep_step q n hlt]; exact ns.put q (-1), fr.cell pb (by omega), fb.frm fr (by omega), hb.trans (fr.below hb.size (fun k hk => by omega))⟩
      clear ns pb fb fr
      go_wp2_with fail
      go_roundw
      case rel => exact ⟨q + 1, by omega, by go_num, R.out⟩
      case measure => simp [intOf]; omega
    · have hqn : q = n := by omega
      subst hqn
      rw [show q - q = 0 by omega, List.replicate_zero, List.append_nil] at ns
      have c0 := ns.at 0 (by omega)
      have f0 := ns.free 0
      have hns := ns.lt
      have fr0 : Frm (fun k => k = w.heap.size + 1 + 1) wr ((wr.setCell ⟨w.heap.size + 1 + 1, 0, none⟩ (.int .i64 0)).alloc (.cells #[.int .i64 0] 3)) := (Frm.set (S := fun k => k = w.heap.size + 1 + 1) (p := ⟨w.heap.size + 1 + 1, 0, none⟩) _ rfl).trans (Frm.of_below (S := fun k => k = w.heap.size + 1 + 1) (Below.alloc (Below.refl _ _) (Nat.le_refl _) _)) (fun _ _ h => h)
      have R0 : Hid (NumSt ((wr.setCell ⟨w.heap.size + 1 + 1, 0, none⟩ (.int .i64 0)).alloc (.cells #[.int .i64 0] 3)) (w.heap.size + 1 + 1) q w.heap.size ((List.replicate l.length (-1)).set 0 0) ∧ PB ((wr.setCell ⟨w.heap.size + 1 + 1, 0, none⟩ (.int .i64 0)).alloc (.cells #[.int .i64 0] 3)) w.heap.size (.slice pa pn pc) ∧ FB5 ((wr.setCell ⟨w.heap.size + 1 + 1, 0, none⟩ (.int .i64 0)).alloc (.cells #[.int .i64 0] 3)) (w.heap.size + 1) x y (.slice a q c) ∧ Below w.heap.size w ((wr.setCell ⟨w.heap.size + 1 + 1, 0, none⟩ (.int .i64 0)).alloc (.cells #[.int .i64 0] 3)) ∧ Queue ((wr.setCell ⟨w.heap.size + 1 + 1, 0, none⟩ (.int .i64 0)).alloc (.cells #[.int .i64 0] 3)) (w.heap.size + 3) wr.heap.size 0 1 [0]) := hid (by
        refine ⟨by rw [← L.out]; exact (ns.put 0 0).kept (Below.alloc (Below.refl _ _) (Nat.le_refl _) _), fr0.cell pb (by omega), fb.frm fr0 (by omega), hb.trans (fr0.below hb.size (fun k hk => by omega)), ?_⟩
        have := World.ownsRow_lit (e := 3) (size := 1) (base := w.heap.size + 3) (wr.setCell ⟨w.heap.size + 1 + 1, 0, none⟩ (.int .i64 0)) #[.int .i64 0] 1 (by simp; omega) (by decide) rfl
        have := Queue.of_owns (xs := [0]) this
        simpa using this)
      clear ns pb fb fr0 hb
      go_wp2_with fail
      go_loopg [9] q (fun k wv wr => ∃ out ws gq o cap, wv = .slice (some ⟨gq, o, none⟩) ws.length cap ∧ Queue wr (w.heap.size + 3) gq o cap ws ∧ HInv l out ws ∧ negs out + ws.length ≤ k ∧ k ≤ q ∧ walkF ps l k out ws = (V1, V2, V3) ∧ NumSt wr (w.heap.size + 1 + 1) q w.heap.size out ∧ PB wr w.heap.size (.slice pa pn pc) ∧ FB5 wr (w.heap.size + 1) x y (.slice a q c) ∧ Below w.heap.size w wr)
      case atStart => exact ⟨_, _, _, _, _, rfl, R0.out.2.2.2.2, HInv.start (by have := L.out; omega), by have h1 := negs_start l.length (by have := L.out; omega); have := L.out; show _ + 1 ≤ q; omega, Nat.le_refl _, by rw [← HV.out, walkV, ← L.out], R0.out.1, R0.out.2.1, R0.out.2.2.1, R0.out.2.2.2.1⟩
      case round =>
        clear R0 c0 f0 hns
        obtain ⟨out, ws, gq, o, cap, rfl, qu, inv, hle, hlq, hwf, ns, pb, fb, hb⟩ := hrel
        have hlw : ws.length ≤ 64 := by omega
        have HK := hid (And.intro hle hlq)
        have HW := hid hwf
        have hcq := qu.len
        clear hle hlq hwf
        cases ws with
        | nil =>
          have e1 := HW.out
          rw [walkF_nil] at e1
          simp only [Prod.mk.injEq] at e1
          obtain ⟨rfl, rfl, rfl⟩ := e1
          have NS := hid ns
          clear ns qu inv pb fb HW
          go_wp2_with fail
          go_ret3
          refine ⟨_, rfl, ?_, hb⟩
          rw [NS.out.len]
          exact NS.out.row
        | cons xx ws0 =>
          obtain ⟨p, rfl, hpl', hreach, hcur0⟩ := inv.work xx (by simp)
          have hpn : p < q := by have := L.out; omega
          obtain ⟨k', rfl⟩ : ∃ k', gk = k' + 1 := ⟨gk - 1, by have := HK.out; simp at this; omega⟩
          obtain ⟨b1, o1, K, A, rfl, e1, c1, c2⟩ := (HI.out.kept hb).at p hpn
          have hat : insAt l p = (K, A) := e1
          have hmay : mayB K A = true := by have := code_may HC.out hpl'; rw [hat] at this; exact this
          have hrg : rangedB pn y q K A = true := by have := HR.out p hreach; rw [hat] at this; exact this
          have hA : K = 14 → 0 ≤ A ∧ A < pn := by
            intro h14
            subst h14
            simp [may14, belowB] at hmay
            have : (A < (pn : Int)) := by simpa [rangedB] using hrg
            omega
          have hM : 0 ≤ argsOf ps K A ∧ argsOf ps K A ≤ 4 := args_bd HPK.out (by rw [← LP.out]; exact hA)
          have EF : Hid (effT K A (argsOf ps K A) = takesAt ps l p ∧ effP K A (argsOf ps K A) = putsV K) := hid (by
            have := eff_good (k := K) (a := A) (m := argsOf ps K A) (by simp [effB, hmay, argsB]; exact hM)
            exact ⟨by rw [this.1]; unfold takesAt; rw [hat], this.2.1⟩)
          have hT : 0 ≤ takesAt ps l p ∧ takesAt ps l p ≤ 4 := by unfold takesAt; rw [hat]; exact takes_bd _ _ hM
          have hPu := puts_bd K
          have GT : Hid (goesTo ps l out p = out.getD p 0 - takesAt ps l p + putsV K) := hid (by unfold goesTo; rw [hat])
          have hcur8 := (inv.high p hpl').2
          have SB : Hid (∀ ws, (out.getD p 0 < takesAt ps l p ∨ 8 < out.getD p 0 - takesAt ps l p + putsV K) → stepH ps l out ws p = none) := hid (fun ws hx => stepH_bad (by rw [GT.out]; exact hx))
          have SG : Hid (∀ ws, ¬ out.getD p 0 < takesAt ps l p → ¬ 8 < out.getD p 0 - takesAt ps l p + putsV K → stepH ps l out ws p = putHs (out.getD p 0 - takesAt ps l p + putsV K) (nextL l p) (out, ws)) := hid (fun ws h1 h2 => by rw [← GT.out]; exact stepH_go h1 (by rw [GT.out]; exact h2))
          have cX := qu.head
          have hgl := qu.lt
          have hgo := qu.old
          have hl1 : ((p : Int) :: ws0).length = ws0.length + 1 := by simp
          rw [hl1] at hcq hlw ⊢
          have cN := ns.at p hpn
          generalize hcv : out.getD p 0 = cur at *
          generalize hTv : takesAt ps l p = T at *
          generalize hPv : putsV K = Pu at *
          have INV := hid inv.tail
          have NS := hid ns
          have hns := ns.lt
          have PBh := hid pb
          have FBh := hid fb
          have RCH := hid hreach
          have QT : Hid (∃ o', (cap = 1 → o' = o) ∧ (¬ cap = 1 → o' = o + 1) ∧ Queue wr (w.heap.size + 3) gq o' (cap - 1) ws0) := hid (by
            have qt := qu.tail
            by_cases h1 : cap = 1
            · have e0 : ws0 = [] := List.length_eq_zero_iff.1 (by omega)
              refine ⟨o, fun _ => rfl, fun h => absurd h1 h, ⟨qt.old, qt.lt, qt.len, ?_, ?_⟩⟩
              · rw [e0]; intro j v hv; simp [ints] at hv
              · intro j hj; omega
            · exact ⟨o + 1, fun h => absurd h h1, fun _ => rfl, qt⟩)
          have NXE : Hid (nxL l (p : Int) = nextL l p) := hid (by unfold nxL; rw [if_pos (by rw [nxOk, HC.out, show inB l.length (p : Int) = true by simp [inB]; omega]; rfl), Int.toNat_natCast])
          have HU := hid hrg
          obtain ⟨g0, g1, g2⟩ := fb
          clear qu inv ns hl1 hreach hcv hTv hPv GT e1 hrg hat hmay
          by_cases h14 : K = 14
          · subst h14
            obtain ⟨hA0, hA1⟩ := hA rfl
            obtain ⟨A', rfl⟩ : ∃ A' : Nat, A = A' := ⟨A.toNat, by omega⟩
            obtain ⟨pb1, po1, px, py, pa', pn', pc', pl', rfl, pe, pd0, pd1, pd2, pi⟩ := (HP.out.kept hb).at A' (by omega)
            have hMx : argsOf ps 14 (A' : Int) = px := by unfold argsOf; rw [if_pos rfl, Int.toNat_natCast, pe]
            rw [hMx] at EF
            have pbc : wr.cell? ⟨w.heap.size, 0, none⟩ = some (.slice (some ⟨pb1, po1, none⟩) pn pc) := PBh.out
            clear pd1 pd2 pi pe hMx hM pb
            by_cases h1 : cap = 1
            · obtain ⟨o', e1, -, QT0⟩ := QT.out
              have e1 := e1 h1
              subst e1
              subst h1
              obtain rfl : ws0 = [] := List.length_eq_zero_iff.1 (by omega)
              have QH := hid QT0
              clear QT0 QT
              go_wp2_with fail
              go_quiet (fail)
              go_wp2_with fail
              refine (refEffect_any _ _ _ _).mono ?_
              rintro e w2 ⟨rfl, b2⟩
              rw [EF.out.1, EF.out.2]
              have BB : Hid (Below wr.heap.size wr w2) := hid (kt (below_drewN (Below.refl _ _) _) b2)
              have N2 := hid (NS.out.kept BB.out)
              have c3 := kept_cell BB.out cN
              have hb2 : Hid (Below w.heap.size w w2) := hid (kt hb BB.out)
              have F2 := hid (FBh.out.kept BB.out)
              obtain ⟨x0, x1, x2⟩ := F2.out
              clear b2 g0 g1 g2 cN
              by_cases bad1 : cur < T
              · have e9 := (walkF_bad (k := k') (SB.out [] (.inl bad1))).symm.trans HW.out
                simp only [Prod.mk.injEq] at e9
                obtain ⟨rfl, rfl, rfl⟩ := e9
                go_wp2_with fail
                go_ret3
                exact ⟨_, rfl, World.ownsRow_nil _ _ _ _, hb2.out⟩
              by_cases bad2 : 8 < cur - T + Pu
              · have e9 := (walkF_bad (k := k') (SB.out [] (.inr bad2))).symm.trans HW.out
                simp only [Prod.mk.injEq] at e9
                obtain ⟨rfl, rfl, rfl⟩ := e9
                go_wp2_with fail
                go_ret3
                exact ⟨_, rfl, World.ownsRow_nil _ _ _ _, hb2.out⟩
              have SGo := hid (SG.out [] (by omega) (by omega))
              go_wp2_with fail
              refine (refNext_any x y p _ q c l w2 (HI.out.kept hb2.out)).mono ?_
              rintro e w5 ⟨vn, rfl, on, b5⟩
              rw [NXE.out] at on
              have XI : Hid (∀ z ∈ nextL l p, 0 ≤ z ∧ z < q) := hid (fun z hz => by have := nextL_in z hz; have := L.out; omega)
              have XL := hid (nextL_len l p)
              have XM : Hid (∀ z ∈ nextL l p, z ∈ nextL l p) := hid (fun z hz => hz)
              obtain ⟨an, nn, cn, rfl, iN⟩ := ints_of_owns on (by have := XL.out; omega)
              have hnn : Hid (nn = (nextL l p).length) := hid iN.len
              have hcn := iN.cap
              have hrn := iN.room
              have s25 := b5.size
              have sw2 := BB.out.size
              obtain ⟨HW5, hHW5⟩ : ∃ k, k = w2.heap.size := ⟨_, rfl⟩
              rw [← hHW5] at on
              have hH5 : wr.heap.size ≤ HW5 := by omega
              have B5 : Hid (Below wr.heap.size wr w5) := hid (kt BB.out b5)
              have N5 := hid (N2.out.kept b5)
              have hb5 := hid (kt hb2.out b5)
              have F5 := hid (F2.out.kept b5)
              have P5 : Hid (PB w5 w.heap.size (.slice (some ⟨pb1, po1, none⟩) pn pc)) := hid (kept_cell B5.out PBh.out)
              have Q5 : Hid (Queue w5 (w.heap.size + 3) gq _ _ []) := hid (QH.out.frm (Frm.of_below (S := fun _ => False) B5.out) (fun h => h))
              have XB : Hid (∀ k, (Value.slice an nn cn).ownBlock = some k → k < w5.heap.size) := hid (fun k hk => (on.lt k hk).2)
              have ON := hid on
              obtain ⟨hcurH, hcurH8⟩ : 0 ≤ cur - T + Pu ∧ cur - T + Pu ≤ 8 := by omega
              have hgl5 : gq < HW5 := by omega
              generalize hhv : cur - T + Pu = h at *
              clear on iN b5 x0 x1 x2 c3 hHW5 s25 sw2 hhv N2 F2 hb2 BB QH
              go_wp2_with fail
              go_loopw [9, 18] (fun wv s wz => ∃ j : Nat, j ≤ nn ∧ s = .int .i64 j ∧ ∃ out' ws' gz oz capz, wv = .slice (some ⟨gz, oz, none⟩) ws'.length capz ∧ Queue wz (w.heap.size + 3) gz oz capz ws' ∧ (gz = gq ∨ w5.heap.size ≤ gz) ∧ HInv l out' ws' ∧ putHs h ((nextL l p).drop j) (out', ws') = putHs h (nextL l p) (out, []) ∧ negs out' + ws'.length = negs out + ([] : List Int).length ∧ NumSt wz (w.heap.size + 1 + 1) q w.heap.size out' ∧ PB wz w.heap.size (.slice (some ⟨pb1, po1, none⟩) pn pc) ∧ FB5 wz (w.heap.size + 1) x y (.slice (some ⟨b1, o1, none⟩) q c) ∧ wz.ownsRow HW5 3 1 (.slice an nn cn) (nextL l p).length (ints (nextL l p)) ∧ w5.heap.size ≤ wz.heap.size ∧ Below w.heap.size w wz) (fun _ s _ => nn - (intOf s).toNat)
              case atStart => exact ⟨0, Nat.zero_le _, rfl, out, [], _, _, _, rfl, Q5.out, .inl rfl, INV.out, rfl, rfl, N5.out, P5.out, F5.out, ON.out, Nat.le_refl _, hb5.out⟩
              case round =>
                clear Q5 N5 P5 F5 ON hb5 B5
                obtain ⟨j, hj, rfl, out', ws', gz, oz, capz, rfl, qz, hgz, inz, hput, hng, nz, pz, fz, oz5, hsz5, hbz⟩ := hrel
                have hlz : ws'.length ≤ 64 := by have := HK.out; simp at this hng; omega
                have hcz := qz.len
                by_cases hlj : j < nn
                rotate_left
                · have hjn : j = nn := by omega
                  subst hjn
                  rw [List.drop_eq_nil_of_le (by have := hnn.out; omega)] at hput
                  have hst : stepH ps l out [] p = some (out', ws') := by rw [SGo.out, ← hput]; rfl
                  have HWn : Hid (walkF ps l k' out' ws' = (V1, V2, V3)) := hid ((walkF_go (k := k') hst).symm.trans HW.out)
                  have R := hid (And.intro qz (And.intro inz (And.intro nz (And.intro pz fz))))
                  have HN := hid hng
                  clear qz inz nz pz fz oz5 hput hst hng
                  go_wp2_with fail
                  go_roundg k'
                  case measure => omega
                  case rel => exact ⟨out', ws', gz, oz, capz, rfl, R.out.1, R.out.2.1, by have h1 := HN.out; have h2 := HK.out.1; simp only [List.length_cons] at h2; omega, by have := HK.out; omega, HWn.out, R.out.2.2.1, R.out.2.2.2.1, R.out.2.2.2.2, hbz⟩
                · obtain ⟨gn, cn', e2, hgn, hgnl⟩ := oz5.form (by have := hnn.out; omega)
                  cases e2
                  have hgn5 : gn < w5.heap.size := XB.out gn rfl
                  have cX5 := oz5.cellAt j (by have := hnn.out; omega)
                  rw [ints_at (nextL l p) j (by have := hnn.out; omega)] at cX5
                  have hmem : (nextL l p).getD j 0 ∈ nextL l p := by have := hnn.out; simp [List.getD_eq_getElem?_getD, show j < (nextL l p).length by omega]
                  have hrg5 := XI.out _ hmem
                  obtain ⟨q5, hq5⟩ : ∃ q5 : Nat, (nextL l p).getD j 0 = q5 := ⟨((nextL l p).getD j 0).toNat, by omega⟩
                  rw [hq5] at cX5 hrg5 hmem
                  have hqn5 : q5 < q := by omega
                  rw [drop_at (d := 0) (by have := hnn.out; omega) hq5] at hput
                  have cO := nz.at q5 hqn5
                  have fO := nz.free q5
                  have hnl := nz.len
                  have hIP : Hid (out'.getD q5 0 < 0 → HInv l (out'.set q5 h) (ws' ++ [(q5 : Int)])) := hid (fun hx => inz.put RCH.out hmem hcurH hcurH8 hx)
                  have hNG : Hid (out'.getD q5 0 < 0 → negs (out'.set q5 h) + 1 = negs out') := hid (fun hx => negs_set (by omega) hx hcurH)
                  have hPN : Hid (out'.getD q5 0 < 0 → putHs h ((nextL l p).drop (j + 1)) (out'.set q5 h, ws' ++ [(q5 : Int)]) = putHs h (nextL l p) (out, [])) := hid (fun hx => by rw [← hput, putHs_new hx])
                  have hPS : Hid (¬ out'.getD q5 0 < 0 → out'.getD q5 0 = h → putHs h ((nextL l p).drop (j + 1)) (out', ws') = putHs h (nextL l p) (out, [])) := hid (fun hx hy => by rw [← hput, putHs_same hx hy])
                  have hPO : Hid (¬ out'.getD q5 0 < 0 → ¬ out'.getD q5 0 = h → putHs h (nextL l p) (out, []) = none) := hid (fun hx hy => by rw [← hput, putHs_other hx hy])
                  have R := hid (And.intro qz (And.intro inz (And.intro nz (And.intro pz (And.intro fz oz5)))))
                  have HN := hid hng
                  have hzl := qz.lt
                  have hzo := qz.old
                  clear qz inz nz pz fz oz5 hput hng hmem hrg5 hq5
                  generalize hov : out'.getD q5 0 = ov at *
                  by_cases hneg : ov < 0
                  · have fr6 : Frm (fun k => k = w.heap.size + 1 + 1) wr ((wr.setCell ⟨w.heap.size + 1 + 1, q5, none⟩ (.int .i64 h)).alloc (.cells #[.int .i64 (q5 : Int)] 3)) := (Frm.set (S := fun k => k = w.heap.size + 1 + 1) (p := ⟨w.heap.size + 1 + 1, q5, none⟩) _ rfl).trans (Frm.of_below (S := fun k => k = w.heap.size + 1 + 1) (Below.alloc (Below.refl _ _) (Nat.le_refl _) _)) (fun _ _ h => h)
                    have Q6 := hid (R.out.1.frm fr6 (by omega))
                    have N6 := hid ((R.out.2.2.1.put q5 h).kept (Below.alloc (Below.refl _ _) (Nat.le_refl _) (.cells #[.int .i64 (q5 : Int)] 3)))
                    have P6 : Hid (PB ((wr.setCell ⟨w.heap.size + 1 + 1, q5, none⟩ (.int .i64 h)).alloc (.cells #[.int .i64 (q5 : Int)] 3)) w.heap.size (.slice (some ⟨pb1, po1, none⟩) pn pc)) := hid (fr6.cell R.out.2.2.2.1 (by omega))
                    have F6 := hid (R.out.2.2.2.2.1.frm fr6 (by omega))
                    have O6 := hid (fr6.owns R.out.2.2.2.2.2 (fun k hk => by have e : gn = k := Option.some.inj hk; omega))
                    have B6 := hid (hbz.trans (fr6.below hbz.size (fun k hk => by omega)))
                    have X6 := hid (fr6.cell cX5 (by omega))
                    have V6 : Hid (((wr.setCell ⟨w.heap.size + 1 + 1, q5, none⟩ (.int .i64 h)).alloc (.cells #[.int .i64 (q5 : Int)] 3)).ownsRow 0 3 1 (.slice (some ⟨wr.heap.size, 0, none⟩) 1 1) [(q5 : Int)].length (ints [(q5 : Int)])) := hid (by
                      have := World.ownsRow_lit (e := 3) (size := 1) (base := 0) (wr.setCell ⟨w.heap.size + 1 + 1, q5, none⟩ (.int .i64 h)) #[.int .i64 (q5 : Int)] 1 (Nat.zero_le _) (by decide) rfl
                      simp only [World.size_setCell] at this
                      exact this)
                    clear fr6
                    go_wp2_with (first | (at_builtin; go_must ((refine wpList_append_queue _ rfl _ _ 42 rfl 3 i0 (.int .i64 0) 8 Tryz.underlying42 hi hz0 hz1 hz2 rfl _ _ _ _ ws' [(q5 : Int)] rfl Q6.out _ _ rfl V6.out (by unfold maxLen; simp; omega) (by simp; omega) ?_; intro g8 o8 cap8 w8 q8 f8 at8; have y1 := f8.cell X6.out (by omega); have y2 := f8.cell (N6.out.at q5 hqn5) (by omega); have P8 := hid (And.intro q8 (And.intro f8 at8)); clear q8 f8 at8))))
                    obtain ⟨q8, f8, at8⟩ := P8.out
                    have RL : Hid (NumSt w8 (w.heap.size + 1 + 1) q w.heap.size (out'.set q5 h) ∧ w8.cell? ⟨w.heap.size, 0, none⟩ = some (.slice (some ⟨pb1, po1, none⟩) pn pc) ∧ FB5 w8 (w.heap.size + 1) x y (.slice (some ⟨b1, o1, none⟩) q c) ∧ w8.ownsRow HW5 3 1 (.slice (some ⟨gn, 0, none⟩) (nextL l p).length cn) (nextL l p).length (ints (nextL l p)) ∧ w5.heap.size ≤ w8.heap.size ∧ Below w.heap.size w w8 ∧ (g8 = gq ∨ w5.heap.size ≤ g8)) := hid ⟨N6.out.frm f8 (by omega), f8.cell P6.out (by omega), F6.out.frm f8 (by omega), f8.owns O6.out (fun k hk => by have e : gn = k := Option.some.inj hk; omega), by have := f8.size; simp at this; omega, B6.out.trans (f8.below (by have := B6.out.size; omega) (fun k hk => by omega)), by rcases at8 with h8 | h8; (rw [h8]; exact hgz); (right; simp at h8; omega)⟩
                    have Q8 := hid q8
                    rw [getD_set_i, if_pos ⟨rfl, by omega⟩] at y2
                    clear q8 f8 at8 P8
                    go_wp2_with fail
                    go_roundw
                    case rel => exact ⟨j + 1, by omega, by go_num, out'.set q5 h, ws' ++ [(q5 : Int)], g8, o8, cap8, by simp, Q8.out, RL.out.2.2.2.2.2.2, hIP.out hneg, hPN.out hneg, by have h1 := HN.out; have h2 := hNG.out hneg; rw [List.length_append, List.length_singleton]; omega, RL.out.1, RL.out.2.1, RL.out.2.2.1, RL.out.2.2.2.1, RL.out.2.2.2.2.1, RL.out.2.2.2.2.2.1⟩
                    case measure => simp [intOf]; omega
                  · by_cases heq : ov = h
                    · subst heq
                      go_wp2_with fail
                      go_roundw
                      case rel => exact ⟨j + 1, by omega, by go_num, out', ws', gz, oz, capz, rfl, R.out.1, hgz, R.out.2.1, hPS.out hneg rfl, HN.out, R.out.2.2.1, R.out.2.2.2.1, R.out.2.2.2.2.1, R.out.2.2.2.2.2, hsz5, hbz⟩
                      case measure => simp [intOf]; omega
                    · have hst : stepH ps l out [] p = none := by rw [SGo.out]; exact hPO.out hneg heq
                      have e9 := (walkF_bad (k := k') hst).symm.trans HW.out
                      simp only [Prod.mk.injEq] at e9
                      obtain ⟨rfl, rfl, rfl⟩ := e9
                      have heq' : (ov == h) = false := by simp [heq]
                      have heq2 : (ov != h) = true := by simp [heq]
                      go_wp2_with fail
                      go_ret3
                      exact ⟨_, rfl, World.ownsRow_nil _ _ _ _, hbz⟩
            · obtain ⟨o', -, e1, QT0⟩ := QT.out
              have e1 := e1 h1
              subst e1
              have QH := hid QT0
              clear QT0 QT
              go_wp2_with fail
              go_quiet (fail)
              go_wp2_with fail
              refine (refEffect_any _ _ _ _).mono ?_
              rintro e w2 ⟨rfl, b2⟩
              rw [EF.out.1, EF.out.2]
              have BB : Hid (Below wr.heap.size wr w2) := hid (kt (below_drewN (Below.refl _ _) _) b2)
              have N2 := hid (NS.out.kept BB.out)
              have c3 := kept_cell BB.out cN
              have hb2 : Hid (Below w.heap.size w w2) := hid (kt hb BB.out)
              have F2 := hid (FBh.out.kept BB.out)
              obtain ⟨x0, x1, x2⟩ := F2.out
              clear b2 g0 g1 g2 cN
              by_cases bad1 : cur < T
              · have e9 := (walkF_bad (k := k') (SB.out ws0 (.inl bad1))).symm.trans HW.out
                simp only [Prod.mk.injEq] at e9
                obtain ⟨rfl, rfl, rfl⟩ := e9
                go_wp2_with fail
                go_ret3
                exact ⟨_, rfl, World.ownsRow_nil _ _ _ _, hb2.out⟩
              by_cases bad2 : 8 < cur - T + Pu
              · have e9 := (walkF_bad (k := k') (SB.out ws0 (.inr bad2))).symm.trans HW.out
                simp only [Prod.mk.injEq] at e9
                obtain ⟨rfl, rfl, rfl⟩ := e9
                go_wp2_with fail
                go_ret3
                exact ⟨_, rfl, World.ownsRow_nil _ _ _ _, hb2.out⟩
              have SGo := hid (SG.out ws0 (by omega) (by omega))
              go_wp2_with fail
              refine (refNext_any x y p _ q c l w2 (HI.out.kept hb2.out)).mono ?_
              rintro e w5 ⟨vn, rfl, on, b5⟩
              rw [NXE.out] at on
              have XI : Hid (∀ z ∈ nextL l p, 0 ≤ z ∧ z < q) := hid (fun z hz => by have := nextL_in z hz; have := L.out; omega)
              have XL := hid (nextL_len l p)
              have XM : Hid (∀ z ∈ nextL l p, z ∈ nextL l p) := hid (fun z hz => hz)
              obtain ⟨an, nn, cn, rfl, iN⟩ := ints_of_owns on (by have := XL.out; omega)
              have hnn : Hid (nn = (nextL l p).length) := hid iN.len
              have hcn := iN.cap
              have hrn := iN.room
              have s25 := b5.size
              have sw2 := BB.out.size
              obtain ⟨HW5, hHW5⟩ : ∃ k, k = w2.heap.size := ⟨_, rfl⟩
              rw [← hHW5] at on
              have hH5 : wr.heap.size ≤ HW5 := by omega
              have B5 : Hid (Below wr.heap.size wr w5) := hid (kt BB.out b5)
              have N5 := hid (N2.out.kept b5)
              have hb5 := hid (kt hb2.out b5)
              have F5 := hid (F2.out.kept b5)
              have P5 : Hid (PB w5 w.heap.size (.slice (some ⟨pb1, po1, none⟩) pn pc)) := hid (kept_cell B5.out PBh.out)
              have Q5 : Hid (Queue w5 (w.heap.size + 3) gq _ _ ws0) := hid (QH.out.frm (Frm.of_below (S := fun _ => False) B5.out) (fun h => h))
              have XB : Hid (∀ k, (Value.slice an nn cn).ownBlock = some k → k < w5.heap.size) := hid (fun k hk => (on.lt k hk).2)
              have ON := hid on
              obtain ⟨hcurH, hcurH8⟩ : 0 ≤ cur - T + Pu ∧ cur - T + Pu ≤ 8 := by omega
              have hgl5 : gq < HW5 := by omega
              generalize hhv : cur - T + Pu = h at *
              clear on iN b5 x0 x1 x2 c3 hHW5 s25 sw2 hhv N2 F2 hb2 BB QH
              go_wp2_with fail
              go_loopw [9, 18] (fun wv s wz => ∃ j : Nat, j ≤ nn ∧ s = .int .i64 j ∧ ∃ out' ws' gz oz capz, wv = .slice (some ⟨gz, oz, none⟩) ws'.length capz ∧ Queue wz (w.heap.size + 3) gz oz capz ws' ∧ (gz = gq ∨ w5.heap.size ≤ gz) ∧ HInv l out' ws' ∧ putHs h ((nextL l p).drop j) (out', ws') = putHs h (nextL l p) (out, ws0) ∧ negs out' + ws'.length = negs out + (ws0 : List Int).length ∧ NumSt wz (w.heap.size + 1 + 1) q w.heap.size out' ∧ PB wz w.heap.size (.slice (some ⟨pb1, po1, none⟩) pn pc) ∧ FB5 wz (w.heap.size + 1) x y (.slice (some ⟨b1, o1, none⟩) q c) ∧ wz.ownsRow HW5 3 1 (.slice an nn cn) (nextL l p).length (ints (nextL l p)) ∧ w5.heap.size ≤ wz.heap.size ∧ Below w.heap.size w wz) (fun _ s _ => nn - (intOf s).toNat)
              case atStart => exact ⟨0, Nat.zero_le _, rfl, out, ws0, _, _, _, rfl, Q5.out, .inl rfl, INV.out, rfl, rfl, N5.out, P5.out, F5.out, ON.out, Nat.le_refl _, hb5.out⟩
              case round =>
                clear Q5 N5 P5 F5 ON hb5 B5
                obtain ⟨j, hj, rfl, out', ws', gz, oz, capz, rfl, qz, hgz, inz, hput, hng, nz, pz, fz, oz5, hsz5, hbz⟩ := hrel
                have hlz : ws'.length ≤ 64 := by have := HK.out; simp at this hng; omega
                have hcz := qz.len
                by_cases hlj : j < nn
                rotate_left
                · have hjn : j = nn := by omega
                  subst hjn
                  rw [List.drop_eq_nil_of_le (by have := hnn.out; omega)] at hput
                  have hst : stepH ps l out ws0 p = some (out', ws') := by rw [SGo.out, ← hput]; rfl
                  have HWn : Hid (walkF ps l k' out' ws' = (V1, V2, V3)) := hid ((walkF_go (k := k') hst).symm.trans HW.out)
                  have R := hid (And.intro qz (And.intro inz (And.intro nz (And.intro pz fz))))
                  have HN := hid hng
                  clear qz inz nz pz fz oz5 hput hst hng
                  go_wp2_with fail
                  go_roundg k'
                  case measure => omega
                  case rel => exact ⟨out', ws', gz, oz, capz, rfl, R.out.1, R.out.2.1, by have h1 := HN.out; have h2 := HK.out.1; simp only [List.length_cons] at h2; omega, by have := HK.out; omega, HWn.out, R.out.2.2.1, R.out.2.2.2.1, R.out.2.2.2.2, hbz⟩
                · obtain ⟨gn, cn', e2, hgn, hgnl⟩ := oz5.form (by have := hnn.out; omega)
                  cases e2
                  have hgn5 : gn < w5.heap.size := XB.out gn rfl
                  have cX5 := oz5.cellAt j (by have := hnn.out; omega)
                  rw [ints_at (nextL l p) j (by have := hnn.out; omega)] at cX5
                  have hmem : (nextL l p).getD j 0 ∈ nextL l p := by have := hnn.out; simp [List.getD_eq_getElem?_getD, show j < (nextL l p).length by omega]
                  have hrg5 := XI.out _ hmem
                  obtain ⟨q5, hq5⟩ : ∃ q5 : Nat, (nextL l p).getD j 0 = q5 := ⟨((nextL l p).getD j 0).toNat, by omega⟩
                  rw [hq5] at cX5 hrg5 hmem
                  have hqn5 : q5 < q := by omega
                  rw [drop_at (d := 0) (by have := hnn.out; omega) hq5] at hput
                  have cO := nz.at q5 hqn5
                  have fO := nz.free q5
                  have hnl := nz.len
                  have hIP : Hid (out'.getD q5 0 < 0 → HInv l (out'.set q5 h) (ws' ++ [(q5 : Int)])) := hid (fun hx => inz.put RCH.out hmem hcurH hcurH8 hx)
                  have hNG : Hid (out'.getD q5 0 < 0 → negs (out'.set q5 h) + 1 = negs out') := hid (fun hx => negs_set (by omega) hx hcurH)
                  have hPN : Hid (out'.getD q5 0 < 0 → putHs h ((nextL l p).drop (j + 1)) (out'.set q5 h, ws' ++ [(q5 : Int)]) = putHs h (nextL l p) (out, ws0)) := hid (fun hx => by rw [← hput, putHs_new hx])
                  have hPS : Hid (¬ out'.getD q5 0 < 0 → out'.getD q5 0 = h → putHs h ((nextL l p).drop (j + 1)) (out', ws') = putHs h (nextL l p) (out, ws0)) := hid (fun hx hy => by rw [← hput, putHs_same hx hy])
                  have hPO : Hid (¬ out'.getD q5 0 < 0 → ¬ out'.getD q5 0 = h → putHs h (nextL l p) (out, ws0) = none) := hid (fun hx hy => by rw [← hput, putHs_other hx hy])
                  have R := hid (And.intro qz (And.intro inz (And.intro nz (And.intro pz (And.intro fz oz5)))))
                  have HN := hid hng
                  have hzl := qz.lt
                  have hzo := qz.old
                  clear qz inz nz pz fz oz5 hput hng hmem hrg5 hq5
                  generalize hov : out'.getD q5 0 = ov at *
                  by_cases hneg : ov < 0
                  · have fr6 : Frm (fun k => k = w.heap.size + 1 + 1) wr ((wr.setCell ⟨w.heap.size + 1 + 1, q5, none⟩ (.int .i64 h)).alloc (.cells #[.int .i64 (q5 : Int)] 3)) := (Frm.set (S := fun k => k = w.heap.size + 1 + 1) (p := ⟨w.heap.size + 1 + 1, q5, none⟩) _ rfl).trans (Frm.of_below (S := fun k => k = w.heap.size + 1 + 1) (Below.alloc (Below.refl _ _) (Nat.le_refl _) _)) (fun _ _ h => h)
                    have Q6 := hid (R.out.1.frm fr6 (by omega))
                    have N6 := hid ((R.out.2.2.1.put q5 h).kept (Below.alloc (Below.refl _ _) (Nat.le_refl _) (.cells #[.int .i64 (q5 : Int)] 3)))
                    have P6 : Hid (PB ((wr.setCell ⟨w.heap.size + 1 + 1, q5, none⟩ (.int .i64 h)).alloc (.cells #[.int .i64 (q5 : Int)] 3)) w.heap.size (.slice (some ⟨pb1, po1, none⟩) pn pc)) := hid (fr6.cell R.out.2.2.2.1 (by omega))
                    have F6 := hid (R.out.2.2.2.2.1.frm fr6 (by omega))
                    have O6 := hid (fr6.owns R.out.2.2.2.2.2 (fun k hk => by have e : gn = k := Option.some.inj hk; omega))
                    have B6 := hid (hbz.trans (fr6.below hbz.size (fun k hk => by omega)))
                    have X6 := hid (fr6.cell cX5 (by omega))
                    have V6 : Hid (((wr.setCell ⟨w.heap.size + 1 + 1, q5, none⟩ (.int .i64 h)).alloc (.cells #[.int .i64 (q5 : Int)] 3)).ownsRow 0 3 1 (.slice (some ⟨wr.heap.size, 0, none⟩) 1 1) [(q5 : Int)].length (ints [(q5 : Int)])) := hid (by
                      have := World.ownsRow_lit (e := 3) (size := 1) (base := 0) (wr.setCell ⟨w.heap.size + 1 + 1, q5, none⟩ (.int .i64 h)) #[.int .i64 (q5 : Int)] 1 (Nat.zero_le _) (by decide) rfl
                      simp only [World.size_setCell] at this
                      exact this)
                    clear fr6
                    go_wp2_with (first | (at_builtin; go_must ((refine wpList_append_queue _ rfl _ _ 42 rfl 3 i0 (.int .i64 0) 8 Tryz.underlying42 hi hz0 hz1 hz2 rfl _ _ _ _ ws' [(q5 : Int)] rfl Q6.out _ _ rfl V6.out (by unfold maxLen; simp; omega) (by simp; omega) ?_; intro g8 o8 cap8 w8 q8 f8 at8; have y1 := f8.cell X6.out (by omega); have y2 := f8.cell (N6.out.at q5 hqn5) (by omega); have P8 := hid (And.intro q8 (And.intro f8 at8)); clear q8 f8 at8))))
                    obtain ⟨q8, f8, at8⟩ := P8.out
                    have RL : Hid (NumSt w8 (w.heap.size + 1 + 1) q w.heap.size (out'.set q5 h) ∧ w8.cell? ⟨w.heap.size, 0, none⟩ = some (.slice (some ⟨pb1, po1, none⟩) pn pc) ∧ FB5 w8 (w.heap.size + 1) x y (.slice (some ⟨b1, o1, none⟩) q c) ∧ w8.ownsRow HW5 3 1 (.slice (some ⟨gn, 0, none⟩) (nextL l p).length cn) (nextL l p).length (ints (nextL l p)) ∧ w5.heap.size ≤ w8.heap.size ∧ Below w.heap.size w w8 ∧ (g8 = gq ∨ w5.heap.size ≤ g8)) := hid ⟨N6.out.frm f8 (by omega), f8.cell P6.out (by omega), F6.out.frm f8 (by omega), f8.owns O6.out (fun k hk => by have e : gn = k := Option.some.inj hk; omega), by have := f8.size; simp at this; omega, B6.out.trans (f8.below (by have := B6.out.size; omega) (fun k hk => by omega)), by rcases at8 with h8 | h8; (rw [h8]; exact hgz); (right; simp at h8; omega)⟩
                    have Q8 := hid q8
                    rw [getD_set_i, if_pos ⟨rfl, by omega⟩] at y2
                    clear q8 f8 at8 P8
                    go_wp2_with fail
                    go_roundw
                    case rel => exact ⟨j + 1, by omega, by go_num, out'.set q5 h, ws' ++ [(q5 : Int)], g8, o8, cap8, by simp, Q8.out, RL.out.2.2.2.2.2.2, hIP.out hneg, hPN.out hneg, by have h1 := HN.out; have h2 := hNG.out hneg; rw [List.length_append, List.length_singleton]; omega, RL.out.1, RL.out.2.1, RL.out.2.2.1, RL.out.2.2.2.1, RL.out.2.2.2.2.1, RL.out.2.2.2.2.2.1⟩
                    case measure => simp [intOf]; omega
                  · by_cases heq : ov = h
                    · subst heq
                      go_wp2_with fail
                      go_roundw
                      case rel => exact ⟨j + 1, by omega, by go_num, out', ws', gz, oz, capz, rfl, R.out.1, hgz, R.out.2.1, hPS.out hneg rfl, HN.out, R.out.2.2.1, R.out.2.2.2.1, R.out.2.2.2.2.1, R.out.2.2.2.2.2, hsz5, hbz⟩
                      case measure => simp [intOf]; omega
                    · have hst : stepH ps l out ws0 p = none := by rw [SGo.out]; exact hPO.out hneg heq
                      have e9 := (walkF_bad (k := k') hst).symm.trans HW.out
                      simp only [Prod.mk.injEq] at e9
                      obtain ⟨rfl, rfl, rfl⟩ := e9
                      have heq' : (ov == h) = false := by simp [heq]
                      have heq2 : (ov != h) = true := by simp [heq]
                      go_wp2_with fail
                      go_ret3
                      exact ⟨_, rfl, World.ownsRow_nil _ _ _ _, hbz⟩
          · have n14 : (K == 14) = false := by simp [h14]
            have hMx : argsOf ps K A = 0 := by simp [argsOf, h14]
            rw [hMx] at EF
            clear hMx hM hA
            by_cases h1 : cap = 1
            · obtain ⟨o', e1, -, QT0⟩ := QT.out
              have e1 := e1 h1
              subst e1
              subst h1
              obtain rfl : ws0 = [] := List.length_eq_zero_iff.1 (by omega)
              have QH := hid QT0
              clear QT0 QT
              go_wp2_with fail
              refine (refEffect_any _ _ _ _).mono ?_
              rintro e w2 ⟨rfl, b2⟩
              rw [EF.out.1, EF.out.2]
              have BB : Hid (Below wr.heap.size wr w2) := hid (b2)
              have N2 := hid (NS.out.kept BB.out)
              have c3 := kept_cell BB.out cN
              have hb2 : Hid (Below w.heap.size w w2) := hid (kt hb BB.out)
              have F2 := hid (FBh.out.kept BB.out)
              obtain ⟨x0, x1, x2⟩ := F2.out
              clear b2 g0 g1 g2 cN
              by_cases bad1 : cur < T
              · have e9 := (walkF_bad (k := k') (SB.out [] (.inl bad1))).symm.trans HW.out
                simp only [Prod.mk.injEq] at e9
                obtain ⟨rfl, rfl, rfl⟩ := e9
                go_wp2_with fail
                go_ret3
                exact ⟨_, rfl, World.ownsRow_nil _ _ _ _, hb2.out⟩
              by_cases bad2 : 8 < cur - T + Pu
              · have e9 := (walkF_bad (k := k') (SB.out [] (.inr bad2))).symm.trans HW.out
                simp only [Prod.mk.injEq] at e9
                obtain ⟨rfl, rfl, rfl⟩ := e9
                go_wp2_with fail
                go_ret3
                exact ⟨_, rfl, World.ownsRow_nil _ _ _ _, hb2.out⟩
              have SGo := hid (SG.out [] (by omega) (by omega))
              go_wp2_with fail
              refine (refNext_any x y p _ q c l w2 (HI.out.kept hb2.out)).mono ?_
              rintro e w5 ⟨vn, rfl, on, b5⟩
              rw [NXE.out] at on
              have XI : Hid (∀ z ∈ nextL l p, 0 ≤ z ∧ z < q) := hid (fun z hz => by have := nextL_in z hz; have := L.out; omega)
              have XL := hid (nextL_len l p)
              have XM : Hid (∀ z ∈ nextL l p, z ∈ nextL l p) := hid (fun z hz => hz)
              obtain ⟨an, nn, cn, rfl, iN⟩ := ints_of_owns on (by have := XL.out; omega)
              have hnn : Hid (nn = (nextL l p).length) := hid iN.len
              have hcn := iN.cap
              have hrn := iN.room
              have s25 := b5.size
              have sw2 := BB.out.size
              obtain ⟨HW5, hHW5⟩ : ∃ k, k = w2.heap.size := ⟨_, rfl⟩
              rw [← hHW5] at on
              have hH5 : wr.heap.size ≤ HW5 := by omega
              have B5 : Hid (Below wr.heap.size wr w5) := hid (kt BB.out b5)
              have N5 := hid (N2.out.kept b5)
              have hb5 := hid (kt hb2.out b5)
              have F5 := hid (F2.out.kept b5)
              have P5 : Hid (PB w5 w.heap.size (.slice pa pn pc)) := hid (kept_cell B5.out PBh.out)
              have Q5 : Hid (Queue w5 (w.heap.size + 3) gq _ _ []) := hid (QH.out.frm (Frm.of_below (S := fun _ => False) B5.out) (fun h => h))
              have XB : Hid (∀ k, (Value.slice an nn cn).ownBlock = some k → k < w5.heap.size) := hid (fun k hk => (on.lt k hk).2)
              have ON := hid on
              obtain ⟨hcurH, hcurH8⟩ : 0 ≤ cur - T + Pu ∧ cur - T + Pu ≤ 8 := by omega
              have hgl5 : gq < HW5 := by omega
              generalize hhv : cur - T + Pu = h at *
              clear on iN b5 x0 x1 x2 c3 hHW5 s25 sw2 hhv N2 F2 hb2 BB QH
              go_wp2_with fail
              go_loopw [9, 18] (fun wv s wz => ∃ j : Nat, j ≤ nn ∧ s = .int .i64 j ∧ ∃ out' ws' gz oz capz, wv = .slice (some ⟨gz, oz, none⟩) ws'.length capz ∧ Queue wz (w.heap.size + 3) gz oz capz ws' ∧ (gz = gq ∨ w5.heap.size ≤ gz) ∧ HInv l out' ws' ∧ putHs h ((nextL l p).drop j) (out', ws') = putHs h (nextL l p) (out, []) ∧ negs out' + ws'.length = negs out + ([] : List Int).length ∧ NumSt wz (w.heap.size + 1 + 1) q w.heap.size out' ∧ PB wz w.heap.size (.slice pa pn pc) ∧ FB5 wz (w.heap.size + 1) x y (.slice (some ⟨b1, o1, none⟩) q c) ∧ wz.ownsRow HW5 3 1 (.slice an nn cn) (nextL l p).length (ints (nextL l p)) ∧ w5.heap.size ≤ wz.heap.size ∧ Below w.heap.size w wz) (fun _ s _ => nn - (intOf s).toNat)
              case atStart => exact ⟨0, Nat.zero_le _, rfl, out, [], _, _, _, rfl, Q5.out, .inl rfl, INV.out, rfl, rfl, N5.out, P5.out, F5.out, ON.out, Nat.le_refl _, hb5.out⟩
              case round =>
                clear Q5 N5 P5 F5 ON hb5 B5
                obtain ⟨j, hj, rfl, out', ws', gz, oz, capz, rfl, qz, hgz, inz, hput, hng, nz, pz, fz, oz5, hsz5, hbz⟩ := hrel
                have hlz : ws'.length ≤ 64 := by have := HK.out; simp at this hng; omega
                have hcz := qz.len
                by_cases hlj : j < nn
                rotate_left
                · have hjn : j = nn := by omega
                  subst hjn
                  rw [List.drop_eq_nil_of_le (by have := hnn.out; omega)] at hput
                  have hst : stepH ps l out [] p = some (out', ws') := by rw [SGo.out, ← hput]; rfl
                  have HWn : Hid (walkF ps l k' out' ws' = (V1, V2, V3)) := hid ((walkF_go (k := k') hst).symm.trans HW.out)
                  have R := hid (And.intro qz (And.intro inz (And.intro nz (And.intro pz fz))))
                  have HN := hid hng
                  clear qz inz nz pz fz oz5 hput hst hng
                  go_wp2_with fail
                  go_roundg k'
                  case measure => omega
                  case rel => exact ⟨out', ws', gz, oz, capz, rfl, R.out.1, R.out.2.1, by have h1 := HN.out; have h2 := HK.out.1; simp only [List.length_cons] at h2; omega, by have := HK.out; omega, HWn.out, R.out.2.2.1, R.out.2.2.2.1, R.out.2.2.2.2, hbz⟩
                · obtain ⟨gn, cn', e2, hgn, hgnl⟩ := oz5.form (by have := hnn.out; omega)
                  cases e2
                  have hgn5 : gn < w5.heap.size := XB.out gn rfl
                  have cX5 := oz5.cellAt j (by have := hnn.out; omega)
                  rw [ints_at (nextL l p) j (by have := hnn.out; omega)] at cX5
                  have hmem : (nextL l p).getD j 0 ∈ nextL l p := by have := hnn.out; simp [List.getD_eq_getElem?_getD, show j < (nextL l p).length by omega]
                  have hrg5 := XI.out _ hmem
                  obtain ⟨q5, hq5⟩ : ∃ q5 : Nat, (nextL l p).getD j 0 = q5 := ⟨((nextL l p).getD j 0).toNat, by omega⟩
                  rw [hq5] at cX5 hrg5 hmem
                  have hqn5 : q5 < q := by omega
                  rw [drop_at (d := 0) (by have := hnn.out; omega) hq5] at hput
                  have cO := nz.at q5 hqn5
                  have fO := nz.free q5
                  have hnl := nz.len
                  have hIP : Hid (out'.getD q5 0 < 0 → HInv l (out'.set q5 h) (ws' ++ [(q5 : Int)])) := hid (fun hx => inz.put RCH.out hmem hcurH hcurH8 hx)
                  have hNG : Hid (out'.getD q5 0 < 0 → negs (out'.set q5 h) + 1 = negs out') := hid (fun hx => negs_set (by omega) hx hcurH)
                  have hPN : Hid (out'.getD q5 0 < 0 → putHs h ((nextL l p).drop (j + 1)) (out'.set q5 h, ws' ++ [(q5 : Int)]) = putHs h (nextL l p) (out, [])) := hid (fun hx => by rw [← hput, putHs_new hx])
                  have hPS : Hid (¬ out'.getD q5 0 < 0 → out'.getD q5 0 = h → putHs h ((nextL l p).drop (j + 1)) (out', ws') = putHs h (nextL l p) (out, [])) := hid (fun hx hy => by rw [← hput, putHs_same hx hy])
                  have hPO : Hid (¬ out'.getD q5 0 < 0 → ¬ out'.getD q5 0 = h → putHs h (nextL l p) (out, []) = none) := hid (fun hx hy => by rw [← hput, putHs_other hx hy])
                  have R := hid (And.intro qz (And.intro inz (And.intro nz (And.intro pz (And.intro fz oz5)))))
                  have HN := hid hng
                  have hzl := qz.lt
                  have hzo := qz.old
                  clear qz inz nz pz fz oz5 hput hng hmem hrg5 hq5
                  generalize hov : out'.getD q5 0 = ov at *
                  by_cases hneg : ov < 0
                  · have fr6 : Frm (fun k => k = w.heap.size + 1 + 1) wr ((wr.setCell ⟨w.heap.size + 1 + 1, q5, none⟩ (.int .i64 h)).alloc (.cells #[.int .i64 (q5 : Int)] 3)) := (Frm.set (S := fun k => k = w.heap.size + 1 + 1) (p := ⟨w.heap.size + 1 + 1, q5, none⟩) _ rfl).trans (Frm.of_below (S := fun k => k = w.heap.size + 1 + 1) (Below.alloc (Below.refl _ _) (Nat.le_refl _) _)) (fun _ _ h => h)
                    have Q6 := hid (R.out.1.frm fr6 (by omega))
                    have N6 := hid ((R.out.2.2.1.put q5 h).kept (Below.alloc (Below.refl _ _) (Nat.le_refl _) (.cells #[.int .i64 (q5 : Int)] 3)))
                    have P6 : Hid (PB ((wr.setCell ⟨w.heap.size + 1 + 1, q5, none⟩ (.int .i64 h)).alloc (.cells #[.int .i64 (q5 : Int)] 3)) w.heap.size (.slice pa pn pc)) := hid (fr6.cell R.out.2.2.2.1 (by omega))
                    have F6 := hid (R.out.2.2.2.2.1.frm fr6 (by omega))
                    have O6 := hid (fr6.owns R.out.2.2.2.2.2 (fun k hk => by have e : gn = k := Option.some.inj hk; omega))
                    have B6 := hid (hbz.trans (fr6.below hbz.size (fun k hk => by omega)))
                    have X6 := hid (fr6.cell cX5 (by omega))
                    have V6 : Hid (((wr.setCell ⟨w.heap.size + 1 + 1, q5, none⟩ (.int .i64 h)).alloc (.cells #[.int .i64 (q5 : Int)] 3)).ownsRow 0 3 1 (.slice (some ⟨wr.heap.size, 0, none⟩) 1 1) [(q5 : Int)].length (ints [(q5 : Int)])) := hid (by
                      have := World.ownsRow_lit (e := 3) (size := 1) (base := 0) (wr.setCell ⟨w.heap.size + 1 + 1, q5, none⟩ (.int .i64 h)) #[.int .i64 (q5 : Int)] 1 (Nat.zero_le _) (by decide) rfl
                      simp only [World.size_setCell] at this
                      exact this)
                    clear fr6
                    go_wp2_with (first | (at_builtin; go_must ((refine wpList_append_queue _ rfl _ _ 42 rfl 3 i0 (.int .i64 0) 8 Tryz.underlying42 hi hz0 hz1 hz2 rfl _ _ _ _ ws' [(q5 : Int)] rfl Q6.out _ _ rfl V6.out (by unfold maxLen; simp; omega) (by simp; omega) ?_; intro g8 o8 cap8 w8 q8 f8 at8; have y1 := f8.cell X6.out (by omega); have y2 := f8.cell (N6.out.at q5 hqn5) (by omega); have P8 := hid (And.intro q8 (And.intro f8 at8)); clear q8 f8 at8))))
                    obtain ⟨q8, f8, at8⟩ := P8.out
                    have RL : Hid (NumSt w8 (w.heap.size + 1 + 1) q w.heap.size (out'.set q5 h) ∧ w8.cell? ⟨w.heap.size, 0, none⟩ = some (.slice pa pn pc) ∧ FB5 w8 (w.heap.size + 1) x y (.slice (some ⟨b1, o1, none⟩) q c) ∧ w8.ownsRow HW5 3 1 (.slice (some ⟨gn, 0, none⟩) (nextL l p).length cn) (nextL l p).length (ints (nextL l p)) ∧ w5.heap.size ≤ w8.heap.size ∧ Below w.heap.size w w8 ∧ (g8 = gq ∨ w5.heap.size ≤ g8)) := hid ⟨N6.out.frm f8 (by omega), f8.cell P6.out (by omega), F6.out.frm f8 (by omega), f8.owns O6.out (fun k hk => by have e : gn = k := Option.some.inj hk; omega), by have := f8.size; simp at this; omega, B6.out.trans (f8.below (by have := B6.out.size; omega) (fun k hk => by omega)), by rcases at8 with h8 | h8; (rw [h8]; exact hgz); (right; simp at h8; omega)⟩
                    have Q8 := hid q8
                    rw [getD_set_i, if_pos ⟨rfl, by omega⟩] at y2
                    clear q8 f8 at8 P8
                    go_wp2_with fail
                    go_roundw
                    case rel => exact ⟨j + 1, by omega, by go_num, out'.set q5 h, ws' ++ [(q5 : Int)], g8, o8, cap8, by simp, Q8.out, RL.out.2.2.2.2.2.2, hIP.out hneg, hPN.out hneg, by have h1 := HN.out; have h2 := hNG.out hneg; rw [List.length_append, List.length_singleton]; omega, RL.out.1, RL.out.2.1, RL.out.2.2.1, RL.out.2.2.2.1, RL.out.2.2.2.2.1, RL.out.2.2.2.2.2.1⟩
                    case measure => simp [intOf]; omega
                  · by_cases heq : ov = h
                    · subst heq
                      go_wp2_with fail
                      go_roundw
                      case rel => exact ⟨j + 1, by omega, by go_num, out', ws', gz, oz, capz, rfl, R.out.1, hgz, R.out.2.1, hPS.out hneg rfl, HN.out, R.out.2.2.1, R.out.2.2.2.1, R.out.2.2.2.2.1, R.out.2.2.2.2.2, hsz5, hbz⟩
                      case measure => simp [intOf]; omega
                    · have hst : stepH ps l out [] p = none := by rw [SGo.out]; exact hPO.out hneg heq
                      have e9 := (walkF_bad (k := k') hst).symm.trans HW.out
                      simp only [Prod.mk.injEq] at e9
                      obtain ⟨rfl, rfl, rfl⟩ := e9
                      have heq' : (ov == h) = false := by simp [heq]
                      have heq2 : (ov != h) = true := by simp [heq]
                      go_wp2_with fail
                      go_ret3
                      exact ⟨_, rfl, World.ownsRow_nil _ _ _ _, hbz⟩
            · obtain ⟨o', -, e1, QT0⟩ := QT.out
              have e1 := e1 h1
              subst e1
              have QH := hid QT0
              clear QT0 QT
              go_wp2_with fail
              refine (refEffect_any _ _ _ _).mono ?_
              rintro e w2 ⟨rfl, b2⟩
              rw [EF.out.1, EF.out.2]
              have BB : Hid (Below wr.heap.size wr w2) := hid (b2)
              have N2 := hid (NS.out.kept BB.out)
              have c3 := kept_cell BB.out cN
              have hb2 : Hid (Below w.heap.size w w2) := hid (kt hb BB.out)
              have F2 := hid (FBh.out.kept BB.out)
              obtain ⟨x0, x1, x2⟩ := F2.out
              clear b2 g0 g1 g2 cN
              by_cases bad1 : cur < T
              · have e9 := (walkF_bad (k := k') (SB.out ws0 (.inl bad1))).symm.trans HW.out
                simp only [Prod.mk.injEq] at e9
                obtain ⟨rfl, rfl, rfl⟩ := e9
                go_wp2_with fail
                go_ret3
                exact ⟨_, rfl, World.ownsRow_nil _ _ _ _, hb2.out⟩
              by_cases bad2 : 8 < cur - T + Pu
              · have e9 := (walkF_bad (k := k') (SB.out ws0 (.inr bad2))).symm.trans HW.out
                simp only [Prod.mk.injEq] at e9
                obtain ⟨rfl, rfl, rfl⟩ := e9
                go_wp2_with fail
                go_ret3
                exact ⟨_, rfl, World.ownsRow_nil _ _ _ _, hb2.out⟩
              have SGo := hid (SG.out ws0 (by omega) (by omega))
              go_wp2_with fail
              refine (refNext_any x y p _ q c l w2 (HI.out.kept hb2.out)).mono ?_
              rintro e w5 ⟨vn, rfl, on, b5⟩
              rw [NXE.out] at on
              have XI : Hid (∀ z ∈ nextL l p, 0 ≤ z ∧ z < q) := hid (fun z hz => by have := nextL_in z hz; have := L.out; omega)
              have XL := hid (nextL_len l p)
              have XM : Hid (∀ z ∈ nextL l p, z ∈ nextL l p) := hid (fun z hz => hz)
              obtain ⟨an, nn, cn, rfl, iN⟩ := ints_of_owns on (by have := XL.out; omega)
              have hnn : Hid (nn = (nextL l p).length) := hid iN.len
              have hcn := iN.cap
              have hrn := iN.room
              have s25 := b5.size
              have sw2 := BB.out.size
              obtain ⟨HW5, hHW5⟩ : ∃ k, k = w2.heap.size := ⟨_, rfl⟩
              rw [← hHW5] at on
              have hH5 : wr.heap.size ≤ HW5 := by omega
              have B5 : Hid (Below wr.heap.size wr w5) := hid (kt BB.out b5)
              have N5 := hid (N2.out.kept b5)
              have hb5 := hid (kt hb2.out b5)
              have F5 := hid (F2.out.kept b5)
              have P5 : Hid (PB w5 w.heap.size (.slice pa pn pc)) := hid (kept_cell B5.out PBh.out)
              have Q5 : Hid (Queue w5 (w.heap.size + 3) gq _ _ ws0) := hid (QH.out.frm (Frm.of_below (S := fun _ => False) B5.out) (fun h => h))
              have XB : Hid (∀ k, (Value.slice an nn cn).ownBlock = some k → k < w5.heap.size) := hid (fun k hk => (on.lt k hk).2)
              have ON := hid on
              obtain ⟨hcurH, hcurH8⟩ : 0 ≤ cur - T + Pu ∧ cur - T + Pu ≤ 8 := by omega
              have hgl5 : gq < HW5 := by omega
              generalize hhv : cur - T + Pu = h at *
              clear on iN b5 x0 x1 x2 c3 hHW5 s25 sw2 hhv N2 F2 hb2 BB QH
              go_wp2_with fail
              go_loopw [9, 18] (fun wv s wz => ∃ j : Nat, j ≤ nn ∧ s = .int .i64 j ∧ ∃ out' ws' gz oz capz, wv = .slice (some ⟨gz, oz, none⟩) ws'.length capz ∧ Queue wz (w.heap.size + 3) gz oz capz ws' ∧ (gz = gq ∨ w5.heap.size ≤ gz) ∧ HInv l out' ws' ∧ putHs h ((nextL l p).drop j) (out', ws') = putHs h (nextL l p) (out, ws0) ∧ negs out' + ws'.length = negs out + (ws0 : List Int).length ∧ NumSt wz (w.heap.size + 1 + 1) q w.heap.size out' ∧ PB wz w.heap.size (.slice pa pn pc) ∧ FB5 wz (w.heap.size + 1) x y (.slice (some ⟨b1, o1, none⟩) q c) ∧ wz.ownsRow HW5 3 1 (.slice an nn cn) (nextL l p).length (ints (nextL l p)) ∧ w5.heap.size ≤ wz.heap.size ∧ Below w.heap.size w wz) (fun _ s _ => nn - (intOf s).toNat)
              case atStart => exact ⟨0, Nat.zero_le _, rfl, out, ws0, _, _, _, rfl, Q5.out, .inl rfl, INV.out, rfl, rfl, N5.out, P5.out, F5.out, ON.out, Nat.le_refl _, hb5.out⟩
              case round =>
                clear Q5 N5 P5 F5 ON hb5 B5
                obtain ⟨j, hj, rfl, out', ws', gz, oz, capz, rfl, qz, hgz, inz, hput, hng, nz, pz, fz, oz5, hsz5, hbz⟩ := hrel
                have hlz : ws'.length ≤ 64 := by have := HK.out; simp at this hng; omega
                have hcz := qz.len
                by_cases hlj : j < nn
                rotate_left
                · have hjn : j = nn := by omega
                  subst hjn
                  rw [List.drop_eq_nil_of_le (by have := hnn.out; omega)] at hput
                  have hst : stepH ps l out ws0 p = some (out', ws') := by rw [SGo.out, ← hput]; rfl
                  have HWn : Hid (walkF ps l k' out' ws' = (V1, V2, V3)) := hid ((walkF_go (k := k') hst).symm.trans HW.out)
                  have R := hid (And.intro qz (And.intro inz (And.intro nz (And.intro pz fz))))
                  have HN := hid hng
                  clear qz inz nz pz fz oz5 hput hst hng
                  go_wp2_with fail
                  go_roundg k'
                  case measure => omega
                  case rel => exact ⟨out', ws', gz, oz, capz, rfl, R.out.1, R.out.2.1, by have h1 := HN.out; have h2 := HK.out.1; simp only [List.length_cons] at h2; omega, by have := HK.out; omega, HWn.out, R.out.2.2.1, R.out.2.2.2.1, R.out.2.2.2.2, hbz⟩
                · obtain ⟨gn, cn', e2, hgn, hgnl⟩ := oz5.form (by have := hnn.out; omega)
                  cases e2
                  have hgn5 : gn < w5.heap.size := XB.out gn rfl
                  have cX5 := oz5.cellAt j (by have := hnn.out; omega)
                  rw [ints_at (nextL l p) j (by have := hnn.out; omega)] at cX5
                  have hmem : (nextL l p).getD j 0 ∈ nextL l p := by have := hnn.out; simp [List.getD_eq_getElem?_getD, show j < (nextL l p).length by omega]
                  have hrg5 := XI.out _ hmem
                  obtain ⟨q5, hq5⟩ : ∃ q5 : Nat, (nextL l p).getD j 0 = q5 := ⟨((nextL l p).getD j 0).toNat, by omega⟩
                  rw [hq5] at cX5 hrg5 hmem
                  have hqn5 : q5 < q := by omega
                  rw [drop_at (d := 0) (by have := hnn.out; omega) hq5] at hput
                  have cO := nz.at q5 hqn5
                  have fO := nz.free q5
                  have hnl := nz.len
                  have hIP : Hid (out'.getD q5 0 < 0 → HInv l (out'.set q5 h) (ws' ++ [(q5 : Int)])) := hid (fun hx => inz.put RCH.out hmem hcurH hcurH8 hx)
                  have hNG : Hid (out'.getD q5 0 < 0 → negs (out'.set q5 h) + 1 = negs out') := hid (fun hx => negs_set (by omega) hx hcurH)
                  have hPN : Hid (out'.getD q5 0 < 0 → putHs h ((nextL l p).drop (j + 1)) (out'.set q5 h, ws' ++ [(q5 : Int)]) = putHs h (nextL l p) (out, ws0)) := hid (fun hx => by rw [← hput, putHs_new hx])
                  have hPS : Hid (¬ out'.getD q5 0 < 0 → out'.getD q5 0 = h → putHs h ((nextL l p).drop (j + 1)) (out', ws') = putHs h (nextL l p) (out, ws0)) := hid (fun hx hy => by rw [← hput, putHs_same hx hy])
                  have hPO : Hid (¬ out'.getD q5 0 < 0 → ¬ out'.getD q5 0 = h → putHs h (nextL l p) (out, ws0) = none) := hid (fun hx hy => by rw [← hput, putHs_other hx hy])
                  have R := hid (And.intro qz (And.intro inz (And.intro nz (And.intro pz (And.intro fz oz5)))))
                  have HN := hid hng
                  have hzl := qz.lt
                  have hzo := qz.old
                  clear qz inz nz pz fz oz5 hput hng hmem hrg5 hq5
                  generalize hov : out'.getD q5 0 = ov at *
                  by_cases hneg : ov < 0
                  · have fr6 : Frm (fun k => k = w.heap.size + 1 + 1) wr ((wr.setCell ⟨w.heap.size + 1 + 1, q5, none⟩ (.int .i64 h)).alloc (.cells #[.int .i64 (q5 : Int)] 3)) := (Frm.set (S := fun k => k = w.heap.size + 1 + 1) (p := ⟨w.heap.size + 1 + 1, q5, none⟩) _ rfl).trans (Frm.of_below (S := fun k => k = w.heap.size + 1 + 1) (Below.alloc (Below.refl _ _) (Nat.le_refl _) _)) (fun _ _ h => h)
                    have Q6 := hid (R.out.1.frm fr6 (by omega))
                    have N6 := hid ((R.out.2.2.1.put q5 h).kept (Below.alloc (Below.refl _ _) (Nat.le_refl _) (.cells #[.int .i64 (q5 : Int)] 3)))
                    have P6 : Hid (PB ((wr.setCell ⟨w.heap.size + 1 + 1, q5, none⟩ (.int .i64 h)).alloc (.cells #[.int .i64 (q5 : Int)] 3)) w.heap.size (.slice pa pn pc)) := hid (fr6.cell R.out.2.2.2.1 (by omega))
                    have F6 := hid (R.out.2.2.2.2.1.frm fr6 (by omega))
                    have O6 := hid (fr6.owns R.out.2.2.2.2.2 (fun k hk => by have e : gn = k := Option.some.inj hk; omega))
                    have B6 := hid (hbz.trans (fr6.below hbz.size (fun k hk => by omega)))
                    have X6 := hid (fr6.cell cX5 (by omega))
                    have V6 : Hid (((wr.setCell ⟨w.heap.size + 1 + 1, q5, none⟩ (.int .i64 h)).alloc (.cells #[.int .i64 (q5 : Int)] 3)).ownsRow 0 3 1 (.slice (some ⟨wr.heap.size, 0, none⟩) 1 1) [(q5 : Int)].length (ints [(q5 : Int)])) := hid (by
                      have := World.ownsRow_lit (e := 3) (size := 1) (base := 0) (wr.setCell ⟨w.heap.size + 1 + 1, q5, none⟩ (.int .i64 h)) #[.int .i64 (q5 : Int)] 1 (Nat.zero_le _) (by decide) rfl
                      simp only [World.size_setCell] at this
                      exact this)
                    clear fr6
                    go_wp2_with (first | (at_builtin; go_must ((refine wpList_append_queue _ rfl _ _ 42 rfl 3 i0 (.int .i64 0) 8 Tryz.underlying42 hi hz0 hz1 hz2 rfl _ _ _ _ ws' [(q5 : Int)] rfl Q6.out _ _ rfl V6.out (by unfold maxLen; simp; omega) (by simp; omega) ?_; intro g8 o8 cap8 w8 q8 f8 at8; have y1 := f8.cell X6.out (by omega); have y2 := f8.cell (N6.out.at q5 hqn5) (by omega); have P8 := hid (And.intro q8 (And.intro f8 at8)); clear q8 f8 at8))))
                    obtain ⟨q8, f8, at8⟩ := P8.out
                    have RL : Hid (NumSt w8 (w.heap.size + 1 + 1) q w.heap.size (out'.set q5 h) ∧ w8.cell? ⟨w.heap.size, 0, none⟩ = some (.slice pa pn pc) ∧ FB5 w8 (w.heap.size + 1) x y (.slice (some ⟨b1, o1, none⟩) q c) ∧ w8.ownsRow HW5 3 1 (.slice (some ⟨gn, 0, none⟩) (nextL l p).length cn) (nextL l p).length (ints (nextL l p)) ∧ w5.heap.size ≤ w8.heap.size ∧ Below w.heap.size w w8 ∧ (g8 = gq ∨ w5.heap.size ≤ g8)) := hid ⟨N6.out.frm f8 (by omega), f8.cell P6.out (by omega), F6.out.frm f8 (by omega), f8.owns O6.out (fun k hk => by have e : gn = k := Option.some.inj hk; omega), by have := f8.size; simp at this; omega, B6.out.trans (f8.below (by have := B6.out.size; omega) (fun k hk => by omega)), by rcases at8 with h8 | h8; (rw [h8]; exact hgz); (right; simp at h8; omega)⟩
                    have Q8 := hid q8
                    rw [getD_set_i, if_pos ⟨rfl, by omega⟩] at y2
                    clear q8 f8 at8 P8
                    go_wp2_with fail
                    go_roundw
                    case rel => exact ⟨j + 1, by omega, by go_num, out'.set q5 h, ws' ++ [(q5 : Int)], g8, o8, cap8, by simp, Q8.out, RL.out.2.2.2.2.2.2, hIP.out hneg, hPN.out hneg, by have h1 := HN.out; have h2 := hNG.out hneg; rw [List.length_append, List.length_singleton]; omega, RL.out.1, RL.out.2.1, RL.out.2.2.1, RL.out.2.2.2.1, RL.out.2.2.2.2.1, RL.out.2.2.2.2.2.1⟩
                    case measure => simp [intOf]; omega
                  · by_cases heq : ov = h
                    · subst heq
                      go_wp2_with fail
                      go_roundw
                      case rel => exact ⟨j + 1, by omega, by go_num, out', ws', gz, oz, capz, rfl, R.out.1, hgz, R.out.2.1, hPS.out hneg rfl, HN.out, R.out.2.2.1, R.out.2.2.2.1, R.out.2.2.2.2.1, R.out.2.2.2.2.2, hsz5, hbz⟩
                      case measure => simp [intOf]; omega
                    · have hst : stepH ps l out ws0 p = none := by rw [SGo.out]; exact hPO.out hneg heq
                      have e9 := (walkF_bad (k := k') hst).symm.trans HW.out
                      simp only [Prod.mk.injEq] at e9
                      obtain ⟨rfl, rfl, rfl⟩ := e9
                      have heq' : (ov == h) = false := by simp [heq]
                      have heq2 : (ov != h) = true := by simp [heq]
                      go_wp2_with fail
                      go_ret3
                      exact ⟨_, rfl, World.ownsRow_nil _ _ _ _, hbz⟩

end Go.Proofs.YtaimpljkbpnigaaGreatDoor
