/- What the document's own Get returns: the program that was taken back, if its bytes are the text; else an error. -/
import Derived.Test.YtlknaanheieneaaDoorPlainGet
import Derived.Maps.AppendAt
namespace Go.Proofs.YtlknaanheieneaaDoor
open Go.RowKit
set_option linter.unusedVariables false

def getSt (s : ByteArray) : List Fn × Nat × Bool := fnSt s (nxA s 3) (nxB s 3 false) (nv s 3).toNat

/-- Behind a byte taken: what lies in other blocks is as it was. -/
theorem tk_cell {w w' : World} {T b o : Nat} {v : Value} (hg : w.grownBy w' (some T)) (h : w.cell? ⟨b, o, none⟩ = some v) (hb : b ≠ T) : w'.cell? ⟨b, o, none⟩ = some v := hg.cell h (by intro e; simp at e; exact hb e)
theorem tk_free {w w' : World} {T b o : Nat} {v : Value} (hg : w.grownBy w' (some T)) (h : w.cell? ⟨b, o, none⟩ = some v) (hb : b ≠ T) (hf : w.frozen? ⟨b, o, none⟩ = false) : w'.frozen? ⟨b, o, none⟩ = false := by
  rw [hg.frozen_far ⟨b, o, none⟩ (lt_of_cell h) (by intro e; simp at e; exact hb e)]; exact hf
theorem tk_owns {w w' : World} {T base e size n : Nat} {v : Value} {xs : List Value} (hg : w.grownBy w' (some T)) (h : w.ownsRow base e size v n xs) (hT : T < base) : w'.ownsRow base e size v n xs :=
  h.kept hg (.inr (fun e => by have := (h.lt T e).1; omega))
theorem tk_fns {w w' : World} {T e f base : Nat} {v : Value} {l : List Fn} (hg : w.grownBy w' (some T)) (h : OwnFns e f w base v l) (hT : T < base) : OwnFns e f w' base v l := by
  obtain ⟨t, h1, h2, h3⟩ := h
  exact ⟨t, h1, tk_owns hg h2 hT, fun i hi => ⟨(h3 i hi).1, (h3 i hi).2.1, (h3 i hi).2.2.1, tk_owns hg (h3 i hi).2.2.2 hT⟩⟩
theorem tk_below {w0 w w' : World} {T B : Nat} (hb : Below B w0 w) (hg : w.grownBy w' (some T)) (hT : B ≤ T) (hs : B ≤ w.heap.size) : Below B w0 w' :=
  Below.grown hb hg hs (fun k hk => by cases hk; exact hT)

theorem cell_set_far_off {w : World} {b o o' : Nat} {u v : Value} (h : w.cell? ⟨b, o, none⟩ = some v) (ho : o ≠ o') : (w.setCell ⟨b, o', none⟩ u).cell? ⟨b, o, none⟩ = some v := by
  rw [World.cell?_setCell_other _ _ _ _ (fun e => ho (by cases e; rfl))]; exact h

theorem Taker.grown {w w' : World} {T : Nat} {s : ByteArray} {p : Nat} {bad : Bool} {row : Option Nat} (h : Taker w T s p bad) (hg : w.grownBy w' row) (hne : some T ≠ row) : Taker w' T s p bad := by
  have hlt := lt_of_cell h.text
  exact ⟨hg.cell h.text hne, hg.cell h.place hne, hg.cell h.over hne, (hg.frozen_far ⟨T, 1, none⟩ hlt hne).trans h.free1, (hg.frozen_far ⟨T, 2, none⟩ hlt hne).trans h.free2⟩
theorem row_ne {w : World} {base e size n : Nat} {v : Value} {xs : List Value} (h : w.ownsRow base e size v n xs) {b : Nat} (hb : b < base ∨ w.heap.size ≤ b) : some b ≠ v.ownBlock := by
  intro e
  have := h.lt b e.symm
  omega
theorem get_mid {c w8 : World} {o : Obj} {fB e : Nat} {ca : Option Addr} {cn cc : Nat} {lc : List (Int × Int)} (hf : fB < c.heap.size) (h2 : c.cell? ⟨fB, 2, none⟩ = some (.slice ca cn cc)) (hf2 : c.frozen? ⟨fB, 2, none⟩ = false)
    (hrow : c.ownsRow (fB + 1) e 2 (.slice ca cn cc) lc.length (flat2 lc)) (hg : (c.alloc o).grownBy w8 (Value.slice ca cn cc).ownBlock) : w8.cell? ⟨fB, 2, none⟩ = some (.slice ca cn cc) ∧ w8.frozen? ⟨fB, 2, none⟩ = false := by
  have hb : Below c.heap.size c (c.alloc o) := Below.alloc (Below.refl _ _) (Nat.le_refl _) o
  have hne := row_ne hrow (b := fB) (.inl (by omega))
  exact ⟨hg.cell (kept_cell hb h2) hne, (hg.frozen_far ⟨fB, 2, none⟩ (lt_of_cell (kept_cell hb h2)) hne).trans ((hb.frozen (p := ⟨fB, 2, none⟩) hf).trans hf2)⟩
theorem get_tail {T H fB : Nat} {wo c w8 : World} {o : Obj} {s : ByteArray} {p : Nat} {b : Bool} {ca : Option Addr} {cn cc : Nat} {lc : List (Int × Int)} {K A : Int} {u0 u1 : Value} {g cap e : Nat}
    (hTf : T < fB) (hHf : H ≤ fB) (hf : fB < c.heap.size) (tk : Taker c T s p b) (h0 : c.cell? ⟨fB, 0, none⟩ = some u0) (h1 : c.cell? ⟨fB, 1, none⟩ = some u1) (h2 : c.cell? ⟨fB, 2, none⟩ = some (.slice ca cn cc)) (hf2 : c.frozen? ⟨fB, 2, none⟩ = false)
    (hrow : c.ownsRow (fB + 1) e 2 (.slice ca cn cc) lc.length (flat2 lc)) (off : Off T H wo c)
    (hg : (c.alloc o).grownBy w8 (Value.slice ca cn cc).ownBlock) (ho : w8.ownsRow (fB + 1) e 2 (.slice (some ⟨g, 0, none⟩) (lc.length + 1) cap) (lc.length + 1) (flat2 lc ++ [.int .i64 K, .int .i64 A])) :
    Taker (w8.setCell ⟨fB, 2, none⟩ (.slice (some ⟨g, 0, none⟩) (lc.length + 1) cap)) T s p b ∧ (w8.setCell ⟨fB, 2, none⟩ (.slice (some ⟨g, 0, none⟩) (lc.length + 1) cap)).cell? ⟨fB, 0, none⟩ = some u0 ∧
      (w8.setCell ⟨fB, 2, none⟩ (.slice (some ⟨g, 0, none⟩) (lc.length + 1) cap)).cell? ⟨fB, 1, none⟩ = some u1 ∧ (w8.setCell ⟨fB, 2, none⟩ (.slice (some ⟨g, 0, none⟩) (lc.length + 1) cap)).cell? ⟨fB, 2, none⟩ = some (.slice (some ⟨g, 0, none⟩) (lc.length + 1) cap) ∧
      (w8.setCell ⟨fB, 2, none⟩ (.slice (some ⟨g, 0, none⟩) (lc.length + 1) cap)).frozen? ⟨fB, 2, none⟩ = false ∧
      (w8.setCell ⟨fB, 2, none⟩ (.slice (some ⟨g, 0, none⟩) (lc.length + 1) cap)).ownsRow (fB + 1) e 2 (.slice (some ⟨g, 0, none⟩) (lc.length + 1) cap) (lc ++ [(K, A)]).length (flat2 (lc ++ [(K, A)])) ∧
      Off T H wo (w8.setCell ⟨fB, 2, none⟩ (.slice (some ⟨g, 0, none⟩) (lc.length + 1) cap)) := by
  have hb : Below c.heap.size c (c.alloc o) := Below.alloc (Below.refl _ _) (Nat.le_refl _) o
  have hne := row_ne hrow (b := fB) (.inl (by omega))
  have hneT := row_ne hrow (b := T) (.inl (by omega))
  have m0 := hg.cell (kept_cell hb h0) hne
  have m1 := hg.cell (kept_cell hb h1) hne
  obtain ⟨m2, mf⟩ := get_mid hf h2 hf2 hrow hg
  refine ⟨((tk.alloc o).grown hg hneT).set _ _ (by simp; omega), cell_set_far_off m0 (by omega), cell_set_far_off m1 (by omega), World.cell?_setCell_same _ _ _ m2, by simpa using mf, ?_, ?_⟩
  · rw [flat2_app, List.length_append]
    exact owns_set ho _ _ (by simp)
  · refine Off.setCell (Off.grown (off.alloc (by omega) o) hg (by simp; omega) (fun k hk => ?_)) hHf _
    have := (hrow.lt k hk).1
    exact .inr (by omega)

theorem str_ne {a b : ByteArray} (h : ¬ a = b) : (a.toList == b.toList) = false := by
  rw [Go.ByteArray.toList_eq, Go.ByteArray.toList_eq]
  simp
  exact fun e => h (ByteArray.ext e)

set_option maxRecDepth 100000 in
set_option maxHeartbeats 8000000 in
theorem refGet_any (s : ByteArray) (w : World) (hs : s.size ≤ 140737488351232) :
    Calls Tryd.prog 12 #[.string s] w fun e w' => ∃ v err, e = .returned (.tuple #[.agg #[v], .int .i64 err]) ∧ Below w.heap.size w w' ∧
      (((getSt s).2.2 = false ∧ packsB (getSt s).1 = true ∧ strOfNums (putBytes (getSt s).1) = s ∧ err = 0 ∧ OwnFns 43 46 w' (w.heap.size + 3) v (getSt s).1 ∧ (getSt s).1.length ≤ 255) ∨
       (¬ ((getSt s).2.2 = false ∧ packsB (getSt s).1 = true ∧ strOfNums (putBytes (getSt s).1) = s) ∧ err = 300 ∧ v = .slice none 0 0)) := by
  obtain ⟨i0, hi, hz0, hz1, hz2⟩ := info_parts Tryd.infoIns
  obtain ⟨j0, hj, hy0, hy1, hy2⟩ := info_parts Tryd.infoFunc
  go_enter Tryd.func12, Tryd.ntmps12
  go_wp2_with fail
  have tk0 : Taker (((w.alloc (.cells #[.slice none 0 0] 24)).alloc (.cells #[.string s, .int .i64 3, .bool false] 65)).alloc (.cells #[.slice none 0 0] 24)) (w.heap.size + 1) s 3 false :=
    ⟨by simp [go_sem], by simp [go_sem], by simp [go_sem], by simp [go_sem], by simp [go_sem]⟩
  refine (next_any _ _ _ s _ hs (by omega) tk0).mono ?_
  rintro e w1 ⟨rfl, tk1, hg1⟩
  have r1 := tk_cell hg1 (b := w.heap.size) (o := 0) (v := .slice none 0 0) (by simp [go_sem]) (by omega)
  have r2 := tk_free hg1 (b := w.heap.size) (o := 0) (v := .slice none 0 0) (by simp [go_sem]) (by omega) (by simp [go_sem])
  have v1 := tk_cell hg1 (b := w.heap.size + 1 + 1) (o := 0) (v := .slice none 0 0) (by simp [go_sem]) (by omega)
  have v2 := tk_free hg1 (b := w.heap.size + 1 + 1) (o := 0) (v := .slice none 0 0) (by simp [go_sem]) (by omega) (by simp [go_sem])
  have hb1 : Below w.heap.size w w1 := tk_below (by go_grown) hg1 (by omega) (by simp; omega)
  have hkb := nv_bd s 3
  have hsp : nv s 3 = ((nv s 3).toNat : Int) := by omega
  have hkk : (nv s 3).toNat ≤ 255 := by omega
  have HSP := hid hsp
  rw [HSP.out]
  generalize hkn : (nv s 3).toNat = kk at hkk
  have KN := hid hkn
  clear hkn hkb hsp hg1 tk0
  go_wp2
  go_loopw [7] (fun i wr => ∃ j l p b, j ≤ kk ∧ i = .int .i64 (j : Nat) ∧ fnSt s (nxA s 3) (nxB s 3 false) j = (l, p, b) ∧ Taker wr (w.heap.size + 1) s p b ∧ wr.cell? ⟨w.heap.size, 0, none⟩ = some (.slice none 0 0) ∧ wr.frozen? ⟨w.heap.size, 0, none⟩ = false ∧
      (∃ va vn vc, wr.cell? ⟨w.heap.size + 1 + 1, 0, none⟩ = some (.slice va vn vc) ∧ wr.frozen? ⟨w.heap.size + 1 + 1, 0, none⟩ = false ∧ OwnFns 43 46 wr (w.heap.size + 3) (.slice va vn vc) l) ∧ Below w.heap.size w wr) (fun i _ => kk - (intOf i).toNat)
  case atStart => exact ⟨0, [], _, _, Nat.zero_le _, rfl, rfl, tk1, r1, r2, ⟨_, _, _, v1, v2, OwnFns.nil _ _ _ _⟩, hb1⟩
  case round =>
    obtain ⟨wo, hwo⟩ : ∃ wo : World, wo = wr := ⟨wr, rfl⟩
    subst hwo
    obtain ⟨j, l, p, b, hj1, rfl, hst, tk, g0, f0, ⟨va, vn, vc, g2, f2, ho⟩, hb⟩ := hrel
    obtain ⟨t1, t2, t3, t4, t5⟩ := tk
    have ST := hid hst
    have HO := hid ho
    clear hst ho tk1 r1 r2 v1 v2 hb1
    cases b
    · by_cases hlt : j < kk
      · have hsz : w.heap.size + 1 + 1 < wo.heap.size := lt_of_cell g2
        have hpb : p ≤ 140737488351235 := by
          have h1 := fnSt_le s (nxA s 3) (nxB s 3 false) j
          have h2 := nxA_le s 3
          rw [ST.out] at h1
          simp only at h1
          omega
        have q1 := nxA_le s p
        have q2 := nxA_le s (nxA s p)
        have q3 := nxA_le s (nxA s (nxA s p))
        go_wp2_with fail
        refine (next_any _ _ _ s _ hs (by omega) ⟨t1, t2, t3, t4, t5⟩).mono ?_
        rintro e w2 ⟨rfl, tk2, hg2⟩
        have o2 : Off (w.heap.size + 1) wo.heap.size wo w2 := (Off.refl _ _ _).grown hg2 (Nat.le_refl _) (fun k hk => by cases hk; exact .inl rfl)
        have s2 : wo.heap.size ≤ w2.heap.size := o2.size
        have O2 := hid o2
        clear hg2 o2 t1 t2 t3 t4 t5
        go_wp2_with fail
        have a2 : Taker (w2.alloc (.cells #[.int .i64 (nv s p), .int .i64 0, .slice none 0 0] 46)) (w.heap.size + 1) s (nxA s p) (nxB s p false) := tk2.alloc _
        refine (next_any _ _ _ s _ hs (by omega) a2).mono ?_
        rintro e w3 ⟨rfl, tk3, hg3⟩
        have c0 := tk_cell hg3 (b := w2.heap.size) (o := 0) (v := .int .i64 (nv s p)) (by simp [go_sem]) (by omega)
        have c1 := tk_cell hg3 (b := w2.heap.size) (o := 1) (v := .int .i64 0) (by simp [go_sem]) (by omega)
        have c2 := tk_cell hg3 (b := w2.heap.size) (o := 2) (v := .slice none 0 0) (by simp [go_sem]) (by omega)
        have d1 := tk_free hg3 (b := w2.heap.size) (o := 1) (v := .int .i64 0) (by simp [go_sem]) (by omega) (by simp [go_sem])
        have d2 := tk_free hg3 (b := w2.heap.size) (o := 2) (v := .slice none 0 0) (by simp [go_sem]) (by omega) (by simp [go_sem])
        have O3 := hid ((O2.out.alloc s2 (.cells #[.int .i64 (nv s p), .int .i64 0, .slice none 0 0] 46)).grown hg3 (by simp; omega) (fun k hk => by cases hk; exact .inl rfl))
        have s3 : w2.heap.size + 1 ≤ w3.heap.size := by have := hg3.size; simpa using this
        clear hg3 a2 tk2
        go_wp2_with fail
        have a3 : Taker (w3.setCell ⟨w2.heap.size, 1, none⟩ (.int .i64 (nv s (nxA s p)))) (w.heap.size + 1) s (nxA s (nxA s p)) (nxB s (nxA s p) (nxB s p false)) := tk3.set _ _ (by simp; omega)
        refine (next_any _ _ _ s _ hs (by omega) a3).mono ?_
        rintro e w4 ⟨rfl, tk4, hg4⟩
        have c0' := tk_cell hg4 (cell_set_far_off c0 (by omega)) (by omega)
        have c1' := tk_cell hg4 (World.cell?_setCell_same _ _ _ c1) (by omega)
        have c2' := tk_cell hg4 (cell_set_far_off c2 (by omega)) (by omega)
        have d2' := tk_free hg4 (cell_set_far_off c2 (by omega)) (by omega) (by simpa using d2)
        have O4 := hid ((O3.out.setCell (p := ⟨w2.heap.size, 1, none⟩) s2 (.int .i64 (nv s (nxA s p)))).grown hg4 (by simp; omega) (fun k hk => by cases hk; exact .inl rfl))
        have s4 : w3.heap.size ≤ w4.heap.size := by have := hg4.size; simpa using this
        have hmb := nv_bd s (nxA s (nxA s p))
        have hmm : nv s (nxA s (nxA s p)) = ((nv s (nxA s (nxA s p))).toNat : Int) := by omega
        have HMM := hid hmm
        rw [HMM.out]
        generalize hmk : (nv s (nxA s (nxA s p))).toNat = mm
        have hmle : mm ≤ 255 := by omega
        have MK := hid hmk
        clear hg4 a3 tk3 c0 c1 c2 d1 d2 hmb hmm hmk
        go_wp2_with fail
        go_loopw [10] (fun i wr => ∃ y lc pc bc, y ≤ mm ∧ i = .int .i64 (y : Nat) ∧ codeSt s (nxA s (nxA s (nxA s p))) (nxB s (nxA s (nxA s p)) (nxB s (nxA s p) (nxB s p false))) y = (lc, pc, bc) ∧ Taker wr (w.heap.size + 1) s pc bc ∧ wr.cell? ⟨w2.heap.size, 0, none⟩ = some (.int .i64 (nv s p)) ∧ wr.cell? ⟨w2.heap.size, 1, none⟩ = some (.int .i64 (nv s (nxA s p))) ∧
            (∃ ca cn cc, wr.cell? ⟨w2.heap.size, 2, none⟩ = some (.slice ca cn cc) ∧ wr.frozen? ⟨w2.heap.size, 2, none⟩ = false ∧ wr.ownsRow (w2.heap.size + 1) 43 2 (.slice ca cn cc) lc.length (flat2 lc)) ∧ Off (w.heap.size + 1) wo.heap.size wo wr) (fun i _ => mm - (intOf i).toNat)
        case atStart => exact ⟨0, [], _, _, Nat.zero_le _, rfl, rfl, tk4, c0', c1', ⟨_, _, _, c2', d2', World.ownsRow_nil _ _ _ _⟩, O4.out⟩
        case round =>
          obtain ⟨y, lc, pc, bc, hy1', rfl, hct, tk, k0, k1, ⟨ca, cn, cc, k2, kf, hco⟩, hoff⟩ := hrel
          have CT := hid hct
          have CO := hid hco
          have OFF := hid hoff
          have hsr := hoff.size
          have hsf := lt_of_cell k2
          clear hct hco hoff c0' c1' c2' d2' tk4
          cases bc
          · by_cases hly : y < mm
            · have hpcb : pc ≤ 140737488351235 := by
                have h1 := codeSt_le s (nxA s (nxA s (nxA s p))) (nxB s (nxA s (nxA s p)) (nxB s (nxA s p) (nxB s p false))) y
                rw [CT.out] at h1
                simp only at h1
                omega
              have hlcl : lc.length ≤ 255 := by
                have h1 := codeSt_len s (nxA s (nxA s (nxA s p))) (nxB s (nxA s (nxA s p)) (nxB s (nxA s p) (nxB s p false))) y
                rw [CT.out] at h1
                simp only at h1
                omega
              obtain ⟨t1, t2, t3, t4, t5⟩ := tk
              go_wp2_with fail
              refine (next_any _ _ _ s _ hs (by omega) ⟨t1, t2, t3, t4, t5⟩).mono ?_
              rintro e a1 ⟨rfl, tka, hga⟩
              have x2 := tk_cell hga k2 (by omega)
              have xf := tk_free hga k2 (by omega) kf
              have P0 := hid (And.intro (tk_cell hga k0 (by omega)) (tk_cell hga k1 (by omega)))
              have CO1 := hid (tk_owns hga CO.out (by omega))
              have O5 := hid (OFF.out.grown hga hsr (fun k hk => by cases hk; exact .inl rfl))
              have s5 : wr.heap.size ≤ a1.heap.size := hga.size
              clear hga t1 t2 t3 t4 t5 k0 k1 k2 kf
              have r1 := nxA_le s pc
              have r2 := nxA_le s (nxA s pc)
              have r3 := nxA_le s (nxA s (nxA s pc))
              have r4 := nxA_le s (nxA s (nxA s (nxA s pc)))
              by_cases hk0 : nv s pc = 0
              · have hsm0 : smallB 0 = false := rfl
                rw [hk0]
                obtain ⟨n1, n1'⟩ := nv_bd s (nxA s pc)
                obtain ⟨n2, n2'⟩ := nv_bd s (nxA s (nxA s pc))
                obtain ⟨n3, n3'⟩ := nv_bd s (nxA s (nxA s (nxA s pc)))
                obtain ⟨n4, n4'⟩ := nv_bd s (nxA s (nxA s (nxA s (nxA s pc))))
                go_wp2_with fail
                refine (next_any _ _ _ s _ hs (by omega) (tka.alloc _)).mono ?_
                rintro e b2 ⟨rfl, tkb, gb2⟩
                go_wp2_with fail
                refine (next_any _ _ _ s _ hs (by omega) tkb).mono ?_
                rintro e b3 ⟨rfl, tkc, gb3⟩
                go_wp2_with fail
                refine (next_any _ _ _ s _ hs (by omega) tkc).mono ?_
                rintro e b4 ⟨rfl, tkd, gb4⟩
                go_wp2_with fail
                refine (next_any _ _ _ s _ hs (by omega) tkd).mono ?_
                rintro e b5 ⟨rfl, tke, gb5⟩
                have gb := World.grownBy.trans (World.grownBy.trans (World.grownBy.trans gb2 gb3) gb4) gb5
                have z0 := tk_cell gb (b := a1.heap.size) (o := 0) (v := .int .i64 0) (by simp [go_sem]) (by omega)
                have z1 := tk_cell gb (b := a1.heap.size) (o := 1) (v := .int .i64 0) (by simp [go_sem]) (by omega)
                have zf := tk_free gb (b := a1.heap.size) (o := 1) (v := .int .i64 0) (by simp [go_sem]) (by omega) (by simp [go_sem])
                have y2 := tk_cell gb (kept_cell (by go_grown) x2) (by omega)
                have yf := tk_free gb (kept_cell (by go_grown) x2) (by omega) ((Below.frozen (Below.alloc (Below.refl _ _) (Nat.le_refl _) _) (lt_of_cell x2)).trans xf)
                have M0 := hid (And.intro (cell_set_far (p := ⟨a1.heap.size, 1, none⟩) (u := .int .i64 (wrap32 (nv s (nxA s pc) + nv s (nxA s (nxA s pc)) * 256 + nv s (nxA s (nxA s (nxA s pc))) * 65536 + nv s (nxA s (nxA s (nxA s (nxA s pc)))) * 16777216))) (tk_cell gb (kept_cell (by go_grown) P0.out.1) (by omega)) (by simp; omega)) (cell_set_far (p := ⟨a1.heap.size, 1, none⟩) (u := .int .i64 (wrap32 (nv s (nxA s pc) + nv s (nxA s (nxA s pc)) * 256 + nv s (nxA s (nxA s (nxA s pc))) * 65536 + nv s (nxA s (nxA s (nxA s (nxA s pc)))) * 16777216))) (tk_cell gb (kept_cell (by go_grown) P0.out.2) (by omega)) (by simp; omega)))
                have Y2 := hid (cell_set_far (p := ⟨a1.heap.size, 1, none⟩) (u := .int .i64 (wrap32 (nv s (nxA s pc) + nv s (nxA s (nxA s pc)) * 256 + nv s (nxA s (nxA s (nxA s pc))) * 65536 + nv s (nxA s (nxA s (nxA s (nxA s pc)))) * 16777216))) y2 (by simp; omega))
                have YF : Hid ((b5.setCell ⟨a1.heap.size, 1, none⟩ (.int .i64 (wrap32 (nv s (nxA s pc) + nv s (nxA s (nxA s pc)) * 256 + nv s (nxA s (nxA s (nxA s pc))) * 65536 + nv s (nxA s (nxA s (nxA s (nxA s pc)))) * 16777216)))).frozen? ⟨w2.heap.size, 2, none⟩ = false) := by show _ = false; simpa using yf
                have RW := hid ((tk_owns gb (CO1.out.alloc _) (by omega)).kept (grownBy_set b5 a1.heap.size 1 (.int .i64 (wrap32 (nv s (nxA s pc) + nv s (nxA s (nxA s pc)) * 256 + nv s (nxA s (nxA s (nxA s pc))) * 65536 + nv s (nxA s (nxA s (nxA s (nxA s pc)))) * 16777216)))) (.inr (Ne.symm (row_ne CO1.out (.inr (Nat.le_refl _))))))
                have OF := hid (((O5.out.alloc (by omega) _).grown gb (by simp; omega) (fun k hk => by cases hk; exact .inl rfl)).setCell (p := ⟨a1.heap.size, 1, none⟩) (by simp; omega) (.int .i64 (wrap32 (nv s (nxA s pc) + nv s (nxA s (nxA s pc)) * 256 + nv s (nxA s (nxA s (nxA s pc))) * 65536 + nv s (nxA s (nxA s (nxA s (nxA s pc)))) * 16777216))))
                have TKE := hid (tke.set ⟨a1.heap.size, 1, none⟩ (.int .i64 (wrap32 (nv s (nxA s pc) + nv s (nxA s (nxA s pc)) * 256 + nv s (nxA s (nxA s (nxA s pc))) * 65536 + nv s (nxA s (nxA s (nxA s (nxA s pc)))) * 16777216))) (by simp; omega))
                have s6 : a1.heap.size + 1 ≤ b5.heap.size := by have := gb.size; simpa using this
                clear gb gb2 gb3 gb4 gb5 tka tkb tkc tkd tke
                go_wp2_with (first | (go_at_call 26; refine (refWrap_any _ _).mono ?_; rintro e w' ⟨rfl, hw⟩; rw [hw]; clear hw) | (go_at_call 23; refine (refSmall_any _ _).mono ?_; rintro e w' ⟨rfl, hw⟩; rw [hw]; clear hw) | (at_builtin; go_must ((refine wpList_append_lies _ rfl _ _ 44 rfl (w2.heap.size + 1) 43 i0 (.agg #[.int .i64 0, .int .i64 0]) 2 16 Tryd.underlying44 hi hz0 hz1 hz2 rfl (by decide) _ _ _ rfl (RW.out.alloc _) _ 1 1 [.int .i64 0, .int .i64 (wrap32 (nv s (nxA s pc) + nv s (nxA s (nxA s pc)) * 256 + nv s (nxA s (nxA s (nxA s pc))) * 65536 + nv s (nxA s (nxA s (nxA s (nxA s pc)))) * 16777216))] rfl rfl (news_new (H := b5.heap.size) (by simp) _ _) (by intro u hu; simp at hu; rcases hu with rfl | rfl <;> rfl) (by decide) (by unfold maxLen; omega) (by omega) (by simp; omega) _ rfl ?_; intro g6 cap6 w8 ho8 hg8 _ _; have md := get_mid (by simp; omega) Y2.out YF.out RW.out hg8; obtain ⟨md1, md2⟩ := md; have E8 := hid (And.intro ho8 hg8); clear ho8 hg8))))
                go_roundw
                case rel =>
                  obtain ⟨e1, e2⟩ := E8.out
                  obtain ⟨u1, u2, u3, u4, u5, u6, u7⟩ := get_tail (T := w.heap.size + 1) (by omega) s2 (by simp; omega) TKE.out M0.out.1 M0.out.2 Y2.out YF.out RW.out OF.out e2 e1
                  refine ⟨y + 1, _, _, _, by omega, by go_num, codeSt_next CT.out, ?_, u2, u3, ⟨_, _, _, u4, u5, ?_⟩, u7⟩
                  · rw [getIns_const hk0]
                    exact u1
                  · rw [getIns_const hk0]
                    exact u6
                case measure => simp [intOf]; omega
              · have hk0' : (nv s pc == 0) = false := by simp [hk0]
                have s6 : a1.heap.size + 1 ≤ (a1.alloc (.cells #[.int .i64 (nv s pc), .int .i64 0] 43)).heap.size := by simp
                cases hsm : smallB (nv s pc)
                · have M0 := hid (And.intro (kept_cell (w' := a1.alloc (.cells #[.int .i64 (nv s pc), .int .i64 0] 43)) (by go_grown) P0.out.1) (kept_cell (w' := a1.alloc (.cells #[.int .i64 (nv s pc), .int .i64 0] 43)) (by go_grown) P0.out.2))
                  have Y2 := hid (kept_cell (w' := a1.alloc (.cells #[.int .i64 (nv s pc), .int .i64 0] 43)) (by go_grown) x2)
                  have y2 := Y2.out
                  have YF := hid ((Below.frozen (w' := a1.alloc (.cells #[.int .i64 (nv s pc), .int .i64 0] 43)) (Below.alloc (Below.refl _ _) (Nat.le_refl _) _) (lt_of_cell x2)).trans xf)
                  have RW := hid (CO1.out.alloc (.cells #[.int .i64 (nv s pc), .int .i64 0] 43))
                  have OF := hid (O5.out.alloc (by omega) (.cells #[.int .i64 (nv s pc), .int .i64 0] 43))
                  have TKE := hid (tka.alloc (.cells #[.int .i64 (nv s pc), .int .i64 0] 43))
                  clear tka
                  go_wp2_with (first | (go_at_call 23; refine (refSmall_any _ _).mono ?_; rintro e w' ⟨rfl, hw⟩; rw [hw]; clear hw) | (at_builtin; go_must ((refine wpList_append_lies _ rfl _ _ 44 rfl (w2.heap.size + 1) 43 i0 (.agg #[.int .i64 0, .int .i64 0]) 2 16 Tryd.underlying44 hi hz0 hz1 hz2 rfl (by decide) _ _ _ rfl (RW.out.alloc _) _ 1 1 [.int .i64 (nv s pc), .int .i64 0] rfl rfl (news_new (H := a1.heap.size + 1) (by simp) _ _) (by intro u hu; simp at hu; rcases hu with rfl | rfl <;> rfl) (by decide) (by unfold maxLen; omega) (by omega) (by simp; omega) _ rfl ?_; intro g6 cap6 w8 ho8 hg8 _ _; have md := get_mid (by simp; omega) Y2.out YF.out RW.out hg8; obtain ⟨md1, md2⟩ := md; have E8 := hid (And.intro ho8 hg8); clear ho8 hg8))))
                  go_roundw
                  case rel =>
                    obtain ⟨e1, e2⟩ := E8.out
                    obtain ⟨u1, u2, u3, u4, u5, u6, u7⟩ := get_tail (T := w.heap.size + 1) (by omega) s2 (by simp; omega) TKE.out M0.out.1 M0.out.2 Y2.out YF.out RW.out OF.out e2 e1
                    refine ⟨y + 1, _, _, _, by omega, by go_num, codeSt_next CT.out, ?_, u2, u3, ⟨_, _, _, u4, u5, ?_⟩, u7⟩
                    · rw [getIns_else hk0 hsm]
                      exact u1
                    · rw [getIns_else hk0 hsm]
                      exact u6
                  case measure => simp [intOf]; omega
                · go_wp2_with (first | (go_at_call 23; refine (refSmall_any _ _).mono ?_; rintro e w' ⟨rfl, hw⟩; rw [hw]; clear hw))
                  refine (next_any _ _ _ s _ hs (by omega) (tka.alloc _)).mono ?_
                  rintro e b5 ⟨rfl, tke, gb⟩
                  have z0 := tk_cell gb (b := a1.heap.size) (o := 0) (v := .int .i64 (nv s pc)) (by simp [go_sem]) (by omega)
                  have z1 := tk_cell gb (b := a1.heap.size) (o := 1) (v := .int .i64 0) (by simp [go_sem]) (by omega)
                  have zf := tk_free gb (b := a1.heap.size) (o := 1) (v := .int .i64 0) (by simp [go_sem]) (by omega) (by simp [go_sem])
                  have y2 := tk_cell gb (kept_cell (by go_grown) x2) (by omega)
                  have yf := tk_free gb (kept_cell (by go_grown) x2) (by omega) ((Below.frozen (Below.alloc (Below.refl _ _) (Nat.le_refl _) _) (lt_of_cell x2)).trans xf)
                  have M0 := hid (And.intro (cell_set_far (p := ⟨a1.heap.size, 1, none⟩) (u := .int .i64 (nv s (nxA s pc))) (tk_cell gb (kept_cell (by go_grown) P0.out.1) (by omega)) (by simp; omega)) (cell_set_far (p := ⟨a1.heap.size, 1, none⟩) (u := .int .i64 (nv s (nxA s pc))) (tk_cell gb (kept_cell (by go_grown) P0.out.2) (by omega)) (by simp; omega)))
                  have Y2 := hid (cell_set_far (p := ⟨a1.heap.size, 1, none⟩) (u := .int .i64 (nv s (nxA s pc))) y2 (by simp; omega))
                  have YF : Hid ((b5.setCell ⟨a1.heap.size, 1, none⟩ (.int .i64 (nv s (nxA s pc)))).frozen? ⟨w2.heap.size, 2, none⟩ = false) := by show _ = false; simpa using yf
                  have RW := hid ((tk_owns gb (CO1.out.alloc _) (by omega)).kept (grownBy_set b5 a1.heap.size 1 (.int .i64 (nv s (nxA s pc)))) (.inr (Ne.symm (row_ne CO1.out (.inr (Nat.le_refl _))))))
                  have OF := hid (((O5.out.alloc (by omega) _).grown gb (by simp; omega) (fun k hk => by cases hk; exact .inl rfl)).setCell (p := ⟨a1.heap.size, 1, none⟩) (by simp; omega) (.int .i64 (nv s (nxA s pc))))
                  have TKE := hid (tke.set ⟨a1.heap.size, 1, none⟩ (.int .i64 (nv s (nxA s pc))) (by simp; omega))
                  have s7 : a1.heap.size + 1 ≤ b5.heap.size := by have := gb.size; simpa using this
                  clear gb tka tke
                  go_wp2_with (first | (at_builtin; go_must ((refine wpList_append_lies _ rfl _ _ 44 rfl (w2.heap.size + 1) 43 i0 (.agg #[.int .i64 0, .int .i64 0]) 2 16 Tryd.underlying44 hi hz0 hz1 hz2 rfl (by decide) _ _ _ rfl (RW.out.alloc _) _ 1 1 [.int .i64 (nv s pc), .int .i64 (nv s (nxA s pc))] rfl rfl (news_new (H := b5.heap.size) (by simp) _ _) (by intro u hu; simp at hu; rcases hu with rfl | rfl <;> rfl) (by decide) (by unfold maxLen; omega) (by omega) (by simp; omega) _ rfl ?_; intro g6 cap6 w8 ho8 hg8 _ _; have md := get_mid (by simp; omega) Y2.out YF.out RW.out hg8; obtain ⟨md1, md2⟩ := md; have E8 := hid (And.intro ho8 hg8); clear ho8 hg8))))
                  go_roundw
                  case rel =>
                    obtain ⟨e1, e2⟩ := E8.out
                    obtain ⟨u1, u2, u3, u4, u5, u6, u7⟩ := get_tail (T := w.heap.size + 1) (by omega) s2 (by simp; omega) TKE.out M0.out.1 M0.out.2 Y2.out YF.out RW.out OF.out e2 e1
                    refine ⟨y + 1, _, _, _, by omega, by go_num, codeSt_next CT.out, ?_, u2, u3, ⟨_, _, _, u4, u5, ?_⟩, u7⟩
                    · rw [getIns_small hk0 hsm]
                      exact u1
                    · rw [getIns_small hk0 hsm]
                      exact u6
                  case measure => simp [intOf]; omega
            · have GF : Hid (getFn s p false = ((nv s p, nv s (nxA s p), lc), pc, false)) := by
                show (((nv s p, nv s (nxA s p), (codeSt s _ _ (nv s (nxA s (nxA s p))).toNat).1), (codeSt s _ _ (nv s (nxA s (nxA s p))).toNat).2) : Fn × Nat × Bool) = _
                rw [MK.out, show mm = y by omega, CT.out]
              have G2 := OFF.out.cell g2 hsz (by omega)
              have F2 := OFF.out.free f2 hsz (by omega)
              have G0 := OFF.out.cell g0 (by omega) (by omega)
              have F0 := OFF.out.free f0 (by omega) (by omega)
              obtain ⟨t, ht1, ht2, ht3⟩ := OFF.out.fns HO.out (Nat.le_refl _) (by omega)
              have hll : l.length ≤ 255 := by
                have h1 := fnSt_len s (nxA s 3) (nxB s 3 false) j
                rw [ST.out] at h1
                simp only at h1
                omega
              have hcl : lc.length ≤ 255 := by
                have h1 := codeSt_len s (nxA s (nxA s (nxA s p))) (nxB s (nxA s (nxA s p)) (nxB s (nxA s p) (nxB s p false))) y
                rw [CT.out] at h1
                simp only at h1
                omega
              have HB5 : Below wr.heap.size wr (wr.alloc (.cells #[.int .i64 (nv s p), .int .i64 (nv s (nxA s p)), .slice ca cn cc] 46)) := Below.alloc (Below.refl _ _) (Nat.le_refl _) _
              have H2 := hid (owns_kept ht2 HB5)
              have H3 := hid (fun i hi => (⟨(ht3 i hi).1, (ht3 i hi).2.1, (ht3 i hi).2.2.1, owns_kept (ht3 i hi).2.2.2 HB5⟩ : (t.getD i noT).1 = (l.getD i noFn).1 ∧ (t.getD i noT).2.1 = (l.getD i noFn).2.1 ∧ (l.getD i noFn).2.2.length * 16 ≤ 140737488351232 ∧ World.ownsRow _ (w.heap.size + 3) 43 2 (t.getD i noT).2.2 (l.getD i noFn).2.2.length (flat2 (l.getD i noFn).2.2)))
              have HC := hid (owns_kept (owns_base CO.out (show w.heap.size + 3 ≤ w2.heap.size + 1 by omega)) HB5)
              have HT1 := hid ht1
              have TK := hid (tk.alloc (.cells #[.int .i64 (nv s p), .int .i64 (nv s (nxA s p)), .slice ca cn cc] 46))
              have OF := hid (OFF.out.alloc hsr (.cells #[.int .i64 (nv s p), .int .i64 (nv s (nxA s p)), .slice ca cn cc] 46))
              obtain ⟨t1, t2, t3, t4, t5⟩ := tk
              have J := hid (And.intro (kept_cell HB5 G2) (And.intro ((HB5.frozen (p := ⟨w.heap.size + 1 + 1, 0, none⟩) (lt_of_cell G2)).trans F2) (And.intro (kept_cell HB5 G0) ((HB5.frozen (p := ⟨w.heap.size, 0, none⟩) (lt_of_cell G0)).trans F0))))
              have s9 := hb.size
              clear ht1 ht2 ht3 HB5
              go_wp2_with (at_builtin; go_must ((refine wpList_append_lies _ rfl _ _ 22 rfl (w.heap.size + 3) 46 j0 (.agg #[.int .i64 0, .int .i64 0, .slice none 0 0]) 3 40 Tryd.underlying22 hj hy0 hy1 hy2 rfl (by decide) _ _ _ rfl H2.out _ 1 1 [.int .i64 (nv s p), .int .i64 (nv s (nxA s p)), .slice ca cn cc] rfl rfl (news_new rfl _ _) (by intro u hu; simp at hu; rcases hu with rfl | rfl | rfl <;> rfl) (by decide) (by unfold maxLen; omega) (by omega) (by simp; omega) _ rfl ?_; intro g6 cap6 w8 ho8 hg8 _ _; have md1 := hg8.cell J.out.1 (row_ne H2.out (b := w.heap.size + 1 + 1) (.inl (by omega))); have md2 := (hg8.frozen_far ⟨w.heap.size + 1 + 1, 0, none⟩ (lt_of_cell J.out.1) (row_ne H2.out (b := w.heap.size + 1 + 1) (.inl (by omega)))).trans J.out.2.1; have E8 := hid (And.intro ho8 hg8); clear ho8 hg8)))
              go_roundw
              case rel =>
                obtain ⟨e1, e2⟩ := E8.out
                have rn := row_ne H2.out (b := w.heap.size) (.inl (by omega))
                have rT := row_ne H2.out (b := w.heap.size + 1) (.inl (by omega))
                have o9 : Below w.heap.size w w8 := Below.grown (hb.trans ((OF.out.below (B := w.heap.size) (by omega) (by omega)))) e2 (by simp; omega) (fun k hk => by have := (H2.out.lt k hk).1; omega)
                refine ⟨j + 1, l ++ [(nv s p, nv s (nxA s p), lc)], pc, _, by omega, by go_num, (by rw [fnSt_next ST.out, GF.out]), ?_, cell_set_far (e2.cell J.out.2.2.1 rn) (by simp; omega), by simpa using (e2.frozen_far ⟨w.heap.size, 0, none⟩ (lt_of_cell J.out.2.2.1) rn).trans J.out.2.2.2, ⟨_, _, _, World.cell?_setCell_same _ _ _ md1, by simpa using md2, ?_⟩, Below.setCell o9 (by simp; omega) _⟩
                · exact (TK.out.grown e2 rT).set _ _ (by simp)
                · exact (OwnFns.snoc (by decide) rfl HT1.out H2.out H3.out HC.out (by omega) e1 e2).set _ _ (by simp)
              case measure => simp [intOf]; omega
          · have GF : Hid (getFn s p false = ((nv s p, nv s (nxA s p), lc), pc, true)) := by
              show (((nv s p, nv s (nxA s p), (codeSt s _ _ (nv s (nxA s (nxA s p))).toNat).1), (codeSt s _ _ (nv s (nxA s (nxA s p))).toNat).2) : Fn × Nat × Bool) = _
              rw [MK.out, codeSt_bad (by rw [CT.out]) mm hy1', CT.out]
            by_cases hly : y < mm
            all_goals
              have G2 := OFF.out.cell g2 hsz (by omega)
              have F2 := OFF.out.free f2 hsz (by omega)
              have G0 := OFF.out.cell g0 (by omega) (by omega)
              have F0 := OFF.out.free f0 (by omega) (by omega)
              obtain ⟨t, ht1, ht2, ht3⟩ := OFF.out.fns HO.out (Nat.le_refl _) (by omega)
              have hll : l.length ≤ 255 := by
                have h1 := fnSt_len s (nxA s 3) (nxB s 3 false) j
                rw [ST.out] at h1
                simp only at h1
                omega
              have hcl : lc.length ≤ 255 := by
                have h1 := codeSt_len s (nxA s (nxA s (nxA s p))) (nxB s (nxA s (nxA s p)) (nxB s (nxA s p) (nxB s p false))) y
                rw [CT.out] at h1
                simp only at h1
                omega
              have HB5 : Below wr.heap.size wr (wr.alloc (.cells #[.int .i64 (nv s p), .int .i64 (nv s (nxA s p)), .slice ca cn cc] 46)) := Below.alloc (Below.refl _ _) (Nat.le_refl _) _
              have H2 := hid (owns_kept ht2 HB5)
              have H3 := hid (fun i hi => (⟨(ht3 i hi).1, (ht3 i hi).2.1, (ht3 i hi).2.2.1, owns_kept (ht3 i hi).2.2.2 HB5⟩ : (t.getD i noT).1 = (l.getD i noFn).1 ∧ (t.getD i noT).2.1 = (l.getD i noFn).2.1 ∧ (l.getD i noFn).2.2.length * 16 ≤ 140737488351232 ∧ World.ownsRow _ (w.heap.size + 3) 43 2 (t.getD i noT).2.2 (l.getD i noFn).2.2.length (flat2 (l.getD i noFn).2.2)))
              have HC := hid (owns_kept (owns_base CO.out (show w.heap.size + 3 ≤ w2.heap.size + 1 by omega)) HB5)
              have HT1 := hid ht1
              have TK := hid (tk.alloc (.cells #[.int .i64 (nv s p), .int .i64 (nv s (nxA s p)), .slice ca cn cc] 46))
              have OF := hid (OFF.out.alloc hsr (.cells #[.int .i64 (nv s p), .int .i64 (nv s (nxA s p)), .slice ca cn cc] 46))
              obtain ⟨t1, t2, t3, t4, t5⟩ := tk
              have J := hid (And.intro (kept_cell HB5 G2) (And.intro ((HB5.frozen (p := ⟨w.heap.size + 1 + 1, 0, none⟩) (lt_of_cell G2)).trans F2) (And.intro (kept_cell HB5 G0) ((HB5.frozen (p := ⟨w.heap.size, 0, none⟩) (lt_of_cell G0)).trans F0))))
              have s9 := hb.size
              clear ht1 ht2 ht3 HB5
              go_wp2_with (at_builtin; go_must ((refine wpList_append_lies _ rfl _ _ 22 rfl (w.heap.size + 3) 46 j0 (.agg #[.int .i64 0, .int .i64 0, .slice none 0 0]) 3 40 Tryd.underlying22 hj hy0 hy1 hy2 rfl (by decide) _ _ _ rfl H2.out _ 1 1 [.int .i64 (nv s p), .int .i64 (nv s (nxA s p)), .slice ca cn cc] rfl rfl (news_new rfl _ _) (by intro u hu; simp at hu; rcases hu with rfl | rfl | rfl <;> rfl) (by decide) (by unfold maxLen; omega) (by omega) (by simp; omega) _ rfl ?_; intro g6 cap6 w8 ho8 hg8 _ _; have md1 := hg8.cell J.out.1 (row_ne H2.out (b := w.heap.size + 1 + 1) (.inl (by omega))); have md2 := (hg8.frozen_far ⟨w.heap.size + 1 + 1, 0, none⟩ (lt_of_cell J.out.1) (row_ne H2.out (b := w.heap.size + 1 + 1) (.inl (by omega)))).trans J.out.2.1; have E8 := hid (And.intro ho8 hg8); clear ho8 hg8)))
              go_roundw
              case rel =>
                obtain ⟨e1, e2⟩ := E8.out
                have rn := row_ne H2.out (b := w.heap.size) (.inl (by omega))
                have rT := row_ne H2.out (b := w.heap.size + 1) (.inl (by omega))
                have o9 : Below w.heap.size w w8 := Below.grown (hb.trans ((OF.out.below (B := w.heap.size) (by omega) (by omega)))) e2 (by simp; omega) (fun k hk => by have := (H2.out.lt k hk).1; omega)
                refine ⟨j + 1, l ++ [(nv s p, nv s (nxA s p), lc)], pc, _, by omega, by go_num, (by rw [fnSt_next ST.out, GF.out]), ?_, cell_set_far (e2.cell J.out.2.2.1 rn) (by simp; omega), by simpa using (e2.frozen_far ⟨w.heap.size, 0, none⟩ (lt_of_cell J.out.2.2.1) rn).trans J.out.2.2.2, ⟨_, _, _, World.cell?_setCell_same _ _ _ md1, by simpa using md2, ?_⟩, Below.setCell o9 (by simp; omega) _⟩
                · exact (TK.out.grown e2 rT).set _ _ (by simp)
                · exact (OwnFns.snoc (by decide) rfl HT1.out H2.out H3.out HC.out (by omega) e1 e2).set _ _ (by simp)
              case measure => simp [intOf]; omega
      · have GS : Hid (getSt s = (l, p, false)) := by
          show fnSt s (nxA s 3) (nxB s 3 false) (nv s 3).toNat = _
          rw [KN.out, ← ST.out, show kk = j by omega]
        obtain ⟨aa, an, ac, hva, hfn⟩ := HO.out.reads (by have := fnSt_len s (nxA s 3) (nxB s 3 false) j; rw [ST.out] at this; simp at this; omega)
        cases hva
        have HL : Hid (l.length ≤ 255) := by have := fnSt_len s (nxA s 3) (nxB s 3 false) j; rw [ST.out] at this; simp at this; exact Nat.le_trans this (by omega)
        go_wp2_with fail
        refine (refPut_any _ _ _ l _ hfn).mono ?_
        rintro e w2 ⟨rfl, hb2⟩
        have t3' := kept_cell hb2 t3
        have g0' := kept_cell hb2 g0
        have g2' := kept_cell hb2 g2
        have f0' := (hb2.frozen (p := ⟨w.heap.size, 0, none⟩) (lt_of_cell g0)).trans f0
        have HB := hid (kt hb hb2)
        have HO2 := hid (HO.out.kept hb2)
        clear hb2 hfn
        cases hpk : packsB l
        · have e1 : putE l = 300 := by simp [putE, hpk]
          go_wp2_with fail
          refine bodyPost_ret (v := .tuple #[.agg #[.slice none 0 0], .int .i64 300]) (by simp [results, Tryd.results12, go_sem, g0']) rfl ⟨_, _, rfl, Below.setCell HB.out (by simp) _, .inr ⟨?_, rfl, rfl⟩⟩
          rw [GS.out]
          simp [hpk]
        · have e1 : putE l = 0 := by simp [putE, hpk]
          have e2 : putS l = strOfNums (putBytes l) := by simp [putS, hpk]
          by_cases hus : strOfNums (putBytes l) = s
          · have e3 : putS l = s := e2.trans hus
            clear e2
            rw [e3]
            go_wp2_with fail
            refine bodyPost_ret (v := .tuple #[.agg #[.slice va vn vc], .int .i64 0]) (by simp [results, Tryd.results12, go_sem, g0']) rfl ⟨_, _, rfl, Below.setCell HB.out (by simp) _, .inl ?_⟩
            rw [GS.out]
            exact ⟨rfl, hpk, hus, rfl, HO2.out.set _ _ (by simp), HL.out⟩
          · have e3 : ((putS l).toList == s.toList) = false := by rw [e2]; exact str_ne hus
            clear e2
            generalize putS l = ps at e3 ⊢
            go_wp2_with fail
            refine bodyPost_ret (v := .tuple #[.agg #[.slice none 0 0], .int .i64 300]) (by simp [results, Tryd.results12, go_sem, g0']) rfl ⟨_, _, rfl, Below.setCell HB.out (by simp) _, .inr ⟨?_, rfl, rfl⟩⟩
            rw [GS.out]
            simp [hus]
    · have GS : Hid (getSt s = (l, p, true)) := by
        show fnSt s (nxA s 3) (nxB s 3 false) (nv s 3).toNat = _
        rw [KN.out, ← ST.out]
        exact fnSt_bad (by rw [ST.out]) kk hj1
      by_cases hlt : j < kk
      all_goals
        obtain ⟨aa, an, ac, hva, hfn⟩ := HO.out.reads (by have := fnSt_len s (nxA s 3) (nxB s 3 false) j; rw [ST.out] at this; simp at this; omega)
        cases hva
        have HL : Hid (l.length ≤ 255) := by have := fnSt_len s (nxA s 3) (nxB s 3 false) j; rw [ST.out] at this; simp at this; exact Nat.le_trans this (by omega)
        go_wp2_with fail
        refine (refPut_any _ _ _ l _ hfn).mono ?_
        rintro e w2 ⟨rfl, hb2⟩
        have t3' := kept_cell hb2 t3
        have g0' := kept_cell hb2 g0
        have g2' := kept_cell hb2 g2
        have f0' := (hb2.frozen (p := ⟨w.heap.size, 0, none⟩) (lt_of_cell g0)).trans f0
        have HB := hid (kt hb hb2)
        have HO2 := hid (HO.out.kept hb2)
        clear hb2 hfn
        go_wp2_with fail
        refine bodyPost_ret (v := .tuple #[.agg #[.slice none 0 0], .int .i64 300]) (by simp [results, Tryd.results12, go_sem, g0']) rfl ⟨_, _, rfl, Below.setCell HB.out (by simp) _, .inr ⟨?_, rfl, rfl⟩⟩
        rw [GS.out]
        simp

end Go.Proofs.YtlknaanheieneaaDoor
