/- Package verify's walker: what its methods do. Package verify's walker: one step. Package verify's walker: all that comes behind one instruction. Package verify's walk: the whole. -/
import Derived.Test.YtaimpljkbpnigaaGreatDoorVerA
import Derived.Test.YtaimpljkbpnigaaGreatDoorRefWalk2
import Derived.Deep.LoopGhost
import Derived.Deep.RegionHeld3
namespace Go.Proofs.YtaimpljkbpnigaaGreatDoor
open Go.RowKit
set_option linter.unusedVariables false

/-- A walker in its block gw: the program, the function, heights in block gh, the queue's slice. -/
structure Wk (w : World) (base gw gh : Nat) (ps : Value) (x y : Int) (code : Value) (n : Nat) (out : List Int) (qv : Value) : Prop where
  p : w.cell? ⟨gw, 0, none⟩ = some ps
  x : w.cell? ⟨gw, 1, none⟩ = some (.int .i64 x)
  y : w.cell? ⟨gw, 2, none⟩ = some (.int .i64 y)
  f : w.cell? ⟨gw, 3, none⟩ = some code
  h : w.cell? ⟨gw, 4, none⟩ = some (.slice (some ⟨gh, 0, none⟩) n n)
  q : w.cell? ⟨gw, 5, none⟩ = some qv
  free : w.frozen? ⟨gw, 5, none⟩ = false
  num : NumSt w gh n base out
theorem Wk.frm {S : Nat → Prop} {w w' : World} {base gw gh : Nat} {ps : Value} {x y : Int} {code : Value} {n : Nat} {out : List Int} {qv : Value} (h : Wk w base gw gh ps x y code n out qv) (hf : Frm S w w') (h1 : ¬ S gw) (h2 : ¬ S gh) : Wk w' base gw gh ps x y code n out qv :=
  ⟨hf.cell h.p h1, hf.cell h.x h1, hf.cell h.y h1, hf.cell h.f h1, hf.cell h.h h1, hf.cell h.q h1, hf.free h.q h.free h1, h.num.frm hf h2⟩
theorem Wk.kept {w w' : World} {base gw gh : Nat} {ps : Value} {x y : Int} {code : Value} {n : Nat} {out : List Int} {qv : Value} (h : Wk w base gw gh ps x y code n out qv) (hb : Below w.heap.size w w') : Wk w' base gw gh ps x y code n out qv :=
  h.frm (Frm.of_below (S := fun _ => False) hb) (fun h => h) (fun h => h)
theorem Frm.wide {S S' : Nat → Prop} {w w' : World} (h : Frm S w w') (hs : ∀ k, S k → S' k) : Frm S' w w' := ⟨h.os, h.tape, h.output, h.size, fun k hk hn => h.block k hk (fun e => hn (hs k e))⟩
theorem cell_set_at {w : World} {b o : Nat} {u v : Value} (hc : w.cell? ⟨b, o, none⟩ = some u) (hf : w.frozen? ⟨b, o, none⟩ = false) : (w.setCell ⟨b, o, none⟩ v).cell? ⟨b, o, none⟩ = some v :=
  World.rangeAt_setCells_same w b o [v] (fun j hj => by
    have : j = 0 := by simpa using hj
    subst this; exact ⟨by rw [Nat.add_zero, hc]; rfl, by rw [Nat.add_zero]; exact hf⟩) 0 _ rfl

/-- The world in which come appends: the height is written, the pc lies in a row of its own. -/
def comeW (w : World) (gh q : Nat) (hv : Int) : World := (w.setCell ⟨gh, q, none⟩ (.int .i64 hv)).alloc (.cells #[.int .i64 (q : Int)] 3)
theorem comeW_frm (w : World) (gh q : Nat) (hv : Int) : Frm (fun k => k = gh) w (comeW w gh q hv) := (Frm.set (S := fun k => k = gh) (p := ⟨gh, q, none⟩) _ rfl).trans (Frm.of_below (S := fun k => k = gh) (Below.alloc (Below.refl _ _) (Nat.le_refl _) _)) (fun _ _ h => h)
theorem comeW_row (w : World) (gh q : Nat) (hv : Int) : (comeW w gh q hv).ownsRow 0 3 1 (.slice (some ⟨w.heap.size, 0, none⟩) 1 1) [(q : Int)].length (ints [(q : Int)]) := by
  have := World.ownsRow_lit (e := 3) (size := 1) (base := 0) (w.setCell ⟨gh, q, none⟩ (.int .i64 hv)) #[.int .i64 (q : Int)] 1 (Nat.zero_le _) (by decide) rfl
  simp only [World.size_setCell] at this
  exact this
theorem Wk.comeW {w : World} {base gw gh : Nat} {ps : Value} {x y : Int} {code : Value} {n : Nat} {out : List Int} {qv : Value} (W : Wk w base gw gh ps x y code n out qv) (h1 : gw ≠ gh) (q : Nat) (hv : Int) : Wk (comeW w gh q hv) base gw gh ps x y code n (out.set q hv) qv := by
  have f := comeW_frm w gh q hv
  exact ⟨f.cell W.p h1, f.cell W.x h1, f.cell W.y h1, f.cell W.f h1, f.cell W.h h1, f.cell W.q h1, f.free W.q W.free h1, (W.num.put q hv).kept (Below.alloc (Below.refl _ _) (Nat.le_refl _) _)⟩
/-- .. and behind the append, with the queue's slice stored. -/
theorem Wk.stored {w : World} {base gw gh : Nat} {ps : Value} {x y : Int} {code : Value} {n : Nat} {out : List Int} {qv : Value} (W : Wk w base gw gh ps x y code n out qv) (h1 : gw ≠ gh) (v : Value) : Wk (w.setCell ⟨gw, 5, none⟩ v) base gw gh ps x y code n out v := by
  have o : ∀ (k : Nat) (u : Value), k ≠ 5 → w.cell? ⟨gw, k, none⟩ = some u → (w.setCell ⟨gw, 5, none⟩ v).cell? ⟨gw, k, none⟩ = some u := fun k u hk hc => by rw [World.cell?_setCell_other w ⟨gw, 5, none⟩ ⟨gw, k, none⟩ v (by intro e; cases e; exact hk rfl)]; exact hc
  exact ⟨o 0 _ (by omega) W.p, o 1 _ (by omega) W.x, o 2 _ (by omega) W.y, o 3 _ (by omega) W.f, o 4 _ (by omega) W.h, cell_set_at W.q W.free, by rw [World.frozen?_setCell]; exact W.free, W.num.frm (Frm.set (S := fun k => k = gw) (p := ⟨gw, 5, none⟩) v rfl) (fun e => h1 e.symm)⟩

set_option maxHeartbeats 2000000 in
set_option maxRecDepth 100000 in
theorem come_q {w : World} {base gw gh : Nat} {ps : Value} {x y : Int} {code : Value} {n : Nat} {out ws : List Int} {gq o cap : Nat} (W : Wk w base gw gh ps x y code n out (.slice (some ⟨gq, o, none⟩) ws.length cap)) (Q : Queue w base gq o cap ws) (hn : n ≤ 64)
    (h1 : gw ≠ gh) (h2 : gq ≠ gw) (h3 : gq ≠ gh) (q : Nat) (hq : q < n) (hv : Int) (hw : ws.length ≤ 64) (hnew : out.getD q 0 = -1) :
    Calls Tryz.prog 108 #[.pointer (some ⟨gw, 0, none⟩), .int .i64 q, .int .i64 hv] w fun e w' => e = .returned (.bool true) ∧ ∃ gq' o' cap', Wk w' base gw gh ps x y code n (out.set q hv) (.slice (some ⟨gq', o', none⟩) (ws ++ [(q : Int)]).length cap') ∧ Queue w' base gq' o' cap' (ws ++ [(q : Int)]) ∧ (gq' = gq ∨ w.heap.size ≤ gq') ∧ Frm (fun k => k = gw ∨ k = gh ∨ k = gq) w w' := by
  obtain ⟨i0, hi, hz0, hz1, hz2⟩ := info_parts Tryz.infoInt
  have c4 := W.h
  have c5 := W.q
  have f5 := W.free
  have cq := W.num.at q hq
  have fq := W.num.free q
  have hgw := lt_of_cell c4
  have hgh := W.num.lt.2
  have hol := W.num.len
  rw [hnew] at cq
  have WC := hid (W.comeW h1 q hv)
  have QC := hid (Q.frm (comeW_frm w gh q hv) h3)
  have RC := hid (comeW_row w gh q hv)
  have FC := hid (comeW_frm w gh q hv)
  clear W Q hnew
  unfold comeW at WC QC RC FC
  go_enter Tryz.func108, Tryz.ntmps108
  go_wp2_with (at_builtin; go_must ((refine wpList_append_queue _ rfl _ _ 42 rfl 3 i0 (.int .i64 0) 8 Tryz.underlying42 hi hz0 hz1 hz2 rfl _ _ _ _ ws [(q : Int)] rfl QC.out _ _ rfl RC.out (by unfold maxLen; simp; omega) (by simp; omega) ?_; intro g8 o8 cap8 w8 q8 f8 at8; have W8 := hid (WC.out.frm f8 (fun e => h2 e.symm) (fun e => h3 e.symm)); have y4 := W8.out.h; have y5 := W8.out.q; have z5 := W8.out.free; have yq := W8.out.num.at q hq; rw [getD_set_i, if_pos ⟨rfl, by omega⟩] at yq; have P8 := hid (And.intro q8 (And.intro f8 at8)); clear q8 f8 at8)))
  go_ret
  obtain ⟨q8, f8, at8⟩ := P8.out
  have hg8 : g8 ≠ gw := by
    rcases at8 with e | e
    · rw [e]; exact h2
    · have := FC.out.size; omega
  refine ⟨rfl, g8, o8, cap8, by simpa using W8.out.stored h1 (.slice (some ⟨g8, o8, none⟩) (ws ++ [(q : Int)]).length cap8), q8.frm (Frm.set (S := fun k => k = gw) (p := ⟨gw, 5, none⟩) _ rfl) hg8, ?_, ?_⟩
  · rcases at8 with e | e
    · exact .inl e
    · right; have := FC.out.size; omega
  · exact (((FC.out.wide (S' := fun k => k = gw ∨ k = gh ∨ k = gq) (fun _ h => .inr (.inl h))).trans f8 (fun _ _ h => .inr (.inr h))).trans (Frm.set (S := fun k => k = gw) (p := ⟨gw, 5, none⟩) _ rfl) (fun _ _ h => .inl h))

set_option maxHeartbeats 2000000 in
set_option maxRecDepth 100000 in
theorem come_first {w : World} {base gw gh : Nat} {ps : Value} {x y : Int} {code : Value} {n : Nat} {out : List Int} (W : Wk w base gw gh ps x y code n out (.slice none 0 0)) (hn : n ≤ 64) (hbase : base ≤ w.heap.size)
    (h1 : gw ≠ gh) (q : Nat) (hq : q < n) (hv : Int) (hnew : out.getD q 0 = -1) :
    Calls Tryz.prog 108 #[.pointer (some ⟨gw, 0, none⟩), .int .i64 q, .int .i64 hv] w fun e w' => e = .returned (.bool true) ∧ ∃ gq' cap', Wk w' base gw gh ps x y code n (out.set q hv) (.slice (some ⟨gq', 0, none⟩) 1 cap') ∧ Queue w' base gq' 0 cap' [(q : Int)] ∧ w.heap.size ≤ gq' ∧ Frm (fun k => k = gw ∨ k = gh) w w' := by
  obtain ⟨i0, hi, hz0, hz1, hz2⟩ := info_parts Tryz.infoInt
  have c4 := W.h
  have c5 := W.q
  have f5 := W.free
  have cq := W.num.at q hq
  have fq := W.num.free q
  have hgw := lt_of_cell c4
  have hgh := W.num.lt.2
  have hol := W.num.len
  rw [hnew] at cq
  have WC := hid (W.comeW h1 q hv)
  have FC := hid (comeW_frm w gh q hv)
  clear W hnew
  unfold comeW at WC FC
  go_enter Tryz.func108, Tryz.ntmps108
  go_wp2_with (at_builtin; go_must ((refine wpList_append_lies _ rfl _ _ 42 rfl base 3 i0 (.int .i64 0) 1 8 Tryz.underlying42 hi hz0 hz1 hz2 rfl (by decide) (.slice none 0 0) 0 [] rfl (World.ownsRow_nil _ _ _ _) ⟨w.heap.size, 0, none⟩ 1 1 [.int .i64 (q : Int)] rfl rfl (news_new (by simp) [.int .i64 (q : Int)] 3) (by intro u hu; simp at hu; subst hu; rfl) (by decide) (by unfold maxLen; omega) (by omega) (by simp; omega) (w.heap.size + 1) (by simp) ?_; intro g8 cap8 w8 o8 gr8 at8 lt8; have W8 := hid (WC.out.frm (Frm.of_grown (S := fun _ => False) gr8 (fun k hk => by cases hk)) (fun h => h) (fun h => h)); have y4 := W8.out.h; have y5 := W8.out.q; have z5 := W8.out.free; have yq := W8.out.num.at q hq; rw [getD_set_i, if_pos ⟨rfl, by omega⟩] at yq; have P8 := hid (And.intro o8 (And.intro gr8 at8)); clear o8 gr8 at8 lt8)))
  go_ret
  obtain ⟨o8, gr8, at8⟩ := P8.out
  have hg8 : g8 = w.heap.size + 1 := by rcases at8 with e | e; (cases e); exact e
  refine ⟨rfl, g8, cap8, by simpa using W8.out.stored h1 (.slice (some ⟨g8, 0, none⟩) 1 cap8), ?_, by omega, ?_⟩
  · have := Queue.of_owns (xs := [(q : Int)]) (by simpa [ints] using o8)
    exact this.frm (Frm.set (S := fun k => k = gw) (p := ⟨gw, 5, none⟩) _ rfl) (by omega)
  · exact (((FC.out.wide (S' := fun k => k = gw ∨ k = gh) (fun _ h => .inr h)).trans (S' := fun _ => False) (Frm.of_grown gr8 (fun k hk => by cases hk)) (fun _ _ h => h.elim)).trans (Frm.set (S := fun k => k = gw) (p := ⟨gw, 5, none⟩) _ rfl) (fun _ _ h => .inl h))

set_option maxHeartbeats 2000000 in
set_option maxRecDepth 100000 in
theorem come_old {w : World} {base gw gh : Nat} {ps : Value} {x y : Int} {code : Value} {n : Nat} {out : List Int} {qv : Value} (W : Wk w base gw gh ps x y code n out qv) (hn : n ≤ 64)
    (q : Nat) (hq : q < n) (hv : Int) (hold : ¬ out.getD q 0 = -1) :
    Calls Tryz.prog 108 #[.pointer (some ⟨gw, 0, none⟩), .int .i64 q, .int .i64 hv] w fun e w' => e = .returned (.bool (decide (out.getD q 0 = hv))) ∧ w' = w := by
  have c4 := W.h
  have cq := W.num.at q hq
  clear W
  generalize out.getD q 0 = ov at *
  have n1 : (ov == -1) = false := by simp [hold]
  by_cases he : ov = hv
  · subst he
    go_enter Tryz.func108, Tryz.ntmps108
    go_wp2_with fail
    go_ret
    exact ⟨by simp, rfl⟩
  · have n2 : (ov == hv) = false := by simp [he]
    go_enter Tryz.func108, Tryz.ntmps108
    go_wp2_with fail
    go_ret
    exact ⟨by simp [he], rfl⟩

end Go.Proofs.YtaimpljkbpnigaaGreatDoor

namespace Go.Proofs.YtaimpljkbpnigaaGreatDoor
open Go.RowKit
set_option linter.unusedVariables false

theorem ret_ib {a a' : Int} {b b' : Bool} (h1 : a = a') (h2 : b = b') : Ending.returned (.tuple #[.int .i64 a, .bool b]) = .returned (.tuple #[.int .i64 a', .bool b']) := by rw [h1, h2]
theorem eff_ok {k a m : Int} (h : effB k a m = true) : effE k a m = 0 := (eff_good h).2.2

set_option maxHeartbeats 4000000 in
set_option maxRecDepth 100000 in
theorem behind_any {w : World} {base gw gh : Nat} {pa : Option Addr} {pn pc : Nat} {ps : List Fn} {x y : Int} {a : Option Addr} {n c : Nat} {l : List (Int × Int)} {out : List Int} {qv : Value} (W : Wk w base gw gh (.slice pa pn pc) x y (.slice a n c) n out qv)
    (hp : Fns w pa pn pc ps) (h : Inss w a n c l) (hk : packsB ps = true) (hc : codeB l = true) (p : Nat) (hpl : p < n) (hR : rangedB pn y n (insAt l p).1 (insAt l p).2 = true) (hcur : 0 ≤ out.getD p 0 ∧ out.getD p 0 ≤ 8) :
    Calls Tryz.prog 129 #[.pointer (some ⟨gw, 0, none⟩), .int .i64 p] w fun e w' => e = .returned (.tuple #[.int .i64 (goesTo ps l out p), .bool (decide (takesAt ps l p ≤ out.getD p 0) && decide (goesTo ps l out p ≤ 8))]) ∧ Below w.heap.size w w' := by
  have L := hid h.len
  have LP := hid hp.len
  have hcp := h.cap
  have hr := h.room
  have hpr := hp.room
  have hpc := hp.cap
  have hlen : 1 ≤ n ∧ n ≤ 64 := by rw [L.out]; simp [codeB] at hc; exact hc.1
  have hpk : 1 ≤ pn ∧ pn ≤ 8 := by rw [LP.out]; simp [packsB] at hk; exact hk.1
  obtain ⟨b1, o1, K, A, rfl, e1, c1, c2⟩ := h.at p hpl
  have hat : insAt l p = (K, A) := e1
  have hmay : mayB K A = true := by have := code_may hc (p := p) (by have := L.out; omega); rw [hat] at this; exact this
  have hrg : rangedB pn y n K A = true := by have := hR; rw [hat] at this; exact this
  have hA : K = 14 → 0 ≤ A ∧ A < pn := by
    intro h14
    subst h14
    simp [may14, belowB] at hmay
    have : (A < (pn : Int)) := by simpa [rangedB] using hrg
    omega
  have hM : 0 ≤ argsOf ps K A ∧ argsOf ps K A ≤ 4 := args_bd hk (by rw [← LP.out]; exact hA)
  have hEB : effB K A (argsOf ps K A) = true := by simp [effB, hmay, argsB]; exact hM
  have EF : Hid (effT K A (argsOf ps K A) = takesAt ps l p ∧ effP K A (argsOf ps K A) = putsV K ∧ effE K A (argsOf ps K A) = 0) := hid (by
    have := eff_good hEB
    exact ⟨by rw [this.1]; unfold takesAt; rw [hat], this.2.1, this.2.2⟩)
  have hT : 0 ≤ takesAt ps l p ∧ takesAt ps l p ≤ 4 := by unfold takesAt; rw [hat]; exact takes_bd _ _ hM
  have hPu := puts_bd K
  have GT : Hid (goesTo ps l out p = out.getD p 0 - takesAt ps l p + putsV K) := hid (by unfold goesTo; rw [hat])
  have w0 := W.p
  have w3 := W.f
  have w4 := W.h
  have cN := W.num.at p hpl
  generalize hcv : out.getD p 0 = cur at *
  generalize hTv : takesAt ps l p = T at *
  generalize hPv : putsV K = Pu at *
  rw [GT.out]
  have HP := hid hp
  clear W hat e1 hmay hrg hR hEB hcv hTv hPv GT h hp hk hc
  have hA1 : Below w.heap.size w (w.alloc (.cells #[.int .i64 K, .int .i64 A] 47)) := Below.alloc (Below.refl _ _) (Nat.le_refl _) _
  have HA := hid hA1
  have u0 := kept_cell hA1 w0
  by_cases h14 : K = 14
  · subst h14
    obtain ⟨hA0, hA1'⟩ := hA rfl
    obtain ⟨A', rfl⟩ : ∃ A' : Nat, A = A' := ⟨A.toNat, by omega⟩
    obtain ⟨pb1, po1, px, py, pa', pn', pc', pl', rfl, pe, pd0, pd1, pd2, pi⟩ := HP.out.at A' (by omega)
    have hMx : argsOf ps 14 (A' : Int) = px := by unfold argsOf; rw [if_pos rfl, Int.toNat_natCast, pe]
    rw [hMx] at EF hM
    have v0 := kept_cell hA1 pd0
    clear pd1 pd2 pi pe hMx hA1 pd0
    go_enter Tryz.func129, Tryz.ntmps129
    go_wp2_with fail
    go_quiet (fail)
    go_wp2_with fail
    refine (effect_any _ _ _ _).mono ?_
    rintro e w2 ⟨rfl, b2⟩
    rw [EF.out.1, EF.out.2.1, EF.out.2.2]
    have B : Hid (Below w.heap.size w w2) := hid (kt (below_drewN HA.out _) b2)
    have v4 := kept_cell B.out w4
    have vN := kept_cell B.out cN
    clear b2
    by_cases bad1 : cur < T
    · go_wp2_with fail
      go_ret2
      exact ⟨ret_ib rfl (by simp; omega), B.out⟩
    by_cases bad2 : 8 < cur - T + Pu
    · go_wp2_with fail
      go_ret2
      exact ⟨ret_ib rfl (by simp; omega), B.out⟩
    · go_wp2_with fail
      go_ret2
      exact ⟨ret_ib rfl (by simp; omega), B.out⟩
  · have n14 : (K == 14) = false := by simp [h14]
    have hm0 : argsOf ps K A = 0 := by unfold argsOf; rw [if_neg h14]
    rw [hm0] at EF hM
    clear hA1
    go_enter Tryz.func129, Tryz.ntmps129
    go_wp2_with fail
    refine (effect_any _ _ _ _).mono ?_
    rintro e w2 ⟨rfl, b2⟩
    rw [EF.out.1, EF.out.2.1, EF.out.2.2]
    have B : Hid (Below w.heap.size w w2) := hid (kt HA.out b2)
    have v4 := kept_cell B.out w4
    have vN := kept_cell B.out cN
    clear b2
    by_cases bad1 : cur < T
    · go_wp2_with fail
      go_ret2
      exact ⟨ret_ib rfl (by simp; omega), B.out⟩
    by_cases bad2 : 8 < cur - T + Pu
    · go_wp2_with fail
      go_ret2
      exact ⟨ret_ib rfl (by simp; omega), B.out⟩
    · go_wp2_with fail
      go_ret2
      exact ⟨ret_ib rfl (by simp; omega), B.out⟩

end Go.Proofs.YtaimpljkbpnigaaGreatDoor

namespace Go.Proofs.YtaimpljkbpnigaaGreatDoor
open Go.RowKit
set_option linter.unusedVariables false

set_option maxHeartbeats 8000000 in
set_option maxRecDepth 100000 in
theorem goOn_any {w : World} {base gw gh : Nat} {pa : Option Addr} {pn pc : Nat} {ps : List Fn} {x y : Int} {a : Option Addr} {n c : Nat} {l : List (Int × Int)} {out ws : List Int} {gq o cap : Nat} (W : Wk w base gw gh (.slice pa pn pc) x y (.slice a n c) n out (.slice (some ⟨gq, o, none⟩) ws.length cap))
    (Q : Queue w base gq o cap ws) (h1 : gw ≠ gh) (h2 : gq ≠ gw) (h3 : gq ≠ gh)
    (hp : Fns w pa pn pc ps) (h : Inss w a n c l) (hk : packsB ps = true) (hc : codeB l = true) (p : Nat) (hpl : p < n) (hR : rangedB pn y n (insAt l p).1 (insAt l p).2 = true) (I : HInv l out ws) (hcur : 0 ≤ out.getD p 0) (hr : Reach l p) (hle : negs out + ws.length ≤ 64) :
    Calls Tryz.prog 109 #[.pointer (some ⟨gw, 0, none⟩), .int .i64 p] w fun e w' => Frm (fun k => k = gw ∨ k = gh ∨ k = gq) w w' ∧
      ((e = .returned (.bool false) ∧ stepH ps l out ws p = none) ∨ (e = .returned (.bool true) ∧ ∃ out' ws' gq' o' cap', stepH ps l out ws p = some (out', ws') ∧ HInv l out' ws' ∧ negs out' + ws'.length = negs out + ws.length ∧ Wk w' base gw gh (.slice pa pn pc) x y (.slice a n c) n out' (.slice (some ⟨gq', o', none⟩) ws'.length cap') ∧ Queue w' base gq' o' cap' ws' ∧ (gq' = gq ∨ w.heap.size ≤ gq'))) := by
  have L := hid h.len
  have hn : n ≤ 64 := by rw [L.out]; simp [codeB] at hc; exact hc.1.2
  have hcur8 := (I.high p (by have := L.out; omega)).2
  have HB := hid (behind_any W hp h hk hc p hpl hR ⟨hcur, hcur8⟩)
  have w1 := W.x
  have w2 := W.y
  have w3 := W.f
  have NXE : Hid (nxL l (p : Int) = nextL l p ∧ nxE l (p : Int) = 0) := hid (by
    have e : nxOk l (p : Int) = true := by rw [nxOk, hc, show inB l.length (p : Int) = true by simp [inB]; have := L.out; omega]; rfl
    unfold nxL nxE; rw [if_pos e, if_pos e, Int.toNat_natCast]; exact ⟨rfl, rfl⟩)
  by_cases bad : takesAt ps l p ≤ out.getD p 0 ∧ goesTo ps l out p ≤ 8
  rotate_left
  · have hst : stepH ps l out ws p = none := stepH_bad (by omega)
    rw [show (decide (takesAt ps l p ≤ out.getD p 0) && decide (goesTo ps l out p ≤ 8)) = false by rw [Bool.and_eq_false_iff, decide_eq_false_iff_not, decide_eq_false_iff_not]; omega] at HB
    have HST := hid hst
    clear hst bad
    go_enter Tryz.func109, Tryz.ntmps109
    go_wp2_with fail
    refine HB.out.mono ?_
    rintro e u ⟨rfl, hb⟩
    go_wp2_with fail
    go_ret
    exact ⟨Frm.of_below hb, .inl ⟨rfl, HST.out⟩⟩
  · obtain ⟨g1, g2⟩ := bad
    rw [show (decide (takesAt ps l p ≤ out.getD p 0) && decide (goesTo ps l out p ≤ 8)) = true by rw [decide_eq_true g1, decide_eq_true g2]; rfl] at HB
    have SG : Hid (stepH ps l out ws p = putHs (goesTo ps l out p) (nextL l p) (out, ws)) := hid (stepH_go (by omega) (by omega))
    have h0 : 0 ≤ goesTo ps l out p := by
      have := puts_bd (insAt l p).1
      unfold goesTo; omega
    generalize hhv : goesTo ps l out p = hv at *
    have HW := hid W
    have HQ := hid Q
    have HI := hid h
    have HV := hid I
    have hgw := lt_of_cell w1
    have hgh := W.num.lt.2
    have hgq := Q.lt
    clear W Q h I hhv hp hk hR g1
    go_enter Tryz.func109, Tryz.ntmps109
    go_wp2_with fail
    refine HB.out.mono ?_
    rintro e u ⟨rfl, hb⟩
    have v1 := kept_cell hb w1
    have v2 := kept_cell hb w2
    have v3 := kept_cell hb w3
    have B := hid hb
    clear hb w1 w2 w3
    go_wp2_with fail
    refine (flowNext_any _ _ _ _ _ _ l _ (HI.out.kept B.out)).mono ?_
    rintro e u5 ⟨vn, rfl, on, b5⟩
    rw [NXE.out.1] at on
    rw [NXE.out.2]
    have hu5 := b5.size
    have XL := hid (nextL_len l p)
    obtain ⟨an, nn, cn, rfl, iN⟩ := ints_of_owns on (by have := XL.out; omega)
    have hnn : Hid (nn = (nextL l p).length) := hid iN.len
    have hcn := iN.cap
    have hrn := iN.room
    have ON := hid on
    have B5 := hid (kt B.out b5)
    have hsz := B5.out.size
    clear on iN b5 v1 v2 v3
    go_wp2_with fail
    go_loopw [30] (fun s wz => ∃ j : Nat, j ≤ nn ∧ s = .int .i64 j ∧ ∃ out' ws' gz oz capz, Wk wz base gw gh (.slice pa pn pc) x y (.slice a n c) n out' (.slice (some ⟨gz, oz, none⟩) ws'.length capz) ∧ Queue wz base gz oz capz ws' ∧ (gz = gq ∨ u5.heap.size ≤ gz) ∧ HInv l out' ws' ∧ putHs hv ((nextL l p).drop j) (out', ws') = putHs hv (nextL l p) (out, ws) ∧ negs out' + ws'.length = negs out + ws.length ∧ wz.ownsRow u.heap.size 3 1 (.slice an nn cn) (nextL l p).length (ints (nextL l p)) ∧ u5.heap.size ≤ wz.heap.size ∧ Frm (fun k => k = gw ∨ k = gh ∨ k = gq) w wz) (fun s _ => nn - (intOf s).toNat)
    case atStart => exact ⟨0, Nat.zero_le _, rfl, out, ws, gq, o, cap, HW.out.kept B5.out, HQ.out.frm (Frm.of_below (S := fun _ => False) B5.out) (fun h => h), .inl rfl, HV.out, rfl, rfl, ON.out, Nat.le_refl _, Frm.of_below B5.out⟩
    case round =>
      obtain ⟨j, hj, rfl, out', ws', gz, oz, capz, wk, qz, hgz, inz, hput, hng, ozn, hsz5, fz⟩ := hrel
      have XB : Hid (∀ k, (Value.slice an nn cn).ownBlock = some k → k < u5.heap.size) := hid (fun k hk => (ON.out.lt k hk).2)
      have hlz : ws'.length ≤ 64 := by omega
      by_cases hlj : j < nn
      rotate_left
      · have hjn : j = nn := by omega
        subst hjn
        rw [List.drop_eq_nil_of_le (by have := hnn.out; omega)] at hput
        have hst : stepH ps l out ws p = some (out', ws') := by rw [SG.out, ← hput]; rfl
        have R := hid (And.intro hst (And.intro inz (And.intro hng (And.intro wk qz))))
        have FZ := hid fz
        clear hst inz hng wk qz hput ozn fz
        go_wp2_with fail
        go_ret
        exact ⟨FZ.out, .inr ⟨rfl, out', ws', gz, oz, capz, R.out.1, R.out.2.1, R.out.2.2.1, R.out.2.2.2.1, R.out.2.2.2.2, by rcases hgz with e | e; (exact .inl e); (right; omega)⟩⟩
      · obtain ⟨gn, cn', e2, hgn, hgnl⟩ := ozn.form (by have := hnn.out; omega)
        cases e2
        have hgn5 : gn < u5.heap.size := XB.out gn rfl
        have cX5 := ozn.cellAt j (by have := hnn.out; omega)
        rw [ints_at (nextL l p) j (by have := hnn.out; omega)] at cX5
        have hmem : (nextL l p).getD j 0 ∈ nextL l p := by have := hnn.out; simp [List.getD_eq_getElem?_getD, show j < (nextL l p).length by omega]
        have hrg5 := nextL_in _ hmem
        obtain ⟨q5, hq5⟩ : ∃ q5 : Nat, (nextL l p).getD j 0 = q5 := ⟨((nextL l p).getD j 0).toNat, by omega⟩
        rw [hq5] at cX5 hrg5 hmem
        have hqn5 : q5 < n := by have := L.out; omega
        rw [drop_at (d := 0) (by have := hnn.out; omega) hq5] at hput
        have hol := wk.num.len
        have hlow := (inz.high q5 (by have := L.out; omega)).1
        have hgzw : gz ≠ gw := by rcases hgz with e | e; (rw [e]; exact h2); omega
        have hgzh : gz ≠ gh := by rcases hgz with e | e; (rw [e]; exact h3); omega
        have hgzn : gn ≠ gz := by rcases hgz with e | e; (have := B.out.size; omega); omega
        have hgnw : gn ≠ gw := by have := B.out.size; omega
        have hgnh : gn ≠ gh := by have := B.out.size; omega
        by_cases hneg : out'.getD q5 0 < 0
        · have CQ := hid (come_q wk qz hn h1 hgzw hgzh q5 hqn5 hv hlz (by omega))
          have RI := hid (inz.put hr hmem h0 g2 hneg)
          have RN : Hid (negs (out'.set q5 hv) + (ws' ++ [(q5 : Int)]).length = negs out + ws.length) := hid (by have h2 := negs_set (out := out') (i := q5) (h := hv) (by omega) hneg h0; rw [List.length_append, List.length_singleton]; omega)
          have RP : Hid (putHs hv ((nextL l p).drop (j + 1)) (out'.set q5 hv, ws' ++ [(q5 : Int)]) = putHs hv (nextL l p) (out, ws)) := hid (by rw [← hput, putHs_new hneg])
          have OZ := hid ozn
          have FZ := hid fz
          clear inz hng wk qz hput ozn fz hmem hrg5 hneg
          go_wp2_with fail
          refine CQ.out.mono ?_
          rintro e w8 ⟨rfl, g8, o8, cap8, wk8, q8, at8, f8⟩
          have R8 := hid (And.intro wk8 (And.intro q8 (And.intro at8 f8)))
          clear wk8 q8 at8 f8 CQ
          go_wp2_with fail
          go_roundw
          case rel =>
            obtain ⟨wk8, q8, at8, f8⟩ := R8.out
            exact ⟨j + 1, by omega, by go_num, _, _, g8, o8, cap8, wk8, q8, by rcases at8 with e | e; (rw [e]; exact hgz); (right; omega), RI.out, RP.out, RN.out, f8.owns OZ.out (fun k hk => by have e : gn = k := Option.some.inj hk; omega), by have := f8.size; omega, FZ.out.trans f8 (fun i hi hx => by rcases hx with e | e | e; (exact .inl e); (exact .inr (.inl e)); (rcases hgz with e' | e'; (right; right; omega); omega))⟩
          case measure => simp [intOf]; omega
        · have CO := hid (come_old wk hn q5 hqn5 hv (by omega))
          by_cases heq : out'.getD q5 0 = hv
          · rw [decide_eq_true heq] at CO
            have R := hid (And.intro inz (And.intro hng (And.intro wk (And.intro qz (And.intro ozn fz)))))
            have RP : Hid (putHs hv ((nextL l p).drop (j + 1)) (out', ws') = putHs hv (nextL l p) (out, ws)) := hid (by rw [← hput, putHs_same hneg heq])
            clear inz hng wk qz hput ozn fz hmem hrg5 hneg heq
            go_wp2_with fail
            refine CO.out.mono ?_
            rintro e w8 ⟨rfl, rfl⟩
            go_wp2_with fail
            go_roundw
            case rel => exact ⟨j + 1, by omega, by go_num, out', ws', gz, oz, capz, R.out.2.2.1, R.out.2.2.2.1, hgz, R.out.1, RP.out, R.out.2.1, R.out.2.2.2.2.1, hsz5, R.out.2.2.2.2.2⟩
            case measure => simp [intOf]; omega
          · rw [decide_eq_false heq] at CO
            have hst : stepH ps l out ws p = none := by rw [SG.out, ← hput, putHs_other hneg heq]
            have HST := hid hst
            have FZ := hid fz
            clear inz hng wk qz hput ozn fz hmem hrg5 hneg heq hst
            go_wp2_with fail
            refine CO.out.mono ?_
            rintro e w8 ⟨rfl, rfl⟩
            go_wp2_with fail
            go_ret
            exact ⟨FZ.out, .inl ⟨rfl, HST.out⟩⟩

end Go.Proofs.YtaimpljkbpnigaaGreatDoor

namespace Go.Proofs.YtaimpljkbpnigaaGreatDoor
open Go.RowKit
set_option linter.unusedVariables false

/-- The error that stands beside a number: none, where it is 0. -/
def errN (pc num : Int) : Value := if num = 0 then .nilIface else flt pc num

set_option maxRecDepth 100000 in
set_option maxHeartbeats 8000000 in
theorem walk_any (pa : Option Addr) (pn pc : Nat) (ps : List Fn) (x y : Int) (a : Option Addr) (n c : Nat) (l : List (Int × Int)) (w : World) (hp : Fns w pa pn pc ps) (h : Inss w a n c l) (hk : packsB ps = true) (hc : codeB l = true)
    (hR : ∀ i, Reach l i → rangedB pn y n (insAt l i).1 (insAt l i).2 = true) :
    Calls Tryz.prog 87 #[.agg #[.slice pa pn pc], .agg #[.int .i64 x, .int .i64 y, .slice a n c]] w fun e w' => ∃ v, e = .returned (.tuple #[v, errN (walkV ps l).2.1 (walkV ps l).2.2]) ∧ w'.ownsRow w.heap.size 3 1 v (walkV ps l).1.length (ints (walkV ps l).1) ∧ Below w.heap.size w w' := by
  obtain ⟨i0, hi, hz0, hz1, hz2⟩ := info_parts Tryz.infoInt
  have L := hid h.len
  have LP := hid hp.len
  have hcp := h.cap
  have hr := h.room
  have hpr := hp.room
  have hpc := hp.cap
  have hlen : 1 ≤ n ∧ n ≤ 64 := by rw [L.out]; simp [codeB] at hc; exact hc.1
  have HC := hid hc
  have HPK := hid hk
  have HR := hid hR
  have HI := hid h
  have HP := hid hp
  generalize hV : walkV ps l = V
  have HV := hid hV
  obtain ⟨V1, V2, V3⟩ := V
  clear hc hk hR h hp hV
  have hmk := run_make_row' (P := Tryz.prog) 42 3 (.int .i64 0) 8 Tryz.underlying42 Tryz.infoInt rfl .i64 .i64 n (by omega) (by omega)
  go_enter Tryz.func87, Tryz.ntmps87
  go_wp2_with fail
  go_region_held3 (fun w' => w'.cell? ⟨w.heap.size, 0, none⟩ = some (.slice pa pn pc) ∧ w'.cell? ⟨w.heap.size + 1, 0, none⟩ = some (.int .i64 x) ∧ w'.cell? ⟨w.heap.size + 1, 1, none⟩ = some (.int .i64 y) ∧ w'.cell? ⟨w.heap.size + 1, 2, none⟩ = some (.slice a n c)) (go_keep) (fail)
  · obtain ⟨w3, hw3⟩ : ∃ w3 : World, w3 = ((((w.alloc (.cells #[.slice pa pn pc] 24)).alloc (.cells #[.int .i64 x, .int .i64 y, .slice a n c] 51)).alloc (.cells (madeCells #[.int .i64 0] n) 3)).alloc (.cells #[.slice pa pn pc, .int .i64 x, .int .i64 y, .slice a n c, .slice (some ⟨w.heap.size + 1 + 1, 0, none⟩) n n, .slice none 0 0] 173)).drew := ⟨_, rfl⟩
    have B3 : Hid (Below w.heap.size w w3) := hid (by rw [hw3]; exact Below.drew (Below.alloc (Below.alloc (Below.alloc (Below.alloc (Below.refl _ _) (Nat.le_refl _) _) (by simp) _) (by simp; omega) _) (by simp; omega) _))
    have N3 : Hid (NumSt w3 ((w.heap.size + 1 + 1)) n w.heap.size (List.replicate 0 (-1) ++ List.replicate (n - 0) 0)) := hid (by
      rw [hw3, List.replicate_zero, List.nil_append, Nat.sub_zero]
      have := NumSt.make ((w.alloc (.cells #[.slice pa pn pc] 24)).alloc (.cells #[.int .i64 x, .int .i64 y, .slice a n c] 51)) n w.heap.size (by simp; omega) (by unfold maxLen; omega)
      rw [show ((w.alloc (.cells #[.slice pa pn pc] 24)).alloc (.cells #[.int .i64 x, .int .i64 y, .slice a n c] 51)).heap.size = w.heap.size + 1 + 1 by simp] at this
      exact (this.kept (Below.alloc (Below.refl _ _) (Nat.le_refl _) _)).kept (Below.drew (Below.refl _ _)))
    have K3 : Hid (Wk w3 w.heap.size (w.heap.size + 1 + 1 + 1) (w.heap.size + 1 + 1) (.slice pa pn pc) x y (.slice a n c) n (List.replicate 0 (-1) ++ List.replicate (n - 0) 0) (.slice none 0 0)) := hid (by
      refine ⟨?_, ?_, ?_, ?_, ?_, ?_, ?_, N3.out⟩
      all_goals (rw [hw3]; simp [go_sem]))
    have hne : (w.heap.size + 1 + 1 + 1) ≠ (w.heap.size + 1 + 1) := by omega
    rw [← hw3]
    have E3 := hid hw3
    clear hw3 N3 hmk
    have k4 := K3.out.h
    go_wp2_with fail
    go_loopw [20] (fun s wr => ∃ q : Nat, q ≤ n ∧ s = .int .i64 q ∧ Wk wr w.heap.size (w.heap.size + 1 + 1 + 1) (w.heap.size + 1 + 1) (.slice pa pn pc) x y (.slice a n c) n (List.replicate q (-1) ++ List.replicate (n - q) 0) (.slice none 0 0) ∧ Below w.heap.size w wr) (fun s _ => n - (intOf s).toNat)
    case atStart => exact ⟨0, Nat.zero_le _, rfl, K3.out, B3.out⟩
    case round =>
      clear K3 B3 E3 k4
      obtain ⟨q, hq, rfl, wk, hb⟩ := hrel
      by_cases hlt : q < n
      · have c1 := wk.num.at q hlt
        have f1 := wk.num.free q
        have c4 := wk.h
        have R : Hid (Wk (wr.setCell ⟨w.heap.size + 1 + 1, q, none⟩ (.int .i64 (-1))) w.heap.size (w.heap.size + 1 + 1 + 1) (w.heap.size + 1 + 1) (.slice pa pn pc) x y (.slice a n c) n (List.replicate (q + 1) (-1) ++ List.replicate (n - (q + 1)) 0) (.slice none 0 0) ∧ Below w.heap.size w (wr.setCell ⟨w.heap.size + 1 + 1, q, none⟩ (.int .i64 (-1)))) := hid (by
          have fr : Frm (fun k => k = (w.heap.size + 1 + 1)) wr (wr.setCell ⟨w.heap.size + 1 + 1, q, none⟩ (.int .i64 (-1))) := Frm.set _ rfl
          exact ⟨⟨fr.cell wk.p hne, fr.cell wk.x hne, fr.cell wk.y hne, fr.cell wk.f hne, fr.cell wk.h hne, fr.cell wk.q hne, fr.free wk.q wk.free hne, by rw [← rep_step q n hlt]; exact wk.num.put q (-1)⟩, hb.trans (fr.below hb.size (fun k hk => by omega))⟩)
        clear wk
        go_wp2_with fail
        go_roundw
        case rel => exact ⟨q + 1, by omega, by go_num, R.out⟩
        case measure => simp [intOf]; omega
      · have hqn : q = n := by omega
        subst hqn
        rw [show q - q = 0 by omega, List.replicate_zero, List.append_nil] at wk
        have CF := hid (come_first wk hlen.2 hb.size hne 0 (by omega) 0 (by rw [List.getD_eq_getElem?_getD, List.getElem?_replicate, if_pos (by omega)]; rfl))
        have hgw := lt_of_cell wk.p
        have hgh := wk.num.lt.2
        have HB := hid hb
        clear wk hb
        go_wp2_with fail
        refine CF.out.mono ?_
        rintro e w4 ⟨rfl, g4, cap4, k4, q4, at4, f4⟩
        have R0 : Hid (Wk w4 w.heap.size (w.heap.size + 1 + 1 + 1) (w.heap.size + 1 + 1) (.slice pa pn pc) x y (.slice a q c) q ((List.replicate l.length (-1)).set 0 0) (.slice (some ⟨g4, 0, none⟩) 1 cap4) ∧ Queue w4 w.heap.size g4 0 cap4 [0] ∧ Below w.heap.size w w4) := hid ⟨by rw [← L.out]; exact k4, by simpa using q4, HB.out.trans (f4.below HB.out.size (fun k hk => by omega))⟩
        have hg4 : g4 ≠ (w.heap.size + 1 + 1 + 1) ∧ g4 ≠ (w.heap.size + 1 + 1) := by omega
        clear k4 q4 at4 f4 CF
        go_wp2_with fail
        go_loopg [] q (fun k wr => ∃ out ws gq o cap, Wk wr w.heap.size (w.heap.size + 1 + 1 + 1) (w.heap.size + 1 + 1) (.slice pa pn pc) x y (.slice a q c) q out (.slice (some ⟨gq, o, none⟩) ws.length cap) ∧ Queue wr w.heap.size gq o cap ws ∧ (gq ≠ (w.heap.size + 1 + 1 + 1) ∧ gq ≠ (w.heap.size + 1 + 1)) ∧ HInv l out ws ∧ negs out + ws.length ≤ k ∧ k ≤ q ∧ walkF ps l k out ws = (V1, V2, V3) ∧ Below w.heap.size w wr)
        case atStart => exact ⟨_, [0], _, _, _, R0.out.1, R0.out.2.1, hg4, HInv.start (by have := L.out; omega), by have h1 := negs_start l.length (by have := L.out; omega); have := L.out; show _ + 1 ≤ q; omega, Nat.le_refl _, by rw [← HV.out, walkV, ← L.out], R0.out.2.2⟩
        case round =>
          clear R0 hg4 hgw hgh
          obtain ⟨out, ws, gq, o, cap, wk, qu, ⟨hg1, hg2⟩, inv, hle, hlq, hwf, hb⟩ := hrel
          have HK := hid (And.intro hle hlq)
          have HW := hid hwf
          have hcq := qu.len
          have c5 := wk.q
          have f5 := wk.free
          have c4 := wk.h
          have hgw := lt_of_cell wk.p
          have hgh := wk.num.lt.2
          have hlw : ws.length ≤ 64 := by omega
          clear hle hlq hwf
          cases ws with
          | nil =>
            have e1 := HW.out
            rw [walkF_nil] at e1
            simp only [Prod.mk.injEq] at e1
            obtain ⟨rfl, rfl, rfl⟩ := e1
            have NS := hid wk.num
            have c5' : wr.cell? ⟨w.heap.size + 1 + 1 + 1, 5, none⟩ = some (.slice (some ⟨gq, o, none⟩) 0 cap) := c5
            clear wk qu inv HW c5
            go_wp2_with fail
            go_ret2
            refine ⟨_, rfl, ?_, hb⟩
            rw [NS.out.len]
            exact NS.out.row
          | cons xx ws0 =>
            obtain ⟨p, rfl, hpl', hreach, hcur0⟩ := inv.work xx (by simp)
            have hpn : p < q := by have := L.out; omega
            obtain ⟨k', rfl⟩ : ∃ k', gk = k' + 1 := ⟨gk - 1, by have := HK.out; simp at this; omega⟩
            have cX := qu.head
            have hgl := qu.lt
            have hgo := qu.old
            have hl1 : ((p : Int) :: ws0).length = ws0.length + 1 := by simp
            rw [hl1] at hcq hlw c5
            have GO : Hid (∀ o', Queue wr w.heap.size gq o' (cap - 1) ws0 → Calls Tryz.prog 109 #[.pointer (some ⟨w.heap.size + 1 + 1 + 1, 0, none⟩), .int .i64 p] (wr.setCell ⟨w.heap.size + 1 + 1 + 1, 5, none⟩ (.slice (some ⟨gq, o', none⟩) ws0.length (cap - 1))) fun e w' => Frm (fun k => k = (w.heap.size + 1 + 1 + 1) ∨ k = (w.heap.size + 1 + 1) ∨ k = gq) (wr.setCell ⟨w.heap.size + 1 + 1 + 1, 5, none⟩ (.slice (some ⟨gq, o', none⟩) ws0.length (cap - 1))) w' ∧
      ((e = .returned (.bool false) ∧ stepH ps l out ws0 p = none) ∨ (e = .returned (.bool true) ∧ ∃ out' ws' gq' o' cap', stepH ps l out ws0 p = some (out', ws') ∧ HInv l out' ws' ∧ negs out' + ws'.length = negs out + ws0.length ∧ Wk w' w.heap.size (w.heap.size + 1 + 1 + 1) (w.heap.size + 1 + 1) (.slice pa pn pc) x y (.slice a q c) q out' (.slice (some ⟨gq', o', none⟩) ws'.length cap') ∧ Queue w' w.heap.size gq' o' cap' ws' ∧ (gq' = gq ∨ wr.heap.size ≤ gq')))) := hid (fun o' qt => by
              have fr : Frm (fun k => k = (w.heap.size + 1 + 1 + 1)) wr (wr.setCell ⟨w.heap.size + 1 + 1 + 1, 5, none⟩ (.slice (some ⟨gq, o', none⟩) ws0.length (cap - 1))) := Frm.set _ rfl
              have hB : Below w.heap.size w (wr.setCell ⟨w.heap.size + 1 + 1 + 1, 5, none⟩ (.slice (some ⟨gq, o', none⟩) ws0.length (cap - 1))) := hb.trans (fr.below hb.size (fun k hk => by omega))
              have := goOn_any (wk.stored hne (.slice (some ⟨gq, o', none⟩) ws0.length (cap - 1))) (qt.frm fr hg1) hne hg1 hg2 (HP.out.kept hB) (HI.out.kept hB) HPK.out HC.out p hpn (HR.out p hreach) inv.tail hcur0 hreach (by have := HK.out; simp only [List.length_cons] at this; omega)
              simpa using this)
            have QT : Hid (∃ o', (cap = 1 → o' = o) ∧ (¬ cap = 1 → o' = o + 1) ∧ Queue wr w.heap.size gq o' (cap - 1) ws0) := hid (by
              have qt := qu.tail
              by_cases h1 : cap = 1
              · have e0 : ws0 = [] := List.length_eq_zero_iff.1 (by omega)
                refine ⟨o, fun _ => rfl, fun h => absurd h1 h, ⟨qt.old, qt.lt, qt.len, ?_, ?_⟩⟩
                · rw [e0]; intro j v hv; simp [ints] at hv
                · intro j hj; omega
              · exact ⟨o + 1, fun h => absurd h h1, fun _ => rfl, qt⟩)
            clear wk qu inv hl1 hreach hcur0
            by_cases h1 : cap = 1
            · obtain ⟨o', e1, -, QT0⟩ := QT.out
              have e1 := e1 h1
              subst e1
              have e0 : ws0 = [] := List.length_eq_zero_iff.1 (by omega)
              have GG := hid (GO.out _ QT0)
              clear QT0 QT GO
              subst e0
              subst h1
              go_wp2_with fail
              refine GG.out.mono ?_
              rintro e w6 ⟨f6, ⟨rfl, hst⟩ | ⟨rfl, out', ws', gq', o6, cap', hst, inv', hng, wk', qu', at6⟩⟩
              · have B6 : Hid (Below w.heap.size w w6) := hid ((hb.trans ((Frm.set (S := fun k => k = (w.heap.size + 1 + 1 + 1)) (p := ⟨w.heap.size + 1 + 1 + 1, 5, none⟩) _ rfl).below hb.size (fun k hk => by omega))).trans (f6.below (by simpa using hb.size) (fun k hk => by omega)))
                have e9 := (walkF_bad (k := k') hst).symm.trans HW.out
                simp only [Prod.mk.injEq] at e9
                obtain ⟨rfl, rfl, rfl⟩ := e9
                clear f6 hst GG
                go_wp2_with fail
                go_ret2
                exact ⟨_, rfl, World.ownsRow_nil _ _ _ _, B6.out⟩
              · have B6 : Hid (Below w.heap.size w w6) := hid ((hb.trans ((Frm.set (S := fun k => k = (w.heap.size + 1 + 1 + 1)) (p := ⟨w.heap.size + 1 + 1 + 1, 5, none⟩) _ rfl).below hb.size (fun k hk => by omega))).trans (f6.below (by simpa using hb.size) (fun k hk => by omega)))
                have HWn : Hid (walkF ps l k' out' ws' = (V1, V2, V3)) := hid ((walkF_go (k := k') hst).symm.trans HW.out)
                have R := hid (And.intro wk' (And.intro qu' (And.intro inv' (And.intro hng at6))))
                clear f6 hst GG wk' qu' inv' hng at6
                go_wp2_with fail
                go_roundg k'
                case measure => omega
                case rel =>
                  obtain ⟨r1, r2, r3, r4, r5⟩ := R.out
                  exact ⟨out', ws', gq', o6, cap', r1, r2, by rcases r5 with e | e; (rw [e]; exact ⟨hg1, hg2⟩); (have := r1.num.lt; omega), r3, by have h1 := HK.out.1; simp only [List.length_cons] at h1; omega, by have := HK.out; omega, HWn.out, B6.out⟩
            · obtain ⟨o', -, e1, QT0⟩ := QT.out
              have e1 := e1 h1
              subst e1
              have GG := hid (GO.out _ QT0)
              clear QT0 QT GO
              go_wp2_with fail
              refine GG.out.mono ?_
              rintro e w6 ⟨f6, ⟨rfl, hst⟩ | ⟨rfl, out', ws', gq', o6, cap', hst, inv', hng, wk', qu', at6⟩⟩
              · have B6 : Hid (Below w.heap.size w w6) := hid ((hb.trans ((Frm.set (S := fun k => k = (w.heap.size + 1 + 1 + 1)) (p := ⟨w.heap.size + 1 + 1 + 1, 5, none⟩) _ rfl).below hb.size (fun k hk => by omega))).trans (f6.below (by simpa using hb.size) (fun k hk => by omega)))
                have e9 := (walkF_bad (k := k') hst).symm.trans HW.out
                simp only [Prod.mk.injEq] at e9
                obtain ⟨rfl, rfl, rfl⟩ := e9
                clear f6 hst GG
                go_wp2_with fail
                go_ret2
                exact ⟨_, rfl, World.ownsRow_nil _ _ _ _, B6.out⟩
              · have B6 : Hid (Below w.heap.size w w6) := hid ((hb.trans ((Frm.set (S := fun k => k = (w.heap.size + 1 + 1 + 1)) (p := ⟨w.heap.size + 1 + 1 + 1, 5, none⟩) _ rfl).below hb.size (fun k hk => by omega))).trans (f6.below (by simpa using hb.size) (fun k hk => by omega)))
                have HWn : Hid (walkF ps l k' out' ws' = (V1, V2, V3)) := hid ((walkF_go (k := k') hst).symm.trans HW.out)
                have R := hid (And.intro wk' (And.intro qu' (And.intro inv' (And.intro hng at6))))
                clear f6 hst GG wk' qu' inv' hng at6
                go_wp2_with fail
                go_roundg k'
                case measure => omega
                case rel =>
                  obtain ⟨r1, r2, r3, r4, r5⟩ := R.out
                  exact ⟨out', ws', gq', o6, cap', r1, r2, by rcases r5 with e | e; (rw [e]; exact ⟨hg1, hg2⟩); (have := r1.num.lt; omega), r3, by have h1 := HK.out.1; simp only [List.length_cons] at h1; omega, by have := HK.out; omega, HWn.out, B6.out⟩
  · obtain ⟨w3, hw3⟩ : ∃ w3 : World, w3 = ((((w.alloc (.cells #[.slice pa pn pc] 24)).alloc (.cells #[.int .i64 x, .int .i64 y, .slice a n c] 51)).alloc (.cells #[.slice pa pn pc, .int .i64 x, .int .i64 y, .slice a n c, .slice (some ⟨w.heap.size + 1 + 1 + 1, 0, none⟩) n n, .slice none 0 0] 173)).alloc (.cells (madeCells #[.int .i64 0] n) 3)).drew := ⟨_, rfl⟩
    have B3 : Hid (Below w.heap.size w w3) := hid (by rw [hw3]; exact Below.drew (Below.alloc (Below.alloc (Below.alloc (Below.alloc (Below.refl _ _) (Nat.le_refl _) _) (by simp) _) (by simp; omega) _) (by simp; omega) _))
    have N3 : Hid (NumSt w3 ((w.heap.size + 1 + 1 + 1)) n w.heap.size (List.replicate 0 (-1) ++ List.replicate (n - 0) 0)) := hid (by
      rw [hw3, List.replicate_zero, List.nil_append, Nat.sub_zero]
      have := NumSt.make (((w.alloc (.cells #[.slice pa pn pc] 24)).alloc (.cells #[.int .i64 x, .int .i64 y, .slice a n c] 51)).alloc (.cells #[.slice pa pn pc, .int .i64 x, .int .i64 y, .slice a n c, .slice (some ⟨w.heap.size + 1 + 1 + 1, 0, none⟩) n n, .slice none 0 0] 173)) n w.heap.size (by simp; omega) (by unfold maxLen; omega)
      rw [show (((w.alloc (.cells #[.slice pa pn pc] 24)).alloc (.cells #[.int .i64 x, .int .i64 y, .slice a n c] 51)).alloc (.cells #[.slice pa pn pc, .int .i64 x, .int .i64 y, .slice a n c, .slice (some ⟨w.heap.size + 1 + 1 + 1, 0, none⟩) n n, .slice none 0 0] 173)).heap.size = w.heap.size + 1 + 1 + 1 by simp] at this
      exact this.kept (Below.drew (Below.refl _ _)))
    have K3 : Hid (Wk w3 w.heap.size (w.heap.size + 1 + 1) (w.heap.size + 1 + 1 + 1) (.slice pa pn pc) x y (.slice a n c) n (List.replicate 0 (-1) ++ List.replicate (n - 0) 0) (.slice none 0 0)) := hid (by
      refine ⟨?_, ?_, ?_, ?_, ?_, ?_, ?_, N3.out⟩
      all_goals (rw [hw3]; simp [go_sem]))
    have hne : (w.heap.size + 1 + 1) ≠ (w.heap.size + 1 + 1 + 1) := by omega
    rw [← hw3]
    have E3 := hid hw3
    clear hw3 N3 hmk
    have k4 := K3.out.h
    go_wp2_with fail
    go_loopw [20] (fun s wr => ∃ q : Nat, q ≤ n ∧ s = .int .i64 q ∧ Wk wr w.heap.size (w.heap.size + 1 + 1) (w.heap.size + 1 + 1 + 1) (.slice pa pn pc) x y (.slice a n c) n (List.replicate q (-1) ++ List.replicate (n - q) 0) (.slice none 0 0) ∧ Below w.heap.size w wr) (fun s _ => n - (intOf s).toNat)
    case atStart => exact ⟨0, Nat.zero_le _, rfl, K3.out, B3.out⟩
    case round =>
      clear K3 B3 E3 k4
      obtain ⟨q, hq, rfl, wk, hb⟩ := hrel
      by_cases hlt : q < n
      · have c1 := wk.num.at q hlt
        have f1 := wk.num.free q
        have c4 := wk.h
        have R : Hid (Wk (wr.setCell ⟨w.heap.size + 1 + 1 + 1, q, none⟩ (.int .i64 (-1))) w.heap.size (w.heap.size + 1 + 1) (w.heap.size + 1 + 1 + 1) (.slice pa pn pc) x y (.slice a n c) n (List.replicate (q + 1) (-1) ++ List.replicate (n - (q + 1)) 0) (.slice none 0 0) ∧ Below w.heap.size w (wr.setCell ⟨w.heap.size + 1 + 1 + 1, q, none⟩ (.int .i64 (-1)))) := hid (by
          have fr : Frm (fun k => k = (w.heap.size + 1 + 1 + 1)) wr (wr.setCell ⟨w.heap.size + 1 + 1 + 1, q, none⟩ (.int .i64 (-1))) := Frm.set _ rfl
          exact ⟨⟨fr.cell wk.p hne, fr.cell wk.x hne, fr.cell wk.y hne, fr.cell wk.f hne, fr.cell wk.h hne, fr.cell wk.q hne, fr.free wk.q wk.free hne, by rw [← rep_step q n hlt]; exact wk.num.put q (-1)⟩, hb.trans (fr.below hb.size (fun k hk => by omega))⟩)
        clear wk
        go_wp2_with fail
        go_roundw
        case rel => exact ⟨q + 1, by omega, by go_num, R.out⟩
        case measure => simp [intOf]; omega
      · have hqn : q = n := by omega
        subst hqn
        rw [show q - q = 0 by omega, List.replicate_zero, List.append_nil] at wk
        have CF := hid (come_first wk hlen.2 hb.size hne 0 (by omega) 0 (by rw [List.getD_eq_getElem?_getD, List.getElem?_replicate, if_pos (by omega)]; rfl))
        have hgw := lt_of_cell wk.p
        have hgh := wk.num.lt.2
        have HB := hid hb
        clear wk hb
        go_wp2_with fail
        refine CF.out.mono ?_
        rintro e w4 ⟨rfl, g4, cap4, k4, q4, at4, f4⟩
        have R0 : Hid (Wk w4 w.heap.size (w.heap.size + 1 + 1) (w.heap.size + 1 + 1 + 1) (.slice pa pn pc) x y (.slice a q c) q ((List.replicate l.length (-1)).set 0 0) (.slice (some ⟨g4, 0, none⟩) 1 cap4) ∧ Queue w4 w.heap.size g4 0 cap4 [0] ∧ Below w.heap.size w w4) := hid ⟨by rw [← L.out]; exact k4, by simpa using q4, HB.out.trans (f4.below HB.out.size (fun k hk => by omega))⟩
        have hg4 : g4 ≠ (w.heap.size + 1 + 1) ∧ g4 ≠ (w.heap.size + 1 + 1 + 1) := by omega
        clear k4 q4 at4 f4 CF
        go_wp2_with fail
        go_loopg [] q (fun k wr => ∃ out ws gq o cap, Wk wr w.heap.size (w.heap.size + 1 + 1) (w.heap.size + 1 + 1 + 1) (.slice pa pn pc) x y (.slice a q c) q out (.slice (some ⟨gq, o, none⟩) ws.length cap) ∧ Queue wr w.heap.size gq o cap ws ∧ (gq ≠ (w.heap.size + 1 + 1) ∧ gq ≠ (w.heap.size + 1 + 1 + 1)) ∧ HInv l out ws ∧ negs out + ws.length ≤ k ∧ k ≤ q ∧ walkF ps l k out ws = (V1, V2, V3) ∧ Below w.heap.size w wr)
        case atStart => exact ⟨_, [0], _, _, _, R0.out.1, R0.out.2.1, hg4, HInv.start (by have := L.out; omega), by have h1 := negs_start l.length (by have := L.out; omega); have := L.out; show _ + 1 ≤ q; omega, Nat.le_refl _, by rw [← HV.out, walkV, ← L.out], R0.out.2.2⟩
        case round =>
          clear R0 hg4 hgw hgh
          obtain ⟨out, ws, gq, o, cap, wk, qu, ⟨hg1, hg2⟩, inv, hle, hlq, hwf, hb⟩ := hrel
          have HK := hid (And.intro hle hlq)
          have HW := hid hwf
          have hcq := qu.len
          have c5 := wk.q
          have f5 := wk.free
          have c4 := wk.h
          have hgw := lt_of_cell wk.p
          have hgh := wk.num.lt.2
          have hlw : ws.length ≤ 64 := by omega
          clear hle hlq hwf
          cases ws with
          | nil =>
            have e1 := HW.out
            rw [walkF_nil] at e1
            simp only [Prod.mk.injEq] at e1
            obtain ⟨rfl, rfl, rfl⟩ := e1
            have NS := hid wk.num
            have c5' : wr.cell? ⟨w.heap.size + 1 + 1, 5, none⟩ = some (.slice (some ⟨gq, o, none⟩) 0 cap) := c5
            clear wk qu inv HW c5
            go_wp2_with fail
            go_ret2
            refine ⟨_, rfl, ?_, hb⟩
            rw [NS.out.len]
            exact NS.out.row
          | cons xx ws0 =>
            obtain ⟨p, rfl, hpl', hreach, hcur0⟩ := inv.work xx (by simp)
            have hpn : p < q := by have := L.out; omega
            obtain ⟨k', rfl⟩ : ∃ k', gk = k' + 1 := ⟨gk - 1, by have := HK.out; simp at this; omega⟩
            have cX := qu.head
            have hgl := qu.lt
            have hgo := qu.old
            have hl1 : ((p : Int) :: ws0).length = ws0.length + 1 := by simp
            rw [hl1] at hcq hlw c5
            have GO : Hid (∀ o', Queue wr w.heap.size gq o' (cap - 1) ws0 → Calls Tryz.prog 109 #[.pointer (some ⟨w.heap.size + 1 + 1, 0, none⟩), .int .i64 p] (wr.setCell ⟨w.heap.size + 1 + 1, 5, none⟩ (.slice (some ⟨gq, o', none⟩) ws0.length (cap - 1))) fun e w' => Frm (fun k => k = (w.heap.size + 1 + 1) ∨ k = (w.heap.size + 1 + 1 + 1) ∨ k = gq) (wr.setCell ⟨w.heap.size + 1 + 1, 5, none⟩ (.slice (some ⟨gq, o', none⟩) ws0.length (cap - 1))) w' ∧
      ((e = .returned (.bool false) ∧ stepH ps l out ws0 p = none) ∨ (e = .returned (.bool true) ∧ ∃ out' ws' gq' o' cap', stepH ps l out ws0 p = some (out', ws') ∧ HInv l out' ws' ∧ negs out' + ws'.length = negs out + ws0.length ∧ Wk w' w.heap.size (w.heap.size + 1 + 1) (w.heap.size + 1 + 1 + 1) (.slice pa pn pc) x y (.slice a q c) q out' (.slice (some ⟨gq', o', none⟩) ws'.length cap') ∧ Queue w' w.heap.size gq' o' cap' ws' ∧ (gq' = gq ∨ wr.heap.size ≤ gq')))) := hid (fun o' qt => by
              have fr : Frm (fun k => k = (w.heap.size + 1 + 1)) wr (wr.setCell ⟨w.heap.size + 1 + 1, 5, none⟩ (.slice (some ⟨gq, o', none⟩) ws0.length (cap - 1))) := Frm.set _ rfl
              have hB : Below w.heap.size w (wr.setCell ⟨w.heap.size + 1 + 1, 5, none⟩ (.slice (some ⟨gq, o', none⟩) ws0.length (cap - 1))) := hb.trans (fr.below hb.size (fun k hk => by omega))
              have := goOn_any (wk.stored hne (.slice (some ⟨gq, o', none⟩) ws0.length (cap - 1))) (qt.frm fr hg1) hne hg1 hg2 (HP.out.kept hB) (HI.out.kept hB) HPK.out HC.out p hpn (HR.out p hreach) inv.tail hcur0 hreach (by have := HK.out; simp only [List.length_cons] at this; omega)
              simpa using this)
            have QT : Hid (∃ o', (cap = 1 → o' = o) ∧ (¬ cap = 1 → o' = o + 1) ∧ Queue wr w.heap.size gq o' (cap - 1) ws0) := hid (by
              have qt := qu.tail
              by_cases h1 : cap = 1
              · have e0 : ws0 = [] := List.length_eq_zero_iff.1 (by omega)
                refine ⟨o, fun _ => rfl, fun h => absurd h1 h, ⟨qt.old, qt.lt, qt.len, ?_, ?_⟩⟩
                · rw [e0]; intro j v hv; simp [ints] at hv
                · intro j hj; omega
              · exact ⟨o + 1, fun h => absurd h h1, fun _ => rfl, qt⟩)
            clear wk qu inv hl1 hreach hcur0
            by_cases h1 : cap = 1
            · obtain ⟨o', e1, -, QT0⟩ := QT.out
              have e1 := e1 h1
              subst e1
              have e0 : ws0 = [] := List.length_eq_zero_iff.1 (by omega)
              have GG := hid (GO.out _ QT0)
              clear QT0 QT GO
              subst e0
              subst h1
              go_wp2_with fail
              refine GG.out.mono ?_
              rintro e w6 ⟨f6, ⟨rfl, hst⟩ | ⟨rfl, out', ws', gq', o6, cap', hst, inv', hng, wk', qu', at6⟩⟩
              · have B6 : Hid (Below w.heap.size w w6) := hid ((hb.trans ((Frm.set (S := fun k => k = (w.heap.size + 1 + 1)) (p := ⟨w.heap.size + 1 + 1, 5, none⟩) _ rfl).below hb.size (fun k hk => by omega))).trans (f6.below (by simpa using hb.size) (fun k hk => by omega)))
                have e9 := (walkF_bad (k := k') hst).symm.trans HW.out
                simp only [Prod.mk.injEq] at e9
                obtain ⟨rfl, rfl, rfl⟩ := e9
                clear f6 hst GG
                go_wp2_with fail
                go_ret2
                exact ⟨_, rfl, World.ownsRow_nil _ _ _ _, B6.out⟩
              · have B6 : Hid (Below w.heap.size w w6) := hid ((hb.trans ((Frm.set (S := fun k => k = (w.heap.size + 1 + 1)) (p := ⟨w.heap.size + 1 + 1, 5, none⟩) _ rfl).below hb.size (fun k hk => by omega))).trans (f6.below (by simpa using hb.size) (fun k hk => by omega)))
                have HWn : Hid (walkF ps l k' out' ws' = (V1, V2, V3)) := hid ((walkF_go (k := k') hst).symm.trans HW.out)
                have R := hid (And.intro wk' (And.intro qu' (And.intro inv' (And.intro hng at6))))
                clear f6 hst GG wk' qu' inv' hng at6
                go_wp2_with fail
                go_roundg k'
                case measure => omega
                case rel =>
                  obtain ⟨r1, r2, r3, r4, r5⟩ := R.out
                  exact ⟨out', ws', gq', o6, cap', r1, r2, by rcases r5 with e | e; (rw [e]; exact ⟨hg1, hg2⟩); (have := r1.num.lt; omega), r3, by have h1 := HK.out.1; simp only [List.length_cons] at h1; omega, by have := HK.out; omega, HWn.out, B6.out⟩
            · obtain ⟨o', -, e1, QT0⟩ := QT.out
              have e1 := e1 h1
              subst e1
              have GG := hid (GO.out _ QT0)
              clear QT0 QT GO
              go_wp2_with fail
              refine GG.out.mono ?_
              rintro e w6 ⟨f6, ⟨rfl, hst⟩ | ⟨rfl, out', ws', gq', o6, cap', hst, inv', hng, wk', qu', at6⟩⟩
              · have B6 : Hid (Below w.heap.size w w6) := hid ((hb.trans ((Frm.set (S := fun k => k = (w.heap.size + 1 + 1)) (p := ⟨w.heap.size + 1 + 1, 5, none⟩) _ rfl).below hb.size (fun k hk => by omega))).trans (f6.below (by simpa using hb.size) (fun k hk => by omega)))
                have e9 := (walkF_bad (k := k') hst).symm.trans HW.out
                simp only [Prod.mk.injEq] at e9
                obtain ⟨rfl, rfl, rfl⟩ := e9
                clear f6 hst GG
                go_wp2_with fail
                go_ret2
                exact ⟨_, rfl, World.ownsRow_nil _ _ _ _, B6.out⟩
              · have B6 : Hid (Below w.heap.size w w6) := hid ((hb.trans ((Frm.set (S := fun k => k = (w.heap.size + 1 + 1)) (p := ⟨w.heap.size + 1 + 1, 5, none⟩) _ rfl).below hb.size (fun k hk => by omega))).trans (f6.below (by simpa using hb.size) (fun k hk => by omega)))
                have HWn : Hid (walkF ps l k' out' ws' = (V1, V2, V3)) := hid ((walkF_go (k := k') hst).symm.trans HW.out)
                have R := hid (And.intro wk' (And.intro qu' (And.intro inv' (And.intro hng at6))))
                clear f6 hst GG wk' qu' inv' hng at6
                go_wp2_with fail
                go_roundg k'
                case measure => omega
                case rel =>
                  obtain ⟨r1, r2, r3, r4, r5⟩ := R.out
                  exact ⟨out', ws', gq', o6, cap', r1, r2, by rcases r5 with e | e; (rw [e]; exact ⟨hg1, hg2⟩); (have := r1.num.lt; omega), r3, by have h1 := HK.out.1; simp only [List.length_cons] at h1; omega, by have := HK.out; omega, HWn.out, B6.out⟩

end Go.Proofs.YtaimpljkbpnigaaGreatDoor
