/- The document's own once: over; how an instruction's result makes the state behind it. The document's own once. The document's own once, of a state that runs. The document's own once, whole; Step. The document's own Step. The document's own Go and Eval. How many frames a step may leave; the two laws that ask the document's own answer lean on it. -/
import Derived.Test.YtcngmkbgcfhmdaaGreatDoorJ7r
import Derived.Test.YtcngmkbgcfhmdaaGreatDoorJ7
import Derived.Test.YtcngmkbgcfhmdaaGreatDoorJ6b
import Derived.Deep.DeepCutAuto
import Derived.Deep.RegionHeld3
import Derived.Deep.RegionLaw
import Derived.Deep.DrawnRows
import Derived.Deep.RegionWith
import Derived.Test.YtcngmkbgcfhmdaaGreatDoorJ8
import Derived.Deep.LoopGhost
namespace Go.Proofs.YtcngmkbgcfhmdaaGreatDoor
open Go.RowKit
set_option linter.unusedVariables false

set_option maxRecDepth 100000 in
set_option maxHeartbeats 4000000 in
theorem refOverN_any (fa : Option Addr) (fn fc : Nat) (fu : Int) (oa : Option Addr) (on oc : Nat) (dn vl d z : Int) (w : World) :
    Calls Tryz.prog 55 #[.agg #[.slice fa fn fc, .int .i64 fu, .slice oa on oc, .int .i64 dn, .int .i64 vl], .int .i64 d, .int .i64 z] w fun e w' => e = .returned (.agg #[.slice none 0 0, .int .i64 fu, .slice oa on oc, .int .i64 d, .int .i64 z]) ∧ Below w.heap.size w w' := by
  have B : Hid (Below w.heap.size w ((w.alloc (.cells #[.slice none 0 0, .int .i64 fu, .slice oa on oc, .int .i64 d, .int .i64 z] 28)).alloc (.cells #[.slice none 0 0, .int .i64 fu, .slice oa on oc, .int .i64 d, .int .i64 z] 28))) := hid (by go_grown)
  go_enter Tryz.func55, Tryz.ntmps55
  go_wp2_with fail
  refine bodyPost_ret (v := .agg #[.slice none 0 0, .int .i64 fu, .slice oa on oc, .int .i64 d, .int .i64 z]) (by simp [results, Tryz.results55, go_sem]) rfl ⟨rfl, ?_⟩
  exact B.out

end Go.Proofs.YtcngmkbgcfhmdaaGreatDoor

namespace Go.Proofs.YtcngmkbgcfhmdaaGreatDoor
open Go.RowKit
set_option linter.unusedVariables false

theorem Kq.drewK {base : Nat} {W w : World} (h : Kq base W w) : Kq base W w.drew := h.kept (Below.drew (Below.refl _ _))
theorem Kq.allocK {base : Nat} {W w : World} {o : Obj} (h : Kq base W w) : Kq base W (w.alloc o) := h.kept (Below.alloc (Below.refl _ _) (Nat.le_refl _) o)
theorem Kq.setK {base : Nat} {W w : World} {b o : Nat} {v : Value} (hb : W.heap.size ≤ b) (h : Kq base W w) : Kq base W (w.setCell ⟨b, o, none⟩ v) := h.frm (Frm.set (S := fun i => i = b) (p := ⟨b, o, none⟩) v rfl) (fun i e => .inl (by rw [e]; exact hb))
theorem qNew {base : Nat} {u y : World} {c : Array Value} {T : TypeId} (h : Kq base (u.alloc (.cells c T)) y) (h1 : T ≠ 3) (h2 : T ≠ 51) : y.heap[u.heap.size]? = some (.cells c T) := h.typ _ _ _ _ (heap_alloc_new u _) h1 h2
theorem qNewD {base : Nat} {u y : World} {c : Array Value} {T : TypeId} (h : Kq base (u.alloc (.cells c T)).drew y) (h1 : T ≠ 3) (h2 : T ≠ 51) : y.heap[u.heap.size]? = some (.cells c T) := h.typ _ _ _ _ (heap_alloc_new u _) h1 h2
/-- What once tells, and what lies behind it. -/
def OPost (base mb : Nat) (W : World) (S : St) (e : Ending) (w' : World) : Prop :=
  ∃ fa fn fc oa on oc t, e = .returned (.agg #[.slice fa fn fc, .int .i64 S.2.1, .slice oa on oc, .int .i64 S.2.2.2.1, .int .i64 S.2.2.2.2]) ∧ MSt w' base mb (.slice fa fn fc) t (.slice oa on oc) S.1 S.2.2.1 ∧ Kq base W w'
/-- A result in its box, behind the instruction. -/
structure DidB (U : World) (base mb g cap : Nat) (t : List U4) (x : Int) (ov : Value) (fs : List Fr) (out : List Int) (c : Bool) (fn : Int) (args : List Int) (r : Bool) (v : Int) (p : Bool) (d y : Int) (ll sl : List Int) (s : Value) (wx : World) : Prop where
  ex : ∃ db aa an ac lv' sv', s = .pointer (some ⟨db, 0, none⟩) ∧ U.heap.size ≤ db ∧ wx.heap[db]? = some (.cells #[.bool c, .int .i64 fn, .slice aa an ac, .bool r, .int .i64 v, .bool p, .int .i64 d] 99) ∧ Row1 wx base (.slice aa an ac) args ∧
    MSt wx base mb (.slice (some ⟨g, 0, none⟩) (fs.length + 1) cap) (t ++ [(x, y, lv', sv')]) ov (fs ++ [(x, y, ll, sl)]) out
  K : Kq base U wx
theorem did_new {U y : World} {base mb g cap : Nat} {t : List U4} {x : Int} {lv sv ov : Value} {fs : List Fr} {out : List Int} {c : Bool} {fn : Int} {args : List Int} {r : Bool} {v : Int} {p : Bool} {d yy : Int} {ll sl : List Int} {aa : Option Addr} {an ac : Nat}
    (ra : Row1 y base (.slice aa an ac) args) (m : MSt y base mb (.slice (some ⟨g, 0, none⟩) (fs.length + 1) cap) (t ++ [(x, yy, lv, sv)]) ov (fs ++ [(x, yy, ll, sl)]) out) (K : Kq base U y) :
    DidB U base mb g cap t x ov fs out c fn args r v p d yy ll sl (.pointer (some ⟨y.heap.size, 0, none⟩)) (y.alloc (.cells #[.bool c, .int .i64 fn, .slice aa an ac, .bool r, .int .i64 v, .bool p, .int .i64 d] 99)) := by
  have hA : Below y.heap.size y (y.alloc (.cells #[.bool c, .int .i64 fn, .slice aa an ac, .bool r, .int .i64 v, .bool p, .int .i64 d] 99)) := Below.alloc (Below.refl _ _) (Nat.le_refl _) _
  exact ⟨⟨_, _, _, _, _, _, rfl, K.size, heap_alloc_new y _, ra.frm (Frm.of_below (S := fun _ => False) hA) (fun _ _ k => k), m.kept hA⟩, K.kept hA⟩
theorem did_old {U y : World} {base mb g cap k : Nat} {t : List U4} {x : Int} {lv sv ov : Value} {fs : List Fr} {out : List Int} {c : Bool} {fn : Int} {args : List Int} {r : Bool} {v : Int} {p : Bool} {d yy : Int} {ll sl : List Int} {aa : Option Addr} {an ac : Nat}
    (ra : Row1 y base (.slice aa an ac) args) (m : MSt y base mb (.slice (some ⟨g, 0, none⟩) (fs.length + 1) cap) (t ++ [(x, yy, lv, sv)]) ov (fs ++ [(x, yy, ll, sl)]) out) (K : Kq base U y) (hk : U.heap.size ≤ k) (z : y.heap[k]? = some (.cells zDid 99)) :
    DidB U base mb g cap t x ov fs out c fn args r v p d yy ll sl (.pointer (some ⟨k, 0, none⟩)) (((((((y.setCell ⟨k, 0, none⟩ (.bool c)).setCell ⟨k, 1, none⟩ (.int .i64 fn)).setCell ⟨k, 2, none⟩ (.slice aa an ac)).setCell ⟨k, 3, none⟩ (.bool r)).setCell ⟨k, 4, none⟩ (.int .i64 v)).setCell ⟨k, 5, none⟩ (.bool p)).setCell ⟨k, 6, none⟩ (.int .i64 d)) := by
  have F : Frm (fun b => b = k) y (((((((y.setCell ⟨k, 0, none⟩ (.bool c)).setCell ⟨k, 1, none⟩ (.int .i64 fn)).setCell ⟨k, 2, none⟩ (.slice aa an ac)).setCell ⟨k, 3, none⟩ (.bool r)).setCell ⟨k, 4, none⟩ (.int .i64 v)).setCell ⟨k, 5, none⟩ (.bool p)).setCell ⟨k, 6, none⟩ (.int .i64 d)) := fSet rfl (fSet rfl (fSet rfl (fSet rfl (fSet rfl (fSet rfl (fSet rfl (Frm.refl _ _)))))))
  obtain ⟨m1, z1⟩ := m.setTy z (by decide) (by decide) 0 (.bool c)
  obtain ⟨m2, z2⟩ := m1.setTy z1 (by decide) (by decide) 1 (.int .i64 fn)
  obtain ⟨m3, z3⟩ := m2.setTy z2 (by decide) (by decide) 2 (.slice aa an ac)
  obtain ⟨m4, z4⟩ := m3.setTy z3 (by decide) (by decide) 3 (.bool r)
  obtain ⟨m5, z5⟩ := m4.setTy z4 (by decide) (by decide) 4 (.int .i64 v)
  obtain ⟨m6, z6⟩ := m5.setTy z5 (by decide) (by decide) 5 (.bool p)
  obtain ⟨m7, z7⟩ := m6.setTy z6 (by decide) (by decide) 6 (.int .i64 d)
  exact ⟨⟨_, _, _, _, _, _, rfl, hk, z7, ra.frm F (fun b hb e => own_ne ra.2 z (by decide) (by rw [hb, e])), m7⟩, K.frm F (fun b e => .inl (by rw [e]; exact hk))⟩
theorem fin5 {W w : World} {base mb rb T : Nat} {v ov : Value} {t : List U4} {fs : List Fr} {out : List Int} {c : Array Value} (m : MSt w base mb v t ov fs out) (K : Kq base W w) (hR : w.heap[rb]? = some (.cells c T)) (h1 : T ≠ 3) (h2 : T ≠ 51) (hb : W.heap.size ≤ rb) (v0 v1 v2 v3 v4 : Value) :
    MSt (((((w.setCell ⟨rb, 0, none⟩ v0).setCell ⟨rb, 1, none⟩ v1).setCell ⟨rb, 2, none⟩ v2).setCell ⟨rb, 3, none⟩ v3).setCell ⟨rb, 4, none⟩ v4) base mb v t ov fs out ∧ Kq base W (((((w.setCell ⟨rb, 0, none⟩ v0).setCell ⟨rb, 1, none⟩ v1).setCell ⟨rb, 2, none⟩ v2).setCell ⟨rb, 3, none⟩ v3).setCell ⟨rb, 4, none⟩ v4) := by
  obtain ⟨m1, z1⟩ := m.setTy hR h1 h2 0 v0
  obtain ⟨m2, z2⟩ := m1.setTy z1 h1 h2 1 v1
  obtain ⟨m3, z3⟩ := m2.setTy z2 h1 h2 2 v2
  obtain ⟨m4, z4⟩ := m3.setTy z3 h1 h2 3 v3
  obtain ⟨m5, z5⟩ := m4.setTy z4 h1 h2 4 v4
  exact ⟨m5, Kq.setK hb (Kq.setK hb (Kq.setK hb (Kq.setK hb (Kq.setK hb K))))⟩

set_option maxRecDepth 100000 in
set_option maxHeartbeats 4000000 in
theorem refOnce_stay {base mb : Nat} {t : List U4} (fa : Option Addr) (fn fc : Nat) (fs : List Fr) (fu : Int) (oa : Option Addr) (on oc : Nat) (out : List Int) (dn vl : Int) (hd : ¬ dn = 0) (pa : Option Addr) (pn pc : Nat) (w : World) (m : MSt w base mb (.slice fa fn fc) t (.slice oa on oc) fs out) :
    Calls Tryz.prog 30 #[.agg #[.slice pa pn pc], .agg #[.slice fa fn fc, .int .i64 fu, .slice oa on oc, .int .i64 dn, .int .i64 vl]] w fun e w' => OPost base mb w (fs, fu, out, dn, vl) e w' := by
  have B : Hid (Below w.heap.size w (((w.alloc (.cells #[.slice pa pn pc] 24)).alloc (.cells #[.slice fa fn fc, .int .i64 fu, .slice oa on oc, .int .i64 dn, .int .i64 vl] 28)).alloc (.cells #[.slice fa fn fc, .int .i64 fu, .slice oa on oc, .int .i64 dn, .int .i64 vl] 28))) := hid (by go_grown)
  have M := hid m
  have hd' : (dn != 0) = true := by simpa using hd
  clear m hd
  go_enter Tryz.func30, Tryz.ntmps30
  go_wp2_with fail
  refine bodyPost_ret (v := .agg #[.slice fa fn fc, .int .i64 fu, .slice oa on oc, .int .i64 dn, .int .i64 vl]) (by simp [results, Tryz.results30, go_sem]) rfl ⟨_, _, _, _, _, _, _, rfl, M.out.kept B.out, (Kq.refl _ _).kept B.out⟩

set_option maxRecDepth 100000 in
set_option maxHeartbeats 4000000 in
theorem refOnce_fuel {base mb : Nat} {t : List U4} (fa : Option Addr) (fn fc : Nat) (fs : List Fr) (oa : Option Addr) (on oc : Nat) (out : List Int) (vl : Int) (pa : Option Addr) (pn pc : Nat) (w : World) (m : MSt w base mb (.slice fa fn fc) t (.slice oa on oc) fs out) :
    Calls Tryz.prog 30 #[.agg #[.slice pa pn pc], .agg #[.slice fa fn fc, .int .i64 0, .slice oa on oc, .int .i64 0, .int .i64 vl]] w fun e w' => OPost base mb w ([], 0, out, 4, 0) e w' := by
  have W3 : Hid (∃ U : World, U = ((w.alloc (.cells #[.slice pa pn pc] 24)).alloc (.cells #[.slice fa fn fc, .int .i64 0, .slice oa on oc, .int .i64 0, .int .i64 vl] 28)).alloc (.cells #[.slice none 0 0, .int .i64 0, .slice none 0 0, .int .i64 0, .int .i64 0] 28)) := hid ⟨_, rfl⟩
  obtain ⟨U, hU⟩ := W3.out
  have B : Hid (Below w.heap.size w U) := hid (by rw [hU]; go_grown)
  have R : Hid (U.heap[w.heap.size + 1 + 1]? = some (.cells #[.slice none 0 0, .int .i64 0, .slice none 0 0, .int .i64 0, .int .i64 0] 28)) := hid (by
    rw [hU]; have := heap_alloc_new ((w.alloc (.cells #[.slice pa pn pc] 24)).alloc (.cells #[.slice fa fn fc, .int .i64 0, .slice oa on oc, .int .i64 0, .int .i64 vl] 28)) (.cells #[.slice none 0 0, .int .i64 0, .slice none 0 0, .int .i64 0, .int .i64 0] 28); simpa using this)
  have E := hid hU
  have M := hid m
  clear m hU W3
  go_enter Tryz.func30, Tryz.ntmps30
  go_wp2_with fail
  refine calls_inW (U := U) (by rw [E.out]) ?_
  refine (refOverN_any _ _ _ 0 _ _ _ 0 vl 4 0 _).mono ?_
  rintro e w1 ⟨rfl, b1⟩
  have R1 := hid (heap_kept R.out b1)
  have q0 := (cell_of_heap (j := 0) R1.out rfl)
  have q1 := (cell_of_heap (j := 1) R1.out rfl)
  have q2 := (cell_of_heap (j := 2) R1.out rfl)
  have q3 := (cell_of_heap (j := 3) R1.out rfl)
  have q4 := (cell_of_heap (j := 4) R1.out rfl)
  obtain ⟨c0, f0⟩ := q0
  obtain ⟨c1, f1⟩ := q1
  obtain ⟨c2, f2⟩ := q2
  obtain ⟨c3, f3⟩ := q3
  obtain ⟨c4, f4⟩ := q4
  have B1 := hid (kt B.out b1)
  clear b1
  go_wp2_with fail
  have F := fin5 ((M.out.over).kept B1.out) ((Kq.refl base w).kept B1.out) R1.out (by decide) (by decide) (by omega) (.slice none 0 0) (.int .i64 0) (.slice oa on oc) (.int .i64 4) (.int .i64 0)
  refine bodyPost_ret (v := .agg #[.slice none 0 0, .int .i64 0, .slice oa on oc, .int .i64 4, .int .i64 0]) (by simp [results, Tryz.results30, go_sem, c0, c1, c2, c3, c4]) rfl ⟨_, _, _, _, _, _, _, rfl, F.1, F.2⟩

end Go.Proofs.YtcngmkbgcfhmdaaGreatDoor

namespace Go.Proofs.YtcngmkbgcfhmdaaGreatDoor
open Go.RowKit
set_option linter.unusedVariables false

theorem new3 (w : World) (a b c : Obj) : (((w.alloc a).alloc b).alloc c).heap[w.heap.size]? = some a ∧ (((w.alloc a).alloc b).alloc c).heap[w.heap.size + 1]? = some b ∧ (((w.alloc a).alloc b).alloc c).heap[w.heap.size + 2]? = some c := by
  have h := below_new2 (c := w) (o := a) (o' := b) (Below.alloc (Below.refl _ _) (Nat.le_refl _) c)
  have h2 := heap_alloc_new ((w.alloc a).alloc b) c
  exact ⟨h.1, h.2, by simpa using h2⟩

set_option maxRecDepth 100000 in
set_option maxHeartbeats 16000000 in
theorem refOnce_run {base mb g cap : Nat} {t : List U4} {lv sv : Value} {fs : List Fr} {ll sl out : List Int} {ps : List Fn} (pa : Option Addr) (pn pc : Nat) (oa : Option Addr) (on oc : Nat) (xn yn : Nat) (k a fu : Int) (hfu : 1 ≤ fu) (hfm : fu ≤ 1000000) (ok : Ok ps fs (xn : Int) (yn : Int) ll sl k a) (hl5 : ∀ f ∈ fs, f.2.2.2.length ≤ 50) (ho5 : out.length ≤ 100000) (w : World)
    (m : MSt w base mb (.slice (some ⟨g, 0, none⟩) (fs.length + 1) cap) (t ++ [((xn : Int), (yn : Int), lv, sv)]) (.slice oa on oc) (fs ++ [((xn : Int), (yn : Int), ll, sl)]) out) {w0 : World} (h0 : Below w0.heap.size w0 w) (hb0 : w0.heap.size ≤ base) (hp0 : Fns w0 pa pn pc ps) (hsz : base ≤ w.heap.size) :
    Calls Tryz.prog 30 #[.agg #[.slice pa pn pc], .agg #[.slice (some ⟨g, 0, none⟩) (fs.length + 1) cap, .int .i64 fu, .slice oa on oc, .int .i64 0, .int .i64 0]] w fun e w' => OPost base mb w (instrV ps fs xn yn ll sl (fu - 1) out k a) e w' := by
  obtain ⟨c, fn, args, r, v, p, d, y', ll', sl', hcl, hsl, hiv, hins⟩ := refInstr_any (base := base) (mb := mb) (g := g) (cap := cap) (t := t) (lv := lv) (sv := sv) (ov := .slice oa on oc) (out := out) (pa := pa) (pn := pn) (pc := pc) k a xn yn (fu - 1) ok
  have hdp := ok.deep
  obtain ⟨nf, hnf⟩ : ∃ nf, fs.length = nf := ⟨_, rfl⟩
  have HNF := hid hnf
  have W3 : Hid (∃ V : World, V = ((w.alloc (.cells #[.slice pa pn pc] 24)).alloc (.cells #[.slice (some ⟨g, 0, none⟩) (fs.length + 1) cap, .int .i64 (fu - 1), .slice oa on oc, .int .i64 0, .int .i64 0] 28)).alloc (.cells #[.slice none 0 0, .int .i64 0, .slice none 0 0, .int .i64 0, .int .i64 0] 28)) := hid ⟨_, rfl⟩
  obtain ⟨V, hV⟩ := W3.out
  have bV : Below w.heap.size w V := by rw [hV]; exact Below.alloc (Below.alloc (Below.alloc (Below.refl _ _) (Nat.le_refl _) _) (by simp) _) (by simp; omega) _
  have sV : V.heap.size = w.heap.size + 3 := by rw [hV]; simp
  obtain ⟨hPV, hSV, hRV⟩ := new3 w (.cells #[.slice pa pn pc] 24) (.cells #[.slice (some ⟨g, 0, none⟩) (fs.length + 1) cap, .int .i64 (fu - 1), .slice oa on oc, .int .i64 0, .int .i64 0] 28) (.cells #[.slice none 0 0, .int .i64 0, .slice none 0 0, .int .i64 0, .int .i64 0] 28)
  rw [← hV] at hPV hSV hRV
  have M := hid (m.kept bV)
  have BB : Below V.heap.size V V := Below.refl _ _
  have BC : Kq base V V := Kq.refl _ _
  have hbV : base ≤ V.heap.size := by omega
  have BV0 : Hid (Below w0.heap.size w0 V) := hid (h0.trans (bV.mono h0.size))
  have HI : Hid (∀ u, Below V.heap.size V u → Calls Tryz.prog 56 #[.agg #[.slice pa pn pc], .pointer (some ⟨g, nf * 4, none⟩), .int .i64 ((nf : Int) + 1)] u fun e w' => IPost base mb g cap t xn (.slice oa on oc) fs out u c fn args r v p d y' ll' sl' e w') := hid (fun u b => by
    have h := hins u (M.out.kept b) (BV0.out.trans (b.mono BV0.out.size)) hb0 hp0 (by have := b.size; omega)
    rw [hnf] at h
    exact h)
  have HP := hid hp0
  have SA : Hid (∀ w', Kq base V w' → (w'.cell? ⟨w.heap.size, 0, none⟩ = some (.slice pa pn pc) ∧ w'.cell? ⟨w.heap.size + 1, 0, none⟩ = some (.slice (some ⟨g, 0, none⟩) (nf + 1) cap))) := hid (fun w' q => ⟨(cell_of_heap (j := 0) (q.typ _ _ _ _ hPV (by decide) (by decide)) rfl).1, (cell_of_heap (j := 0) (q.typ _ _ _ _ hSV (by decide) (by decide)) (by rw [← hnf]; rfl)).1⟩)
  have OK := hid (And.intro ok (And.intro hl5 (And.intro ho5 (And.intro hsz (And.intro hb0 hbV)))))
  have Q := hid (And.intro bV (And.intro sV (And.intro hPV (And.intro hSV hRV))))
  have E := hid hV
  have CL := hid hcl
  have IV := hid hiv
  have LL := hid hsl
  have hwf : IntKind.i64.wrap (fu - 1) = fu - 1 := by rw [IntKind.wrap_i64]; omega
  have hfz : (fu == 0) = false := by simp; omega
  have hwk : IntKind.i64.wrap (((nf + 1 : Nat) : Int) - 1) = (nf : Int) := by rw [IntKind.wrap_i64]; omega
  have hn00 : (0 : Int) ≤ (nf : Int) := by omega
  have hn01 : (nf : Int) < ((nf + 1 : Nat) : Int) := by omega
  have hn02 : (nf : Int) < (nf : Int) + 1 := by omega
  have hwd : IntKind.i64.wrap ((nf : Int) + 1) = (nf : Int) + 1 := by rw [IntKind.wrap_i64]; omega
  rw [hnf]
  rw [hnf] at hdp
  clear hV W3 bV sV hPV hSV hRV hcl hiv hsl m h0 hb0 hp0 ok hsz hnf hins hl5 ho5
  go_enter Tryz.func30, Tryz.ntmps30
  go_wp2_with fail
  refine wp_world (U := V) (by rw [E.out, HNF.out]) ?_
  go_cut [6] (fun s wx => DidB V base mb g cap t xn (.slice oa on oc) fs out c fn args r v p d y' ll' sl' s wx)
  case first =>
    go_region_held3 (fun w' => w'.cell? ⟨w.heap.size, 0, none⟩ = some (.slice pa pn pc) ∧ w'.cell? ⟨w.heap.size + 1, 0, none⟩ = some (.slice (some ⟨g, 0, none⟩) (nf + 1) cap)) (first | (refine SA.out _ ?_; (repeat (first | with_reducible exact BC | with_reducible refine Kq.drewK ?_ | with_reducible refine Kq.allocK ?_ | with_reducible refine Kq.setK (by first | exact Nat.le_refl _ | omega) ?_))))
      (first
        | (go_at_call 56; refine (HI.out _ ?h1).mono ?_; (case h1 => (repeat (first | with_reducible exact BB | with_reducible refine pDrew ?_ | with_reducible refine pAlloc ?_ | with_reducible refine pSet (by first | exact Nat.le_refl _ | omega) ?_))); rintro e y ⟨aa, an, ac, lv1, sv1, rfl, ra, m1, q⟩; with_reducible have hz := qNewD q (by decide) (by decide); have hzl := heap_lt hz; obtain ⟨⟨n0, n1, n2, n3, n4, n5, n6⟩, mf⟩ := did_cells hz; have m0 := mf 0; have m1' := mf 1; have m2 := mf 2; have m3 := mf 3; have m4 := mf 4; have m5 := mf 5; have m6 := mf 6; clear mf; replace BC : Kq base V y := Kq.trans (by repeat (first | with_reducible exact BC | with_reducible refine Kq.drewK ?_ | with_reducible refine Kq.allocK ?_ | with_reducible refine Kq.setK (by first | exact Nat.le_refl _ | omega) ?_)) q hbV; have hyV := BC.size; have M1 := hid m1; have RA := hid ra; clear q ra m1)
        | (go_at_call 56; refine (HI.out _ ?h1).mono ?_; (case h1 => (repeat (first | with_reducible exact BB | with_reducible refine pDrew ?_ | with_reducible refine pAlloc ?_ | with_reducible refine pSet (by first | exact Nat.le_refl _ | omega) ?_))); rintro e y ⟨aa, an, ac, lv1, sv1, rfl, ra, m1, q⟩; with_reducible have hz := qNew q (by decide) (by decide); have hzl := heap_lt hz; obtain ⟨⟨n0, n1, n2, n3, n4, n5, n6⟩, mf⟩ := did_cells hz; have m0 := mf 0; have m1' := mf 1; have m2 := mf 2; have m3 := mf 3; have m4 := mf 4; have m5 := mf 5; have m6 := mf 6; clear mf; replace BC : Kq base V y := Kq.trans (by repeat (first | with_reducible exact BC | with_reducible refine Kq.drewK ?_ | with_reducible refine Kq.allocK ?_ | with_reducible refine Kq.setK (by first | exact Nat.le_refl _ | omega) ?_)) q hbV; have hyV := BC.size; have M1 := hid m1; have RA := hid ra; clear q ra m1)
        | (go_at_call 56; refine (HI.out _ ?h1).mono ?_; (case h1 => (repeat (first | with_reducible exact BB | with_reducible refine pDrew ?_ | with_reducible refine pAlloc ?_ | with_reducible refine pSet (by first | exact Nat.le_refl _ | omega) ?_))); rintro e y ⟨aa, an, ac, lv1, sv1, rfl, ra, m1, q⟩; replace BC : Kq base V y := Kq.trans (by repeat (first | with_reducible exact BC | with_reducible refine Kq.drewK ?_ | with_reducible refine Kq.allocK ?_ | with_reducible refine Kq.setK (by first | exact Nat.le_refl _ | omega) ?_)) q hbV; have hyV := BC.size; have M1 := hid m1; have RA := hid ra; clear q ra m1))
    all_goals
      go_wp2_with fail
      go_meet
      case rel => first | (have hzz := hz; exact did_old RA.out M1.out BC (by first | exact Nat.le_refl _ | simp) hzz) | exact did_new RA.out M1.out BC
  case rest =>
    obtain ⟨⟨db, aa, an, ac, lv1, sv1, rfl, hdb, hD, ra, m1⟩, K1⟩ := hcut
    have hP1 := K1.typ _ _ _ _ Q.out.2.2.1 (by decide) (by decide)
    have hS1 := K1.typ _ _ _ _ Q.out.2.2.2.1 (by decide) (by decide)
    have hR1 := K1.typ _ _ _ _ Q.out.2.2.2.2 (by decide) (by decide)
    have hsV := Q.out.2.1
    have KW := hid (((Kq.refl base w).kept Q.out.1).trans K1 OK.out.2.2.2.1)
    obtain ⟨T1, hT1⟩ : ∃ T1 : World, T1 = wc := ⟨_, rfl⟩
    subst hT1
    have p0 := (cell_of_heap (j := 0) hP1 rfl).1
    have s0 : T1.cell? ⟨w.heap.size + 1, 0, none⟩ = some (.slice (some ⟨g, 0, none⟩) (nf + 1) cap) := by rw [← HNF.out]; exact (cell_of_heap (j := 0) hS1 rfl).1
    have s1 := (cell_of_heap (j := 1) hS1 rfl).1
    have s2 := (cell_of_heap (j := 2) hS1 rfl).1
    have s3 := (cell_of_heap (j := 3) hS1 rfl).1
    have s4 := (cell_of_heap (j := 4) hS1 rfl).1
    have sf0 := (cell_of_heap (j := 0) hS1 rfl).2
    have sf2 := (cell_of_heap (j := 2) hS1 rfl).2
    obtain ⟨r0, rf0⟩ := cell_of_heap (j := 0) hR1 rfl
    obtain ⟨r1, rf1⟩ := cell_of_heap (j := 1) hR1 rfl
    obtain ⟨r2, rf2⟩ := cell_of_heap (j := 2) hR1 rfl
    obtain ⟨r3, rf3⟩ := cell_of_heap (j := 3) hR1 rfl
    obtain ⟨r4, rf4⟩ := cell_of_heap (j := 4) hR1 rfl
    have d0 := (cell_of_heap (j := 0) hD rfl).1
    have d1 := (cell_of_heap (j := 1) hD rfl).1
    have d2 := (cell_of_heap (j := 2) hD rfl).1
    have d3 := (cell_of_heap (j := 3) hD rfl).1
    have d4 := (cell_of_heap (j := 4) hD rfl).1
    have d5 := (cell_of_heap (j := 5) hD rfl).1
    have d6 := (cell_of_heap (j := 6) hD rfl).1
    have HP1 := hid hP1
    have HS1 := hid hS1
    have HR1 := hid hR1
    have HD := hid hD
    have RA := hid ra
    have M1 := hid m1
    have KV := hid K1
    have hdb1 : w.heap.size + 1 < db := by omega
    have hdb2 : w.heap.size + 2 < db := by omega
    clear hP1 hS1 hR1 hD ra m1 K1 SA BB BC hdb hsV
    rcases CL.out with hd | ⟨rfl, rfl⟩ | ⟨rfl, rfl, rfl, hc1, hc2, hc3, hc4⟩ | ⟨rfl, rfl, rfl, rfl⟩ | ⟨rfl, rfl, rfl, rfl⟩
    · have hdz : (d != 0) = true := by simp; omega
      have hd0 : ¬ d = 0 := by omega
      go_wp2_with fail
      refine (refOverN_any _ _ _ _ _ _ _ 0 0 d 0 _).mono ?_
      rintro e w1 ⟨rfl, b1⟩
      have RX := hid (heap_kept HR1.out b1)
      have B1 := hid b1
      clear r0 r1 r2 r3 r4 rf0 rf1 rf2 rf3 rf4 s0 s1 s2 s3 s4 d0 d1 d2 d3 d4 d5 d6 p0 b1
      obtain ⟨c0, g0⟩ := cell_of_heap (j := 0) RX.out rfl
      obtain ⟨c1, g1⟩ := cell_of_heap (j := 1) RX.out rfl
      obtain ⟨c2, g2⟩ := cell_of_heap (j := 2) RX.out rfl
      obtain ⟨c3, g3⟩ := cell_of_heap (j := 3) RX.out rfl
      obtain ⟨c4, g4⟩ := cell_of_heap (j := 4) RX.out rfl
      go_wp2_with fail
      have F := fin5 ((M1.out.over).kept B1.out) (KW.out.kept B1.out) RX.out (by decide) (by decide) (by omega) (.slice none 0 0) (.int .i64 (fu - 1)) (.slice oa on oc) (.int .i64 d) (.int .i64 0)
      rw [IV.out]
      refine bodyPost_ret (v := .agg #[.slice none 0 0, .int .i64 (fu - 1), .slice oa on oc, .int .i64 d, .int .i64 0]) (by simp [results, Tryz.results30, go_sem, c0, c1, c2, c3, c4]) rfl ?_
      have hA : afterV ps fs xn y' ll' sl' (fu - 1) out c fn args r v p d = ([], fu - 1, out, d, 0) := by unfold afterV; rw [if_pos hd0]
      rw [hA]
      exact ⟨_, _, _, _, _, _, _, rfl, F.1, F.2⟩
    · obtain ⟨i0, hi, hz0, hz1, hz2⟩ := info_parts Tryz.infoInt
      have hA1 : Below T1.heap.size T1 (T1.alloc (.cells #[.int .i64 v] 3)) := Below.alloc (Below.refl _ _) (Nat.le_refl _) _
      have OW := hid (M1.out.kept hA1).rows.1.2
      have HB1 := hid hA1
      have HSA := hid (heap_kept HS1.out hA1)
      have HRA := hid (heap_kept HR1.out hA1)
      have hlo := OK.out.2.2.1
      have hbs : base ≤ T1.heap.size := by have := KV.out.size; have := OK.out.2.2.2.1; have := Q.out.2.1; omega
      clear hA1
      go_wp2_with (at_builtin; go_must ((refine wpList_append_lies _ rfl _ _ 26 rfl base 3 i0 (.int .i64 0) 1 8 Tryz.underlying26 hi hz0 hz1 hz2 rfl (by decide) (.slice oa on oc) out.length (ints out) rfl OW.out ⟨T1.heap.size, 0, none⟩ 1 1 [.int .i64 v] rfl rfl (World.news_of_block (heap_alloc_new T1 (.cells #[.int .i64 v] 3))) (by intro u hu; simp at hu; subst hu; rfl) (by decide) (by unfold maxLen; omega) (by omega) (by simp; omega) (T1.heap.size + 1) (by simp) ?_; intro g' cap' w6 ho6 hg6 hat hlt6; have f6 : Frm (fun b => (Value.slice oa on oc).ownBlock = some b) (T1.alloc (.cells #[.int .i64 v] 3)) w6 := Frm.of_grown hg6 (fun k hk => hk); have hs6 := f6.heap HSA.out (fun e => own_ne OW.out HSA.out (by decide) e); have hr6 := f6.heap HRA.out (fun e => own_ne OW.out HRA.out (by decide) e); have q0 := (cell_of_heap (j := 0) hs6 rfl).1; rw [HNF.out] at q0; have q1 := (cell_of_heap (j := 1) hs6 rfl).1; have q3 := (cell_of_heap (j := 3) hs6 rfl).1; have q4 := (cell_of_heap (j := 4) hs6 rfl).1; obtain ⟨q2, sg2⟩ := cell_of_heap (j := 2) hs6 rfl; obtain ⟨c0, g0⟩ := cell_of_heap (j := 0) (v := .slice none 0 0) hr6 rfl; obtain ⟨c1, g1⟩ := cell_of_heap (j := 1) (v := .int .i64 0) hr6 rfl; obtain ⟨c2, g2⟩ := cell_of_heap (j := 2) (v := .slice none 0 0) hr6 rfl; obtain ⟨c3, g3⟩ := cell_of_heap (j := 3) (v := .int .i64 0) hr6 rfl; obtain ⟨c4, g4⟩ := cell_of_heap (j := 4) (v := .int .i64 0) hr6 rfl; have SS := hid hs6; have RX := hid hr6; have FX := hid f6; have P := hid (And.intro ho6 hat); clear ho6 hg6 hat hlt6 hs6 hr6 f6)))
      obtain ⟨P1, P2⟩ := P.out
      have h2 := M1.out.kept HB1.out
      have ms := h2.setOut (ov' := .slice (some ⟨g', 0, none⟩) (out.length + 1) cap') (out' := out ++ [v]) FX.out ⟨by simp; omega, ints_snoc P1⟩ (fun b hb => by
        cases hb
        rcases P2 with e | e
        · exact .inl e
        · right; show _ ≤ g'; rw [e]; simp)
      obtain ⟨m3, z3⟩ := ms.setTy SS.out (by decide) (by decide) 2 (.slice (some ⟨g', 0, none⟩) (out.length + 1) cap')
      have F2 : Frm (fun b => b = w.heap.size + 1) w6 (w6.setCell ⟨w.heap.size + 1, 2, none⟩ (.slice (some ⟨g', 0, none⟩) (out.length + 1) cap')) := Frm.set _ rfl
      have k6 := (KW.out.kept HB1.out).frm FX.out (fun b e => h2.mayR w (u := .slice oa on oc) (by simp) e)
      have F := fin5 m3 (k6.frm F2 (fun b e => .inl (by rw [e]; omega))) (F2.heap RX.out (by omega)) (by decide) (by decide) (by omega) (.slice (some ⟨g, 0, none⟩) (nf + 1) cap) (.int .i64 (fu - 1)) (.slice (some ⟨g', 0, none⟩) (out.length + 1) cap') (.int .i64 0) (.int .i64 0)
      rw [IV.out]
      refine bodyPost_ret (v := .agg #[.slice (some ⟨g, 0, none⟩) (nf + 1) cap, .int .i64 (fu - 1), .slice (some ⟨g', 0, none⟩) (out.length + 1) cap', .int .i64 0, .int .i64 0]) (by simp [results, Tryz.results30, go_sem, c0, c1, c2, c3, c4]) rfl ?_
      have hA : afterV ps fs xn y' ll' sl' (fu - 1) out c fn args r v true 0 = (fs ++ [((xn : Int), y', ll', sl')], fu - 1, out ++ [v], 0, 0) := by simp [afterV]
      rw [hA]
      exact ⟨_, _, _, _, _, _, _, rfl, by rw [← HNF.out]; rw [← HNF.out] at F; exact F.1, F.2⟩
    · obtain ⟨f, rfl⟩ : ∃ f : Nat, fn = f := ⟨fn.toNat, by omega⟩
      obtain ⟨i0, hi, hz0, hz1, hz2⟩ := info_parts Tryz.infoFrame
      have hf0 : f < ps.length := by omega
      have hfn := ver_fn OK.out.1.ver hf0 (x := (ps.getD f noFn).1) (y := (ps.getD f noFn).2.1) (l := (ps.getD f noFn).2.2) rfl
      obtain ⟨nl, hnl⟩ : ∃ nl : Nat, (ps.getD f noFn).2.1 = (nl : Int) := ⟨(ps.getD f noFn).2.1.toNat, by omega⟩
      have hn8 : nl ≤ 8 := by omega
      have B0T : Hid (Below w0.heap.size w0 T1) := hid (BV0.out.trans ((KV.out.below OK.out.2.2.2.2.2).mono OK.out.2.2.2.2.1))
      have hfp : f < pn := by have := HP.out.len; omega
      have hbs : base ≤ T1.heap.size := by have := KV.out.size; have := OK.out.2.2.2.1; have := Q.out.2.1; omega
      have FR : Hid (∀ u, Below T1.heap.size T1 u → Calls Tryz.prog 57 #[.agg #[.slice pa pn pc], .int .i64 (f : Int), .slice aa an ac] u fun e w' => ∃ lv, e = .returned (.agg #[.int .i64 (f : Int), .int .i64 0, lv, .slice none 0 0]) ∧ w'.ownsRow T1.heap.size 3 1 lv (freshL nl args).length (ints (freshL nl args)) ∧ Below u.heap.size u w') := hid (fun u b => (refFresh_any pa pn pc ps f nl aa an ac args u (HP.out.kept (B0T.out.trans (b.mono B0T.out.size))) ((row_reads0 RA.out).kept b) hfp hnl hn8).mono (by rintro e w' ⟨lv, h1, h2, h3⟩; exact ⟨lv, h1, owns_base h2 b.size, h3⟩))
      have SA : Hid (∀ w', Below T1.heap.size T1 w' → (w'.cell? ⟨w.heap.size, 0, none⟩ = some (.slice pa pn pc) ∧ w'.cell? ⟨db, 1, none⟩ = some (.int .i64 (f : Int)) ∧ w'.cell? ⟨db, 2, none⟩ = some (.slice aa an ac))) := hid (fun w' b => ⟨kept_cell b (cell_of_heap (j := 0) HP1.out rfl).1, kept_cell b (cell_of_heap (j := 1) HD.out rfl).1, kept_cell b (cell_of_heap (j := 2) HD.out rfl).1⟩)
      have BC : Below T1.heap.size T1 T1 := Below.refl _ _
      have e0 : T1.drew.cell? ⟨w.heap.size + 1, 0, none⟩ = some (.slice (some ⟨g, 0, none⟩) (nf + 1) cap) := by rw [← HNF.out]; exact kept_cell (Below.drew (Below.refl _ _)) (cell_of_heap (j := 0) HS1.out rfl).1
      have HB := hid hbs
      have HL := hid (And.intro hnl hn8)
      have hlf : (freshL nl args).length = nl := by unfold freshL; simp
      have HLF := hid hlf
      have HDP := hid hdp
      clear hfn hnl hn8 hlf hbs
      go_wp2_with fail
      clear s0 s1 s2 s3 s4 sf0 sf2 r0 r1 r2 r3 r4 rf0 rf1 rf2 rf3 rf4 d0 d1 d2 d3 d4 d5 d6 p0
      refine wp_region_held_drew (S := (fun w' => w'.cell? ⟨w.heap.size, 0, none⟩ = some (.slice pa pn pc) ∧ w'.cell? ⟨db, 1, none⟩ = some (.int .i64 (f : Int)) ∧ w'.cell? ⟨db, 2, none⟩ = some (.slice aa an ac))) (by kernel_rfl) ?_ (fun hH0 => ?_)
      · (try dsimp only); first | with_reducible exact S6.out | with_reducible exact S7.out _ | (refine SA.out _ ?_; (repeat (first | with_reducible exact BC | with_reducible refine pDrew ?_ | with_reducible refine pAlloc ?_ | with_reducible refine pSet (by first | exact Nat.le_refl _ | omega) ?_)))
      refine wpAnyH_take (i := 0) (oi := ⟨_, _, _, _, _, _⟩) (v := ?_) rfl (by kernel_rfl) (by kernel_rfl) (by kernel_rfl) (fun _ _ _ h => h) (Or.inl ⟨by rfl, ?_⟩) (by exact hH0) ?_
      rotate_left
      · (intro x hx; (try dsimp only at hx); go_simp; try (with_reducible rfl))
      try simp only [Act.put, List.setIfInBounds_toArray, List.set_cons_zero, List.set_cons_succ]
      refine wpAnyH_take (i := 3) (oi := ⟨_, _, _, _, _, _⟩) (v := ?_) rfl (by kernel_rfl) (by kernel_rfl) (by kernel_rfl) (fun _ _ _ h => h) (Or.inl ⟨by rfl, ?_⟩) (by exact hH0) ?_
      rotate_left
      · (intro x hx; (try dsimp only at hx); go_simp; try (with_reducible rfl))
      try simp only [Act.put, List.setIfInBounds_toArray, List.set_cons_zero, List.set_cons_succ]
      refine wpAnyH_take (i := 5) (oi := ⟨_, _, _, _, _, _⟩) (v := ?_) rfl (by kernel_rfl) (by kernel_rfl) (by kernel_rfl) (fun _ _ _ h => h) (Or.inl ⟨by rfl, ?_⟩) (by exact hH0) ?_
      rotate_left
      · (intro x hx; (try dsimp only at hx); go_simp; try (with_reducible rfl))
      try simp only [Act.put, List.setIfInBounds_toArray, List.set_cons_zero, List.set_cons_succ]
      refine wpAnyH_take (i := 2) (oi := ⟨_, _, _, _, _, _⟩) (v := ?_) rfl (by kernel_rfl) (by kernel_rfl) (by kernel_rfl) (fun _ _ _ h => h) (Or.inl ⟨by rfl, ?_⟩) (by exact hH0) ?_
      rotate_left
      · (intro x hx; (try dsimp only at hx); go_simp; try (with_reducible rfl))
      try simp only [Act.put, List.setIfInBounds_toArray, List.set_cons_zero, List.set_cons_succ]
      refine wpAnyH_take (i := 4) (oi := ⟨_, _, _, _, _, _⟩) (v := ?_) rfl (by kernel_rfl) (by kernel_rfl) (by kernel_rfl) (fun _ _ _ h => h) (Or.inl ⟨by rfl, ?_⟩) (by exact hH0) ?_
      rotate_left
      · (intro x hx; (try dsimp only at hx); go_simp; try (with_reducible rfl))
      try simp only [Act.put, List.setIfInBounds_toArray, List.set_cons_zero, List.set_cons_succ]
      refine wpAnyH_take (i := 6) (oi := ⟨_, _, _, _, _, _⟩) (v := ?_) rfl (by kernel_rfl) (by kernel_rfl) (by kernel_rfl) (fun _ _ _ h => h) (Or.inl ⟨by rfl, ?_⟩) (by exact hH0) ?_
      rotate_left
      · (intro x hx; (try dsimp only at hx); go_simp; try (with_reducible rfl))
      try simp only [Act.put, List.setIfInBounds_toArray, List.set_cons_zero, List.set_cons_succ]
      refine wpAnyH_ready (rs := [1, 7]) (by kernel_rfl) (by simp) ?_
      refine AllReadyH.cons (o := ⟨_, _, _, _, _, _⟩) rfl (fun K hK => ?_) ?_
      · skip
        go_simp
        refine hK.out _ _ ?_ (fun hH1 => ?_)
        · (try dsimp only); first | with_reducible exact S6.out | with_reducible exact S7.out _ | (refine SA.out _ ?_; (repeat (first | with_reducible exact BC | with_reducible refine pDrew ?_ | with_reducible refine pAlloc ?_ | with_reducible refine pSet (by first | exact Nat.le_refl _ | omega) ?_)))
        clear hK K hH0
        try simp only [Act.put, List.setIfInBounds_toArray, List.set_cons_zero, List.set_cons_succ]
        refine wpAnyH_ready (rs := [7]) (by kernel_rfl) (by simp) ?_
        refine AllReadyH.cons (o := ⟨_, _, _, _, _, _⟩) rfl (fun K hK => ?_) ?_
        · skip
          go_simp
          go_at_call 57; refine (FR.out _ ?h1).mono ?_; (case h1 => (repeat (first | with_reducible exact BC | with_reducible refine pDrew ?_ | with_reducible refine pAlloc ?_ | with_reducible refine pSet (by first | exact Nat.le_refl _ | omega) ?_))); rintro e w1 ⟨lvn, rfl, ro, b1⟩; obtain ⟨la, ln, lc, rfl, _⟩ := ints_of_owns ro (by rw [HLF.out]; have := HL.out.2; omega); have k0 := kept_cell b1 e0; replace BC : Below T1.heap.size T1 w1 := kt (by repeat (first | with_reducible exact BC | with_reducible refine pDrew ?_ | with_reducible refine pAlloc ?_ | with_reducible refine pSet (by first | exact Nat.le_refl _ | omega) ?_)) b1; have M5 := hid (M1.out.kept BC); have hA : Below w1.heap.size w1 (w1.alloc (.cells #[.int .i64 (f : Int), .int .i64 0, .slice la ln lc, .slice none 0 0] 51)) := Below.alloc (Below.refl _ _) (Nat.le_refl _) _; have k1 := kept_cell hA k0; have A1 := hid hA; have OW : Hid ((w1.alloc (.cells #[.int .i64 (f : Int), .int .i64 0, .slice la ln lc, .slice none 0 0] 51)).ownsRow base 51 4 (.slice (some ⟨g, 0, none⟩) (nf + 1) cap) (nf + 1) (flat4 (t ++ [((xn : Int), y', lv1, sv1)]))) := hid (by have := (M5.out.kept hA).own'; rw [HNF.out] at this; exact this); have SA5 := hid (heap_kept (heap_kept HS1.out BC) hA); have RA5 := hid (heap_kept (heap_kept HR1.out BC) hA); have RO := hid ro; have BA := hid (kt BC hA); have hs1 := BC.size; clear ro b1 hA
          refine hK.out _ _ ?_ (fun hH2 => ?_)
          · (try dsimp only); first | with_reducible exact S6.out | with_reducible exact S7.out _ | (refine SA.out _ ?_; (repeat (first | with_reducible exact BC | with_reducible refine pDrew ?_ | with_reducible refine pAlloc ?_ | with_reducible refine pSet (by first | exact Nat.le_refl _ | omega) ?_)))
          clear hK K hH1
          try simp only [Act.put, List.setIfInBounds_toArray, List.set_cons_zero, List.set_cons_succ]
          refine wpAnyH_ready (rs := [8]) (by kernel_rfl) (by simp) ?_
          refine AllReadyH.cons (o := ⟨_, _, _, _, _, _⟩) rfl (fun K hK => ?_) ?_
          · skip
            go_simp
            refine hK.out _ _ ?_ (fun hH3 => ?_)
            · (try dsimp only); first | with_reducible exact S6.out | with_reducible exact S7.out _ | (refine SA.out _ ?_; (repeat (first | with_reducible exact BC | with_reducible refine pDrew ?_ | with_reducible refine pAlloc ?_ | with_reducible refine pSet (by first | exact Nat.le_refl _ | omega) ?_)))
            clear hK K hH2
            try simp only [Act.put, List.setIfInBounds_toArray, List.set_cons_zero, List.set_cons_succ]
            refine wpAnyH_ready (rs := [9]) (by kernel_rfl) (by simp) ?_
            refine AllReadyH.cons (o := ⟨_, _, _, _, _, _⟩) rfl (fun K hK => ?_) ?_
            · skip
              refine step_append_lies _ rfl (.tmp 54) (.tmp 61) 25 rfl base 51 i0 (.agg #[.int .i64 0, .int .i64 0, .slice none 0 0, .slice none 0 0]) 4 64 Tryz.underlying25 hi hz0 hz1 hz2 rfl (by decide) (.slice (some ⟨g, 0, none⟩) (nf + 1) cap) (nf + 1) (flat4 (t ++ [((xn : Int), y', lv1, sv1)])) (by simp [Act.eval]) OW.out ⟨w1.heap.size, 0, none⟩ 1 1 [.int .i64 (f : Int), .int .i64 0, .slice la ln lc, .slice none 0 0] (by simp [Act.eval]) rfl (news_of rfl _ 51) (by intro u hu; simp at hu; rcases hu with rfl | rfl | rfl | rfl <;> rfl) (by decide) (by have := HDP.out; unfold maxLen; omega) (by have := HDP.out; omega) (by simp; have := HB.out; omega) (w1.heap.size + 1) (by simp) ?_; intro g' cap' w6 ho6 hg6 hat hlt6; have f6 : Frm (fun b => (Value.slice (some ⟨g, 0, none⟩) (nf + 1) cap).ownBlock = some b) (w1.alloc (.cells #[.int .i64 (f : Int), .int .i64 0, .slice la ln lc, .slice none 0 0] 51)) w6 := Frm.of_grown hg6 (fun k hk => hk); have hs6 := f6.heap SA5.out (fun e => own_ne OW.out SA5.out (by decide) e); have hr6 := f6.heap RA5.out (fun e => own_ne OW.out RA5.out (by decide) e); obtain ⟨q0, sg0⟩ := cell_of_heap (j := 0) (v := .slice (some ⟨g, 0, none⟩) (fs.length + 1) cap) hs6 rfl; rw [HNF.out] at q0; have q1 := (cell_of_heap (j := 1) (v := .int .i64 (fu - 1)) hs6 rfl).1; have q2 := (cell_of_heap (j := 2) (v := .slice oa on oc) hs6 rfl).1; have q3 := (cell_of_heap (j := 3) (v := .int .i64 0) hs6 rfl).1; have q4 := (cell_of_heap (j := 4) (v := .int .i64 0) hs6 rfl).1; obtain ⟨c0, g0⟩ := cell_of_heap (j := 0) (v := .slice none 0 0) hr6 rfl; obtain ⟨c1, g1⟩ := cell_of_heap (j := 1) (v := .int .i64 0) hr6 rfl; obtain ⟨c2, g2⟩ := cell_of_heap (j := 2) (v := .slice none 0 0) hr6 rfl; obtain ⟨c3, g3⟩ := cell_of_heap (j := 3) (v := .int .i64 0) hr6 rfl; obtain ⟨c4, g4⟩ := cell_of_heap (j := 4) (v := .int .i64 0) hr6 rfl; have hp6 := f6.heap (heap_kept HP1.out BA.out) (fun e => own_ne OW.out (heap_kept HP1.out BA.out) (by decide) e); have hd6 := f6.heap (heap_kept HD.out BA.out) (fun e => own_ne OW.out (heap_kept HD.out BA.out) (by decide) e); have S6 := hid (And.intro (cell_of_heap (j := 0) (v := .slice pa pn pc) hp6 rfl).1 (And.intro (cell_of_heap (j := 1) (v := .int .i64 (f : Int)) hd6 rfl).1 (cell_of_heap (j := 2) (v := .slice aa an ac) hd6 rfl).1)); have S7 : Hid (∀ x : Value, (w6.setCell ⟨w.heap.size + 1, 0, none⟩ x).cell? ⟨w.heap.size, 0, none⟩ = some (.slice pa pn pc) ∧ (w6.setCell ⟨w.heap.size + 1, 0, none⟩ x).cell? ⟨db, 1, none⟩ = some (.int .i64 (f : Int)) ∧ (w6.setCell ⟨w.heap.size + 1, 0, none⟩ x).cell? ⟨db, 2, none⟩ = some (.slice aa an ac)) := hid (fun x => by have F7 : Frm (fun b => b = w.heap.size + 1) w6 (w6.setCell ⟨w.heap.size + 1, 0, none⟩ x) := Frm.set _ rfl; exact ⟨(cell_of_heap (j := 0) (v := .slice pa pn pc) (F7.heap hp6 (by omega)) rfl).1, (cell_of_heap (j := 1) (v := .int .i64 (f : Int)) (F7.heap hd6 (by omega)) rfl).1, (cell_of_heap (j := 2) (v := .slice aa an ac) (F7.heap hd6 (by omega)) rfl).1⟩); clear hp6 hd6; have SS := hid hs6; have RX := hid hr6; have FX := hid f6; have P := hid (And.intro ho6 hat); clear ho6 hg6 hat hlt6 hs6 hr6 f6
              refine hK.out _ _ ?_ (fun hH4 => ?_)
              · (try dsimp only); first | with_reducible exact S6.out | with_reducible exact S7.out _ | (refine SA.out _ ?_; (repeat (first | with_reducible exact BC | with_reducible refine pDrew ?_ | with_reducible refine pAlloc ?_ | with_reducible refine pSet (by first | exact Nat.le_refl _ | omega) ?_)))
              clear hK K hH3
              try simp only [Act.put, List.setIfInBounds_toArray, List.set_cons_zero, List.set_cons_succ]
              refine wpAnyH_take (i := 10) (oi := ⟨_, _, _, _, _, _⟩) (v := ?_) rfl (by kernel_rfl) (by kernel_rfl) (by kernel_rfl) (fun _ _ _ h => h) (Or.inl ⟨by rfl, ?_⟩) (by exact hH4) ?_
              rotate_left
              · (intro x hx; (try dsimp only at hx); go_simp; try (with_reducible rfl))
              try simp only [Act.put, List.setIfInBounds_toArray, List.set_cons_zero, List.set_cons_succ]
              refine wpAnyH_ready (rs := [11]) (by kernel_rfl) (by simp) ?_
              refine AllReadyH.cons (o := ⟨_, _, _, _, _, _⟩) rfl (fun K hK => ?_) ?_
              · skip
                go_simp
                refine hK.out _ _ ?_ (fun hH5 => ?_)
                · (try dsimp only); first | with_reducible exact S6.out | with_reducible exact S7.out _ | (refine SA.out _ ?_; (repeat (first | with_reducible exact BC | with_reducible refine pDrew ?_ | with_reducible refine pAlloc ?_ | with_reducible refine pSet (by first | exact Nat.le_refl _ | omega) ?_)))
                clear hK K hH4
                try simp only [Act.put, List.setIfInBounds_toArray, List.set_cons_zero, List.set_cons_succ]
                refine wpAnyH_done (by kernel_rfl) ?_ _
                go_wp2_with fail
                obtain ⟨P1, P2⟩ := P.out
                have rl : Row1 (w1.alloc (.cells #[.int .i64 (f : Int), .int .i64 0, .slice la ln lc, .slice none 0 0] 51)) base (.slice la ln lc) (freshL nl args) := Row1.frm ⟨by rw [HLF.out]; have := HL.out.2; omega, owns_base RO.out HB.out⟩ (Frm.of_below (S := fun _ => False) A1.out) (fun _ _ k => k)
                have M6 := M5.out.kept A1.out
                have ms := MSt.snoc (x := (f : Int)) (y := 0) (ll := freshL nl args) (sl := []) (lv := .slice la ln lc) (sv := .slice none 0 0) (B := T1.heap.size) M6 rl (row1_nil _ _) (fun u hu b hb => M1.out.inB u (by simp at hu ⊢; exact .inr hu) b hb) M1.out.hm (fun b hb => (RO.out.lt b hb).1) (fun b hb => by simp [Value.ownBlock] at hb) (v' := .slice (some ⟨g', 0, none⟩) (nf + 1 + 1) cap') (w' := w6) (by rw [show (fs ++ [((xn : Int), y', ll', sl')]).length = nf + 1 by simp [HNF.out]]; exact P1) FX.out (fun b hb => by
                  cases hb
                  rcases P2 with e | e
                  · exact .inl e
                  · right; show _ ≤ g'; rw [e]; simp)
                obtain ⟨m3, z3⟩ := ms.setTy SS.out (by decide) (by decide) 0 (.slice (some ⟨g', 0, none⟩) (nf + 1 + 1) cap')
                have F2 : Frm (fun b => b = w.heap.size + 1) w6 (w6.setCell ⟨w.heap.size + 1, 0, none⟩ (.slice (some ⟨g', 0, none⟩) (nf + 1 + 1) cap')) := Frm.set _ rfl
                have k6 := (KW.out.kept BA.out).frm FX.out (fun b e => by cases e; exact M6.mayG w)
                have F := fin5 m3 (k6.frm F2 (fun b e => .inl (by rw [e]; omega))) (F2.heap RX.out (by omega)) (by decide) (by decide) (by omega) (.slice (some ⟨g', 0, none⟩) (nf + 1 + 1) cap') (.int .i64 (fu - 1)) (.slice oa on oc) (.int .i64 0) (.int .i64 0)
                rw [IV.out]
                refine bodyPost_ret (v := .agg #[.slice (some ⟨g', 0, none⟩) (nf + 1 + 1) cap', .int .i64 (fu - 1), .slice oa on oc, .int .i64 0, .int .i64 0]) (by simp [results, Tryz.results30, go_sem, c0, c1, c2, c3, c4]) rfl ?_
                have hA : afterV ps fs xn y' ll' sl' (fu - 1) out true (f : Int) args r v false 0 = (fs ++ [((xn : Int), y', ll', sl')] ++ [((f : Int), 0, freshL nl args, [])], fu - 1, out, 0, 0) := by unfold afterV; rw [if_neg (by simp), if_neg (by simp), if_pos rfl, Int.toNat_natCast, HL.out.1, Int.toNat_natCast]
                rw [hA]
                exact ⟨_, _, _, _, _, _, _, rfl, F.1, F.2⟩
              exact AllReadyH.nil
            exact AllReadyH.nil
          exact AllReadyH.nil
        exact AllReadyH.nil
      refine AllReadyH.cons (o := ⟨_, _, _, _, _, _⟩) rfl (fun K hK => ?_) ?_
      · skip
        go_simp
        go_at_call 57; refine (FR.out _ ?h1).mono ?_; (case h1 => (repeat (first | with_reducible exact BC | with_reducible refine pDrew ?_ | with_reducible refine pAlloc ?_ | with_reducible refine pSet (by first | exact Nat.le_refl _ | omega) ?_))); rintro e w1 ⟨lvn, rfl, ro, b1⟩; obtain ⟨la, ln, lc, rfl, _⟩ := ints_of_owns ro (by rw [HLF.out]; have := HL.out.2; omega); have k0 := kept_cell b1 e0; replace BC : Below T1.heap.size T1 w1 := kt (by repeat (first | with_reducible exact BC | with_reducible refine pDrew ?_ | with_reducible refine pAlloc ?_ | with_reducible refine pSet (by first | exact Nat.le_refl _ | omega) ?_)) b1; have M5 := hid (M1.out.kept BC); have hA : Below w1.heap.size w1 (w1.alloc (.cells #[.int .i64 (f : Int), .int .i64 0, .slice la ln lc, .slice none 0 0] 51)) := Below.alloc (Below.refl _ _) (Nat.le_refl _) _; have k1 := kept_cell hA k0; have A1 := hid hA; have OW : Hid ((w1.alloc (.cells #[.int .i64 (f : Int), .int .i64 0, .slice la ln lc, .slice none 0 0] 51)).ownsRow base 51 4 (.slice (some ⟨g, 0, none⟩) (nf + 1) cap) (nf + 1) (flat4 (t ++ [((xn : Int), y', lv1, sv1)]))) := hid (by have := (M5.out.kept hA).own'; rw [HNF.out] at this; exact this); have SA5 := hid (heap_kept (heap_kept HS1.out BC) hA); have RA5 := hid (heap_kept (heap_kept HR1.out BC) hA); have RO := hid ro; have BA := hid (kt BC hA); have hs1 := BC.size; clear ro b1 hA
        refine hK.out _ _ ?_ (fun hH6 => ?_)
        · (try dsimp only); first | with_reducible exact S6.out | with_reducible exact S7.out _ | (refine SA.out _ ?_; (repeat (first | with_reducible exact BC | with_reducible refine pDrew ?_ | with_reducible refine pAlloc ?_ | with_reducible refine pSet (by first | exact Nat.le_refl _ | omega) ?_)))
        clear hK K hH0
        try simp only [Act.put, List.setIfInBounds_toArray, List.set_cons_zero, List.set_cons_succ]
        refine wpAnyH_ready (rs := [1, 8]) (by kernel_rfl) (by simp) ?_
        refine AllReadyH.cons (o := ⟨_, _, _, _, _, _⟩) rfl (fun K hK => ?_) ?_
        · skip
          go_simp
          refine hK.out _ _ ?_ (fun hH7 => ?_)
          · (try dsimp only); first | with_reducible exact S6.out | with_reducible exact S7.out _ | (refine SA.out _ ?_; (repeat (first | with_reducible exact BC | with_reducible refine pDrew ?_ | with_reducible refine pAlloc ?_ | with_reducible refine pSet (by first | exact Nat.le_refl _ | omega) ?_)))
          clear hK K hH6
          try simp only [Act.put, List.setIfInBounds_toArray, List.set_cons_zero, List.set_cons_succ]
          refine wpAnyH_ready (rs := [8]) (by kernel_rfl) (by simp) ?_
          refine AllReadyH.cons (o := ⟨_, _, _, _, _, _⟩) rfl (fun K hK => ?_) ?_
          · skip
            go_simp
            refine hK.out _ _ ?_ (fun hH8 => ?_)
            · (try dsimp only); first | with_reducible exact S6.out | with_reducible exact S7.out _ | (refine SA.out _ ?_; (repeat (first | with_reducible exact BC | with_reducible refine pDrew ?_ | with_reducible refine pAlloc ?_ | with_reducible refine pSet (by first | exact Nat.le_refl _ | omega) ?_)))
            clear hK K hH7
            try simp only [Act.put, List.setIfInBounds_toArray, List.set_cons_zero, List.set_cons_succ]
            refine wpAnyH_ready (rs := [9]) (by kernel_rfl) (by simp) ?_
            refine AllReadyH.cons (o := ⟨_, _, _, _, _, _⟩) rfl (fun K hK => ?_) ?_
            · skip
              refine step_append_lies _ rfl (.tmp 54) (.tmp 61) 25 rfl base 51 i0 (.agg #[.int .i64 0, .int .i64 0, .slice none 0 0, .slice none 0 0]) 4 64 Tryz.underlying25 hi hz0 hz1 hz2 rfl (by decide) (.slice (some ⟨g, 0, none⟩) (nf + 1) cap) (nf + 1) (flat4 (t ++ [((xn : Int), y', lv1, sv1)])) (by simp [Act.eval]) OW.out ⟨w1.heap.size, 0, none⟩ 1 1 [.int .i64 (f : Int), .int .i64 0, .slice la ln lc, .slice none 0 0] (by simp [Act.eval]) rfl (news_of rfl _ 51) (by intro u hu; simp at hu; rcases hu with rfl | rfl | rfl | rfl <;> rfl) (by decide) (by have := HDP.out; unfold maxLen; omega) (by have := HDP.out; omega) (by simp; have := HB.out; omega) (w1.heap.size + 1) (by simp) ?_; intro g' cap' w6 ho6 hg6 hat hlt6; have f6 : Frm (fun b => (Value.slice (some ⟨g, 0, none⟩) (nf + 1) cap).ownBlock = some b) (w1.alloc (.cells #[.int .i64 (f : Int), .int .i64 0, .slice la ln lc, .slice none 0 0] 51)) w6 := Frm.of_grown hg6 (fun k hk => hk); have hs6 := f6.heap SA5.out (fun e => own_ne OW.out SA5.out (by decide) e); have hr6 := f6.heap RA5.out (fun e => own_ne OW.out RA5.out (by decide) e); obtain ⟨q0, sg0⟩ := cell_of_heap (j := 0) (v := .slice (some ⟨g, 0, none⟩) (fs.length + 1) cap) hs6 rfl; rw [HNF.out] at q0; have q1 := (cell_of_heap (j := 1) (v := .int .i64 (fu - 1)) hs6 rfl).1; have q2 := (cell_of_heap (j := 2) (v := .slice oa on oc) hs6 rfl).1; have q3 := (cell_of_heap (j := 3) (v := .int .i64 0) hs6 rfl).1; have q4 := (cell_of_heap (j := 4) (v := .int .i64 0) hs6 rfl).1; obtain ⟨c0, g0⟩ := cell_of_heap (j := 0) (v := .slice none 0 0) hr6 rfl; obtain ⟨c1, g1⟩ := cell_of_heap (j := 1) (v := .int .i64 0) hr6 rfl; obtain ⟨c2, g2⟩ := cell_of_heap (j := 2) (v := .slice none 0 0) hr6 rfl; obtain ⟨c3, g3⟩ := cell_of_heap (j := 3) (v := .int .i64 0) hr6 rfl; obtain ⟨c4, g4⟩ := cell_of_heap (j := 4) (v := .int .i64 0) hr6 rfl; have hp6 := f6.heap (heap_kept HP1.out BA.out) (fun e => own_ne OW.out (heap_kept HP1.out BA.out) (by decide) e); have hd6 := f6.heap (heap_kept HD.out BA.out) (fun e => own_ne OW.out (heap_kept HD.out BA.out) (by decide) e); have S6 := hid (And.intro (cell_of_heap (j := 0) (v := .slice pa pn pc) hp6 rfl).1 (And.intro (cell_of_heap (j := 1) (v := .int .i64 (f : Int)) hd6 rfl).1 (cell_of_heap (j := 2) (v := .slice aa an ac) hd6 rfl).1)); have S7 : Hid (∀ x : Value, (w6.setCell ⟨w.heap.size + 1, 0, none⟩ x).cell? ⟨w.heap.size, 0, none⟩ = some (.slice pa pn pc) ∧ (w6.setCell ⟨w.heap.size + 1, 0, none⟩ x).cell? ⟨db, 1, none⟩ = some (.int .i64 (f : Int)) ∧ (w6.setCell ⟨w.heap.size + 1, 0, none⟩ x).cell? ⟨db, 2, none⟩ = some (.slice aa an ac)) := hid (fun x => by have F7 : Frm (fun b => b = w.heap.size + 1) w6 (w6.setCell ⟨w.heap.size + 1, 0, none⟩ x) := Frm.set _ rfl; exact ⟨(cell_of_heap (j := 0) (v := .slice pa pn pc) (F7.heap hp6 (by omega)) rfl).1, (cell_of_heap (j := 1) (v := .int .i64 (f : Int)) (F7.heap hd6 (by omega)) rfl).1, (cell_of_heap (j := 2) (v := .slice aa an ac) (F7.heap hd6 (by omega)) rfl).1⟩); clear hp6 hd6; have SS := hid hs6; have RX := hid hr6; have FX := hid f6; have P := hid (And.intro ho6 hat); clear ho6 hg6 hat hlt6 hs6 hr6 f6
              refine hK.out _ _ ?_ (fun hH9 => ?_)
              · (try dsimp only); first | with_reducible exact S6.out | with_reducible exact S7.out _ | (refine SA.out _ ?_; (repeat (first | with_reducible exact BC | with_reducible refine pDrew ?_ | with_reducible refine pAlloc ?_ | with_reducible refine pSet (by first | exact Nat.le_refl _ | omega) ?_)))
              clear hK K hH8
              try simp only [Act.put, List.setIfInBounds_toArray, List.set_cons_zero, List.set_cons_succ]
              refine wpAnyH_take (i := 10) (oi := ⟨_, _, _, _, _, _⟩) (v := ?_) rfl (by kernel_rfl) (by kernel_rfl) (by kernel_rfl) (fun _ _ _ h => h) (Or.inl ⟨by rfl, ?_⟩) (by exact hH9) ?_
              rotate_left
              · (intro x hx; (try dsimp only at hx); go_simp; try (with_reducible rfl))
              try simp only [Act.put, List.setIfInBounds_toArray, List.set_cons_zero, List.set_cons_succ]
              refine wpAnyH_ready (rs := [11]) (by kernel_rfl) (by simp) ?_
              refine AllReadyH.cons (o := ⟨_, _, _, _, _, _⟩) rfl (fun K hK => ?_) ?_
              · skip
                go_simp
                refine hK.out _ _ ?_ (fun hH10 => ?_)
                · (try dsimp only); first | with_reducible exact S6.out | with_reducible exact S7.out _ | (refine SA.out _ ?_; (repeat (first | with_reducible exact BC | with_reducible refine pDrew ?_ | with_reducible refine pAlloc ?_ | with_reducible refine pSet (by first | exact Nat.le_refl _ | omega) ?_)))
                clear hK K hH9
                try simp only [Act.put, List.setIfInBounds_toArray, List.set_cons_zero, List.set_cons_succ]
                refine wpAnyH_done (by kernel_rfl) ?_ _
                go_wp2_with fail
                obtain ⟨P1, P2⟩ := P.out
                have rl : Row1 (w1.alloc (.cells #[.int .i64 (f : Int), .int .i64 0, .slice la ln lc, .slice none 0 0] 51)) base (.slice la ln lc) (freshL nl args) := Row1.frm ⟨by rw [HLF.out]; have := HL.out.2; omega, owns_base RO.out HB.out⟩ (Frm.of_below (S := fun _ => False) A1.out) (fun _ _ k => k)
                have M6 := M5.out.kept A1.out
                have ms := MSt.snoc (x := (f : Int)) (y := 0) (ll := freshL nl args) (sl := []) (lv := .slice la ln lc) (sv := .slice none 0 0) (B := T1.heap.size) M6 rl (row1_nil _ _) (fun u hu b hb => M1.out.inB u (by simp at hu ⊢; exact .inr hu) b hb) M1.out.hm (fun b hb => (RO.out.lt b hb).1) (fun b hb => by simp [Value.ownBlock] at hb) (v' := .slice (some ⟨g', 0, none⟩) (nf + 1 + 1) cap') (w' := w6) (by rw [show (fs ++ [((xn : Int), y', ll', sl')]).length = nf + 1 by simp [HNF.out]]; exact P1) FX.out (fun b hb => by
                  cases hb
                  rcases P2 with e | e
                  · exact .inl e
                  · right; show _ ≤ g'; rw [e]; simp)
                obtain ⟨m3, z3⟩ := ms.setTy SS.out (by decide) (by decide) 0 (.slice (some ⟨g', 0, none⟩) (nf + 1 + 1) cap')
                have F2 : Frm (fun b => b = w.heap.size + 1) w6 (w6.setCell ⟨w.heap.size + 1, 0, none⟩ (.slice (some ⟨g', 0, none⟩) (nf + 1 + 1) cap')) := Frm.set _ rfl
                have k6 := (KW.out.kept BA.out).frm FX.out (fun b e => by cases e; exact M6.mayG w)
                have F := fin5 m3 (k6.frm F2 (fun b e => .inl (by rw [e]; omega))) (F2.heap RX.out (by omega)) (by decide) (by decide) (by omega) (.slice (some ⟨g', 0, none⟩) (nf + 1 + 1) cap') (.int .i64 (fu - 1)) (.slice oa on oc) (.int .i64 0) (.int .i64 0)
                rw [IV.out]
                refine bodyPost_ret (v := .agg #[.slice (some ⟨g', 0, none⟩) (nf + 1 + 1) cap', .int .i64 (fu - 1), .slice oa on oc, .int .i64 0, .int .i64 0]) (by simp [results, Tryz.results30, go_sem, c0, c1, c2, c3, c4]) rfl ?_
                have hA : afterV ps fs xn y' ll' sl' (fu - 1) out true (f : Int) args r v false 0 = (fs ++ [((xn : Int), y', ll', sl')] ++ [((f : Int), 0, freshL nl args, [])], fu - 1, out, 0, 0) := by unfold afterV; rw [if_neg (by simp), if_neg (by simp), if_pos rfl, Int.toNat_natCast, HL.out.1, Int.toNat_natCast]
                rw [hA]
                exact ⟨_, _, _, _, _, _, _, rfl, F.1, F.2⟩
              exact AllReadyH.nil
            exact AllReadyH.nil
          exact AllReadyH.nil
        refine AllReadyH.cons (o := ⟨_, _, _, _, _, _⟩) rfl (fun K hK => ?_) ?_
        · skip
          go_simp
          refine hK.out _ _ ?_ (fun hH11 => ?_)
          · (try dsimp only); first | with_reducible exact S6.out | with_reducible exact S7.out _ | (refine SA.out _ ?_; (repeat (first | with_reducible exact BC | with_reducible refine pDrew ?_ | with_reducible refine pAlloc ?_ | with_reducible refine pSet (by first | exact Nat.le_refl _ | omega) ?_)))
          clear hK K hH6
          try simp only [Act.put, List.setIfInBounds_toArray, List.set_cons_zero, List.set_cons_succ]
          refine wpAnyH_ready (rs := [1]) (by kernel_rfl) (by simp) ?_
          refine AllReadyH.cons (o := ⟨_, _, _, _, _, _⟩) rfl (fun K hK => ?_) ?_
          · skip
            go_simp
            refine hK.out _ _ ?_ (fun hH12 => ?_)
            · (try dsimp only); first | with_reducible exact S6.out | with_reducible exact S7.out _ | (refine SA.out _ ?_; (repeat (first | with_reducible exact BC | with_reducible refine pDrew ?_ | with_reducible refine pAlloc ?_ | with_reducible refine pSet (by first | exact Nat.le_refl _ | omega) ?_)))
            clear hK K hH11
            try simp only [Act.put, List.setIfInBounds_toArray, List.set_cons_zero, List.set_cons_succ]
            refine wpAnyH_ready (rs := [9]) (by kernel_rfl) (by simp) ?_
            refine AllReadyH.cons (o := ⟨_, _, _, _, _, _⟩) rfl (fun K hK => ?_) ?_
            · skip
              refine step_append_lies _ rfl (.tmp 54) (.tmp 61) 25 rfl base 51 i0 (.agg #[.int .i64 0, .int .i64 0, .slice none 0 0, .slice none 0 0]) 4 64 Tryz.underlying25 hi hz0 hz1 hz2 rfl (by decide) (.slice (some ⟨g, 0, none⟩) (nf + 1) cap) (nf + 1) (flat4 (t ++ [((xn : Int), y', lv1, sv1)])) (by simp [Act.eval]) OW.out ⟨w1.heap.size, 0, none⟩ 1 1 [.int .i64 (f : Int), .int .i64 0, .slice la ln lc, .slice none 0 0] (by simp [Act.eval]) rfl (news_of rfl _ 51) (by intro u hu; simp at hu; rcases hu with rfl | rfl | rfl | rfl <;> rfl) (by decide) (by have := HDP.out; unfold maxLen; omega) (by have := HDP.out; omega) (by simp; have := HB.out; omega) (w1.heap.size + 1) (by simp) ?_; intro g' cap' w6 ho6 hg6 hat hlt6; have f6 : Frm (fun b => (Value.slice (some ⟨g, 0, none⟩) (nf + 1) cap).ownBlock = some b) (w1.alloc (.cells #[.int .i64 (f : Int), .int .i64 0, .slice la ln lc, .slice none 0 0] 51)) w6 := Frm.of_grown hg6 (fun k hk => hk); have hs6 := f6.heap SA5.out (fun e => own_ne OW.out SA5.out (by decide) e); have hr6 := f6.heap RA5.out (fun e => own_ne OW.out RA5.out (by decide) e); obtain ⟨q0, sg0⟩ := cell_of_heap (j := 0) (v := .slice (some ⟨g, 0, none⟩) (fs.length + 1) cap) hs6 rfl; rw [HNF.out] at q0; have q1 := (cell_of_heap (j := 1) (v := .int .i64 (fu - 1)) hs6 rfl).1; have q2 := (cell_of_heap (j := 2) (v := .slice oa on oc) hs6 rfl).1; have q3 := (cell_of_heap (j := 3) (v := .int .i64 0) hs6 rfl).1; have q4 := (cell_of_heap (j := 4) (v := .int .i64 0) hs6 rfl).1; obtain ⟨c0, g0⟩ := cell_of_heap (j := 0) (v := .slice none 0 0) hr6 rfl; obtain ⟨c1, g1⟩ := cell_of_heap (j := 1) (v := .int .i64 0) hr6 rfl; obtain ⟨c2, g2⟩ := cell_of_heap (j := 2) (v := .slice none 0 0) hr6 rfl; obtain ⟨c3, g3⟩ := cell_of_heap (j := 3) (v := .int .i64 0) hr6 rfl; obtain ⟨c4, g4⟩ := cell_of_heap (j := 4) (v := .int .i64 0) hr6 rfl; have hp6 := f6.heap (heap_kept HP1.out BA.out) (fun e => own_ne OW.out (heap_kept HP1.out BA.out) (by decide) e); have hd6 := f6.heap (heap_kept HD.out BA.out) (fun e => own_ne OW.out (heap_kept HD.out BA.out) (by decide) e); have S6 := hid (And.intro (cell_of_heap (j := 0) (v := .slice pa pn pc) hp6 rfl).1 (And.intro (cell_of_heap (j := 1) (v := .int .i64 (f : Int)) hd6 rfl).1 (cell_of_heap (j := 2) (v := .slice aa an ac) hd6 rfl).1)); have S7 : Hid (∀ x : Value, (w6.setCell ⟨w.heap.size + 1, 0, none⟩ x).cell? ⟨w.heap.size, 0, none⟩ = some (.slice pa pn pc) ∧ (w6.setCell ⟨w.heap.size + 1, 0, none⟩ x).cell? ⟨db, 1, none⟩ = some (.int .i64 (f : Int)) ∧ (w6.setCell ⟨w.heap.size + 1, 0, none⟩ x).cell? ⟨db, 2, none⟩ = some (.slice aa an ac)) := hid (fun x => by have F7 : Frm (fun b => b = w.heap.size + 1) w6 (w6.setCell ⟨w.heap.size + 1, 0, none⟩ x) := Frm.set _ rfl; exact ⟨(cell_of_heap (j := 0) (v := .slice pa pn pc) (F7.heap hp6 (by omega)) rfl).1, (cell_of_heap (j := 1) (v := .int .i64 (f : Int)) (F7.heap hd6 (by omega)) rfl).1, (cell_of_heap (j := 2) (v := .slice aa an ac) (F7.heap hd6 (by omega)) rfl).1⟩); clear hp6 hd6; have SS := hid hs6; have RX := hid hr6; have FX := hid f6; have P := hid (And.intro ho6 hat); clear ho6 hg6 hat hlt6 hs6 hr6 f6
              refine hK.out _ _ ?_ (fun hH13 => ?_)
              · (try dsimp only); first | with_reducible exact S6.out | with_reducible exact S7.out _ | (refine SA.out _ ?_; (repeat (first | with_reducible exact BC | with_reducible refine pDrew ?_ | with_reducible refine pAlloc ?_ | with_reducible refine pSet (by first | exact Nat.le_refl _ | omega) ?_)))
              clear hK K hH12
              try simp only [Act.put, List.setIfInBounds_toArray, List.set_cons_zero, List.set_cons_succ]
              refine wpAnyH_take (i := 10) (oi := ⟨_, _, _, _, _, _⟩) (v := ?_) rfl (by kernel_rfl) (by kernel_rfl) (by kernel_rfl) (fun _ _ _ h => h) (Or.inl ⟨by rfl, ?_⟩) (by exact hH13) ?_
              rotate_left
              · (intro x hx; (try dsimp only at hx); go_simp; try (with_reducible rfl))
              try simp only [Act.put, List.setIfInBounds_toArray, List.set_cons_zero, List.set_cons_succ]
              refine wpAnyH_ready (rs := [11]) (by kernel_rfl) (by simp) ?_
              refine AllReadyH.cons (o := ⟨_, _, _, _, _, _⟩) rfl (fun K hK => ?_) ?_
              · skip
                go_simp
                refine hK.out _ _ ?_ (fun hH14 => ?_)
                · (try dsimp only); first | with_reducible exact S6.out | with_reducible exact S7.out _ | (refine SA.out _ ?_; (repeat (first | with_reducible exact BC | with_reducible refine pDrew ?_ | with_reducible refine pAlloc ?_ | with_reducible refine pSet (by first | exact Nat.le_refl _ | omega) ?_)))
                clear hK K hH13
                try simp only [Act.put, List.setIfInBounds_toArray, List.set_cons_zero, List.set_cons_succ]
                refine wpAnyH_done (by kernel_rfl) ?_ _
                go_wp2_with fail
                obtain ⟨P1, P2⟩ := P.out
                have rl : Row1 (w1.alloc (.cells #[.int .i64 (f : Int), .int .i64 0, .slice la ln lc, .slice none 0 0] 51)) base (.slice la ln lc) (freshL nl args) := Row1.frm ⟨by rw [HLF.out]; have := HL.out.2; omega, owns_base RO.out HB.out⟩ (Frm.of_below (S := fun _ => False) A1.out) (fun _ _ k => k)
                have M6 := M5.out.kept A1.out
                have ms := MSt.snoc (x := (f : Int)) (y := 0) (ll := freshL nl args) (sl := []) (lv := .slice la ln lc) (sv := .slice none 0 0) (B := T1.heap.size) M6 rl (row1_nil _ _) (fun u hu b hb => M1.out.inB u (by simp at hu ⊢; exact .inr hu) b hb) M1.out.hm (fun b hb => (RO.out.lt b hb).1) (fun b hb => by simp [Value.ownBlock] at hb) (v' := .slice (some ⟨g', 0, none⟩) (nf + 1 + 1) cap') (w' := w6) (by rw [show (fs ++ [((xn : Int), y', ll', sl')]).length = nf + 1 by simp [HNF.out]]; exact P1) FX.out (fun b hb => by
                  cases hb
                  rcases P2 with e | e
                  · exact .inl e
                  · right; show _ ≤ g'; rw [e]; simp)
                obtain ⟨m3, z3⟩ := ms.setTy SS.out (by decide) (by decide) 0 (.slice (some ⟨g', 0, none⟩) (nf + 1 + 1) cap')
                have F2 : Frm (fun b => b = w.heap.size + 1) w6 (w6.setCell ⟨w.heap.size + 1, 0, none⟩ (.slice (some ⟨g', 0, none⟩) (nf + 1 + 1) cap')) := Frm.set _ rfl
                have k6 := (KW.out.kept BA.out).frm FX.out (fun b e => by cases e; exact M6.mayG w)
                have F := fin5 m3 (k6.frm F2 (fun b e => .inl (by rw [e]; omega))) (F2.heap RX.out (by omega)) (by decide) (by decide) (by omega) (.slice (some ⟨g', 0, none⟩) (nf + 1 + 1) cap') (.int .i64 (fu - 1)) (.slice oa on oc) (.int .i64 0) (.int .i64 0)
                rw [IV.out]
                refine bodyPost_ret (v := .agg #[.slice (some ⟨g', 0, none⟩) (nf + 1 + 1) cap', .int .i64 (fu - 1), .slice oa on oc, .int .i64 0, .int .i64 0]) (by simp [results, Tryz.results30, go_sem, c0, c1, c2, c3, c4]) rfl ?_
                have hA : afterV ps fs xn y' ll' sl' (fu - 1) out true (f : Int) args r v false 0 = (fs ++ [((xn : Int), y', ll', sl')] ++ [((f : Int), 0, freshL nl args, [])], fu - 1, out, 0, 0) := by unfold afterV; rw [if_neg (by simp), if_neg (by simp), if_pos rfl, Int.toNat_natCast, HL.out.1, Int.toNat_natCast]
                rw [hA]
                exact ⟨_, _, _, _, _, _, _, rfl, F.1, F.2⟩
              exact AllReadyH.nil
            exact AllReadyH.nil
          exact AllReadyH.nil
        exact AllReadyH.nil
      exact AllReadyH.nil
    · rcases List.eq_nil_or_concat fs with rfl | ⟨fs0, p0', hfs⟩
      · obtain rfl : nf = 0 := by have := HNF.out; simpa using this.symm
        have F2 : Frm (fun b => b = w.heap.size + 1) T1 (T1.setCell ⟨w.heap.size + 1, 0, none⟩ (.slice (some ⟨g, 0, none⟩) 0 cap)) := Frm.set _ rfl
        have MS := hid (M1.out.over.setTy HS1.out (by decide) (by decide) 0 (.slice (some ⟨g, 0, none⟩) 0 cap)).1
        have KS := hid (KW.out.frm F2 (fun b e => .inl (by rw [e]; omega)))
        have RS := hid (F2.heap HR1.out (by omega))
        clear F2
        go_wp2_with fail
        refine (refOverN_any _ _ _ _ _ _ _ 0 0 1 v _).mono ?_
        rintro e w1 ⟨rfl, b1⟩
        have RX := hid (heap_kept RS.out b1)
        have B1 := hid b1
        clear r0 r1 r2 r3 r4 rf0 rf1 rf2 rf3 rf4 s0 s1 s2 s3 s4 d0 d1 d2 d3 d4 d5 d6 p0 b1
        obtain ⟨c0, g0⟩ := cell_of_heap (j := 0) RX.out rfl
        obtain ⟨c1, g1⟩ := cell_of_heap (j := 1) RX.out rfl
        obtain ⟨c2, g2⟩ := cell_of_heap (j := 2) RX.out rfl
        obtain ⟨c3, g3⟩ := cell_of_heap (j := 3) RX.out rfl
        obtain ⟨c4, g4⟩ := cell_of_heap (j := 4) RX.out rfl
        go_wp2_with fail
        have F := fin5 (MS.out.kept B1.out) (KS.out.kept B1.out) RX.out (by decide) (by decide) (by omega) (.slice none 0 0) (.int .i64 (fu - 1)) (.slice oa on oc) (.int .i64 1) (.int .i64 v)
        rw [IV.out]
        refine bodyPost_ret (v := .agg #[.slice none 0 0, .int .i64 (fu - 1), .slice oa on oc, .int .i64 1, .int .i64 v]) (by simp [results, Tryz.results30, go_sem, c0, c1, c2, c3, c4]) rfl ?_
        have hA : afterV ps [] xn y' ll' sl' (fu - 1) out false fn args true v false 0 = ([], fu - 1, out, 1, v) := by simp [afterV, retV]
        rw [hA]
        exact ⟨_, _, _, _, _, _, _, rfl, F.1, F.2⟩
      · obtain ⟨x0, y0, l0, sl0⟩ := p0'
        have hfs' : fs = fs0 ++ [(x0, y0, l0, sl0)] := by simpa using hfs
        clear hfs
        obtain ⟨n0, hn0⟩ : ∃ n0, fs0.length = n0 := ⟨_, rfl⟩
        have hnf1 : nf = n0 + 1 := by have := HNF.out; rw [hfs'] at this; simp at this; omega
        have hl0 : sl0.length ≤ 100 := by have := OK.out.2.1 (x0, y0, l0, sl0) (by rw [hfs']; simp); simp at this; omega
        have hcap : nf + 1 ≤ cap := by
          rcases M1.out.own'.2 with ⟨e0, _⟩ | ⟨_, _, _, e0, _, _, h3, _⟩
          · cases e0
          · cases e0; have := HNF.out; omega
        have hbs : base ≤ T1.heap.size := by have := KV.out.size; have := OK.out.2.2.2.1; have := Q.out.2.1; omega
        have mp := M1.out.pop
        rw [hfs'] at mp
        obtain ⟨t0, lv0, sv0, g', cap', et, ht0, eg⟩ := mp.top
        rw [et, show (fs0 ++ [(x0, y0, l0, sl0)]).length = fs0.length + 1 by simp] at mp
        obtain ⟨T2, hT2⟩ : ∃ T2 : World, T2 = T1.setCell ⟨w.heap.size + 1, 0, none⟩ (.slice (some ⟨g, 0, none⟩) nf cap) := ⟨_, rfl⟩
        have F2 : Frm (fun b => b = w.heap.size + 1) T1 T2 := by rw [hT2]; exact Frm.set _ rfl
        obtain ⟨m2, z2⟩ := mp.setTy HS1.out (by decide) (by decide) 0 (.slice (some ⟨g, 0, none⟩) nf cap)
        rw [← hT2] at m2 z2
        have m2d := m2.kept (Below.drew (Below.refl T2.heap.size T2))
        have hS2 : T2.drew.heap[w.heap.size + 1]? = some (.cells #[.slice (some ⟨g, 0, none⟩) nf cap, .int .i64 (fu - 1), .slice oa on oc, .int .i64 0, .int .i64 0] 28) := z2
        have hR2 : T2.drew.heap[w.heap.size + 2]? = _ := F2.heap HR1.out (by omega)
        have hD2 : T2.drew.heap[db]? = _ := F2.heap HD.out (by omega)
        have KS := (KW.out.frm F2 (fun b e => .inl (by rw [e]; omega))).kept (Below.drew (Below.refl T2.heap.size T2))
        have hb2 : base ≤ T2.drew.heap.size := Nat.le_trans hbs F2.size
        have TY : ∀ i, (i = g ∨ sv0.ownBlock = some i) → ∃ cur e z, T2.drew.heap[i]? = some (.cells cur e z) ∧ e ≠ 28 := fun i hi => by
          rcases hi with rfl | e
          · obtain ⟨cur, z, h⟩ := m2d.gTy; exact ⟨cur, _, z, h, by decide⟩
          · obtain ⟨_, cur, z, h⟩ := m2d.rTy (u := sv0) (by simp [rowsR]) e; exact ⟨cur, _, z, h, by decide⟩
        have MY : ∀ b, (b = g ∨ sv0.ownBlock = some b) → May base w T2.drew b := fun b hb => by
          rcases hb with rfl | e
          · exact m2d.mayG w
          · exact m2d.mayR w (u := sv0) (by simp [rowsR]) e
        have PU := refPush_any v _ m2d hl0 hb2
        rw [hn0] at PU
        have e0 : T2.drew.cell? ⟨w.heap.size + 1, 0, none⟩ = some (.slice (some ⟨g, 0, none⟩) nf cap) := (cell_of_heap (j := 0) hS2 rfl).1
        have e4 : T2.drew.cell? ⟨db, 4, none⟩ = some (.int .i64 v) := (cell_of_heap (j := 4) hD2 rfl).1
        have XS := hid hS2
        have XR := hid hR2
        have XT := hid TY
        have XM := hid MY
        have XK := hid KS
        have XP := hid PU
        have EF := hid hfs'
        have EN := hid hn0
        have EL := hid hl0
        have XN := hid hnf1
        have hnz : ((nf : Int) == 0) = false := by simp; omega
        have hnz' : (nf == 0) = false := by simp; omega
        have hnz'' : ¬ nf = 0 := by omega
        have hwr : IntKind.i64.wrap ((nf : Int) - 1) = (n0 : Int) := by rw [IntKind.wrap_i64]; omega
        have hnN : (n0 : Int) < (nf : Int) := by omega
        have hN8 : (nf : Int) ≤ 12 := by omega
        have hN1 : (1 : Int) ≤ (nf : Int) := by omega
        have n00 : (0 : Int) ≤ (n0 : Int) := by omega
        have hn0f : n0 < nf := by omega
        clear mp et ht0 eg F2 m2 z2 m2d hS2 hR2 hD2 KS TY MY PU hfs' hn0 hl0 hnf1
        go_wp2_with fail
        rw [← hT2]
        clear hT2
        clear s0 s1 s2 s3 s4 sf0 sf2 r0 r1 r2 r3 r4 rf0 rf1 rf2 rf3 rf4 d0 d1 d2 d3 d4 d5 d6 p0
        go_region_with (go_at_call 58; refine (XP.out).mono ?_; rintro e w1 ⟨rfl, hf, sv2, m3⟩; have hs6 := box_stays hf XS.out XT.out; have hr6 := box_stays hf XR.out XT.out; have q0 := (cell_of_heap (j := 0) hs6 rfl).1; have q1 := (cell_of_heap (j := 1) hs6 rfl).1; have q2 := (cell_of_heap (j := 2) hs6 rfl).1; have q3 := (cell_of_heap (j := 3) hs6 rfl).1; have q4 := (cell_of_heap (j := 4) hs6 rfl).1; obtain ⟨c0, g0⟩ := cell_of_heap (j := 0) (v := .slice none 0 0) hr6 rfl; obtain ⟨c1, g1⟩ := cell_of_heap (j := 1) (v := .int .i64 0) hr6 rfl; obtain ⟨c2, g2⟩ := cell_of_heap (j := 2) (v := .slice none 0 0) hr6 rfl; obtain ⟨c3, g3⟩ := cell_of_heap (j := 3) (v := .int .i64 0) hr6 rfl; obtain ⟨c4, g4⟩ := cell_of_heap (j := 4) (v := .int .i64 0) hr6 rfl; have RX := hid hr6; have K3 := hid (XK.out.frm hf XM.out); have M3 := hid m3; clear hs6 hr6 hf m3)
        all_goals
          go_wp2_with fail
          have F := fin5 M3.out K3.out RX.out (by decide) (by decide) (by omega) (.slice (some ⟨g, 0, none⟩) nf cap) (.int .i64 (fu - 1)) (.slice oa on oc) (.int .i64 0) (.int .i64 0)
          rw [IV.out]
          refine bodyPost_ret (v := .agg #[.slice (some ⟨g, 0, none⟩) nf cap, .int .i64 (fu - 1), .slice oa on oc, .int .i64 0, .int .i64 0]) (by simp [results, Tryz.results30, go_sem, c0, c1, c2, c3, c4]) rfl ?_
          have hA : afterV ps fs xn y' ll' sl' (fu - 1) out false fn args true v false 0 = (fs0 ++ [(x0, y0, l0, sl0 ++ [v])], fu - 1, out, 0, 0) := by rw [EF.out]; simp [afterV, retV]
          rw [hA]
          rw [← XN.out] at F
          exact ⟨_, _, _, _, _, _, _, rfl, F.1, F.2⟩
    · go_wp2_with fail
      have F := fin5 M1.out KW.out HR1.out (by decide) (by decide) (by omega) (.slice (some ⟨g, 0, none⟩) (nf + 1) cap) (.int .i64 (fu - 1)) (.slice oa on oc) (.int .i64 0) (.int .i64 0)
      rw [IV.out]
      refine bodyPost_ret (v := .agg #[.slice (some ⟨g, 0, none⟩) (nf + 1) cap, .int .i64 (fu - 1), .slice oa on oc, .int .i64 0, .int .i64 0]) (by simp [results, Tryz.results30, go_sem, r0, r1, r2, r3, r4]) rfl ?_
      have hA : afterV ps fs xn y' ll' sl' (fu - 1) out false fn args false v false 0 = (fs ++ [((xn : Int), y', ll', sl')], fu - 1, out, 0, 0) := by simp [afterV]
      rw [hA]
      exact ⟨_, _, _, _, _, _, _, rfl, by rw [← HNF.out]; rw [← HNF.out] at F; exact F.1, F.2⟩

end Go.Proofs.YtcngmkbgcfhmdaaGreatDoor

namespace Go.Proofs.YtcngmkbgcfhmdaaGreatDoor
open Go.RowKit
set_option linter.unusedVariables false

theorem OPost.mono {base mb : Nat} {W : World} {S S' : St} {e : Ending} {w' : World} (h : OPost base mb W S e w') (hs : S = S') : OPost base mb W S' e w' := hs ▸ h

set_option maxHeartbeats 4000000 in
theorem refOnce_any {base mb : Nat} {t : List U4} {ps : List Fn} (pa : Option Addr) (pn pc : Nat) (fa : Option Addr) (fn fc : Nat) (fs : List Fr) (fu : Int) (oa : Option Addr) (on oc : Nat) (out : List Int) (dn vl : Int) (hs : stateB ps (fs, fu, out, dn, vl) = true) (w : World) (m : MSt w base mb (.slice fa fn fc) t (.slice oa on oc) fs out) {w0 : World} (h0 : Below w0.heap.size w0 w) (hb0 : w0.heap.size ≤ base) (hp0 : Fns w0 pa pn pc ps) (hsz : base ≤ w.heap.size) :
    Calls Tryz.prog 30 #[.agg #[.slice pa pn pc], .agg #[.slice fa fn fc, .int .i64 fu, .slice oa on oc, .int .i64 dn, .int .i64 vl]] w fun e w' => OPost base mb w (stepV ps (fs, fu, out, dn, vl)) e w' := by
  by_cases hd : dn = 0
  · subst hd
    obtain ⟨hv, hfu, hn, ho, hcl⟩ := state_parts hs
    have hfb : 0 ≤ fu ∧ fu ≤ 100000 - (out.length : Int) := by simpa [fuelB] using hfu
    obtain ⟨fs0, x, y, ll, sl, e1, e2, ok⟩ := ok_of hs rfl
    simp only [] at e1 e2
    subst e1
    subst e2
    by_cases hf : fu = 0
    · subst hf
      exact (refOnce_fuel fa fn fc _ oa on oc out 0 pa pn pc w m).mono (fun e w' h => h.mono (by simp [stepV]))
    · rw [stepV_top hf]
      obtain ⟨t0, lv, sv, g, cap, rfl, ht0, ev⟩ := m.top
      cases ev
      have hst := calls_stk hv (callsB_iff.2 hcl)
      obtain ⟨xn, rfl⟩ : ∃ n : Nat, x = n := ⟨x.toNat, by have := ok.fx; omega⟩
      obtain ⟨yn, rfl⟩ : ∃ n : Nat, y = n := ⟨y.toNat, by have := ok.py; omega⟩
      exact refOnce_run pa pn pc oa on oc xn yn _ _ fu (by omega) (by omega) ok hst (by omega) w m h0 hb0 hp0 hsz
  · exact (refOnce_stay fa fn fc fs fu oa on oc out dn vl hd pa pn pc w m).mono (fun e w' h => h.mono (by simp [stepV, hd]))

end Go.Proofs.YtcngmkbgcfhmdaaGreatDoor

namespace Go.Proofs.YtcngmkbgcfhmdaaGreatDoor
open Go.RowKit
set_option linter.unusedVariables false

theorem far5 {w : World} {b o r : Nat} {v : Value} (h : w.cell? ⟨b, o, none⟩ = some v) (hb : b ≠ r) (v0 v1 v2 v3 v4 : Value) : (((((w.setCell ⟨r, 0, none⟩ v0).setCell ⟨r, 1, none⟩ v1).setCell ⟨r, 2, none⟩ v2).setCell ⟨r, 3, none⟩ v3).setCell ⟨r, 4, none⟩ v4).cell? ⟨b, o, none⟩ = some v :=
  cell_set_far (cell_set_far (cell_set_far (cell_set_far (cell_set_far h hb) hb) hb) hb) hb
set_option maxRecDepth 100000 in
set_option maxHeartbeats 8000000 in
theorem refStep_any (pa : Option Addr) (pn pc : Nat) (ps : List Fn) (fa : Option Addr) (fn fc : Nat) (fs : List Fr) (fu : Int) (oa : Option Addr) (on oc : Nat) (os : List Int) (dn vl : Int) (w : World) (hp : Fns w pa pn pc ps) (hf : Frs w fa fn fc fs) (ho : Ints w oa on oc os) :
    Calls Tryz.prog 9 #[.agg #[.slice pa pn pc], .agg #[.slice fa fn fc, .int .i64 fu, .slice oa on oc, .int .i64 dn, .int .i64 vl]] w fun e w' => ∃ va vn vc oa' on' oc', e = .returned (.tuple #[.agg #[.slice va vn vc, .int .i64 (stepS ps (fs, fu, os, dn, vl)).2.1, .slice oa' on' oc', .int .i64 (stepS ps (fs, fu, os, dn, vl)).2.2.2.1, .int .i64 (stepS ps (fs, fu, os, dn, vl)).2.2.2.2], .int .i64 (stepE ps (fs, fu, os, dn, vl))]) ∧
      OwnFrs 3 51 w' w.heap.size (.slice va vn vc) (stepS ps (fs, fu, os, dn, vl)).1 ∧ Row1 w' w.heap.size (.slice oa' on' oc') (stepS ps (fs, fu, os, dn, vl)).2.2.1 ∧ Below w.heap.size w w' := by
  have HP := hid hp
  have HF := hid hf
  have HO := hid ho
  have hfr := hf.room
  have hfc := hf.cap
  have hor := ho.room
  have hoc := ho.cap
  have hpr := hp.room
  have hpc := hp.cap
  clear hp hf ho
  generalize hS : stepS ps (fs, fu, os, dn, vl) = S
  generalize hE : stepE ps (fs, fu, os, dn, vl) = EE
  have HS := hid hS
  have HE := hid hE
  clear hS hE
  have W3 : Hid (∃ w3 : World, w3 = ((w.alloc (.cells #[.slice pa pn pc] 24)).alloc (.cells #[.slice fa fn fc, .int .i64 fu, .slice oa on oc, .int .i64 dn, .int .i64 vl] 28)).alloc (.cells #[.slice none 0 0, .int .i64 0, .slice none 0 0, .int .i64 0, .int .i64 0] 28)) := hid ⟨_, rfl⟩
  obtain ⟨w3, hw3⟩ := W3.out
  have hs3 : w3.heap.size = w.heap.size + 3 := by rw [hw3]; simp
  have B3 : Hid (Below w.heap.size w w3) := hid (by rw [hw3]; exact Below.alloc (Below.alloc (Below.alloc (Below.refl _ _) (Nat.le_refl _) _) (by simp) _) (by simp; omega) _)
  have Z3 : Hid (Z5 w3 (w.heap.size + 1 + 1)) := hid (by rw [hw3]; exact ⟨by simp [go_sem], by simp [go_sem], by simp [go_sem], by simp [go_sem], by simp [go_sem], by simp [go_sem], by simp [go_sem], by simp [go_sem], by simp [go_sem], by simp [go_sem]⟩)
  have S3 : Hid (SX w3 (w.heap.size + 1) (.slice fa fn fc) fu (.slice oa on oc) dn vl) := hid (by rw [hw3]; exact ⟨by simp [go_sem], by simp [go_sem], by simp [go_sem], by simp [go_sem], by simp [go_sem], by simp [go_sem], by simp [go_sem]⟩)
  have P3 : Hid (w3.cell? ⟨w.heap.size, 0, none⟩ = some (.slice pa pn pc)) := hid (by rw [hw3]; simp [go_sem])
  have E3 := hid hw3
  clear hw3 W3
  go_enter Tryz.func9, Tryz.ntmps9
  go_wp2_with fail
  refine calls_inW (U := w3) (by rw [E3.out]) ?_
  refine (refStateMay_any _ _ _ ps _ _ _ fs fu _ _ _ os dn vl _ (HP.out.kept B3.out) (HF.out.kept B3.out) (HO.out.kept B3.out)).mono ?_
  rintro e w1 ⟨rfl, b1⟩
  have B1 := hid (kt B3.out b1)
  have Z1 := hid (Z3.out.kept b1)
  have S1 := hid (S3.out.kept b1)
  have P1 := hid (kept_cell b1 P3.out)
  have hs1 : w.heap.size + 3 ≤ w1.heap.size := by have := b1.size; omega
  clear b1 E3 Z3 S3 P3 hs3 B3
  cases hsb : stateB ps (fs, fu, os, dn, vl)
  · obtain ⟨e1, e2⟩ := stepS_no hsb
    obtain rfl : S = noSt := by rw [← HS.out, e1]
    obtain rfl : EE = 700 := by rw [← HE.out, e2]
    obtain ⟨c0, c1, c2, c3, c4, f0, f1, f2, f3, f4⟩ := Z1.out
    clear e1 e2
    go_wp2_with fail
    refine bodyPost_ret (v := .tuple #[.agg #[.slice none 0 0, .int .i64 0, .slice none 0 0, .int .i64 0, .int .i64 0], .int .i64 700]) (by simp [results, Tryz.results9, go_sem, c0, c1, c2, c3, c4]) rfl ⟨_, _, _, _, _, _, rfl, OwnFrs.nil _ _ _ _, ⟨by simp [noSt], World.ownsRow_nil _ _ _ _⟩, below5 B1.out (by omega) _ _ _ _ _⟩
  obtain ⟨e1, e2⟩ := stepS_yes hsb
  obtain rfl : EE = 0 := by rw [← HE.out, e2]
  have HV : Hid (stepV ps (fs, fu, os, dn, vl) = S) := hid (by rw [← e1]; exact HS.out)
  have HBB := hid hsb
  have HF1 := hid (HF.out.kept B1.out)
  have HO1 := hid (HO.out.kept B1.out)
  have HP1 := hid (HP.out.kept B1.out)
  have SA : Hid (∀ w', Below w1.heap.size w1 w' → (w'.cell? ⟨w.heap.size, 0, none⟩ = some (.slice pa pn pc) ∧ w'.cell? ⟨w.heap.size + 1, 0, none⟩ = some (.slice fa fn fc) ∧ w'.cell? ⟨w.heap.size + 1, 1, none⟩ = some (.int .i64 fu) ∧ w'.cell? ⟨w.heap.size + 1, 2, none⟩ = some (.slice oa on oc) ∧ w'.cell? ⟨w.heap.size + 1, 3, none⟩ = some (.int .i64 dn) ∧ w'.cell? ⟨w.heap.size + 1, 4, none⟩ = some (.int .i64 vl))) := hid (fun w' b => ⟨kept_cell b P1.out, kept_cell b S1.out.c0, kept_cell b S1.out.c1, kept_cell b S1.out.c2, kept_cell b S1.out.c3, kept_cell b S1.out.c4⟩)
  have BC : Below w1.heap.size w1 w1 := Below.refl _ _
  clear e1 e2 hsb HE HS
  go_wp2_with fail
  go_region_held3 (fun w' => w'.cell? ⟨w.heap.size, 0, none⟩ = some (.slice pa pn pc) ∧ w'.cell? ⟨w.heap.size + 1, 0, none⟩ = some (.slice fa fn fc) ∧ w'.cell? ⟨w.heap.size + 1, 1, none⟩ = some (.int .i64 fu) ∧ w'.cell? ⟨w.heap.size + 1, 2, none⟩ = some (.slice oa on oc) ∧ w'.cell? ⟨w.heap.size + 1, 3, none⟩ = some (.int .i64 dn) ∧ w'.cell? ⟨w.heap.size + 1, 4, none⟩ = some (.int .i64 vl)) (first | (refine SA.out _ ?_; (repeat (first | with_reducible exact BC | with_reducible refine pDrew ?_ | with_reducible refine pAlloc ?_ | with_reducible refine pSet (by first | exact Nat.le_refl _ | omega) ?_)); done) | (have q := SA.out _ BC; exact ⟨far5 q.1 (by omega) _ _ _ _ _, far5 q.2.1 (by omega) _ _ _ _ _, far5 q.2.2.1 (by omega) _ _ _ _ _, far5 q.2.2.2.1 (by omega) _ _ _ _ _, far5 q.2.2.2.2.1 (by omega) _ _ _ _ _, far5 q.2.2.2.2.2 (by omega) _ _ _ _ _⟩))
    (first
      | (go_at_call 31; refine (refCopy_any _ _ _ fs fu _ _ _ os dn vl _ (HF1.out.kept ?h1) (HO1.out.kept ?h2)).mono ?_; (case h1 => (repeat (first | with_reducible exact BC | with_reducible refine pDrew ?_ | with_reducible refine pAlloc ?_ | with_reducible refine pSet (by first | exact Nat.le_refl _ | omega) ?_))); (case h2 => (repeat (first | with_reducible exact BC | with_reducible refine pDrew ?_ | with_reducible refine pAlloc ?_ | with_reducible refine pSet (by first | exact Nat.le_refl _ | omega) ?_))); rintro e w2 ⟨va, vn, vc, t, oa', on', oc', rfl, m2, b2, hz2⟩; replace BC : Below w1.heap.size w1 w2 := kt (by repeat (first | with_reducible exact BC | with_reducible refine pDrew ?_ | with_reducible refine pAlloc ?_ | with_reducible refine pSet (by first | exact Nat.le_refl _ | omega) ?_)) b2; have M2 := hid m2; have HZ2 := hid hz2; clear m2 b2 hz2)
      | (go_at_call 30; refine (refOnce_any (w0 := w1) _ _ _ _ _ _ fs fu _ _ _ os dn vl HBB.out _ M2.out (by repeat (first | with_reducible exact BC | with_reducible refine pDrew ?_ | with_reducible refine pAlloc ?_ | with_reducible refine pSet (by first | exact Nat.le_refl _ | omega) ?_)) (by first | omega | (simp; done) | (simp; omega)) HP1.out HZ2.out).mono ?_; rw [HV.out]; rintro e w3 ⟨xa, xn, xc, ya, yn, yc, t3, rfl, m3, k3⟩; replace BC : Below w1.heap.size w1 w3 := BC.trans ((k3.below HZ2.out).mono (by first | omega | (simp; done) | (simp; omega))); have M3 := hid m3; obtain ⟨d0, d1, d2, d3, d4, f0, f1, f2, f3, f4⟩ := Z1.out.kept BC; clear m3 k3))
  all_goals
    have O6 := hid M3.out.owns
    have B6 := hid (kt B1.out BC)
    go_wp2_with fail
    refine bodyPost_ret (v := .tuple #[.agg #[.slice xa xn xc, .int .i64 S.2.1, .slice ya yn yc, .int .i64 S.2.2.2.1, .int .i64 S.2.2.2.2], .int .i64 0]) (by simp [results, Tryz.results9, go_sem, d0, d1, d2, d3, d4]) rfl ⟨_, _, _, _, _, _, rfl, ?_, ?_, ?_⟩
    · exact (O6.out.1.set5 (by first | omega | (simp; done) | (simp; omega)) _ _ _ _ _).base (by first | omega | (simp; done) | (simp; omega))
    · have o := O6.out.2
      exact ⟨o.1, owns_base (owns_set (owns_set (owns_set (owns_set (owns_set o.2 ⟨w.heap.size + 1 + 1, 0, none⟩ _ (by simp; omega)) ⟨w.heap.size + 1 + 1, 1, none⟩ _ (by simp; omega)) ⟨w.heap.size + 1 + 1, 2, none⟩ _ (by simp; omega)) ⟨w.heap.size + 1 + 1, 3, none⟩ _ (by simp; omega)) ⟨w.heap.size + 1 + 1, 4, none⟩ _ (by simp; omega)) (by first | omega | (simp; done) | (simp; omega))⟩
    · exact below5 B6.out (by omega) _ _ _ _ _

end Go.Proofs.YtcngmkbgcfhmdaaGreatDoor

namespace Go.Proofs.YtcngmkbgcfhmdaaGreatDoor
open Go.RowKit
set_option linter.unusedVariables false

/-- What is so while the document's own Go runs. -/
structure RGo (w : World) (base mb : Nat) (pa : Option Addr) (pn pc : Nat) (ps : List Fn) (s : St) (k : Nat) (wr : World) : Prop where
  ex : ∃ (q : Nat) (fa : Option Addr) (fn fc : Nat) (t : List U4) (oa : Option Addr) (on oc : Nat), q ≤ s.2.1.toNat + 1 ∧ k = s.2.1.toNat + 1 - q ∧ MSt wr base mb (.slice fa fn fc) t (.slice oa on oc) (goV ps q s).1 (goV ps q s).2.2.1 ∧
    wr.heap[w.heap.size + 1]? = some (.cells #[.slice fa fn fc, .int .i64 (goV ps q s).2.1, .slice oa on oc, .int .i64 (goV ps q s).2.2.2.1, .int .i64 (goV ps q s).2.2.2.2] 28)
  hP : wr.heap[w.heap.size]? = some (.cells #[.slice pa pn pc] 24)
  hR : wr.heap[w.heap.size + 2]? = some (.cells #[.int .i64 0, .int .i64 0, .slice none 0 0, .int .i64 0] 55)
  old : Below w.heap.size w wr
  sz : base ≤ wr.heap.size
theorem fin5h {w : World} {base mb rb T : Nat} {v ov : Value} {t : List U4} {fs : List Fr} {out : List Int} {x0 x1 x2 x3 x4 : Value} (m : MSt w base mb v t ov fs out) (hR : w.heap[rb]? = some (.cells #[x0, x1, x2, x3, x4] T)) (h1 : T ≠ 3) (h2 : T ≠ 51) (v0 v1 v2 v3 v4 : Value) :
    MSt (((((w.setCell ⟨rb, 0, none⟩ v0).setCell ⟨rb, 1, none⟩ v1).setCell ⟨rb, 2, none⟩ v2).setCell ⟨rb, 3, none⟩ v3).setCell ⟨rb, 4, none⟩ v4) base mb v t ov fs out ∧
    (((((w.setCell ⟨rb, 0, none⟩ v0).setCell ⟨rb, 1, none⟩ v1).setCell ⟨rb, 2, none⟩ v2).setCell ⟨rb, 3, none⟩ v3).setCell ⟨rb, 4, none⟩ v4).heap[rb]? = some (.cells #[v0, v1, v2, v3, v4] T) ∧
    Frm (fun b => b = rb) w (((((w.setCell ⟨rb, 0, none⟩ v0).setCell ⟨rb, 1, none⟩ v1).setCell ⟨rb, 2, none⟩ v2).setCell ⟨rb, 3, none⟩ v3).setCell ⟨rb, 4, none⟩ v4) := by
  obtain ⟨m1, z1⟩ := m.setTy hR h1 h2 0 v0
  obtain ⟨m2, z2⟩ := m1.setTy z1 h1 h2 1 v1
  obtain ⟨m3, z3⟩ := m2.setTy z2 h1 h2 2 v2
  obtain ⟨m4, z4⟩ := m3.setTy z3 h1 h2 3 v3
  obtain ⟨m5, z5⟩ := m4.setTy z4 h1 h2 4 v4
  exact ⟨m5, z5, fSet rfl (fSet rfl (fSet rfl (fSet rfl (fSet rfl (Frm.refl _ _)))))⟩

set_option maxRecDepth 100000 in
set_option maxHeartbeats 8000000 in
theorem refGo_any (pa : Option Addr) (pn pc : Nat) (ps : List Fn) (fa : Option Addr) (fn fc : Nat) (fs : List Fr) (fu : Int) (oa : Option Addr) (on oc : Nat) (os : List Int) (dn vl : Int) (w : World) (hp : Fns w pa pn pc ps) (hf : Frs w fa fn fc fs) (ho : Ints w oa on oc os) :
    Calls Tryz.prog 20 #[.agg #[.slice pa pn pc], .agg #[.slice fa fn fc, .int .i64 fu, .slice oa on oc, .int .i64 dn, .int .i64 vl]] w fun e w' => ∃ ra rn rc, e = .returned (.tuple #[.agg #[.int .i64 (goR ps (fs, fu, os, dn, vl)).1, .int .i64 (goR ps (fs, fu, os, dn, vl)).2.1, .slice ra rn rc, .int .i64 (goR ps (fs, fu, os, dn, vl)).2.2.2], .int .i64 (goE ps (fs, fu, os, dn, vl))]) ∧
      Row1 w' w.heap.size (.slice ra rn rc) (goR ps (fs, fu, os, dn, vl)).2.2.1 ∧ Below w.heap.size w w' := by
  have HP := hid hp
  have HF := hid hf
  have HO := hid ho
  have hfr := hf.room
  have hfc := hf.cap
  have hor := ho.room
  have hoc := ho.cap
  have hpr := hp.room
  have hpc := hp.cap
  clear hp hf ho
  obtain ⟨⟨Rd, Rv, Ro, Rfu⟩, hR⟩ : ∃ R, goR ps (fs, fu, os, dn, vl) = R := ⟨_, rfl⟩
  obtain ⟨EE, hE⟩ : ∃ E, goE ps (fs, fu, os, dn, vl) = E := ⟨_, rfl⟩
  rw [hR, hE]
  simp only []
  have HR := hid hR
  have HE := hid hE
  clear hR hE
  have W3 : Hid (∃ w3 : World, w3 = ((w.alloc (.cells #[.slice pa pn pc] 24)).alloc (.cells #[.slice fa fn fc, .int .i64 fu, .slice oa on oc, .int .i64 dn, .int .i64 vl] 28)).alloc (.cells #[.int .i64 0, .int .i64 0, .slice none 0 0, .int .i64 0] 55)) := hid ⟨_, rfl⟩
  obtain ⟨w3, hw3⟩ := W3.out
  have hs3 : w3.heap.size = w.heap.size + 3 := by rw [hw3]; simp
  have B3 : Hid (Below w.heap.size w w3) := hid (by rw [hw3]; exact Below.alloc (Below.alloc (Below.alloc (Below.refl _ _) (Nat.le_refl _) _) (by simp) _) (by simp; omega) _)
  have N3 := hid (new3 w (.cells #[.slice pa pn pc] 24) (.cells #[.slice fa fn fc, .int .i64 fu, .slice oa on oc, .int .i64 dn, .int .i64 vl] 28) (.cells #[.int .i64 0, .int .i64 0, .slice none 0 0, .int .i64 0] 55))
  rw [← hw3] at N3
  have E3 := hid hw3
  clear hw3 W3
  go_enter Tryz.func20, Tryz.ntmps20
  go_wp2_with fail
  refine calls_inW (U := w3) (by rw [E3.out]) ?_
  refine (refStateMay_any _ _ _ ps _ _ _ fs fu _ _ _ os dn vl _ (HP.out.kept B3.out) (HF.out.kept B3.out) (HO.out.kept B3.out)).mono ?_
  rintro e w1 ⟨rfl, b1⟩
  have B1 := hid (kt B3.out b1)
  have hP1 := heap_kept N3.out.1 b1
  have hS1 := heap_kept N3.out.2.1 b1
  have hR1 := heap_kept N3.out.2.2 b1
  have HP1 := hid hP1
  have HS1 := hid hS1
  have HR1 := hid hR1
  have hs1 : w.heap.size + 3 ≤ w1.heap.size := by have := b1.size; omega
  clear b1 E3 N3 hs3 B3
  cases hsb : stateB ps (fs, fu, os, dn, vl)
  · obtain ⟨e1, e2⟩ := goR_no hsb
    have e3 : (Rd, Rv, Ro, Rfu) = noRes := by rw [← HR.out, e1]
    cases e3
    obtain rfl : EE = 800 := by rw [← HE.out, e2]
    obtain ⟨c0, f0⟩ := cell_of_heap (j := 0) (v := .int .i64 0) hR1 rfl
    obtain ⟨c1, f1⟩ := cell_of_heap (j := 1) (v := .int .i64 0) hR1 rfl
    obtain ⟨c2, f2⟩ := cell_of_heap (j := 2) (v := .slice none 0 0) hR1 rfl
    obtain ⟨c3, f3⟩ := cell_of_heap (j := 3) (v := .int .i64 0) hR1 rfl
    clear e1 e2 hP1 hS1 hR1
    go_wp2_with fail
    refine bodyPost_ret (v := .tuple #[.agg #[.int .i64 0, .int .i64 0, .slice none 0 0, .int .i64 0], .int .i64 800]) (by simp [results, Tryz.results20, go_sem, c0, c1, c2, c3]) rfl ⟨_, _, _, rfl, ⟨by simp, World.ownsRow_nil _ _ _ _⟩, below4 B1.out (by omega) _ _ _ _⟩
  obtain ⟨e1, e2⟩ := goR_yes hsb
  obtain rfl : EE = 0 := by rw [← HE.out, e2]
  have HV : Hid (resV (runV ps (fs, fu, os, dn, vl)) = (Rd, Rv, Ro, Rfu)) := hid (by rw [← e1]; exact HR.out)
  have HB := hid hsb
  have HF1 := hid (HF.out.kept B1.out)
  have HO1 := hid (HO.out.kept B1.out)
  have HQ1 := hid (HP.out.kept B1.out)
  obtain ⟨c0, f0⟩ := cell_of_heap (j := 0) (v := .slice fa fn fc) hS1 rfl
  obtain ⟨c1, f1⟩ := cell_of_heap (j := 1) (v := .int .i64 fu) hS1 rfl
  obtain ⟨c2, f2⟩ := cell_of_heap (j := 2) (v := .slice oa on oc) hS1 rfl
  obtain ⟨c3, f3⟩ := cell_of_heap (j := 3) (v := .int .i64 dn) hS1 rfl
  obtain ⟨c4, f4⟩ := cell_of_heap (j := 4) (v := .int .i64 vl) hS1 rfl
  clear e1 e2 hsb HE HR hP1 hS1 hR1
  go_wp2_with fail
  refine (refCopy_any _ _ _ fs fu _ _ _ os dn vl _ HF1.out HO1.out).mono ?_
  rintro e w2 ⟨va, vn, vc, t, oa', on', oc', rfl, m2, b2, hz2⟩
  have M2 := hid m2
  have B2 := hid b2
  have hS2 := heap_kept HS1.out b2
  have HS2 := hid hS2
  clear c0 f0 c1 f1 c2 f2 c3 f3 c4 f4
  obtain ⟨c0, f0⟩ := cell_of_heap (j := 0) (v := .slice fa fn fc) hS2 rfl
  obtain ⟨c1, f1⟩ := cell_of_heap (j := 1) (v := .int .i64 fu) hS2 rfl
  obtain ⟨c2, f2⟩ := cell_of_heap (j := 2) (v := .slice oa on oc) hS2 rfl
  obtain ⟨c3, f3⟩ := cell_of_heap (j := 3) (v := .int .i64 dn) hS2 rfl
  obtain ⟨c4, f4⟩ := cell_of_heap (j := 4) (v := .int .i64 vl) hS2 rfl
  clear m2 b2 hS2
  go_wp2_with fail
  go_loopg [] (fu.toNat + 1) (fun k wr => RGo w (w1.heap.size + 2) w1.heap.size pa pn pc ps (fs, fu, os, dn, vl) k wr)
  case atStart =>
    have F := fin5h M2.out HS2.out (by decide) (by decide) (.slice va vn vc) (.int .i64 fu) (.slice oa' on' oc') (.int .i64 dn) (.int .i64 vl)
    have OL := kt B1.out B2.out
    refine ⟨⟨0, va, vn, vc, t, oa', on', oc', Nat.zero_le _, rfl, F.1, F.2.1⟩, F.2.2.heap (heap_kept HP1.out B2.out) (by omega), F.2.2.heap (heap_kept HR1.out B2.out) (by omega), ?_, ?_⟩
    · exact below5 OL (by omega) _ _ _ _ _
    · have := F.2.2.size; omega
  case round =>
    clear c0 f0 c1 f1 c2 f2 c3 f3 c4 f4
    obtain ⟨q, ga, gn, gc, u, ha, hn, hc, hq, hk, m, hS⟩ := hrel.ex
    have hsv := goV_keeps q HB.out
    obtain ⟨⟨gf, gfu, go, gd, gv⟩, hG⟩ : ∃ G, goV ps q (fs, fu, os, dn, vl) = G := ⟨_, rfl⟩
    rw [hG] at m hS hsv
    simp only [] at m hS
    have HG := hid hG
    have hP := hrel.hP
    have hR := hrel.hR
    have HPr := hid hP
    have HRr := hid hR
    have HSr := hid hS
    have MM := hid m
    have OLD := hid hrel.old
    have SZ := hid hrel.sz
    have SV := hid hsv
    obtain ⟨p0, _⟩ := cell_of_heap (j := 0) (v := .slice pa pn pc) hP rfl
    obtain ⟨c0, f0⟩ := cell_of_heap (j := 0) (v := .slice ga gn gc) hS rfl
    obtain ⟨c1, f1⟩ := cell_of_heap (j := 1) (v := .int .i64 gfu) hS rfl
    obtain ⟨c2, f2⟩ := cell_of_heap (j := 2) (v := .slice ha hn hc) hS rfl
    obtain ⟨c3, f3⟩ := cell_of_heap (j := 3) (v := .int .i64 gd) hS rfl
    obtain ⟨c4, f4⟩ := cell_of_heap (j := 4) (v := .int .i64 gv) hS rfl
    clear hrel hP hR hS m hsv hG
    by_cases hd : gd = 0
    · subst hd
      have hlt : q < fu.toNat + 1 := by
        rcases Nat.lt_or_ge q (fu.toNat + 1) with h1 | h1
        · exact h1
        · exfalso
          obtain rfl : q = fu.toNat + 1 := by have : q ≤ fu.toNat + 1 := hq; omega
          exact run_over HB.out (by show (goV ps (fu.toNat + 1) (fs, fu, os, dn, vl)).2.2.2.1 = 0; rw [HG.out])
      go_wp2_with fail
      refine (refOnce_any (w0 := w) _ _ _ _ _ _ gf gfu _ _ _ go 0 gv SV.out _ MM.out OLD.out (by omega) HP.out SZ.out).mono ?_
      have hst : goV ps (q + 1) (fs, fu, os, dn, vl) = stepV ps (gf, gfu, go, 0, gv) := by rw [goV_snoc, HG.out]
      obtain ⟨⟨tf, tfu, tt, td, tv⟩, hT⟩ : ∃ T, stepV ps (gf, gfu, go, 0, gv) = T := ⟨_, rfl⟩
      rw [hT]
      rw [hT] at hst
      have HST := hid hst
      clear hT hst c0 f0 c1 f1 c2 f2 c3 f3 c4 f4 p0
      rintro e w3 ⟨xa, xn, xc, ya, yn, yc, t3, rfl, m3, k3⟩
      simp only [] at m3
      have hP3 := k3.typ _ _ _ _ HPr.out (by decide) (by decide)
      have hR3 := k3.typ _ _ _ _ HRr.out (by decide) (by decide)
      have hS3 := k3.typ _ _ _ _ HSr.out (by decide) (by decide)
      have P3 := hid hP3
      have R3 := hid hR3
      have S3 := hid hS3
      have M3 := hid m3
      have O3 := hid (OLD.out.trans ((k3.below SZ.out).mono (by omega)))
      have Z3 := hid (Nat.le_trans SZ.out k3.size)
      obtain ⟨c0, f0⟩ := cell_of_heap (j := 0) (v := .slice ga gn gc) hS3 rfl
      obtain ⟨c1, f1⟩ := cell_of_heap (j := 1) (v := .int .i64 gfu) hS3 rfl
      obtain ⟨c2, f2⟩ := cell_of_heap (j := 2) (v := .slice ha hn hc) hS3 rfl
      obtain ⟨c3, f3⟩ := cell_of_heap (j := 3) (v := .int .i64 0) hS3 rfl
      obtain ⟨c4, f4⟩ := cell_of_heap (j := 4) (v := .int .i64 gv) hS3 rfl
      clear m3 k3 hP3 hR3 hS3
      go_wp2_with fail
      go_roundg (fu.toNat + 1 - (q + 1))
      case rel =>
        have F := fin5h M3.out S3.out (by decide) (by decide) (.slice xa xn xc) (.int .i64 tfu) (.slice ya yn yc) (.int .i64 td) (.int .i64 tv)
        refine ⟨⟨q + 1, xa, xn, xc, t3, ya, yn, yc, by show q + 1 ≤ fu.toNat + 1; omega, rfl, by rw [HST.out]; exact F.1, by rw [HST.out]; exact F.2.1⟩, F.2.2.heap P3.out (by omega), F.2.2.heap R3.out (by omega), below5 O3.out (by omega) _ _ _ _ _, ?_⟩
        have := F.2.2.size
        have := Z3.out
        omega
      case measure => omega
    · have e : goV ps q (fs, fu, os, dn, vl) = (gf, gfu, go, gd, gv) := HG.out
      have e2 := run_at HB.out (n := q) (by rw [e]; exact hd)
      have e3 : (gd, gv, go, gfu) = (Rd, Rv, Ro, Rfu) := by rw [← HV.out, e2, e]; rfl
      cases e3
      have hd' : (Rd == 0) = false := by simpa using hd
      have hR := HRr.out
      obtain ⟨r0, g0⟩ := cell_of_heap (j := 0) (v := .int .i64 0) hR rfl
      obtain ⟨r1, g1⟩ := cell_of_heap (j := 1) (v := .int .i64 0) hR rfl
      obtain ⟨r2, g2⟩ := cell_of_heap (j := 2) (v := .slice none 0 0) hR rfl
      obtain ⟨r3, g3⟩ := cell_of_heap (j := 3) (v := .int .i64 0) hR rfl
      clear hR e e2
      go_wp2_with fail
      refine bodyPost_ret (v := .tuple #[.agg #[.int .i64 Rd, .int .i64 Rv, .slice ha hn hc, .int .i64 Rfu], .int .i64 0]) (by simp [results, Tryz.results20, go_sem, r0, r1, r2, r3]) rfl ⟨_, _, _, rfl, ?_, below4 OLD.out (by omega) _ _ _ _⟩
      have hr := MM.out.rows.1
      exact ⟨hr.1, owns_base (owns_set (owns_set (owns_set (owns_set hr.2 ⟨w.heap.size + 1 + 1, 0, none⟩ _ (by simp; omega)) ⟨w.heap.size + 1 + 1, 1, none⟩ _ (by simp; omega)) ⟨w.heap.size + 1 + 1, 2, none⟩ _ (by simp; omega)) ⟨w.heap.size + 1 + 1, 3, none⟩ _ (by simp; omega)) (by omega)⟩

set_option maxRecDepth 100000 in
set_option maxHeartbeats 8000000 in
theorem refEval_any (pa : Option Addr) (pn pc : Nat) (ps : List Fn) (aa : Option Addr) (an ac : Nat) (args : List Int) (fuel : Int) (w : World) (hp : Fns w pa pn pc ps) (ha : Ints w aa an ac args) :
    Calls Tryz.prog 18 #[.agg #[.slice pa pn pc], .slice aa an ac, .int .i64 fuel] w fun e w' => ∃ ra rn rc, e = .returned (.tuple #[.agg #[.int .i64 (evalR ps args fuel).1, .int .i64 (evalR ps args fuel).2.1, .slice ra rn rc, .int .i64 (evalR ps args fuel).2.2.2], .int .i64 (evalE ps args fuel)]) ∧
      Row1 w' w.heap.size (.slice ra rn rc) (evalR ps args fuel).2.2.1 ∧ Below w.heap.size w w' := by
  have HP := hid hp
  have HA := hid ha
  clear hp ha
  obtain ⟨⟨Rd, Rv, Ro, Rfu⟩, hR⟩ : ∃ R, evalR ps args fuel = R := ⟨_, rfl⟩
  obtain ⟨EE, hE⟩ : ∃ E, evalE ps args fuel = E := ⟨_, rfl⟩
  rw [hR, hE]
  simp only []
  have HR := hid hR
  have HE := hid hE
  clear hR hE
  have W3 : Hid (∃ w3 : World, w3 = (w.alloc (.cells #[.slice pa pn pc] 24)).alloc (.cells #[.int .i64 0, .int .i64 0, .slice none 0 0, .int .i64 0] 55)) := hid ⟨_, rfl⟩
  obtain ⟨w3, hw3⟩ := W3.out
  have hs3 : w3.heap.size = w.heap.size + 2 := by rw [hw3]; simp
  have B3 : Hid (Below w.heap.size w w3) := hid (by rw [hw3]; exact Below.alloc (Below.alloc (Below.refl _ _) (Nat.le_refl _) _) (by simp) _)
  have Z3 : Hid (Zr4 w3 (w.heap.size + 1)) := hid (by rw [hw3]; exact ⟨by simp [go_sem], by simp [go_sem], by simp [go_sem], by simp [go_sem], by simp [go_sem], by simp [go_sem], by simp [go_sem], by simp [go_sem]⟩)
  have P3 : Hid (w3.cell? ⟨w.heap.size, 0, none⟩ = some (.slice pa pn pc)) := hid (by rw [hw3]; simp [go_sem])
  have E3 := hid hw3
  clear hw3 W3
  go_enter Tryz.func18, Tryz.ntmps18
  go_wp2_with fail
  refine calls_inW (U := w3) (by rw [E3.out]) ?_
  refine (refStart_any _ _ _ ps _ _ _ args fuel _ (HP.out.kept B3.out) (HA.out.kept B3.out)).mono ?_
  cases hsb : startB ps args fuel
  · obtain ⟨e1, e2⟩ := evalR_no hsb
    have e3 : (Rd, Rv, Ro, Rfu) = noRes := by rw [← HR.out, e1]
    cases e3
    obtain rfl : EE = 800 := by rw [← HE.out, e2]
    rw [(startB_bad hsb).1, (startB_bad hsb).2]
    simp only [noSt]
    rintro e w1 ⟨v1, rfl, o1, b1⟩
    obtain ⟨va, vn, vc, rfl, _⟩ := o1.reads (by decide)
    have hA1 : Below w1.heap.size w1 (w1.alloc (.cells #[.slice va vn vc, .int .i64 0, .slice none 0 0, .int .i64 0, .int .i64 0] 28)) := Below.alloc (Below.refl _ _) (Nat.le_refl _) _
    obtain ⟨c0, c1, c2, c3, f0, f1, f2, f3⟩ := Z3.out.kept (kt b1 hA1)
    have B1 := hid (kt B3.out (kt b1 hA1))
    have hs1 := b1.size
    clear b1 hA1 o1 e1 e2 hsb
    go_wp2_with fail
    refine bodyPost_ret (v := .tuple #[.agg #[.int .i64 0, .int .i64 0, .slice none 0 0, .int .i64 0], .int .i64 800]) (by simp [results, Tryz.results18, go_sem, c0, c1, c2, c3]) rfl ⟨_, _, _, rfl, ⟨by simp, World.ownsRow_nil _ _ _ _⟩, below4 B1.out (by omega) _ _ _ _⟩
  · obtain ⟨e1, e2⟩ := evalR_yes hsb
    rw [(goR_yes (start_state hsb)).2] at e2
    obtain rfl : EE = 0 := by rw [← HE.out, e2]
    have HG : Hid (goR ps (startV ps args fuel) = (Rd, Rv, Ro, Rfu) ∧ goE ps (startV ps args fuel) = 0) := hid ⟨by rw [← e1]; exact HR.out, (goR_yes (start_state hsb)).2⟩
    rw [(start_yes hsb).1] at HG
    rw [(start_yes hsb).1, (start_yes hsb).2]
    simp only []
    rintro e w1 ⟨v1, rfl, o1, b1⟩
    obtain ⟨va, vn, vc, rfl, h1⟩ := o1.reads (by simp)
    have hA1 : Below w1.heap.size w1 (w1.alloc (.cells #[.slice va vn vc, .int .i64 fuel, .slice none 0 0, .int .i64 0, .int .i64 0] 28)) := Below.alloc (Below.refl _ _) (Nat.le_refl _) _
    have D1 := hid (kt b1 hA1)
    have F1 := hid (h1.kept hA1)
    have B1 := hid (kt B3.out D1.out)
    have Z1 := hid (Z3.out.kept D1.out)
    have p1 := kept_cell D1.out P3.out
    have hs1 := b1.size
    clear b1 hA1 o1 h1 e1 e2 hsb HE HR
    go_wp2_with fail
    refine (refGo_any _ _ _ ps _ _ _ _ fuel none 0 0 [] 0 0 _ (HP.out.kept B1.out) F1.out (Ints.nil _)).mono ?_
    rw [HG.out.1, HG.out.2]
    simp only []
    rintro e w5 ⟨ra, rn, rc, rfl, r5, b5⟩
    obtain ⟨d0, d1, d2, d3, f0, f1, f2, f3⟩ := Z1.out.kept b5
    have B5 := hid (kt B1.out b5)
    have R5 := hid r5
    clear b5 r5 p1
    go_wp2_with fail
    refine bodyPost_ret (v := .tuple #[.agg #[.int .i64 Rd, .int .i64 Rv, .slice ra rn rc, .int .i64 Rfu], .int .i64 0]) (by simp [results, Tryz.results18, go_sem, d0, d1, d2, d3]) rfl ⟨_, _, _, rfl, ⟨R5.out.1, ?_⟩, below4 B5.out (by omega) _ _ _ _⟩
    have r := R5.out.2
    simp only [World.size_alloc] at r
    exact owns_base (owns_set (owns_set (owns_set (owns_set r ⟨w.heap.size + 1, 0, none⟩ _ (by simp; omega)) ⟨w.heap.size + 1, 1, none⟩ _ (by simp; omega)) ⟨w.heap.size + 1, 2, none⟩ _ (by simp; omega)) ⟨w.heap.size + 1, 3, none⟩ _ (by simp; omega)) (by omega)

end Go.Proofs.YtcngmkbgcfhmdaaGreatDoor

namespace Go.Proofs.YtcngmkbgcfhmdaaGreatDoor
open Go.RowKit
set_option linter.unusedVariables false

theorem state_len {ps : List Fn} {s : St} (h : stateB ps s = true) : s.1.length ≤ 12 := by
  have h3 := (state_parts h).2.2.2.1
  unfold outB at h3
  split at h3
  · simp at h3; omega
  · split at h3
    · simp at h3; simp [h3.2]
    · simp at h3; simp [h3.2.2]
theorem stepS_len (ps : List Fn) (s : St) : (stepS ps s).1.length ≤ 12 := by
  unfold stepS
  split
  · rename_i h; exact state_len (step_keeps h)
  · simp [noSt]
theorem Row1.below {w w' : World} {base : Nat} {v : Value} {l : List Int} (h : Row1 w base v l) (hb : Below w.heap.size w w') : Row1 w' base v l := h.frm (Frm.of_below (S := fun _ => False) hb) (fun _ _ k => k)

end Go.Proofs.YtcngmkbgcfhmdaaGreatDoor
