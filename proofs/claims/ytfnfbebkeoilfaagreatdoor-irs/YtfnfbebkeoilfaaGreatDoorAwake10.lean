/- The opening question of the statements over register code (awake) is answered yes; what two returns. -/
import Derived.Test.YtfnfbebkeoilfaaGreatDoorTwo
import Derived.Test.YtfnfbebkeoilfaaGreatDoorRefLowS
import Derived.Test.YtfnfbebkeoilfaaGreatDoorLawCode
import Derived.Test.YtfnfbebkeoilfaaGreatDoorIrH
import Derived.Test.YtfnfbebkeoilfaaGreatDoorIrI
import Derived.Deep.DeepCutAuto
namespace Go.Proofs.YtfnfbebkeoilfaaGreatDoor
open Go.RowKit
set_option linter.unusedVariables false

set_option maxRecDepth 100000 in
set_option maxHeartbeats 2000000 in
theorem two10_any (w : World) : Calls Tryz.prog 14 #[] w fun e w' => ∃ v vn vc, e = .returned (.agg #[.slice v vn vc]) ∧ Fns w' v vn vc twoL ∧ Below w.heap.size w w' := by
  have W : Hid (∃ u : World, u = allocs w [.cells #[.slice (some ⟨w.heap.size + 1 + 1 + 1, 0, none⟩) 2 2] 24, .cells (flat2 oneC).toArray 74, .cells (flat2 addC).toArray 74, .cells #[.int .i64 1, .int .i64 1, .slice (some ⟨w.heap.size + 1, 0, none⟩) 6 6, .int .i64 2, .int .i64 2, .slice (some ⟨w.heap.size + 1 + 1, 0, none⟩) 4 4] 65]) := hid ⟨_, rfl⟩
  obtain ⟨u, hu⟩ := W.out
  have B : Hid (Below w.heap.size w u) := hid (by rw [hu]; exact allocs_below _ _)
  have F : Hid (Fns u (some ⟨w.heap.size + 1 + 1 + 1, 0, none⟩) 2 2 twoL) := hid (by
    rw [hu]
    exact fns_two (a := some ⟨w.heap.size + 1, 0, none⟩) (n := 6) (c := 6) (a' := some ⟨w.heap.size + 2, 0, none⟩) (n' := 4) (c' := 4) (allocs_inss w _ 1 oneC 74 rfl (by decide)) (allocs_inss w _ 2 addC 74 rfl (by decide))
      (allocs_cell w _ 3 _ 65 rfl 0 _ rfl) (allocs_cell w _ 3 _ 65 rfl 1 _ rfl) (allocs_cell w _ 3 _ 65 rfl 2 _ rfl) (allocs_cell w _ 3 _ 65 rfl 3 _ rfl) (allocs_cell w _ 3 _ 65 rfl 4 _ rfl) (allocs_cell w _ 3 _ 65 rfl 5 _ rfl))
  have P0 : Hid (u.cell? ⟨w.heap.size, 0, none⟩ = some (.slice (some ⟨w.heap.size + 1 + 1 + 1, 0, none⟩) 2 2)) := hid (by rw [hu]; exact allocs_cell w _ 0 _ 24 rfl 0 _ rfl)
  have E := hid hu
  clear hu W
  go_enter Tryz.func14, Tryz.ntmps14
  go_wp2_with fail
  refine bodyPost_ret (v := .agg #[.slice (some ⟨w.heap.size + 1 + 1 + 1, 0, none⟩) 2 2]) (by simp [results, Tryz.results14, go_sem]) rfl ⟨_, _, _, rfl, ?_, ?_⟩
  · have h := F.out
    rw [E.out] at h
    exact h
  · have h := B.out
    rw [E.out] at h
    exact h

/-- The second function of two, one for one. -/
def twoC : List IrT := [(2, 2, 0, 0, 0, [], 1, 0, 0), (2, 3, 1, 0, 0, [], 1, 0, 1), (3, 2, 2, 3, 3, [], 1, 0, 2), (8, 0, 2, 0, 0, [], 1, 0, 3)]
theorem two_low : lowS twoL 1 2 addC = twoC := by kernel_rfl
theorem two_ver : verV twoL = 0 := by kernel_rfl
theorem two_str : ∀ (q : Nat) (K A : Int), addC[q]? = some (K, A) → 0 ≤ heightV twoL ((1 : Nat) : Int) (q : Int) ∧ ¬ K = 12 ∧ ¬ K = 13 ∧ ¬ K = 14 := by
  intro q K A h
  have hl : q < 4 := (List.getElem?_eq_some_iff.1 h).1
  have h4 : q = 0 ∨ q = 1 ∨ q = 2 ∨ q = 3 := by omega
  rcases h4 with rfl | rfl | rfl | rfl <;> (cases h; exact ⟨by decide +kernel, by decide, by decide, by decide⟩)
theorem two_may : codeMayB twoL (1, 10, twoC, []) = true := by kernel_rfl
theorem two_bad : codeMayB twoL (1, 10, twoC.set 2 (3, 2, 2, 3, 3, [], -1, 0, 2), []) = false := by kernel_rfl
theorem two_none : codeMayB twoL (0, 0, [], []) = false := by kernel_rfl
def ldC : List IrT := [(5, 0, 0, 0, 2, [], 1, 0, 0), (0, 0, 0, 0, 0, [], 0, 0, 0), (8, 0, 0, 0, 0, [], 0, 0, 0), (8, 0, 0, 0, 0, [], 0, 0, 0)]
theorem ld_leads : irLeads ldC = [true, true, true, true] := by kernel_rfl

/-- Instructions without arguments, as cells. -/
def irCell (x : IrT) : List Value := [.int .i64 x.1, .int .i64 x.2.1, .int .i64 x.2.2.1, .int .i64 x.2.2.2.1, .int .i64 x.2.2.2.2.1, .slice none 0 0, .int .i64 x.2.2.2.2.2.2.1, .int .i64 x.2.2.2.2.2.2.2.1, .int .i64 x.2.2.2.2.2.2.2.2]
theorem irs_lit (w : World) (l : List IrT) (h : ∀ x ∈ l, x.2.2.2.2.2.1 = []) (hl : l.length * 88 ≤ 140737488351232) : Sl layIr 88 (w.alloc (.cells (l.map irCell).flatten.toArray 42)) (some ⟨w.heap.size, 0, none⟩) l.length l.length l := by
  have hlen : ∀ l : List IrT, ((l.map irCell).flatten).length = l.length * 9 := by
    intro l
    induction l with
    | nil => rfl
    | cons x l ih => simp only [List.map_cons, List.flatten_cons, List.length_append, ih, List.length_cons]; simp [irCell]; omega
  have ho := World.ownsRow_lit (e := 42) (size := 9) (base := 0) w ((l.map irCell).flatten).toArray l.length (Nat.zero_le _) (by unfold maxLen; omega) (by simp [hlen l])
  have os : OSl layIr 42 88 (w.alloc (.cells (l.map irCell).flatten.toArray 42)) (fun b => b = w.heap.size) (.slice (some ⟨w.heap.size, 0, none⟩) l.length l.length) l := by
    refine ⟨hl, l.map irCell, fun _ _ => False, by simp, (by have h := ho; simp at h; exact h), fun g hg => ?_, fun _ _ k => k.elim, fun _ _ _ _ k => k.elim, fun i x hx => ?_⟩
    · cases hg; exact ⟨rfl, fun _ k => k⟩
    · have e : (l.map irCell).getD i [] = irCell x := by rw [List.getD_eq_getElem?_getD, List.getElem?_map, hx]; rfl
      rw [e]
      have ha := h x (List.mem_of_getElem? hx)
      obtain ⟨kd, r, ra, rb, k, args, cost, mt, ip⟩ := x
      obtain rfl : args = [] := ha
      exact ir_owns (OSl.nil layI 3 8 _ _)
  obtain ⟨a, n, c, e, hs⟩ := os.reads
  cases e
  exact hs
theorem sl_none {α : Type} {L : Lay α} {bytes : Nat} {w : World} {a : Option Addr} {c : Nat} (h : Sl L bytes w a 0 c []) (w' : World) : Sl L bytes w' a 0 c [] := ⟨h.len, h.cap, h.room, h.nilc, fun k => absurd k (by omega)⟩
theorem bools_lit (w : World) (l : List Bool) (t : TypeId) (hl : l.length * 8 ≤ 140737488351232) : Bools (w.alloc (.cells (bools l).toArray t)) (some ⟨w.heap.size, 0, none⟩) l.length l.length l := by
  have h := World.ownsRow_lit (e := t) (size := 1) (base := 0) w (bools l).toArray l.length (Nat.zero_le _) (by unfold maxLen; omega) (by simp [bools_len])
  obtain ⟨a, n, c, e, hi⟩ := bools_of_owns (l := l) (by simpa using h) hl
  cases e
  exact hi
theorem irs_new {u : World} {H n : Nat} {l : List IrT} {cs : Array Value} (hH : u.heap.size = H) (hcs : cs = (l.map irCell).flatten.toArray) (hn : n = l.length) (h : ∀ x ∈ l, x.2.2.2.2.2.1 = []) (hl : l.length * 88 ≤ 140737488351232) : Sl layIr 88 (u.alloc (.cells cs 42)) (some ⟨H, 0, none⟩) n n l := by
  subst hH
  subst hcs
  subst hn
  exact irs_lit u l h hl
/-- The cells of an instruction of the call's own: its cost may be turned. -/
theorem ir_cost {w : World} {B : Nat → Prop} {cs : List Value} {kd r ra rb k cost mt ip : Int} {args : List Int} (h : layIr.owns w B cs (kd, r, ra, rb, k, args, cost, mt, ip)) (c : Int) : cs[6]? = some (.int .i64 cost) ∧ layIr.owns w B (cs.set 6 (.int .i64 c)) (kd, r, ra, rb, k, args, c, mt, ip) := by
  obtain ⟨c0, d0, A0, B0, rfl, -, k0, -, h0, c1, d1, A1, B1, rfl, -, k1, -, h1, c2, d2, A2, B2, rfl, -, k2, -, h2, c3, d3, A3, B3, rfl, -, k3, -, h3, c4, d4, A4, B4, rfl, -, k4, -, h4, c5, d5, A5, B5, rfl, k5, -, -, ⟨v, h5, o5⟩, c6, d6, A6, B6, rfl, -, -, -, h6, c7, d7, A7, B7, rfl, -, -, -, h7, h8⟩ := h
  have e0 : c0 = [.int .i64 kd] := h0
  have e1 : c1 = [.int .i64 r] := h1
  have e2 : c2 = [.int .i64 ra] := h2
  have e3 : c3 = [.int .i64 rb] := h3
  have e4 : c4 = [.int .i64 k] := h4
  have e6 : c6 = [.int .i64 cost] := h6
  have e7 : c7 = [.int .i64 mt] := h7
  have e8 : d7 = [.int .i64 ip] := h8
  subst e0 e1 e2 e3 e4 h5 e6 e7 e8
  exact ⟨rfl, ir_owns (o5.sub (fun b hb _ => k0 b (k1 b (k2 b (k3 b (k4 b (k5 b hb)))))))⟩

set_option maxRecDepth 100000 in
set_option maxHeartbeats 16000000 in
theorem awake10_any (w : World) (ld : Ld w) : Calls Tryz.prog 13 #[] w fun e w' => e = .returned (.bool true) ∧ Below w.heap.size w w' := by
  have LD := hid ld
  clear ld
  go_enter Tryz.func13, Tryz.ntmps13
  go_wp2_with fail
  refine (two10_any _).mono ?_
  rintro e w1 ⟨pv, pn, pc, rfl, hp, b1⟩
  have HP := hid hp
  have B1 := hid b1
  clear hp b1
  go_upto_region 2 with fail
  refine wp_name ?_
  intro U1 hU1
  have A1 : Hid (Below w1.heap.size w1 U1) := hid (by rw [hU1]; exact Below.alloc (Below.refl _ _) (Nat.le_refl _) _)
  have BU1 := hid (kt B1.out A1.out)
  have p1 : U1.cell? ⟨w1.heap.size, 0, none⟩ = some (.slice pv pn pc) := by rw [hU1]; simp [go_sem]
  have HP1 := hid (HP.out.kept A1.out)
  have Z1 : Hid (w1.heap.size < U1.heap.size) := hid (lt_of_cell p1)
  have z1 := lt_of_cell p1
  clear hU1
  go_wp2_with fail
  have LO : Hid (Calls Tryz.prog 27 #[.agg #[.slice pv pn pc], .int .i64 1] U1 fun e w' => ∃ v, e = .returned (.tuple #[.agg #[.int .i64 1, .int .i64 10, v, .slice none 0 0], .int .i64 0]) ∧ OSl layIr 42 88 w' (fun b => U1.heap.size ≤ b) v twoC ∧ Below U1.heap.size U1 w') := hid (by
    have h := refLowS_any pv pn pc twoL 1 2 2 addC U1 HP1.out two_ver (by decide) rfl two_str
    rw [two_low] at h
    exact h)
  refine LO.out.mono ?_
  rintro e w2 ⟨cv, rfl, o2, b2⟩
  obtain ⟨ca, cn, cc, rfl, s2⟩ := o2.reads
  have hcn : cn = 4 := s2.len
  subst hcn
  have S2 := hid s2
  have B2 := hid b2
  replace p1 := kept_cell b2 p1
  clear s2 o2 b2 z1 LO
  go_upto_region 3 with fail
  refine wp_name ?_
  intro U2 hU2
  have A2 : Hid (Below w2.heap.size w2 U2) := hid (by rw [hU2]; exact Below.alloc (Below.refl _ _) (Nat.le_refl _) _)
  have BU2 := hid (kt B2.out A2.out)
  have d0 : U2.cell? ⟨w2.heap.size, 0, none⟩ = some (.int .i64 1) := by rw [hU2]; simp [go_sem]
  have d1 : U2.cell? ⟨w2.heap.size, 1, none⟩ = some (.int .i64 10) := by rw [hU2]; simp [go_sem]
  have d2 : U2.cell? ⟨w2.heap.size, 2, none⟩ = some (.slice ca 4 cc) := by rw [hU2]; simp [go_sem]
  have d3 : U2.cell? ⟨w2.heap.size, 3, none⟩ = some (.slice none 0 0) := by rw [hU2]; simp [go_sem]
  replace p1 := kept_cell A2.out p1
  have Z2 : Hid (w2.heap.size < U2.heap.size) := hid (lt_of_cell d0)
  clear hU2
  go_wp2_with fail
  refine (copyCode_any _ _ _ _ _ _ twoC [] 1 10 _ (S2.out.kept A2.out) (Sl.nil _ _ _)).mono ?_
  rintro e w3 ⟨bv, bm, s, rfl, o3, m3, b3⟩
  obtain ⟨ma, mn, mc, rfl, sm3⟩ := m3.reads
  have hmn : mn = 0 := sm3.len
  subst hmn
  obtain ⟨ba, bn, bc, rfl, s3⟩ := o3.reads
  have hbn : bn = 4 := s3.len
  subst hbn
  obtain ⟨g, cap, _, _, e3, hcap, hg, hgl, -⟩ := o3.elem 2 (3, 2, 2, 3, 3, [], 1, 0, 2) rfl
  cases e3
  have SM3 := hid sm3
  have O3 := hid o3
  have B3 := hid b3
  have HG := hid (And.intro hg.1 hgl)
  replace p1 := kept_cell b3 p1
  replace d0 := kept_cell b3 d0
  replace d1 := kept_cell b3 d1
  replace d2 := kept_cell b3 d2
  replace d3 := kept_cell b3 d3
  clear b3 sm3 m3 o3 s3 hg hgl
  go_upto_region 4 with fail
  refine wp_name ?_
  intro U3 hU3
  have A3 : Hid (Below w3.heap.size w3 U3) := hid (by rw [hU3]; exact Below.alloc (Below.refl _ _) (Nat.le_refl _) _)
  have f0 : U3.cell? ⟨w3.heap.size, 0, none⟩ = some (.int .i64 1) := by rw [hU3]; simp [go_sem]
  have f1 : U3.cell? ⟨w3.heap.size, 1, none⟩ = some (.int .i64 10) := by rw [hU3]; simp [go_sem]
  have f2 : U3.cell? ⟨w3.heap.size, 2, none⟩ = some (.slice (some ⟨g, 0, none⟩) 4 bc) := by rw [hU3]; simp [go_sem]
  have f3 : U3.cell? ⟨w3.heap.size, 3, none⟩ = some (.slice ma 0 mc) := by rw [hU3]; simp [go_sem]
  replace p1 := kept_cell A3.out p1
  replace d0 := kept_cell A3.out d0
  replace d1 := kept_cell A3.out d1
  replace d2 := kept_cell A3.out d2
  replace d3 := kept_cell A3.out d3
  obtain ⟨g', cap', cs, Bk, e4, -, -, -, hcell, hfz, hown, hBk, -, hput⟩ := (O3.out.kept A3.out).elem 2 (3, 2, 2, 3, 3, [], 1, 0, 2) rfl
  cases e4
  have IC := ir_cost hown (-1)
  have q6 : U3.cell? ⟨g, 2 * 9 + 6, none⟩ = some (.int .i64 1) := hcell 6 _ IC.1
  have qf : U3.frozen? ⟨g, 2 * 9 + 6, none⟩ = false := hfz _
  have OB := hid (hput 6 (.int .i64 (-1)) _ (by decide) IC.2)
  have PD := hid (And.intro p1 (And.intro d0 (And.intro d1 (And.intro d2 d3))))
  have FD := hid (And.intro f0 (And.intro f1 (And.intro f2 f3)))
  clear hcell hfz hown hBk hput IC hU3
  go_upto_region 7 with fail
  refine wp_name ?_
  intro U4 hU4
  have hsz3 : U2.heap.size ≤ w3.heap.size := B3.out.size
  have C4 : Hid (Below U2.heap.size U2 U4) := hid (by rw [hU4]; exact (kt B3.out A3.out).setCell (by show U2.heap.size ≤ g; exact HG.out.1) _)
  have OB4 : Hid (OSl layIr 42 88 U4 (fun b => U2.heap.size ≤ b ∧ b < s) (.slice (some ⟨g, 0, none⟩) 4 bc) (twoC.set 2 (3, 2, 2, 3, 3, [], -1, 0, 2))) := hid (by rw [hU4]; exact OB.out)
  have g1 : w1.heap.size < U1.heap.size := Z1.out
  have g2 : w2.heap.size < U2.heap.size := Z2.out
  have hs12 : U1.heap.size ≤ U2.heap.size := BU2.out.size
  have n1 : U4.cell? ⟨w1.heap.size, 0, none⟩ = some (.slice pv pn pc) := by rw [hU4]; exact cell_set_far PD.out.1 (by show w1.heap.size ≠ g; have := HG.out.1; omega)
  have m0 : U4.cell? ⟨w2.heap.size, 0, none⟩ = some (.int .i64 1) := by rw [hU4]; exact cell_set_far PD.out.2.1 (by show w2.heap.size ≠ g; have := HG.out.1; omega)
  have m1 : U4.cell? ⟨w2.heap.size, 1, none⟩ = some (.int .i64 10) := by rw [hU4]; exact cell_set_far PD.out.2.2.1 (by show w2.heap.size ≠ g; have := HG.out.1; omega)
  have m2 : U4.cell? ⟨w2.heap.size, 2, none⟩ = some (.slice ca 4 cc) := by rw [hU4]; exact cell_set_far PD.out.2.2.2.1 (by show w2.heap.size ≠ g; have := HG.out.1; omega)
  have m3 : U4.cell? ⟨w2.heap.size, 3, none⟩ = some (.slice none 0 0) := by rw [hU4]; exact cell_set_far PD.out.2.2.2.2 (by show w2.heap.size ≠ g; have := HG.out.1; omega)
  have k0 : U4.cell? ⟨w3.heap.size, 0, none⟩ = some (.int .i64 1) := by rw [hU4]; exact cell_set_far FD.out.1 (by show w3.heap.size ≠ g; have := HG.out.2; omega)
  have k1 : U4.cell? ⟨w3.heap.size, 1, none⟩ = some (.int .i64 10) := by rw [hU4]; exact cell_set_far FD.out.2.1 (by show w3.heap.size ≠ g; have := HG.out.2; omega)
  have k2 : U4.cell? ⟨w3.heap.size, 2, none⟩ = some (.slice (some ⟨g, 0, none⟩) 4 bc) := by rw [hU4]; exact cell_set_far FD.out.2.2.1 (by show w3.heap.size ≠ g; have := HG.out.2; omega)
  have k3 : U4.cell? ⟨w3.heap.size, 3, none⟩ = some (.slice ma 0 mc) := by rw [hU4]; exact cell_set_far FD.out.2.2.2 (by show w3.heap.size ≠ g; have := HG.out.2; omega)
  have PU := hid (And.intro n1 (And.intro m0 (And.intro m1 (And.intro m2 m3))))
  have KU := hid (And.intro k0 (And.intro k1 (And.intro k2 k3)))
  have BW4 : Hid (Below w.heap.size w U4) := hid (kt BU1.out (kt BU2.out C4.out))
  have HP4 := hid (HP1.out.kept (kt BU2.out C4.out))
  have S4 := hid (S2.out.kept (kt A2.out C4.out))
  have LD4 := hid (LD.out.up BW4.out)
  obtain ⟨_, _, _, e5, r5⟩ := OB4.out.reads
  cases e5
  have R4 := hid r5
  clear hU4 n1 m0 m1 m2 m3 k0 k1 k2 k3 q6 qf p1 d0 d1 d2 d3 f0 f1 f2 f3 r5
  go_wp2_with fail
  have N5 : Hid (Below U4.heap.size U4 (U4.alloc (.cells #[.int .i64 5, .int .i64 0, .int .i64 0, .int .i64 0, .int .i64 2, .slice none 0 0, .int .i64 1, .int .i64 0, .int .i64 0, .int .i64 0, .int .i64 0, .int .i64 0, .int .i64 0, .int .i64 0, .slice none 0 0, .int .i64 0, .int .i64 0, .int .i64 0, .int .i64 8, .int .i64 0, .int .i64 0, .int .i64 0, .int .i64 0, .slice none 0 0, .int .i64 0, .int .i64 0, .int .i64 0, .int .i64 8, .int .i64 0, .int .i64 0, .int .i64 0, .int .i64 0, .slice none 0 0, .int .i64 0, .int .i64 0, .int .i64 0] 42))) := hid (Below.alloc (Below.refl _ _) (Nat.le_refl _) _)
  refine (irLeaders_any _ _ _ _ _ _ ldC _ _ _ (irs_new rfl rfl rfl (by decide) (by decide))).mono ?_
  rintro e w5 ⟨lv, rfl, ho, b5⟩
  rw [ld_leads] at ho
  obtain ⟨la, ln, lc, rfl, li⟩ := bools_of_owns ho (by decide)
  have C5 : Hid (Below U4.heap.size U4 w5) := hid (kt N5.out b5)
  have LI := hid li
  have n1 := kept_cell C5.out PU.out.1
  have m0 := kept_cell C5.out PU.out.2.1
  have m1 := kept_cell C5.out PU.out.2.2.1
  have m2 := kept_cell C5.out PU.out.2.2.2.1
  have m3 := kept_cell C5.out PU.out.2.2.2.2
  clear ho b5 li
  go_wp2_with fail
  refine (irMay_any _ _ _ _ _ _ _ _ _ twoL twoC [] 1 10 _ (HP4.out.kept C5.out) (S4.out.kept C5.out) (Sl.nil _ _ _) (LD4.out.up C5.out)).mono ?_
  rintro e w6 ⟨rfl, b6⟩
  rw [two_may]
  have C6 : Hid (Below U4.heap.size U4 w6) := hid (kt C5.out b6)
  have LI6 := hid (LI.out.kept b6)
  have n2 := kept_cell C6.out PU.out.1
  have k0 := kept_cell C6.out KU.out.1
  have k1 := kept_cell C6.out KU.out.2.1
  have k2 := kept_cell C6.out KU.out.2.2.1
  have k3 := kept_cell C6.out KU.out.2.2.2
  clear b6 n1 m0 m1 m2 m3
  go_wp2_with fail
  refine (irMay_any _ _ _ _ _ _ _ _ _ twoL (twoC.set 2 (3, 2, 2, 3, 3, [], -1, 0, 2)) [] 1 10 _ (HP4.out.kept C6.out) (R4.out.kept C6.out) (sl_none SM3.out _) (LD4.out.up C6.out)).mono ?_
  rintro e w7 ⟨rfl, b7⟩
  rw [two_bad]
  have C7 : Hid (Below U4.heap.size U4 w7) := hid (kt C6.out b7)
  have LI7 := hid (LI6.out.kept b7)
  have n3 := kept_cell C7.out PU.out.1
  clear b7 n2 k0 k1 k2 k3
  go_wp2_with fail
  refine (irMay_any _ _ _ _ _ _ _ _ _ twoL [] [] 0 0 _ (HP4.out.kept C7.out) (Sl.nil _ _ _) (Sl.nil _ _ _) (LD4.out.up C7.out)).mono ?_
  rintro e w8 ⟨rfl, b8⟩
  rw [two_none]
  have C8 : Hid (Below U4.heap.size U4 w8) := hid (kt C7.out b8)
  have LI8 := hid (LI7.out.kept b8)
  clear b8 n3
  go_wp2_with fail
  have B9 : Hid (Below w8.heap.size w8 (w8.alloc (.cells #[.bool true, .bool true, .bool true, .bool true] 4))) := hid (Below.alloc (Below.refl _ _) (Nat.le_refl _) _)
  have K9 : Hid (Bools (w8.alloc (.cells #[.bool true, .bool true, .bool true, .bool true] 4)) (some ⟨w8.heap.size, 0, none⟩) 4 4 [true, true, true, true]) := hid (bools_lit w8 [true, true, true, true] 4 (by decide))
  refine (sameBools_any _ _ _ _ _ _ [true, true, true, true] [true, true, true, true] _ (LI8.out.kept B9.out) K9.out).mono ?_
  rintro e w9 ⟨rfl, b9⟩
  rw [decide_eq_true rfl]
  have BF : Hid (Below w.heap.size w w9) := hid (kt BW4.out (kt C8.out (kt B9.out b9)))
  clear b9
  go_wp2_with fail
  go_ret
  exact ⟨rfl, BF.out⟩

end Go.Proofs.YtfnfbebkeoilfaaGreatDoor
