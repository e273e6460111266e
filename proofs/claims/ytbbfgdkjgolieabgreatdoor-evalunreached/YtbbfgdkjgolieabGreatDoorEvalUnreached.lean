/- For any program, arguments, integer and integers the law EvalUnreached returns true: code that is never come to turns nothing of what eval.Eval comes to; no conditions. -/
import Derived.Test.YtbbfgdkjgolieabGreatDoorRows
import Derived.WalkKit
import Derived.ProofKit
import Derived.OpenShut
import Derived.ShutString
import Derived.ChangeOld
import Derived.Below
import Derived.Carry
import Derived.Lib.SmallJoins
import Derived.Handy
import Derived.WalkSmall
import Derived.SizedLaws
import Derived.Test.YtbbfgdkjgolieabGreatDoorOpen
import Derived.Test.YtbbfgdkjgolieabGreatDoorOpenInts
import Derived.Test.YtbbfgdkjgolieabGreatDoorLaidOpenV
import Derived.Test.YtbbfgdkjgolieabGreatDoorCards
import Derived.Test.YtbbfgdkjgolieabGreatDoorTie
import Derived.SevenTiedAt
import Derived.LaidMore
import Derived.Stop.Joined
import Derived.Test.YtbbfgdkjgolieabGreatDoorJ8
import Derived.Test.YtbbfgdkjgolieabGreatDoorPlainUnr
import Derived.Test.YtbbfgdkjgolieabGreatDoorRefHeights
import Derived.Test.YtbbfgdkjgolieabGreatDoorCopy2
namespace Go.Proofs.YtbbfgdkjgolieabGreatDoor.evalUnreached
open Go.ChangeShapes Go.WideShapes Go.ChangeAt Go.RowKit
open Go.ChangeMaps (open_string shut_string)
set_option linter.unusedVariables false

theorem own : ownKnob Tryz.prog.godebug = none := by kernel_rfl
theorem laidOut : laidOutB Tryz.prog = true := by kernel_rfl

theorem and4095 (n : Int) : bits .and .i64 n 4095 = n % 4096 := by
  have hm : (BitVec.ofInt 64 4095).toNat = 2 ^ 12 - 1 := by decide
  show IntKind.i64.wrap ((BitVec.ofInt 64 n &&& BitVec.ofInt 64 4095).toNat : Nat) = n % 4096
  rw [BitVec.toNat_and, BitVec.toNat_ofInt, hm, Nat.and_two_pow_sub_one_eq_mod, IntKind.wrap_i64]
  omega
theorem own_ty {w : World} {base e size g o n c len : Nat} {xs : List Value} (h : w.ownsRow base e size (.slice (some ⟨g, o, none⟩) n c) len xs) : ∃ cur, w.heap[g]? = some (.cells cur e (0, 0)) := by
  rcases h.2 with ⟨h0, _⟩ | ⟨g', cap, cur, h0, _, hg, _⟩
  · cases h0
  · simp only [Value.slice.injEq, Option.some.injEq, Addr.mk.injEq] at h0
    rw [h0.1.1]
    exact ⟨cur, hg⟩
theorem flat3_set : ∀ (t : List (Int × Int × Value)) (k : Nat) (x y : Int) (v : Value), k < t.length → (((flat3 t).set (k * 3) (.int .i64 x)).set (k * 3 + 1) (.int .i64 y)).set (k * 3 + 2) v = flat3 (t.set k (x, y, v))
  | [], k, x, y, v, h => by simp at h
  | p :: r, 0, x, y, v, h => by simp [flat3]
  | p :: r, k + 1, x, y, v, h => by
    have := flat3_set r k x y v (by simpa using h)
    rw [show (k + 1) * 3 = k * 3 + 1 + 1 + 1 by omega, show k * 3 + 1 + 1 + 1 + 1 = (k * 3 + 1) + 1 + 1 + 1 by omega, show k * 3 + 1 + 1 + 1 + 2 = (k * 3 + 2) + 1 + 1 + 1 by omega]
    simp only [flat3, List.set_cons_succ]
    rw [this]
theorem getD_set_fn {α : Type} (t : List α) (k i : Nat) (p d : α) (hk : k < t.length) : (t.set k p).getD i d = if i = k then p else t.getD i d := by
  simp only [List.getD_eq_getElem?_getD, List.getElem?_set]
  by_cases h : k = i
  · subst h; simp [hk]
  · rw [if_neg h, if_neg (fun e => h e.symm)]
theorem sep_set {t : List (Int × Int × Value)} {k : Nat} {x y : Int} {v9 : Value} {H : Nat} (hs : Sep t) (hk : k < t.length) (hlt : ∀ i, i < t.length → ∀ b, (t.getD i noT).2.2.ownBlock = some b → b < H) (h9 : ∀ b, v9.ownBlock = some b → (t.getD k noT).2.2.ownBlock = some b ∨ H ≤ b) : Sep (t.set k (x, y, v9)) := by
  intro i j hi hj hij
  rw [List.length_set] at hi hj
  rw [getD_set_fn t k i _ _ hk, getD_set_fn t k j _ _ hk]
  by_cases h1 : i = k
  · have h2 : ¬ j = k := by omega
    rw [if_pos h1, if_neg h2]
    simp only []
    cases hv : v9.ownBlock with
    | none => exact .inl rfl
    | some b =>
      right
      intro e
      rcases h9 b hv with h | h
      · rcases hs k j hk hj (by omega) with h3 | h3
        · rw [h3] at h; cases h
        · exact h3 (by rw [h, e])
      · have := hlt j hj b e.symm; omega
  · rw [if_neg h1]
    by_cases h2 : j = k
    · rw [if_pos h2]
      simp only []
      cases hv : (t.getD i noT).2.2.ownBlock with
      | none => exact .inl rfl
      | some b =>
        right
        intro e
        rcases h9 b e.symm with h | h
        · rcases hs i k hi hk h1 with h3 | h3
          · rw [h3] at hv; cases hv
          · exact h3 (by rw [hv, h])
        · have := hlt i hi b hv; omega
    · rw [if_neg h2]
      exact hs i j hi hj hij
theorem own_put2 {w8 w9 : World} {base N k bx g6 cap6 bo : Nat} {L : List Fn} {t : List (Int × Int × Value)} {x y : Int} {l' : List (Int × Int)} {cv v9 : Value} (hL : L.length = N) (ht1 : t.length = N) (ht2 : w8.ownsRow base 54 3 (.slice (some ⟨g6, 0, none⟩) N cap6) N (flat3 t))
    (ht3 : ∀ i, i < N → (t.getD i noT).1 = (L.getD i noFn).1 ∧ (t.getD i noT).2.1 = (L.getD i noFn).2.1 ∧ (L.getD i noFn).2.2.length * 16 ≤ 140737488351232 ∧ w8.ownsRow base 42 2 (t.getD i noT).2.2 (L.getD i noFn).2.2.length (flat2 (L.getD i noFn).2.2))
    (hsep : Sep t) (hk : k < N) (hcv : (t.getD k noT).2.2 = cv) (gr : w8.grownBy w9 cv.ownBlock) (o9 : w9.ownsRow base 42 2 v9 l'.length (flat2 l')) (hl' : l'.length * 16 ≤ 140737488351232)
    (hb : ∀ i, i < N → ∀ b, (t.getD i noT).2.2.ownBlock = some b → b ≠ bx) (hb9 : ∀ b, v9.ownBlock = some b → b ≠ bx) (hg : g6 ≠ bx) (hnew : ∀ b, v9.ownBlock = some b → cv.ownBlock = some b ∨ w8.heap.size ≤ b) :
    OwnFns2 42 54 ((((w9.setCell ⟨bx, bo, none⟩ v9).setCell ⟨g6, k * 3, none⟩ (.int .i64 x)).setCell ⟨g6, k * 3 + 1, none⟩ (.int .i64 y)).setCell ⟨g6, k * 3 + 2, none⟩ v9) base (.slice (some ⟨g6, 0, none⟩) N cap6) (L.set k (x, y, l')) := by
  have kk := (ht3 k hk).2.2.2
  rw [hcv] at kk
  have r9 := ht2.kept gr (owns_apart ht2 kk (by decide))
  have fx : Frm (fun b => b = bx) w9 (w9.setCell ⟨bx, bo, none⟩ v9) := Frm.set _ rfl
  have r10 := fx.owns r9 (fun b h => by have e : g6 = b := Option.some.inj h; omega)
  have s1 := (r10.stored (k * 3) (.int .i64 x)).1
  have s2 := (s1.stored (k * 3 + 1) (.int .i64 y)).1
  have s3 := (s2.stored (k * 3 + 2) v9).1
  rw [flat3_set t k x y v9 (by omega)] at s3
  have code : ∀ v n xs, (w9.setCell ⟨bx, bo, none⟩ v9).ownsRow base 42 2 v n xs → ((((w9.setCell ⟨bx, bo, none⟩ v9).setCell ⟨g6, k * 3, none⟩ (.int .i64 x)).setCell ⟨g6, k * 3 + 1, none⟩ (.int .i64 y)).setCell ⟨g6, k * 3 + 2, none⟩ v9).ownsRow base 42 2 v n xs := fun v n xs h => by
    obtain ⟨c1, h1⟩ := own_ty r10
    obtain ⟨c2, h2⟩ := own_ty s1
    obtain ⟨c3, h3⟩ := own_ty s2
    exact owns_set_ty (owns_set_ty (owns_set_ty h ⟨g6, k * 3, none⟩ _ h1 (by decide)) ⟨g6, k * 3 + 1, none⟩ _ h2 (by decide)) ⟨g6, k * 3 + 2, none⟩ _ h3 (by decide)
  have hLs : (L.set k (x, y, l')).length = N := by rw [List.length_set, hL]
  refine ⟨t.set k (x, y, v9), by rw [List.length_set, ht1, hLs], by rw [hLs]; exact s3, fun i hi => ?_, sep_set hsep (by omega) (H := w8.heap.size) (fun i hi b hb' => ((ht3 i (by omega)).2.2.2.lt b hb').2) (by rw [hcv]; exact hnew)⟩
  rw [hLs] at hi
  rw [getD_set_fn t k i _ _ (by omega), getD_set_fn L k i _ _ (by omega)]
  by_cases hik : i = k
  · rw [if_pos hik, if_pos hik]
    exact ⟨rfl, rfl, hl', code _ _ _ (fx.owns o9 (fun b h e => hb9 b h e))⟩
  · rw [if_neg hik, if_neg hik]
    obtain ⟨a1, a2, a3, a4⟩ := ht3 i hi
    refine ⟨a1, a2, a3, code _ _ _ (fx.owns (a4.kept gr ?_) (fun b h e => hb i hi b h e))⟩
    rw [← hcv]
    exact hsep i k (by omega) (by omega) hik
set_option maxRecDepth 100000 in
set_option maxHeartbeats 20000000 in
theorem walk (a0 : Option Addr) (n0 c0 : Nat) (l0 : List Fn) (a1 : Option Addr) (n1 c1 : Nat) (l1 : List Int) (a2 : Int) (a3 : Option Addr) (n3 c3 : Nat) (l3 : List Int) (w : World) (w0 : Fns w a0 n0 c0 l0) (w1 : Ints w a1 n1 c1 l1) (w2 : (Lit.int .i64 a2).wf = true) (w3 : Ints w a3 n3 c3 l3) (ld : Ld w) :
    Calls Tryz.prog 7 #[.agg #[.slice a0 n0 c0], .slice a1 n1 c1, .int .i64 a2, .slice a3 n3 c3] w fun e w' => e = .returned (.bool true) ∧ Below w.heap.size w w' := by
  have LD0 := hid ld
  clear ld
  have WP := hid w0
  have WA := hid w1
  have WM := hid w3
  have LP := hid w0.len
  have har := w1.room
  have hac := w1.cap
  have hmr := w3.room
  have hmc := w3.cap
  have hpr := w0.room
  have hpc := w0.cap
  clear w0 w1 w3
  go_enter Tryz.func7, Tryz.ntmps7
  go_wp2_with fail
  refine (awake8_any _ (LD0.out.up (by go_grown))).mono ?_
  rintro e v0 ⟨rfl, b1⟩
  have P1 := hid (kept_cell b1 (b := w.heap.size) (o := 0) (v := .slice a0 n0 c0) (by simp [go_sem]))
  have B1 : Hid (Below w.heap.size w v0) := hid (kt (by go_grown) b1)
  clear b1
  have p1 := P1.out
  go_wp2_with fail
  refine (refVerify_any _ _ _ l0 _ (WP.out.kept B1.out)).mono ?_
  rintro e u1 ⟨rfl, b2⟩
  have B2 := hid (kt B1.out b2)
  have P2 := hid (kept_cell b2 P1.out)
  clear b2 p1
  by_cases hv : verV l0 = 0
  rotate_left
  · have hv' : (verV l0 != 0) = true := by simpa using hv
    clear hv
    go_wp2_with fail
    go_ret
    exact ⟨rfl, B2.out⟩
  have h1 := ver_some hv
  have hn0 : 1 ≤ n0 := by rw [LP.out]; exact h1.1
  have HVV := hid hv
  have hE0 : Ext l0 l0 := Ext.refl (fun i hi => (ver_fn hv hi (x := (l0.getD i noFn).1) (y := (l0.getD i noFn).2.1) (l := (l0.getD i noFn).2.2) rfl).2.2.2.2.2)
  have HX0 := hid hE0
  have hn8 : n0 ≤ 8 := by rw [LP.out]; exact h1.2
  rw [hv]
  clear hv h1 hE0
  have p2 := P2.out
  go_wp2_with fail
  refine (copyProgram2_any _ _ _ l0 _ (WP.out.kept B2.out)).mono ?_
  rintro e u2 ⟨vx, rfl, ox, b2⟩
  obtain ⟨ax, nx, cx, rfl, fx⟩ := ox.one.reads (by rw [← LP.out]; exact hpr)
  have hnx : nx = n0 := by rw [fx.len, ← LP.out]
  subst hnx
  obtain ⟨gx, hgx, hgx1, hgx2⟩ : ∃ gx, ax = some ⟨gx, 0, none⟩ ∧ u1.heap.size + 3 ≤ gx ∧ gx < u2.heap.size := by
    obtain ⟨t, ht1, ht2, _⟩ := ox
    rw [← LP.out] at ht2
    obtain ⟨g, cap, e, e1, e2⟩ := ht2.form (by omega)
    cases e
    exact ⟨g, rfl, e1, e2⟩
  subst hgx
  have hA : Below u2.heap.size u2 (u2.alloc (.cells #[.slice (some ⟨gx, 0, none⟩) nx cx] 24)) := Below.alloc (Below.refl _ _) (Nat.le_refl _) _
  obtain ⟨U, hU⟩ : ∃ U, U = u2.alloc (.cells #[.slice (some ⟨gx, 0, none⟩) nx cx] 24) := ⟨_, rfl⟩
  have OU : Hid (OwnFns2 42 54 U (u1.heap.size + 3) (.slice (some ⟨gx, 0, none⟩) nx cx) l0) := hid (by rw [hU]; exact ox.kept hA)
  have QU : Hid (U.heap[u2.heap.size]? = some (.cells #[.slice (some ⟨gx, 0, none⟩) nx cx] 24 (0, 0))) := hid (by rw [hU]; exact heap_alloc_new _ _)
  have BU : Hid (Below u1.heap.size u1 U) := hid (by rw [hU]; exact kt b2 hA)
  have hcx := fx.cap
  have hwu : w.heap.size < u1.heap.size := lt_of_cell P2.out
  have hu12 : u1.heap.size ≤ u2.heap.size := b2.size
  have EU := hid hU
  clear hU hA fx ox b2 p2
  go_wp2_with fail
  refine wp_world (U := U) (by rw [EU.out]) ?_
  go_loopw [10] (fun i wr => ∃ (j : Nat) (qs : List Fn), j ≤ n3 ∧ j ≤ 10 ∧ i = .int .i64 j ∧ Ext l0 qs ∧ OwnFns2 42 54 wr (u1.heap.size + 3) (.slice (some ⟨gx, 0, none⟩) nx cx) qs ∧ wr.heap[u2.heap.size]? = some (.cells #[.slice (some ⟨gx, 0, none⟩) nx cx] 24 (0, 0)) ∧ Below u1.heap.size u1 wr) (fun i _ => n3 - (intOf i).toNat)
  case atStart => exact ⟨0, l0, Nat.zero_le _, Nat.zero_le _, rfl, HX0.out, OU.out, QU.out, BU.out⟩
  case round =>
    obtain ⟨V, hV⟩ : ∃ V, V = wr := ⟨_, rfl⟩
    subst hV
    obtain ⟨j, qs, hj, hj10, rfl, hx, ho, hqb, hb⟩ := hrel
    have HX := hid hx
    have HO := hid ho
    have HQ := hid hqb
    have HB := hid hb
    have cq : V.cell? ⟨u2.heap.size, 0, none⟩ = some (.slice (some ⟨gx, 0, none⟩) nx cx) := by rw [cell_of_row V u2.heap.size 0 _ _ _ hqb]; rfl
    have hqs : qs.length = nx := by rw [hx.len, LP.out]
    clear hx ho hqb hb
    by_cases hlt : j < n3
    · by_cases h10 : j < 10
      · have h10' : (j : Int) < 10 := by omega
        obtain ⟨bm, om, rfl, hrow⟩ := WM.out.row (by omega)
        have zq := kept_cell (B2.out.trans (HB.out.mono B2.out.size)) (hrow j hlt)
        obtain ⟨z, hz⟩ : ∃ z, l3.getD j 0 = z := ⟨_, rfl⟩
        rw [hz] at zq
        clear hrow hz
        have hm := umod_bd z nx (by omega)
        obtain ⟨kv, hkv⟩ : ∃ kv, (IntKind.u64.wrap z).tmod (nx : Int) = kv := ⟨_, rfl⟩
        rw [hkv] at hm
        obtain ⟨hm1, hm2⟩ := hm
        obtain ⟨k, rfl⟩ := Int.eq_ofNat_of_zero_le hm1
        have hk : k < nx := by omega
        clear hm1 hm2
        go_wp2_with fail
        go_quiet (fail)
        obtain ⟨X, hX⟩ : ∃ X, X = V.drewN nq := ⟨_, rfl⟩
        rw [← hX]
        have bX : Below V.heap.size V X := by rw [hX]; exact below_drewN (Below.refl _ _) _
        have OX := hid (HO.out.kept bX)
        have QX : Hid (X.heap[u2.heap.size]? = some (.cells #[.slice (some ⟨gx, 0, none⟩) nx cx] 24 (0, 0))) := hid (by rw [bX.block _ (heap_lt HQ.out)]; exact HQ.out)
        have BX1 := hid (HB.out.trans (bX.mono HB.out.size))
        have hu2X : u2.heap.size < X.heap.size := heap_lt QX.out
        replace cq := kept_cell bX cq
        have hFK : ∃ x y l, qs.getD k noFn = (x, y, l) ∧ 1 ≤ l.length ∧ l.length ≤ 64 := by
          obtain ⟨tt, h1, h2, h3⟩ := HX.out.at' k (by rw [← LP.out]; exact hk)
          have h4 := ver_fn HVV.out (i := k) (by rw [← LP.out]; exact hk) (x := (l0.getD k noFn).1) (y := (l0.getD k noFn).2.1) (l := (l0.getD k noFn).2.2) rfl
          exact ⟨_, _, _, h3, by rw [List.length_append]; omega, h2⟩
        obtain ⟨x, y, l, hfk, hl1, hl64⟩ := hFK
        obtain ⟨t', ht1, ht2, ht3, hsep⟩ := OX.out
        rw [hqs] at ht1 ht2 ht3
        obtain ⟨k1, k2, k3, k4⟩ := ht3 k (by omega)
        obtain ⟨e1, e2, e3⟩ := flat3_at t' k (by omega) noT
        rw [hfk] at k1 k2 k3 k4
        simp only [] at k1 k2 k3 k4
        have d0 := ht2.cellAt (k * 3) (by omega)
        have d1 := ht2.cellAt (k * 3 + 1) (by omega)
        have d2 := ht2.cellAt (k * 3 + 2) (by omega)
        rw [e1, k1] at d0
        rw [e2, k2] at d1
        rw [e3] at d2
        obtain ⟨ca, cn, cc, ecv, ic⟩ := inss_of_owns k4 k3
        rw [ecv] at d2
        have hcl : Hid (cn = l.length) := hid ic.len
        have hcn1 : 1 ≤ cn := by rw [ic.len]; exact hl1
        have hcc := ic.cap
        have hcr := ic.room
        have HFK := hid hfk
        have KK := hid (And.intro k1 (And.intro k2 (And.intro k3 (And.intro k4 ecv))))
        have TT := hid (And.intro ht1 (And.intro ht2 (And.intro ht3 hsep)))
        have IC := hid ic
        clear ht1 ht2 ht3 hsep k1 k2 k3 k4 e1 e2 e3 ecv ic hfk hX bX hl1
        obtain ⟨m, rfl⟩ : ∃ m, cn = m + 1 := ⟨cn - 1, by omega⟩
        have hm64 : m + 1 ≤ 64 := by rw [hcl.out]; exact hl64
        clear hl64
        obtain ⟨b2, o2, K, A, eca, eK, cK, cA⟩ := IC.out.at m (by omega)
        cases eca
        have HEK := hid eK
        have hcb := lt_of_cell cK
        have zb := World.new_ne _ _ cK
        have AX := hid (Below.alloc (Below.refl X.heap.size X) (Nat.le_refl _) (.cells #[.int .i64 x, .int .i64 y, .slice (some ⟨b2, o2, none⟩) (m + 1) cc] 54))
        clear eK cA
        by_cases hbig : 64 ≤ m + 1
        · have hbig' : ¬ ((m : Int) + 1 < 64) := by omega
          go_wp2_with fail
          go_roundw
          case rel => exact ⟨j + 1, qs, by omega, by omega, by go_num, HX.out, OX.out.kept AX.out, by rw [AX.out.block _ (heap_lt QX.out)]; exact QX.out, BX1.out.trans (AX.out.mono BX1.out.size)⟩
          case measure => simp [intOf]; omega
        have hsm : (m : Int) + 1 < 64 := by omega
        by_cases hK : K = 16 ∨ K = 12
        rotate_left
        · have n1 : (K == 16) = false := by simp; omega
          have n2 : (K == 12) = false := by simp; omega
          go_wp2_with fail
          go_roundw
          case rel => exact ⟨j + 1, qs, by omega, by omega, by go_num, HX.out, OX.out.kept AX.out, by rw [AX.out.block _ (heap_lt QX.out)]; exact QX.out, BX1.out.trans (AX.out.mono BX1.out.size)⟩
          case measure => simp [intOf]; omega
        obtain ⟨j0, hj0, hy0, hy1, hy2⟩ := info_parts Tryz.infoIns
        rcases hK with rfl | rfl
        · skip
          obtain ⟨W8, hW8⟩ : ∃ W8 : World, W8 = (X.alloc (.cells #[.int .i64 x, .int .i64 y, .slice (some ⟨b2, o2, none⟩) (m + 1) cc] 54)).alloc (.cells #[.int .i64 16, .int .i64 0] 42) := ⟨_, rfl⟩
          have hB8 : Below X.heap.size X W8 := by rw [hW8]; exact Below.alloc (Below.alloc (Below.refl _ _) (Nat.le_refl _) _) (by simp) _
          have s8 : W8.heap.size = X.heap.size + 1 + 1 := by rw [hW8]; simp
          have R8 : Hid (W8.ownsRow (u1.heap.size + 3) 42 2 (.slice (some ⟨b2, o2, none⟩) (m + 1) cc) l.length (flat2 l)) := hid (by rw [← KK.out.2.2.2.2]; exact owns_kept KK.out.2.2.2.1 hB8)
          have hnews : ∀ j u, [Value.int .i64 16, .int .i64 0][j]? = some u → W8.cell? ((⟨X.heap.size + 1, 0, none⟩ : Addr).add j) = some u := by
            rw [hW8]
            exact news_new (by simp) [Value.int .i64 16, .int .i64 0] 42
          have HB8 := hid hB8
          have F8 : Hid (W8.cell? ⟨X.heap.size, 0, none⟩ = some (.int .i64 x) ∧ W8.cell? ⟨X.heap.size, 1, none⟩ = some (.int .i64 y) ∧ W8.cell? ⟨X.heap.size, 2, none⟩ = some (.slice (some ⟨b2, o2, none⟩) (m + 1) cc) ∧ ∀ j, W8.frozen? ⟨X.heap.size, j, none⟩ = false) := hid (by
            rw [hW8]; exact ⟨by simp [go_sem], by simp [go_sem], by simp [go_sem], fun j => by simp [go_sem]⟩)
          have D8 := hid (And.intro (kept_cell hB8 d0) (And.intro (kept_cell hB8 d1) (And.intro (kept_cell hB8 d2) (kept_cell hB8 cq))))
          have hb2 : Hid (b2 < X.heap.size ∧ u1.heap.size + 3 ≤ b2) := hid (by
            have h := KK.out.2.2.2.1; rw [KK.out.2.2.2.2] at h; have := h.lt b2 rfl; omega)
          have hw8 : u1.heap.size + 3 ≤ W8.heap.size := by have := hb2.out; omega
          have nq : u2.heap.size ≠ b2 := by
            obtain ⟨cur, h1⟩ : ∃ cur, X.heap[b2]? = some (.cells cur 42 (0, 0)) := by
              have h := KK.out.2.2.2.1
              rw [KK.out.2.2.2.2] at h
              exact own_ty h
            have h2 := QX.out
            intro e
            rw [e, h1] at h2
            simp at h2
          have ng : gx ≠ b2 := by
            have h := KK.out.2.2.2.1
            rw [KK.out.2.2.2.2] at h
            rcases owns_apart h TT.out.2.1 (by decide) with e | e
            · cases e
            · intro e'; exact e (by rw [e']; rfl)
          have nf : X.heap.size ≠ b2 := by have := hb2.out; omega
          have hgX : gx < X.heap.size := by omega
          have hgw : gx ≠ X.heap.size := by omega
          have hqw : u2.heap.size ≠ X.heap.size := by omega
          have hqg : u2.heap.size ≠ gx := by omega
          have Z8 : Hid (∀ j, W8.frozen? ⟨gx, j, none⟩ = false) := hid (fun j => by rw [HB8.out.frozen (p := ⟨gx, j, none⟩) (by show gx < X.heap.size; omega)]; exact TT.out.2.1.frozenAt j)
          have SB := hid (show ∀ b : Nat, b ≠ b2 → some b ≠ (Value.slice (some ⟨b2, o2, none⟩) (m + 1) cc).ownBlock from fun b h e => h (Option.some.inj e))
          clear hB8
          go_wp2_with (at_builtin; go_must ((rw [← hW8]; refine wpList_append_lies _ rfl _ _ 43 rfl (u1.heap.size + 3) 42 j0 (.agg #[.int .i64 0, .int .i64 0]) 2 16 Tryz.underlying43 hj0 hy0 hy1 hy2 rfl (by decide) (.slice (some ⟨b2, o2, none⟩) (m + 1) cc) l.length (flat2 l) rfl R8.out ⟨X.heap.size + 1, 0, none⟩ 1 1 [.int .i64 16, .int .i64 0] rfl rfl hnews (by intro u hu; simp at hu; rcases hu with rfl | rfl <;> rfl) (by decide) (by unfold maxLen; have := hcl.out; omega) (by have := hcl.out; omega) hw8 (X.heap.size + 1 + 1) s8 ?_; intro g9 cap9 w9 o9 gr9 at9 lt9; have f0 := gr9.cell F8.out.1 (SB.out _ nf); have f1 := gr9.cell F8.out.2.1 (SB.out _ nf); have f2 := gr9.cell F8.out.2.2.1 (SB.out _ nf); have ff := (gr9.frozen_far ⟨X.heap.size, 2, none⟩ (lt_of_cell F8.out.2.2.1) (SB.out _ nf)).trans (F8.out.2.2.2 2); have y0 := gr9.cell D8.out.1 (SB.out _ ng); have y1 := gr9.cell D8.out.2.1 (SB.out _ ng); have y2 := gr9.cell D8.out.2.2.1 (SB.out _ ng); have z0 := (gr9.frozen_far ⟨gx, k * 3, none⟩ (lt_of_cell D8.out.1) (SB.out _ ng)).trans (Z8.out _); have z1 := (gr9.frozen_far ⟨gx, k * 3 + 1, none⟩ (lt_of_cell D8.out.2.1) (SB.out _ ng)).trans (Z8.out _); have z2 := (gr9.frozen_far ⟨gx, k * 3 + 2, none⟩ (lt_of_cell D8.out.2.2.1) (SB.out _ ng)).trans (Z8.out _); have q9 := gr9.cell D8.out.2.2.2 (SB.out _ nq); have P9 := hid (And.intro o9 (And.intro gr9 at9)); clear o9 gr9 at9 lt9)))
          go_roundw
          case rel =>
            obtain ⟨t1, t2, t3, t4⟩ := TT.out
            obtain ⟨o9, gr9, at9⟩ := P9.out
            have f9 : Frm (fun b => b = b2) W8 w9 := Frm.of_grown gr9 (fun b hb' => (Option.some.inj hb').symm)
            refine ⟨j + 1, qs.set k (x, y, l ++ [(16, 0)]), by omega, by omega, by go_num, HX.out.more (by rw [← LP.out]; exact hk) HFK.out (by have := hcl.out; omega), ?_, ?_, ?_⟩
            · refine own_put2 (w8 := W8) (bx := X.heap.size) hqs t1 (owns_kept t2 HB8.out) (fun i hi => ⟨(t3 i hi).1, (t3 i hi).2.1, (t3 i hi).2.2.1, owns_kept (t3 i hi).2.2.2 HB8.out⟩) t4 hk KK.out.2.2.2.2 gr9 ?_ ?_ (fun i hi b hb' => by have := ((t3 i hi).2.2.2.lt b hb').2; omega) (fun b hb' => ?_) hgw (fun b hb' => ?_)
              · rw [flat2_app, List.length_append]; exact o9
              · rw [List.length_append, List.length_singleton]; have := hcl.out; omega
              · have e : g9 = b := Option.some.inj hb'
                rcases at9 with h | h
                · have e2 : b2 = g9 := Option.some.inj h; omega
                · omega
              · have e : g9 = b := Option.some.inj hb'
                rcases at9 with h | h
                · left; rw [h, e]
                · right; omega
            · have hq8 := (HB8.out.block _ (heap_lt QX.out)).trans QX.out
              have hq9 := (f9.block _ (heap_lt hq8) nq).trans hq8
              have key : ∀ (u : World) (b o : Nat) (v : Value), u2.heap.size ≠ b → u.heap[u2.heap.size]? = some (.cells #[.slice (some ⟨gx, 0, none⟩) nx cx] 24 (0, 0)) → (u.setCell ⟨b, o, none⟩ v).heap[u2.heap.size]? = some (.cells #[.slice (some ⟨gx, 0, none⟩) nx cx] 24 (0, 0)) := fun u b o v hne h =>
                ((Frm.set (S := fun k => k = b) (p := ⟨b, o, none⟩) v rfl).block _ (heap_lt h) hne).trans h
              exact key _ _ _ _ hqg (key _ _ _ _ hqg (key _ _ _ _ hqg (key _ _ _ _ hqw hq9)))
            · have h8 : Below u1.heap.size u1 W8 := BX1.out.trans (HB8.out.mono BX1.out.size)
              have h9 := h8.trans (f9.below h8.size (fun b hb' => by have := hb2.out; omega))
              exact Below.setCell (Below.setCell (Below.setCell (Below.setCell h9 BX1.out.size _) (by show u1.heap.size ≤ gx; omega) _) (by show u1.heap.size ≤ gx; omega) _) (by show u1.heap.size ≤ gx; omega) _
          case measure => simp [intOf]; omega

        · skip
          obtain ⟨W8, hW8⟩ : ∃ W8 : World, W8 = (X.alloc (.cells #[.int .i64 x, .int .i64 y, .slice (some ⟨b2, o2, none⟩) (m + 1) cc] 54)).alloc (.cells #[.int .i64 16, .int .i64 0] 42) := ⟨_, rfl⟩
          have hB8 : Below X.heap.size X W8 := by rw [hW8]; exact Below.alloc (Below.alloc (Below.refl _ _) (Nat.le_refl _) _) (by simp) _
          have s8 : W8.heap.size = X.heap.size + 1 + 1 := by rw [hW8]; simp
          have R8 : Hid (W8.ownsRow (u1.heap.size + 3) 42 2 (.slice (some ⟨b2, o2, none⟩) (m + 1) cc) l.length (flat2 l)) := hid (by rw [← KK.out.2.2.2.2]; exact owns_kept KK.out.2.2.2.1 hB8)
          have hnews : ∀ j u, [Value.int .i64 16, .int .i64 0][j]? = some u → W8.cell? ((⟨X.heap.size + 1, 0, none⟩ : Addr).add j) = some u := by
            rw [hW8]
            exact news_new (by simp) [Value.int .i64 16, .int .i64 0] 42
          have HB8 := hid hB8
          have F8 : Hid (W8.cell? ⟨X.heap.size, 0, none⟩ = some (.int .i64 x) ∧ W8.cell? ⟨X.heap.size, 1, none⟩ = some (.int .i64 y) ∧ W8.cell? ⟨X.heap.size, 2, none⟩ = some (.slice (some ⟨b2, o2, none⟩) (m + 1) cc) ∧ ∀ j, W8.frozen? ⟨X.heap.size, j, none⟩ = false) := hid (by
            rw [hW8]; exact ⟨by simp [go_sem], by simp [go_sem], by simp [go_sem], fun j => by simp [go_sem]⟩)
          have D8 := hid (And.intro (kept_cell hB8 d0) (And.intro (kept_cell hB8 d1) (And.intro (kept_cell hB8 d2) (kept_cell hB8 cq))))
          have hb2 : Hid (b2 < X.heap.size ∧ u1.heap.size + 3 ≤ b2) := hid (by
            have h := KK.out.2.2.2.1; rw [KK.out.2.2.2.2] at h; have := h.lt b2 rfl; omega)
          have hw8 : u1.heap.size + 3 ≤ W8.heap.size := by have := hb2.out; omega
          have nq : u2.heap.size ≠ b2 := by
            obtain ⟨cur, h1⟩ : ∃ cur, X.heap[b2]? = some (.cells cur 42 (0, 0)) := by
              have h := KK.out.2.2.2.1
              rw [KK.out.2.2.2.2] at h
              exact own_ty h
            have h2 := QX.out
            intro e
            rw [e, h1] at h2
            simp at h2
          have ng : gx ≠ b2 := by
            have h := KK.out.2.2.2.1
            rw [KK.out.2.2.2.2] at h
            rcases owns_apart h TT.out.2.1 (by decide) with e | e
            · cases e
            · intro e'; exact e (by rw [e']; rfl)
          have nf : X.heap.size ≠ b2 := by have := hb2.out; omega
          have hgX : gx < X.heap.size := by omega
          have hgw : gx ≠ X.heap.size := by omega
          have hqw : u2.heap.size ≠ X.heap.size := by omega
          have hqg : u2.heap.size ≠ gx := by omega
          have Z8 : Hid (∀ j, W8.frozen? ⟨gx, j, none⟩ = false) := hid (fun j => by rw [HB8.out.frozen (p := ⟨gx, j, none⟩) (by show gx < X.heap.size; omega)]; exact TT.out.2.1.frozenAt j)
          have SB := hid (show ∀ b : Nat, b ≠ b2 → some b ≠ (Value.slice (some ⟨b2, o2, none⟩) (m + 1) cc).ownBlock from fun b h e => h (Option.some.inj e))
          clear hB8
          go_wp2_with (at_builtin; go_must ((rw [← hW8]; refine wpList_append_lies _ rfl _ _ 43 rfl (u1.heap.size + 3) 42 j0 (.agg #[.int .i64 0, .int .i64 0]) 2 16 Tryz.underlying43 hj0 hy0 hy1 hy2 rfl (by decide) (.slice (some ⟨b2, o2, none⟩) (m + 1) cc) l.length (flat2 l) rfl R8.out ⟨X.heap.size + 1, 0, none⟩ 1 1 [.int .i64 16, .int .i64 0] rfl rfl hnews (by intro u hu; simp at hu; rcases hu with rfl | rfl <;> rfl) (by decide) (by unfold maxLen; have := hcl.out; omega) (by have := hcl.out; omega) hw8 (X.heap.size + 1 + 1) s8 ?_; intro g9 cap9 w9 o9 gr9 at9 lt9; have f0 := gr9.cell F8.out.1 (SB.out _ nf); have f1 := gr9.cell F8.out.2.1 (SB.out _ nf); have f2 := gr9.cell F8.out.2.2.1 (SB.out _ nf); have ff := (gr9.frozen_far ⟨X.heap.size, 2, none⟩ (lt_of_cell F8.out.2.2.1) (SB.out _ nf)).trans (F8.out.2.2.2 2); have y0 := gr9.cell D8.out.1 (SB.out _ ng); have y1 := gr9.cell D8.out.2.1 (SB.out _ ng); have y2 := gr9.cell D8.out.2.2.1 (SB.out _ ng); have z0 := (gr9.frozen_far ⟨gx, k * 3, none⟩ (lt_of_cell D8.out.1) (SB.out _ ng)).trans (Z8.out _); have z1 := (gr9.frozen_far ⟨gx, k * 3 + 1, none⟩ (lt_of_cell D8.out.2.1) (SB.out _ ng)).trans (Z8.out _); have z2 := (gr9.frozen_far ⟨gx, k * 3 + 2, none⟩ (lt_of_cell D8.out.2.2.1) (SB.out _ ng)).trans (Z8.out _); have q9 := gr9.cell D8.out.2.2.2 (SB.out _ nq); have P9 := hid (And.intro o9 (And.intro gr9 at9)); clear o9 gr9 at9 lt9)))
          go_roundw
          case rel =>
            obtain ⟨t1, t2, t3, t4⟩ := TT.out
            obtain ⟨o9, gr9, at9⟩ := P9.out
            have f9 : Frm (fun b => b = b2) W8 w9 := Frm.of_grown gr9 (fun b hb' => (Option.some.inj hb').symm)
            refine ⟨j + 1, qs.set k (x, y, l ++ [(16, 0)]), by omega, by omega, by go_num, HX.out.more (by rw [← LP.out]; exact hk) HFK.out (by have := hcl.out; omega), ?_, ?_, ?_⟩
            · refine own_put2 (w8 := W8) (bx := X.heap.size) hqs t1 (owns_kept t2 HB8.out) (fun i hi => ⟨(t3 i hi).1, (t3 i hi).2.1, (t3 i hi).2.2.1, owns_kept (t3 i hi).2.2.2 HB8.out⟩) t4 hk KK.out.2.2.2.2 gr9 ?_ ?_ (fun i hi b hb' => by have := ((t3 i hi).2.2.2.lt b hb').2; omega) (fun b hb' => ?_) hgw (fun b hb' => ?_)
              · rw [flat2_app, List.length_append]; exact o9
              · rw [List.length_append, List.length_singleton]; have := hcl.out; omega
              · have e : g9 = b := Option.some.inj hb'
                rcases at9 with h | h
                · have e2 : b2 = g9 := Option.some.inj h; omega
                · omega
              · have e : g9 = b := Option.some.inj hb'
                rcases at9 with h | h
                · left; rw [h, e]
                · right; omega
            · have hq8 := (HB8.out.block _ (heap_lt QX.out)).trans QX.out
              have hq9 := (f9.block _ (heap_lt hq8) nq).trans hq8
              have key : ∀ (u : World) (b o : Nat) (v : Value), u2.heap.size ≠ b → u.heap[u2.heap.size]? = some (.cells #[.slice (some ⟨gx, 0, none⟩) nx cx] 24 (0, 0)) → (u.setCell ⟨b, o, none⟩ v).heap[u2.heap.size]? = some (.cells #[.slice (some ⟨gx, 0, none⟩) nx cx] 24 (0, 0)) := fun u b o v hne h =>
                ((Frm.set (S := fun k => k = b) (p := ⟨b, o, none⟩) v rfl).block _ (heap_lt h) hne).trans h
              exact key _ _ _ _ hqg (key _ _ _ _ hqg (key _ _ _ _ hqg (key _ _ _ _ hqw hq9)))
            · have h8 : Below u1.heap.size u1 W8 := BX1.out.trans (HB8.out.mono BX1.out.size)
              have h9 := h8.trans (f9.below h8.size (fun b hb' => by have := hb2.out; omega))
              exact Below.setCell (Below.setCell (Below.setCell (Below.setCell h9 BX1.out.size _) (by show u1.heap.size ≤ gx; omega) _) (by show u1.heap.size ≤ gx; omega) _) (by show u1.heap.size ≤ gx; omega) _
          case measure => simp [intOf]; omega

      · have h10' : ¬ (j : Int) < 10 := by omega
        have ha := and4095 a2
        have pw := kept_cell HB.out P2.out
        have B5 := hid (B2.out.trans (HB.out.mono B2.out.size))
        obtain ⟨_, _, _, e5, f5⟩ := HO.out.one.reads (by rw [hqs]; omega)
        cases e5
        have F5 := hid f5
        clear f5
        go_wp2_with fail
        obtain ⟨M, hM⟩ : ∃ m, a2 % 4096 = m := ⟨_, rfl⟩
        rw [hM]
        clear ha hM
        have HEV := hid (HX.out.eval HVV.out l1 M)
        obtain ⟨⟨Rd, Rv, Ro, Rfu⟩, hR⟩ : ∃ R, evalR l0 l1 M = R := ⟨_, rfl⟩
        obtain ⟨E, hE⟩ : ∃ R, evalE l0 l1 M = R := ⟨_, rfl⟩
        have HR := hid (And.intro hR hE)
        clear hR hE
        refine (eval_read _ _ _ l0 _ _ _ l1 M Rd Rv Ro Rfu E _ HR.out.1 HR.out.2 ((WP.out.kept B2.out).kept HB.out) ((WA.out.kept B2.out).kept HB.out) (LD0.out.up B5.out)).mono ?_
        rintro e v2 ⟨ra, rn, rc, rfl, o2, b2⟩
        have hA : Below v2.heap.size v2 (v2.alloc (.cells #[.int .i64 Rd, .int .i64 Rv, .slice ra rn rc, .int .i64 Rfu] 34)) := Below.alloc (Below.refl _ _) (Nat.le_refl _) _
        have D6 := hid (kt b2 hA)
        have B6 := hid (kt B5.out D6.out)
        have O6 := hid (o2.kept hA)
        have X6 : Hid (RX (v2.alloc (.cells #[.int .i64 Rd, .int .i64 Rv, .slice ra rn rc, .int .i64 Rfu] 34)) v2.heap.size Rd Rv (.slice ra rn rc) Rfu) := hid ⟨by simp [go_sem], by simp [go_sem], by simp [go_sem], by simp [go_sem]⟩
        have q6 := kept_cell D6.out cq
        clear o2 b2 hA pw
        go_wp2_with fail
        refine (eval_read _ _ _ qs _ _ _ l1 M Rd Rv Ro Rfu E _ (HEV.out.1.trans HR.out.1) (HEV.out.2.trans HR.out.2) (F5.out.kept D6.out) (((WA.out.kept B2.out).kept HB.out).kept D6.out) (LD0.out.up B6.out)).mono ?_
        rintro e v3 ⟨qa, qn, qc, rfl, o3, b3⟩
        have hA : Below v3.heap.size v3 (v3.alloc (.cells #[.int .i64 Rd, .int .i64 Rv, .slice qa qn qc, .int .i64 Rfu] 34)) := Below.alloc (Below.refl _ _) (Nat.le_refl _) _
        have D7 := hid (kt b3 hA)
        have B7 := hid (kt B6.out D7.out)
        have O7 := hid (And.intro (O6.out.kept D7.out) (o3.kept hA))
        have X7 : Hid (RX (v3.alloc (.cells #[.int .i64 Rd, .int .i64 Rv, .slice qa qn qc, .int .i64 Rfu] 34)) v3.heap.size Rd Rv (.slice qa qn qc) Rfu) := hid ⟨by simp [go_sem], by simp [go_sem], by simp [go_sem], by simp [go_sem]⟩
        obtain ⟨m0, m1, m2, m3⟩ := X6.out.kept D7.out
        obtain ⟨g0, g1, g2, g3⟩ := X7.out
        have hEE : (E == E) = true := by simp
        clear o3 b3 hA q6
        go_wp2_with (go_at_call 12; refine (num_any _ _).mono ?_; rintro e x ⟨rfl, hw⟩; rw [hw]; clear hw)
        refine (sameResult_any _ _ _ _ _ Ro _ _ _ _ _ _ Ro _ _ O7.out.1 O7.out.2).mono ?_
        rintro e v5 ⟨rfl, b5⟩
        rw [sameR_self]
        have B8 := hid (kt B7.out b5)
        clear b5
        go_wp2_with fail
        go_ret
        exact ⟨rfl, B8.out⟩

    · have hjn : ¬ (j : Int) < (n3 : Int) := by omega
      have ha := and4095 a2
      have pw := kept_cell HB.out P2.out
      have B5 := hid (B2.out.trans (HB.out.mono B2.out.size))
      obtain ⟨_, _, _, e5, f5⟩ := HO.out.one.reads (by rw [hqs]; omega)
      cases e5
      have F5 := hid f5
      clear f5
      go_wp2_with fail
      obtain ⟨M, hM⟩ : ∃ m, a2 % 4096 = m := ⟨_, rfl⟩
      rw [hM]
      clear ha hM
      have HEV := hid (HX.out.eval HVV.out l1 M)
      obtain ⟨⟨Rd, Rv, Ro, Rfu⟩, hR⟩ : ∃ R, evalR l0 l1 M = R := ⟨_, rfl⟩
      obtain ⟨E, hE⟩ : ∃ R, evalE l0 l1 M = R := ⟨_, rfl⟩
      have HR := hid (And.intro hR hE)
      clear hR hE
      refine (eval_read _ _ _ l0 _ _ _ l1 M Rd Rv Ro Rfu E _ HR.out.1 HR.out.2 ((WP.out.kept B2.out).kept HB.out) ((WA.out.kept B2.out).kept HB.out) (LD0.out.up B5.out)).mono ?_
      rintro e v2 ⟨ra, rn, rc, rfl, o2, b2⟩
      have hA : Below v2.heap.size v2 (v2.alloc (.cells #[.int .i64 Rd, .int .i64 Rv, .slice ra rn rc, .int .i64 Rfu] 34)) := Below.alloc (Below.refl _ _) (Nat.le_refl _) _
      have D6 := hid (kt b2 hA)
      have B6 := hid (kt B5.out D6.out)
      have O6 := hid (o2.kept hA)
      have X6 : Hid (RX (v2.alloc (.cells #[.int .i64 Rd, .int .i64 Rv, .slice ra rn rc, .int .i64 Rfu] 34)) v2.heap.size Rd Rv (.slice ra rn rc) Rfu) := hid ⟨by simp [go_sem], by simp [go_sem], by simp [go_sem], by simp [go_sem]⟩
      have q6 := kept_cell D6.out cq
      clear o2 b2 hA pw
      go_wp2_with fail
      refine (eval_read _ _ _ qs _ _ _ l1 M Rd Rv Ro Rfu E _ (HEV.out.1.trans HR.out.1) (HEV.out.2.trans HR.out.2) (F5.out.kept D6.out) (((WA.out.kept B2.out).kept HB.out).kept D6.out) (LD0.out.up B6.out)).mono ?_
      rintro e v3 ⟨qa, qn, qc, rfl, o3, b3⟩
      have hA : Below v3.heap.size v3 (v3.alloc (.cells #[.int .i64 Rd, .int .i64 Rv, .slice qa qn qc, .int .i64 Rfu] 34)) := Below.alloc (Below.refl _ _) (Nat.le_refl _) _
      have D7 := hid (kt b3 hA)
      have B7 := hid (kt B6.out D7.out)
      have O7 := hid (And.intro (O6.out.kept D7.out) (o3.kept hA))
      have X7 : Hid (RX (v3.alloc (.cells #[.int .i64 Rd, .int .i64 Rv, .slice qa qn qc, .int .i64 Rfu] 34)) v3.heap.size Rd Rv (.slice qa qn qc) Rfu) := hid ⟨by simp [go_sem], by simp [go_sem], by simp [go_sem], by simp [go_sem]⟩
      obtain ⟨m0, m1, m2, m3⟩ := X6.out.kept D7.out
      obtain ⟨g0, g1, g2, g3⟩ := X7.out
      have hEE : (E == E) = true := by simp
      clear o3 b3 hA q6
      go_wp2_with (go_at_call 12; refine (num_any _ _).mono ?_; rintro e x ⟨rfl, hw⟩; rw [hw]; clear hw)
      refine (sameResult_any _ _ _ _ _ Ro _ _ _ _ _ _ Ro _ _ O7.out.1 O7.out.2).mono ?_
      rintro e v5 ⟨rfl, b5⟩
      rw [sameR_self]
      have B8 := hid (kt B7.out b5)
      clear b5
      go_wp2_with fail
      go_ret
      exact ⟨rfl, B8.out⟩

set_option maxRecDepth 100000 in
theorem lifted (os : Os) (started : os.Started) (H : Type) (enc : TypeId × Value → H) :
    ReturnsInHanded {} Tryz.checked os 7 .any (fun w args => (Rows.evalUnreachedSpec.pre enc Tryz.prog Tryz.f7 [] false w args ∧ laidMetH Tryz.prog [("math/bits.deBruijn32tab", Rows.laid_math_bits_deBruijn32tab), ("math/bits.deBruijn64tab", Rows.laid_math_bits_deBruijn64tab), ("internal/strconv.uint64pow10", Rows.laid_internal_strconv_uint64pow10), ("errors.errorType", Rows.laid_errors_errorType), ("swage/pack.errForm", Rows.laid_swage_pack_errForm), ("swage/pack.errEnd", Rows.laid_swage_pack_errEnd)] w) ∧ sizedMet enc Tryz.prog Tryz.f7 (OpenSpec.ofChange Rows.evalUnreachedSpec) false w args) (Rows.evalUnreachedSpec.post enc Tryz.prog Tryz.f7 false true false false) := by
  refine returnsInHanded_of_change_and (C := Tryz.checked) (X := fun w _ => laidMetH Tryz.prog [("math/bits.deBruijn32tab", Rows.laid_math_bits_deBruijn32tab), ("math/bits.deBruijn64tab", Rows.laid_math_bits_deBruijn64tab), ("internal/strconv.uint64pow10", Rows.laid_internal_strconv_uint64pow10), ("errors.errorType", Rows.laid_errors_errorType), ("swage/pack.errForm", Rows.laid_swage_pack_errForm), ("swage/pack.errEnd", Rows.laid_swage_pack_errEnd)] w) (fun _ _ _ hh h => h.of_heap hh) own started (by kernel_rfl) Tryz.func7
    (ChangeSpec.witness_shaped (enc := enc) (C := Tryz.checked) (os := os) (X := fun w _ => laidMetH Tryz.prog [("math/bits.deBruijn32tab", Rows.laid_math_bits_deBruijn32tab), ("math/bits.deBruijn64tab", Rows.laid_math_bits_deBruijn64tab), ("internal/strconv.uint64pow10", Rows.laid_internal_strconv_uint64pow10), ("errors.errorType", Rows.laid_errors_errorType), ("swage/pack.errForm", Rows.laid_swage_pack_errForm), ("swage/pack.errEnd", Rows.laid_swage_pack_errEnd)] w) false (World.doorLaid Tryz.prog 400 os) #[.agg #[.slice none 0 0], .slice none 0 0, .int .i64 0, .slice none 0 0] 8 rfl (World.shaped_of_RefB (by kernel_rfl) (by kernel_rfl)) (by kernel_rfl) (by kernel_rfl) (by kernel_rfl) (door_met os _)) ?_
  intro W base args ds gs before hval0 hW hcnd hsz0 hL _
  have hval : ∀ (j : Nat) t v, Tryz.f7.params[j]? = some t → args[j]? = some v → Value.okWide Tryz.prog W .any base t v := hval0
  have hW' := hW
  obtain ⟨p, q, hA0, hV, rfl, hfz, hnd⟩ := hW
  have hA : DataW.TrodAll enc Tryz.prog W 0 (fun _ => true) true Tryz.f7.params.toList args.toList ds p := hA0
  have hsz : (DataW.weightsEach Tryz.prog (Tryz.f7.params.toList ++ Rows.evalUnreachedSpec.plain.varTypes Tryz.prog) (ds ++ gs)).all (· ≤ reachBytes) = true := hsz0
  rw [Tryz.params7] at hA hval hsz
  obtain ⟨v0, vs0, d0, ds0, p0, q0, hargs, rfl, rfl, h0, r0⟩ := trodAll_cons hA
  obtain ⟨v1, vs1, d1, ds1, p1, q1, rfl, rfl, rfl, h1, r1⟩ := trodAll_cons r0
  obtain ⟨v2, vs2, d2, ds2, p2, q2, rfl, rfl, rfl, h2, r2⟩ := trodAll_cons r1
  obtain ⟨v3, vs3, d3, ds3, p3, q3, rfl, rfl, rfl, h3, r3⟩ := trodAll_cons r2
  obtain ⟨rfl, rfl, rfl⟩ := trodAll_nil r3
  obtain rfl : args = #[v0, v1, v2, v3] := by cases args; simp_all
  obtain ⟨rfl, rfl⟩ := trodVars_none hV
  have k0 := h0
  have lt0 : ∀ x ∈ p0, x.block < W.heap.size := by obtain ⟨m, hm⟩ := k0; exact DataW.trod_lt m _ _ _ hm
  have k1 := h1
  have lt1 : ∀ x ∈ p1, x.block < W.heap.size := by obtain ⟨m, hm⟩ := k1; exact DataW.trod_lt m _ _ _ hm
  have k2 := h2
  have lt2 : ∀ x ∈ p2, x.block < W.heap.size := by obtain ⟨m, hm⟩ := k2; exact DataW.trod_lt m _ _ _ hm
  have k3 := h3
  have lt3 : ∀ x ∈ p3, x.block < W.heap.size := by obtain ⟨m, hm⟩ := k3; exact DataW.trod_lt m _ _ _ hm
  obtain ⟨a0, n0, c0, l0, rfl, w0⟩ := open_program (hval 0 24 v0 rfl rfl) h0 (fun k hk => by simpa using List.all_eq_true.1 hsz k (DataW.weights_mem_each (j := 0) rfl rfl k hk))
  obtain ⟨a1, n1, c1, l1, rfl, w1⟩ := open_intsP (hval 1 26 v1 rfl rfl) h1 (fun k hk => by simpa using List.all_eq_true.1 hsz k (DataW.weights_mem_each (j := 1) rfl rfl k hk))
  obtain ⟨a2, rfl, rfl, rfl, w2⟩ := open_int Tryz.underlying3 (hval 2 3 v2 rfl rfl) h2
  obtain ⟨a3, n3, c3, l3, rfl, w3⟩ := open_intsP (hval 3 26 v3 rfl rfl) h3 (fun k hk => by simpa using List.all_eq_true.1 hsz k (DataW.weights_mem_each (j := 3) rfl rfl k hk))
  clear hA0 hval0
  refine (walk a0 n0 c0 l0 a1 n1 c1 l1 a2 a3 n3 c3 l3 W w0 w1 w2 w3 (ld_of hL)).mono fun e W' ⟨he, bel⟩ => ?_
  subst he
  exact ⟨_, rfl, _, _, _, [], _, [], hW', trodAll_mk1 (shut_bool Tryz.underlying4 _), (trodAll_cons_mk (Below.trod laidOut (by kernel_rfl) (of_decide_eq_true (by kernel_rfl)) k0 bel lt0) (trodAll_cons_mk (Below.trod laidOut (by kernel_rfl) (of_decide_eq_true (by kernel_rfl)) k1 bel lt1) (trodAll_cons_mk (Below.trod laidOut (by kernel_rfl) (of_decide_eq_true (by kernel_rfl)) k2 bel lt2) (trodAll_cons_mk (Below.trod laidOut (by kernel_rfl) (of_decide_eq_true (by kernel_rfl)) k3 bel lt3) trodAll_mk0)))), rfl, bel.frame _, fun h => by cases h⟩

theorem over : Rows.evalUnreachedRow.holds Tryz.pinned (OpenSpec.ofChange Rows.evalUnreachedSpec) :=
  OpenClaim.holds_of_wide 7 Tryz.f7 rfl rfl rfl rfl rfl rfl rfl ⟨rfl, rfl, rfl, rfl, rfl⟩ rfl rfl rfl rfl rfl (by kernel_rfl) Tryz.func7 (by kernel_rfl)
    (of_decide_eq_true (by kernel_rfl)) (by unfold Func.isWrapper; first | (rw [if_pos (by decide +kernel)]; kernel_rfl) | (rw [if_neg (by decide +kernel)]; exact ⟨rfl, rfl⟩))
    (fun os started H enc _ => lifted os started H enc)
end Go.Proofs.YtbbfgdkjgolieabGreatDoor.evalUnreached
namespace Go.Proofs.YtbbfgdkjgolieabGreatDoor
open Go
theorem evalUnreached_holds : Rows.EvalUnreachedCardSaid :=
  Claim7.holds_tied_plain_at .later [] [.data, .data, .data, .handle, .sentinel, .sentinel] true (true, "df9f9e0254879b26436ad060d49320056ec30ea2f54290ef4dfd0a208bae7ec3") true
    evalUnreached.over (fun _ h => by cases h) (by kernel_rfl) (fun _ h => by cases h) evalUnreached_row_tie rfl ⟨rfl, rfl⟩ (by kernel_rfl) rfl
    (fun f fn hf hfn => by
      obtain rfl : f = 7 := Option.some.inj ((show Tryz.prog.funcNamed "swage/swagelaw8.EvalUnreached" = some 7 by kernel_rfl).symm.trans hf) |>.symm
      obtain rfl : fn = Tryz.f7 := (Option.some.inj (Tryz.func7.symm.trans hfn)).symm
      exact ⟨by kernel_rfl, fun j t ht => by
        rw [Tryz.params7] at ht
        have hm : t ∈ [24, 26, 3, 26] := by simpa using Array.mem_of_getElem? ht
        have hall : ([24, 26, 3, 26].all fun u => !Tryz.prog.wantsStandIn u) = true := by kernel_rfl
        exact (show Tryz.prog.wantsStandIn t = false by simpa using List.all_eq_true.1 hall t hm)⟩)
    (by kernel_rfl)
#print axioms evalUnreached_holds
end Go.Proofs.YtbbfgdkjgolieabGreatDoor
