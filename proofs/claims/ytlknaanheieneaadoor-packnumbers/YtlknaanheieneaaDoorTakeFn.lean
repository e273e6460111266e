/- What the taker's function does: three bytes, then instructions one by one. -/
import Derived.Test.YtlknaanheieneaaDoorTake
namespace Go.Proofs.YtlknaanheieneaaDoor
open Go.RowKit
set_option linter.unusedVariables false

/-- A function in the making, at block F. -/
structure FBox (w : World) (F : Nat) (x y : Int) (c : List (Int × Int)) (ca : Option Addr) (cn cc : Nat) : Prop where
  c0 : w.cell? ⟨F, 0, none⟩ = some (.int .i64 x)
  c1 : w.cell? ⟨F, 1, none⟩ = some (.int .i64 y)
  c2 : w.cell? ⟨F, 2, none⟩ = some (.slice ca cn cc)
  free : w.frozen? ⟨F, 2, none⟩ = false
  row : w.ownsRow (F + 1) 43 2 (.slice ca cn cc) c.length (flat2 c)
theorem FBox.off {w w' : World} {T F : Nat} {x y : Int} {c : List (Int × Int)} {ca : Option Addr} {cn cc : Nat} (h : FBox w F x y c ca cn cc) (ho : Off T w.heap.size w w') (hT : T < F) : FBox w' F x y c ca cn cc := by
  have hl := lt_of_cell h.c0
  exact ⟨ho.cell h.c0 hl (by omega), ho.cell h.c1 hl (by omega), ho.cell h.c2 hl (by omega), ho.free h.free hl (by omega), ho.owns h.row (Nat.le_refl _) (by omega)⟩
theorem FBox.alloc {w : World} {F : Nat} {x y : Int} {c : List (Int × Int)} {ca : Option Addr} {cn cc : Nat} (h : FBox w F x y c ca cn cc) (o : Obj) : FBox (w.alloc o) F x y c ca cn cc := by
  have hb : Below w.heap.size w (w.alloc o) := Below.alloc (Below.refl _ _) (Nat.le_refl _) o
  exact ⟨kept_cell hb h.c0, kept_cell hb h.c1, kept_cell hb h.c2, (hb.frozen (p := ⟨F, 2, none⟩) (lt_of_cell h.c0)).trans h.free, h.row.alloc o⟩
theorem FBox.mid {W w8 : World} {F : Nat} {x y : Int} {c : List (Int × Int)} {ca : Option Addr} {cn cc : Nat} (h : FBox W F x y c ca cn cc) (hg : W.grownBy w8 (Value.slice ca cn cc).ownBlock) :
    w8.cell? ⟨F, 2, none⟩ = some (.slice ca cn cc) ∧ w8.frozen? ⟨F, 2, none⟩ = false := by
  have hne := row_ne h.row (b := F) (.inl (by omega))
  exact ⟨hg.cell h.c2 hne, (hg.frozen_far ⟨F, 2, none⟩ (lt_of_cell h.c2) hne).trans h.free⟩
theorem FBox.tail {T H F g cap : Nat} {wo W w8 : World} {x y K A : Int} {c : List (Int × Int)} {ca : Option Addr} {cn cc : Nat} (h : FBox W F x y c ca cn cc) (hTF : T < F) (hHF : H ≤ F) (off : Off T H wo W)
    (hg : W.grownBy w8 (Value.slice ca cn cc).ownBlock) (ho : w8.ownsRow (F + 1) 43 2 (.slice (some ⟨g, 0, none⟩) (c.length + 1) cap) (c.length + 1) (flat2 c ++ [.int .i64 K, .int .i64 A])) :
    FBox (w8.setCell ⟨F, 2, none⟩ (.slice (some ⟨g, 0, none⟩) (c.length + 1) cap)) F x y (c ++ [(K, A)]) (some ⟨g, 0, none⟩) (c.length + 1) cap ∧
      Off T H wo (w8.setCell ⟨F, 2, none⟩ (.slice (some ⟨g, 0, none⟩) (c.length + 1) cap)) ∧ (∀ s, Tk W T s → Tk (w8.setCell ⟨F, 2, none⟩ (.slice (some ⟨g, 0, none⟩) (c.length + 1) cap)) T s) := by
  have hne := row_ne h.row (b := F) (.inl (by omega))
  have hneT := row_ne h.row (b := T) (.inl (by omega))
  obtain ⟨m2, mf⟩ := h.mid hg
  have hW := lt_of_cell h.c0
  refine ⟨⟨cell_set_far_off (hg.cell h.c0 hne) (by omega), cell_set_far_off (hg.cell h.c1 hne) (by omega), World.cell?_setCell_same _ _ _ m2, by simpa using mf, ?_⟩, ?_, fun s tk => (tk.grown hg hneT).set _ _ (by simp; omega)⟩
  · rw [flat2_app, List.length_append]
    exact owns_set ho _ _ (by simp)
  · exact (off.grown hg (by omega) (fun k hk => .inr (by have := (h.row.lt k hk).1; omega))).setCell hHF _

set_option maxRecDepth 100000 in
set_option maxHeartbeats 4000000 in
theorem fnStep_any (T Q F : Nat) (k : Int) (s : ByteArray) (x y : Int) (c : List (Int × Int)) (ca : Option Addr) (cn cc : Nat) (w : World) (tk : Tk w T s) (hq : w.cell? ⟨Q, 0, none⟩ = some (.pointer (some ⟨T, 0, none⟩)))
    (fb : FBox w F x y c ca cn cc) {a b : Addr} {B : Nat} (L : Laid a b B w) (hT : B ≤ T) (hTF : T < F) (hc : c.length ≤ 255) :
    Calls Tryd.prog 51 #[.int .i64 k, .pointer (some ⟨Q, 0, none⟩), .pointer (some ⟨F, 0, none⟩)] w fun e u => Off T F w u ∧ (∃ c' ca' cn' cc', FBox u F x y c' ca' cn' cc' ∧
      ((∃ i s', pIns (sb s) = some (i, sb s') ∧ e = .returned .nilIface ∧ Tk u T s' ∧ c' = c ++ [i]) ∨ (pIns (sb s) = none ∧ e = .returned (.iface 119 (.pointer (some b)))))) := by
  obtain ⟨i0, hi, hz0, hz1, hz2⟩ := info_parts Tryd.infoIns
  have hFl := lt_of_cell fb.c0
  go_enter Tryd.func51, Tryd.ntmps51
  go_wp2_with fail
  refine (instruction_any T s _ tk L hT).mono ?_
  rintro e w1 ⟨off, K, A, err, rfl, hr⟩
  have fb1 := fb.off off hTF
  have s1 := off.size
  have FB1 := hid ((fb1.alloc (.cells #[.int .i64 K, .int .i64 A] 43)).alloc (.cells #[.int .i64 K, .int .i64 A] 43))
  have OF : Hid (Off T F w ((w1.alloc (.cells #[.int .i64 K, .int .i64 A] 43)).alloc (.cells #[.int .i64 K, .int .i64 A] 43))) := hid (((⟨off.os, off.tape, off.output, off.size, fun k hk hn => off.block k (by omega) hn⟩ : Off T F w w1).alloc (by omega) _).alloc (by simp; omega) _)
  obtain ⟨f0, f1, f2, f3, f4⟩ := fb1
  have z1 := Ne.symm (World.new_ne _ _ f2)
  have g2 : (w1.alloc (.cells #[.int .i64 K, .int .i64 A] 43)).cell? ⟨F, 2, none⟩ = some (.slice ca cn cc) := kept_cell (by go_grown) f2
  clear off f4 fb tk L
  rcases hr with ⟨s', hp, rfl, tk'⟩ | ⟨hp, rfl⟩
  · have TK := hid ((tk'.alloc (.cells #[.int .i64 K, .int .i64 A] 43)).alloc (.cells #[.int .i64 K, .int .i64 A] 43))
    have HP := hid hp
    clear tk' hp
    go_wp2_with (at_builtin; go_must ((refine wpList_append_lies _ rfl _ _ 44 rfl (F + 1) 43 i0 (.agg #[.int .i64 0, .int .i64 0]) 2 16 Tryd.underlying44 hi hz0 hz1 hz2 rfl (by decide) _ _ _ rfl FB1.out.row _ 1 1 [.int .i64 K, .int .i64 A] rfl rfl (news_new (H := w1.heap.size + 1) (by simp) _ _) (by intro u hu; simp at hu; rcases hu with rfl | rfl <;> rfl) (by decide) (by unfold maxLen; omega) (by omega) (by simp; omega) _ rfl ?_; intro g6 cap6 w8 ho8 hg8 _ _; have md := FB1.out.mid hg8; obtain ⟨md1, md2⟩ := md; have E8 := hid (And.intro ho8 hg8); clear ho8 hg8)))
    go_ret
    obtain ⟨t1, t2, t3⟩ := FB1.out.tail hTF (Nat.le_refl _) OF.out E8.out.2 E8.out.1
    exact ⟨t2, _, _, _, _, t1, .inl ⟨(K, A), s', HP.out, rfl, t3 _ TK.out, rfl⟩⟩
  · have HP := hid hp
    clear hp
    go_wp2_with (at_builtin; go_must ((refine wpList_append_lies _ rfl _ _ 44 rfl (F + 1) 43 i0 (.agg #[.int .i64 0, .int .i64 0]) 2 16 Tryd.underlying44 hi hz0 hz1 hz2 rfl (by decide) _ _ _ rfl FB1.out.row _ 1 1 [.int .i64 K, .int .i64 A] rfl rfl (news_new (H := w1.heap.size + 1) (by simp) _ _) (by intro u hu; simp at hu; rcases hu with rfl | rfl <;> rfl) (by decide) (by unfold maxLen; omega) (by omega) (by simp; omega) _ rfl ?_; intro g6 cap6 w8 ho8 hg8 _ _; have md := FB1.out.mid hg8; obtain ⟨md1, md2⟩ := md; have E8 := hid (And.intro ho8 hg8); clear ho8 hg8)))
    go_ret
    obtain ⟨t1, t2, t3⟩ := FB1.out.tail hTF (Nat.le_refl _) OF.out E8.out.2 E8.out.1
    exact ⟨t2, _, _, _, _, t1, .inr ⟨HP.out, rfl⟩⟩

theorem FBox.kept {w w' : World} {F : Nat} {x y : Int} {c : List (Int × Int)} {ca : Option Addr} {cn cc : Nat} (h : FBox w F x y c ca cn cc) (hb : Below w.heap.size w w') : FBox w' F x y c ca cn cc :=
  ⟨kept_cell hb h.c0, kept_cell hb h.c1, kept_cell hb h.c2, (hb.frozen (p := ⟨F, 2, none⟩) (lt_of_cell h.c0)).trans h.free, owns_kept h.row hb⟩
theorem Off.kept {T H : Nat} {a b c : World} (h : Off T H a b) (hb : Below b.heap.size b c) (hH : H ≤ b.heap.size) : Off T H a c :=
  h.trans ⟨hb.os, hb.tape, hb.output, hb.size, fun k hk _ => hb.block k (by omega)⟩

theorem at_sb {s : ByteArray} {xs : List Int} (h : sb s = xs) (i : Nat) (hi : i < s.size) : (s[i].toNat : Int) = xs.getD i 0 := by rw [sb_at s i hi, h]

theorem enter_fnStep : ∀ args w, (callFunc 51 args).run Tryd.prog w = .ok (.enter 51 args) w := enters_of Tryd.func51 (by kernel_rfl) rfl

theorem cSt_succ {l r r' : List Int} {j : Nat} {c : List (Int × Int)} {i : Int × Int} (h : cSt l j = some (c, r)) (h2 : pIns r = some (i, r')) : cSt l (j + 1) = some (c ++ [i], r') := by simp [cSt, h, h2]
theorem cSt_fail {l r : List Int} {j : Nat} {c : List (Int × Int)} (h : cSt l j = some (c, r)) (h2 : pIns r = none) : cSt l (j + 1) = none := by simp [cSt, h, h2]

theorem eachCode_any (T Q F n : Nat) (name : ByteArray) (hname : name.size ≤ 100) (s : ByteArray) (x y : Int) (ca : Option Addr) (cn cc : Nat) (W : World) (tk : Tk W T s) (hq : W.cell? ⟨Q, 0, none⟩ = some (.pointer (some ⟨T, 0, none⟩))) (hQF : Q < F) (hQT : Q ≠ T)
    (fb : FBox W F x y [] ca cn cc) {a b : Addr} {B : Nat} (L : Laid a b B W) (hT : B ≤ T) (hTF : T < F) (hn : n ≤ 255) :
    Calls Tryd.prog 30 #[.string name, .int .i64 n, .func (.func 51) #[] #[.pointer (some ⟨Q, 0, none⟩), .pointer (some ⟨F, 0, none⟩)]] W fun e u => Off T F W u ∧ ∃ c ca cn cc, FBox u F x y c ca cn cc ∧
      ((∃ s', cSt (sb s) n = some (c, sb s') ∧ e = .returned .nilIface ∧ Tk u T s') ∨ (cSt (sb s) n = none ∧ Bad a b e)) := by
  refine (each_any name hname n hn 51 _ enter_fnStep (a := a) (b := b) (B := B)
    (fun k u => Off T F W u ∧ ∃ c ca cn cc s', FBox u F x y c ca cn cc ∧ cSt (sb s) k = some (c, sb s') ∧ Tk u T s') (fun _ u => Off T F W u ∧ (∃ c ca cn cc, FBox u F x y c ca cn cc) ∧ cSt (sb s) n = none)
    W ⟨Off.refl _ _ _, _, _, _, _, s, fb, rfl, tk⟩ (fun k u hu => L.off hu.1 hT (by omega)) (fun k u u' hu hb => ?_) ?_).mono ?_
  · obtain ⟨h1, ⟨c, ca, cn, cc, h2⟩, h3⟩ := hu
    exact ⟨h1.kept hb (by have := lt_of_cell h2.c0; omega), ⟨c, ca, cn, cc, h2.kept hb⟩, h3⟩
  · rintro k u hk ⟨h1, c, ca, cn, cc, s', h2, h3, h4⟩
    have hcl := cSt_len h3
    refine (fnStep_any T Q F k s' x y c ca cn cc u h4 (h1.cell hq hQF hQT) h2 (L.off h1 hT (by omega)) hT hTF (by omega)).mono ?_
    rintro e u' ⟨g1, c', ca', cn', cc', g2, ⟨i, s'', g3, rfl, g4, rfl⟩ | ⟨g3, rfl⟩⟩
    · exact .inl ⟨rfl, h1.trans g1, _, _, _, _, s'', g2, cSt_succ h3 g3, g4⟩
    · exact .inr ⟨_, b, 0, rfl, .leaf b, .inr rfl, h1.trans g1, ⟨_, _, _, _, g2⟩, cSt_none (cSt_fail h3 g3) n (by omega)⟩
  · rintro e u (⟨rfl, h1, c, ca, cn, cc, s', h2, h3, h4⟩ | ⟨k, v, z, m, hk, rfl, hch, hx, h1, ⟨c, ca, cn, cc, h2⟩, h3⟩)
    · exact ⟨h1, c, ca, cn, cc, h2, .inl ⟨s', h3, rfl, h4⟩⟩
    · exact ⟨h1, c, ca, cn, cc, h2, .inr ⟨h3, v, z, m, rfl, hch, hx⟩⟩

set_option maxRecDepth 100000 in
set_option maxHeartbeats 4000000 in
theorem function_any (T : Nat) (s : ByteArray) (w : World) (tk : Tk w T s) {a b : Addr} {B : Nat} (L : Laid a b B w) (hT : B ≤ T) :
    Calls Tryd.prog 45 #[.pointer (some ⟨T, 0, none⟩)] w fun e u => Off T w.heap.size w u ∧ ∃ x y ca cn cc err, e = .returned (.tuple #[.agg #[.int .i64 x, .int .i64 y, .slice ca cn cc], err]) ∧
      ((∃ c s', pFn (sb s) = some ((x, y, c), sb s') ∧ err = .nilIface ∧ Tk u T s' ∧ u.ownsRow w.heap.size 43 2 (.slice ca cn cc) c.length (flat2 c) ∧ c.length ≤ 255) ∨ (pFn (sb s) = none ∧ ∃ z m, Chain err z m ∧ (z = a ∨ z = b))) := by
  have hTl := lt_of_cell tk.left
  by_cases h3 : 3 ≤ s.size
  · obtain ⟨x, y, n, r, hsb⟩ : ∃ x y n r, sb s = x :: y :: n :: r := by
      have hl := sb_len s
      match e : sb s, hl with
      | x :: y :: n :: r, _ => exact ⟨x, y, n, r, rfl⟩
      | [], hl => simp at hl; omega
      | [_], hl => simp at hl; omega
      | [_, _], hl => simp at hl; omega
    have ht3 : (s.extract 0 3).size = 3 := by simp; omega
    have htb : sb (s.extract 0 3) = [x, y, n] := by rw [sb_extract, hsb]; rfl
    have hdr : sb (s.extract 3 s.size) = r := by rw [sb_ext_drop, hsb]; rfl
    have hx := sb_isB s x (by rw [hsb]; simp)
    have hy := sb_isB s y (by rw [hsb]; simp)
    have hn := sb_isB s n (by rw [hsb]; simp)
    have HSB := hid hsb
    have HDR := hid hdr
    clear hsb hdr
    go_enter Tryd.func45, Tryd.ntmps45
    go_wp2_with fail
    refine (take_ok T 3 s _ ((tk.alloc _).alloc _) h3).mono ?_
    rintro e w2 ⟨rfl, tk2, hg2⟩
    generalize s.extract 0 3 = t at ht3 htb ⊢
    have v0 := at_sb htb 0 (by omega)
    have v1 := at_sb htb 1 (by omega)
    have v2 := at_sb htb 2 (by omega)
    simp at v0 v1 v2
    clear htb
    go_wp2_with fail
    go_region
    have q2 := tk_cell hg2 (b := w.heap.size) (o := 0) (v := .pointer (some ⟨T, 0, none⟩)) (by simp [go_sem]) (by omega)
    have r0 := tk_cell hg2 (b := w.heap.size + 1) (o := 0) (v := .int .i64 0) (by simp [go_sem]) (by omega)
    have r1 := tk_cell hg2 (b := w.heap.size + 1) (o := 1) (v := .int .i64 0) (by simp [go_sem]) (by omega)
    have r2 := tk_cell hg2 (b := w.heap.size + 1) (o := 2) (v := .slice none 0 0) (by simp [go_sem]) (by omega)
    have t0 := tk_free hg2 (b := w.heap.size + 1) (o := 0) (v := .int .i64 0) (by simp [go_sem]) (by omega) (by simp [go_sem])
    have t1 := tk_free hg2 (b := w.heap.size + 1) (o := 1) (v := .int .i64 0) (by simp [go_sem]) (by omega) (by simp [go_sem])
    have t2 := tk_free hg2 (b := w.heap.size + 1) (o := 2) (v := .slice none 0 0) (by simp [go_sem]) (by omega) (by simp [go_sem])
    have s2 : w.heap.size + 2 ≤ w2.heap.size := by have := hg2.size; simpa using this
    have O2 : Off T w.heap.size w w2 := Off.grown (((Off.refl T w.heap.size w).alloc (Nat.le_refl _) _).alloc (by simp) _) hg2 (by simp; omega) (fun k hk => by cases hk; exact .inl rfl)
    have lB := L.size
    have L2 := L.off O2 hT (by omega)
    have bA : Below w2.heap.size w2 (w2.alloc (.cells #[.int .i64 x, .int .i64 y, .slice none 0 0] 46)).drew := ((Below.alloc (Below.refl _ _) (Nat.le_refl _) _)).drew
    have O3 := hid (O2.kept bA (by omega))
    have TK3 := hid (tk2.kept bA)
    have L3 := hid (L2.kept (bA.mono (by have := L2.size; omega)))
    have q3 := kept_cell bA q2
    have fb3 : FBox (w2.alloc (.cells #[.int .i64 x, .int .i64 y, .slice none 0 0] 46)).drew w2.heap.size x y [] none 0 0 := ⟨by simp [go_sem], by simp [go_sem], by simp [go_sem], by simp [go_sem], World.ownsRow_nil _ _ _ _⟩
    have Q3 := hid q3
    have FB3 := hid fb3
    have R0 := hid (And.intro (kept_cell bA r0) ((bA.frozen (p := ⟨w.heap.size + 1, 0, none⟩) (lt_of_cell r0)).trans t0))
    have R1 := hid (And.intro (kept_cell bA r1) ((bA.frozen (p := ⟨w.heap.size + 1, 1, none⟩) (lt_of_cell r0)).trans t1))
    have R2 := hid (And.intro (kept_cell bA r2) ((bA.frozen (p := ⟨w.heap.size + 1, 2, none⟩) (lt_of_cell r0)).trans t2))
    obtain ⟨m, rfl⟩ := Int.eq_ofNat_of_zero_le hn.1
    clear hg2 q2 r0 r1 r2 t0 t1 t2 O2 L2 L bA q3 fb3 tk2 tk
    go_wp2_with fail
    refine (eachCode_any T w.heap.size w2.heap.size m _ (by decide) _ x y none 0 0 _ TK3.out Q3.out (by omega) (by omega) FB3.out L3.out hT (by omega) (by omega)).mono ?_
    rintro e u ⟨off, c, ca, cn, cc, fb, hr⟩
    have k0 := off.cell R0.out.1 (by omega) (by omega)
    have k1 := off.cell R1.out.1 (by omega) (by omega)
    have k2 := off.cell R2.out.1 (by omega) (by omega)
    have j0 := off.free R0.out.2 (by omega) (by omega)
    have j1 := off.free R1.out.2 (by omega) (by omega)
    have j2 := off.free R2.out.2 (by omega) (by omega)
    have su : w2.heap.size + 1 ≤ u.heap.size := by have := off.size; simpa using this
    have O4 := hid (O3.out.trans ⟨off.os, off.tape, off.output, off.size, fun k hk hne => off.block k (by omega) hne⟩)
    have FB := hid fb
    obtain ⟨f0, f1, f2, _, _⟩ := fb
    clear off v0 v1 v2
    rcases hr with ⟨s', hc, rfl, tk'⟩ | ⟨hc, v, z, mm, rfl, hch, hz⟩
    · have HC := hid hc
      have TK := hid tk'
      clear hc tk'
      go_wp2_with fail
      refine bodyPost_ret (v := .tuple #[.agg #[.int .i64 x, .int .i64 y, .slice ca cn cc], .nilIface]) (by simp [results, Tryd.results45, go_sem, k0, k1, k2]) rfl ⟨((O4.out.setCell (by simp) _).setCell (by simp) _).setCell (by simp) _, x, y, ca, cn, cc, _, rfl, .inl ⟨c, s', ?_, rfl, ((TK.out.set _ _ (by simp; omega)).set _ _ (by simp; omega)).set _ _ (by simp; omega), ?_, ?_⟩⟩
      · rw [HSB.out]
        simp only [pFn, Int.toNat_natCast]
        rw [← HDR.out, HC.out]
      · exact owns_base (owns_set (owns_set (owns_set FB.out.row _ _ (by simp; omega)) _ _ (by simp; omega)) _ _ (by simp; omega)) (by omega)
      · have := cSt_len HC.out; omega
    · obtain ⟨tt, zz, rfl⟩ := hch.iface
      have HC := hid hc
      have HCH := hid hch
      clear hc hch
      go_wp2_with fail
      refine bodyPost_ret (v := .tuple #[.agg #[.int .i64 x, .int .i64 y, .slice ca cn cc], .iface tt zz]) (by simp [results, Tryd.results45, go_sem, k0, k1, k2]) rfl ⟨((O4.out.setCell (by simp) _).setCell (by simp) _).setCell (by simp) _, x, y, ca, cn, cc, _, rfl, .inr ⟨?_, z, mm, HCH.out, hz⟩⟩
      rw [HSB.out]
      simp only [pFn, Int.toNat_natCast]
      rw [← HDR.out, HC.out]
  · have hs : Hid (pFn (sb s) = none) := by
      show pFn (sb s) = none
      have hl := sb_len s
      match e : sb s, hl with
      | x :: y :: n :: r, hl => simp at hl; omega
      | [], _ => rfl
      | [_], _ => rfl
      | [_, _], _ => rfl
    go_enter Tryd.func45, Tryd.ntmps45
    go_wp2_with fail
    refine (take_end T 3 s _ ((tk.alloc _).alloc _) (by omega) (by omega) ((L.alloc _).alloc _)).mono ?_
    rintro e w2 ⟨rfl, d, rfl⟩
    go_wp2_with fail
    refine bodyPost_ret (v := .tuple #[.agg #[.int .i64 0, .int .i64 0, .slice none 0 0], .iface 119 (.pointer (some b))]) (by simp [results, Tryd.results45, go_sem]) rfl ⟨?_, 0, 0, none, 0, 0, _, rfl, .inr ⟨hs.out, b, 0, .leaf b, .inr rfl⟩⟩
    exact (((((((Off.refl _ _ _).alloc (Nat.le_refl _) _).alloc (by simp) _).drewN d).setCell (by simp) _).setCell (by simp) _).setCell (by simp) _)

end Go.Proofs.YtlknaanheieneaaDoor
