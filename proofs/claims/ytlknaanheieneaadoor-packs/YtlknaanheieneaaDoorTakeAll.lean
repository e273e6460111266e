/- What the taker's program, takeAll and pack.Get do. -/
import Derived.Test.YtlknaanheieneaaDoorTakeFn
namespace Go.Proofs.YtlknaanheieneaaDoor
open Go.RowKit
set_option linter.unusedVariables false

/-- A program in the making, at block P. -/
structure PBox (w : World) (P : Nat) (l : List Fn) (va : Option Addr) (vn vc : Nat) : Prop where
  c0 : w.cell? ⟨P, 0, none⟩ = some (.slice va vn vc)
  free : w.frozen? ⟨P, 0, none⟩ = false
  row : OwnFns 43 46 w (P + 1) (.slice va vn vc) l
theorem PBox.kept {w w' : World} {P : Nat} {l : List Fn} {va : Option Addr} {vn vc : Nat} (h : PBox w P l va vn vc) (hb : Below w.heap.size w w') : PBox w' P l va vn vc :=
  ⟨kept_cell hb h.c0, (hb.frozen (p := ⟨P, 0, none⟩) (lt_of_cell h.c0)).trans h.free, h.row.kept hb⟩

set_option maxRecDepth 100000 in
set_option maxHeartbeats 4000000 in
theorem progStep_any (T Q P : Nat) (k : Int) (s : ByteArray) (l : List Fn) (va : Option Addr) (vn vc : Nat) (w : World) (tk : Tk w T s) (hq : w.cell? ⟨Q, 0, none⟩ = some (.pointer (some ⟨T, 0, none⟩)))
    (pb : PBox w P l va vn vc) {a b : Addr} {B : Nat} (L : Laid a b B w) (hT : B ≤ T) (hTP : T < P) (hl : l.length ≤ 255) :
    Calls Tryd.prog 44 #[.int .i64 k, .pointer (some ⟨Q, 0, none⟩), .pointer (some ⟨P, 0, none⟩)] w fun e u => Off T P w u ∧ ∃ va vn vc, u.cell? ⟨P, 0, none⟩ = some (.slice va vn vc) ∧
      ((∃ f s', pFn (sb s) = some (f, sb s') ∧ e = .returned .nilIface ∧ Tk u T s' ∧ PBox u P (l ++ [f]) va vn vc) ∨ (pFn (sb s) = none ∧ Bad a b e)) := by
  obtain ⟨j0, hj, hy0, hy1, hy2⟩ := info_parts Tryd.infoFunc
  have hPl := lt_of_cell pb.c0
  go_enter Tryd.func44, Tryd.ntmps44
  go_wp2_with fail
  refine (function_any T s _ tk L hT).mono ?_
  rintro e w1 ⟨off, x, y, ca, cn, cc, err, rfl, hr⟩
  have s1 := off.size
  have p1 := off.cell pb.c0 hPl (by omega)
  have p2 := off.free pb.free hPl (by omega)
  have ow := off.fns pb.row (Nat.le_refl _) (by omega)
  have hb1 : Below w1.heap.size w1 (w1.alloc (.cells #[.int .i64 x, .int .i64 y, .slice ca cn cc] 46)) := Below.alloc (Below.refl _ _) (Nat.le_refl _) _
  have hb2 : Below w1.heap.size w1 ((w1.alloc (.cells #[.int .i64 x, .int .i64 y, .slice ca cn cc] 46)).alloc (.cells #[.int .i64 x, .int .i64 y, .slice ca cn cc] 46)) := Below.alloc hb1 (by simp) _
  obtain ⟨t, ht1, ht2, ht3⟩ := ow
  have H2 := hid (owns_kept ht2 hb2)
  have H3 := hid (fun i hi => (⟨(ht3 i hi).1, (ht3 i hi).2.1, (ht3 i hi).2.2.1, owns_kept (ht3 i hi).2.2.2 hb2⟩ : (t.getD i noT).1 = (l.getD i noFn).1 ∧ (t.getD i noT).2.1 = (l.getD i noFn).2.1 ∧ (l.getD i noFn).2.2.length * 16 ≤ 140737488351232 ∧ World.ownsRow _ (P + 1) 43 2 (t.getD i noT).2.2 (l.getD i noFn).2.2.length (flat2 (l.getD i noFn).2.2)))
  have HT1 := hid ht1
  have z1 := Ne.symm (World.new_ne _ _ p1)
  have g1 := kept_cell hb1 p1
  have J := hid (And.intro (kept_cell hb2 p1) ((hb2.frozen (p := ⟨P, 0, none⟩) (lt_of_cell p1)).trans p2))
  have OF : Hid (Off T P w ((w1.alloc (.cells #[.int .i64 x, .int .i64 y, .slice ca cn cc] 46)).alloc (.cells #[.int .i64 x, .int .i64 y, .slice ca cn cc] 46))) := hid (((⟨off.os, off.tape, off.output, off.size, fun k hk hn => off.block k (by omega) hn⟩ : Off T P w w1).alloc (by omega) _).alloc (by simp; omega) _)
  have HB2 := hid hb2
  have HL := hid (L.size)
  clear off pb tk L ht1 ht2 ht3 hb1 hb2
  rcases hr with ⟨c, s', hp, rfl, tk', hrow, hcl⟩ | ⟨hp, z, m, hch, hz⟩
  · have TK := hid (tk'.kept HB2.out)
    have HP := hid hp
    have HC := hid (owns_kept (owns_base hrow (show P + 1 ≤ w.heap.size by omega)) HB2.out)
    clear tk' hp hrow
    go_wp2_with (at_builtin; go_must ((refine wpList_append_lies _ rfl _ _ 22 rfl (P + 1) 46 j0 (.agg #[.int .i64 0, .int .i64 0, .slice none 0 0]) 3 40 Tryd.underlying22 hj hy0 hy1 hy2 rfl (by decide) _ _ _ rfl H2.out _ 1 1 [.int .i64 x, .int .i64 y, .slice ca cn cc] rfl rfl (news_new (H := w1.heap.size + 1) (by simp) _ _) (by intro u hu; simp at hu; rcases hu with rfl | rfl | rfl <;> rfl) (by decide) (by unfold maxLen; omega) (by omega) (by simp; omega) _ rfl ?_; intro g6 cap6 w8 ho8 hg8 _ _; have md1 := hg8.cell J.out.1 (row_ne H2.out (b := P) (.inl (by omega))); have md2 := (hg8.frozen_far ⟨P, 0, none⟩ (lt_of_cell J.out.1) (row_ne H2.out (b := P) (.inl (by omega)))).trans J.out.2; have E8 := hid (And.intro ho8 hg8); clear ho8 hg8)))
    go_ret
    obtain ⟨e1, e2⟩ := E8.out
    have rT := row_ne H2.out (b := T) (.inl (by omega))
    refine ⟨(OF.out.grown e2 (by simp; omega) (fun k hk => .inr (by have := (H2.out.lt k hk).1; omega))).setCell (Nat.le_refl _) _, _, _, _, World.cell?_setCell_same _ _ _ md1, .inl ⟨(x, y, c), s', HP.out, rfl, (TK.out.grown e2 rT).set _ _ (by simp; omega), ⟨World.cell?_setCell_same _ _ _ md1, by simpa using md2, ?_⟩⟩⟩
    exact (OwnFns.snoc (by decide) rfl HT1.out H2.out H3.out HC.out (by omega) e1 e2).set _ _ (by simp)
  · obtain ⟨tt, zz, rfl⟩ := hch.iface
    have HP := hid hp
    have HCH := hid hch
    clear hp hch
    go_wp2_with (at_builtin; go_must ((refine wpList_append_lies _ rfl _ _ 22 rfl (P + 1) 46 j0 (.agg #[.int .i64 0, .int .i64 0, .slice none 0 0]) 3 40 Tryd.underlying22 hj hy0 hy1 hy2 rfl (by decide) _ _ _ rfl H2.out _ 1 1 [.int .i64 x, .int .i64 y, .slice ca cn cc] rfl rfl (news_new (H := w1.heap.size + 1) (by simp) _ _) (by intro u hu; simp at hu; rcases hu with rfl | rfl | rfl <;> rfl) (by decide) (by unfold maxLen; omega) (by omega) (by simp; omega) _ rfl ?_; intro g6 cap6 w8 ho8 hg8 _ _; have md1 := hg8.cell J.out.1 (row_ne H2.out (b := P) (.inl (by omega))); have md2 := (hg8.frozen_far ⟨P, 0, none⟩ (lt_of_cell J.out.1) (row_ne H2.out (b := P) (.inl (by omega)))).trans J.out.2; have E8 := hid (And.intro ho8 hg8); clear ho8 hg8)))
    go_ret
    obtain ⟨e1, e2⟩ := E8.out
    exact ⟨(OF.out.grown e2 (by simp; omega) (fun k hk => .inr (by have := (H2.out.lt k hk).1; omega))).setCell (Nat.le_refl _) _, _, _, _, World.cell?_setCell_same _ _ _ md1, .inr ⟨HP.out, _, z, m, rfl, HCH.out, hz⟩⟩

theorem enter_progStep : ∀ args w, (callFunc 44 args).run Tryd.prog w = .ok (.enter 44 args) w := enters_of Tryd.func44 (by kernel_rfl) rfl
theorem fSt_succ {l r r' : List Int} {j : Nat} {c : List Fn} {i : Fn} (h : fSt l j = some (c, r)) (h2 : pFn r = some (i, r')) : fSt l (j + 1) = some (c ++ [i], r') := by simp [fSt, h, h2]
theorem fSt_fail {l r : List Int} {j : Nat} {c : List Fn} (h : fSt l j = some (c, r)) (h2 : pFn r = none) : fSt l (j + 1) = none := by simp [fSt, h, h2]

theorem eachProg_any (T Q P n : Nat) (name : ByteArray) (hname : name.size ≤ 100) (s : ByteArray) (va : Option Addr) (vn vc : Nat) (W : World) (tk : Tk W T s) (hq : W.cell? ⟨Q, 0, none⟩ = some (.pointer (some ⟨T, 0, none⟩))) (hQP : Q < P) (hQT : Q ≠ T)
    (pb : PBox W P [] va vn vc) {a b : Addr} {B : Nat} (L : Laid a b B W) (hT : B ≤ T) (hTP : T < P) (hn : n ≤ 255) :
    Calls Tryd.prog 30 #[.string name, .int .i64 n, .func (.func 44) #[] #[.pointer (some ⟨Q, 0, none⟩), .pointer (some ⟨P, 0, none⟩)]] W fun e u => Off T P W u ∧ ∃ va vn vc, u.cell? ⟨P, 0, none⟩ = some (.slice va vn vc) ∧
      ((∃ l s', fSt (sb s) n = some (l, sb s') ∧ e = .returned .nilIface ∧ Tk u T s' ∧ PBox u P l va vn vc) ∨ (fSt (sb s) n = none ∧ Bad a b e)) := by
  refine (each_any name hname n hn 44 _ enter_progStep (a := a) (b := b) (B := B)
    (fun k u => Off T P W u ∧ ∃ l va vn vc s', PBox u P l va vn vc ∧ fSt (sb s) k = some (l, sb s') ∧ Tk u T s') (fun _ u => Off T P W u ∧ (∃ va vn vc, u.cell? ⟨P, 0, none⟩ = some (.slice va vn vc)) ∧ fSt (sb s) n = none)
    W ⟨Off.refl _ _ _, _, _, _, _, s, pb, rfl, tk⟩ (fun k u hu => L.off hu.1 hT (by omega)) (fun k u u' hu hb => ?_) ?_).mono ?_
  · obtain ⟨h1, ⟨va, vn, vc, h2⟩, h3⟩ := hu
    exact ⟨h1.kept hb (by have := lt_of_cell h2; omega), ⟨va, vn, vc, kept_cell hb h2⟩, h3⟩
  · rintro k u hk ⟨h1, l, va, vn, vc, s', h2, h3, h4⟩
    have hcl := fSt_len h3
    refine (progStep_any T Q P k s' l va vn vc u h4 (h1.cell hq hQP hQT) h2 (L.off h1 hT (by omega)) hT hTP (by omega)).mono ?_
    rintro e u' ⟨g1, va', vn', vc', gc, ⟨f, s'', g3, rfl, g4, g2⟩ | ⟨g3, v, x, m, rfl, hch, hx⟩⟩
    · exact .inl ⟨rfl, h1.trans g1, _, _, _, _, s'', g2, fSt_succ h3 g3, g4⟩
    · exact .inr ⟨v, x, m, rfl, hch, hx, h1.trans g1, ⟨_, _, _, gc⟩, fSt_none (fSt_fail h3 g3) n (by omega)⟩
  · rintro e u (⟨rfl, h1, l, va, vn, vc, s', h2, h3, h4⟩ | ⟨k, v, z, m, hk, rfl, hch, hx, h1, ⟨va, vn, vc, h2⟩, h3⟩)
    · exact ⟨h1, va, vn, vc, h2.c0, .inl ⟨l, s', h3, rfl, h4, h2⟩⟩
    · exact ⟨h1, va, vn, vc, h2, .inr ⟨h3, v, z, m, rfl, hch, hx⟩⟩

def pProg : List Int → Option (List Fn × List Int)
  | n :: r => fSt r n.toNat
  | [] => none

set_option maxRecDepth 100000 in
set_option maxHeartbeats 4000000 in
theorem program_any (T : Nat) (s : ByteArray) (w : World) (tk : Tk w T s) {a b : Addr} {B : Nat} (L : Laid a b B w) (hT : B ≤ T) :
    Calls Tryd.prog 36 #[.pointer (some ⟨T, 0, none⟩)] w fun e u => Off T w.heap.size w u ∧ ∃ va vn vc err, e = .returned (.tuple #[.agg #[.slice va vn vc], err]) ∧
      ((∃ l s', pProg (sb s) = some (l, sb s') ∧ err = .nilIface ∧ Tk u T s' ∧ OwnFns 43 46 u w.heap.size (.slice va vn vc) l ∧ l.length ≤ 255) ∨ (pProg (sb s) = none ∧ ∃ z m, Chain err z m ∧ (z = a ∨ z = b))) := by
  have hTl := lt_of_cell tk.left
  by_cases h0 : s.size = 0
  · have hs : Hid (pProg (sb s) = none) := by
      show pProg (sb s) = none
      have : sb s = [] := List.eq_nil_of_length_eq_zero (by rw [sb_len]; exact h0)
      rw [this]; rfl
    go_enter Tryd.func36, Tryd.ntmps36
    go_wp2_with fail
    refine (number_end T 1 s _ (((tk.alloc _).alloc _).alloc _) (by omega) (by omega) (((L.alloc _).alloc _).alloc _)).mono ?_
    rintro e w1 ⟨rfl, d, rfl⟩
    go_wp2_with fail
    refine bodyPost_ret (v := .tuple #[.agg #[.slice none 0 0], .iface 80 (.agg #[.string ⟨#[102, 117, 110, 99, 116, 105, 111, 110, 115]⟩, .iface 119 (.pointer (some b))])]) (by simp [results, Tryd.results36, go_sem]) rfl ⟨?_, none, 0, 0, _, rfl, .inr ⟨hs.out, b, 1, .wrap _ _ _ _ (.leaf b), .inr rfl⟩⟩
    exact ((((((Off.refl _ _ _).alloc (Nat.le_refl _) _).alloc (by simp) _).alloc (by simp; omega) _).drewN d).setCell (by simp) _)
  obtain ⟨n, r, hsb⟩ : ∃ n r, sb s = n :: r := by
    cases e : sb s with
    | nil => have := sb_len s; rw [e] at this; simp at this; omega
    | cons k0 r => exact ⟨k0, r, rfl⟩
  have hn : 0 ≤ n ∧ n ≤ 255 := sb_isB s n (by rw [hsb]; simp)
  have hle : le ((sb s).take 1) = n := by rw [hsb]; simp [le]
  have HSB := hid hsb
  have hdrop : sb (s.extract 1 s.size) = r := by rw [sb_ext_drop, hsb]; rfl
  have HLE := hid hle
  have HD := hid hdrop
  clear hsb hle hdrop
  obtain ⟨m, rfl⟩ := Int.eq_ofNat_of_zero_le hn.1
  go_enter Tryd.func36, Tryd.ntmps36
  go_wp2_with fail
  refine (number_ok T 1 s _ (((tk.alloc _).alloc _).alloc _) (by omega) (by omega)).mono ?_
  rintro e w1 ⟨rfl, tk1, hg1⟩
  rw [HLE.out]
  have q1 := tk_cell hg1 (b := w.heap.size) (o := 0) (v := .pointer (some ⟨T, 0, none⟩)) (by simp [go_sem]) (by omega)
  have r1 := tk_cell hg1 (b := w.heap.size + 1) (o := 0) (v := .slice none 0 0) (by simp [go_sem]) (by omega)
  have rf := tk_free hg1 (b := w.heap.size + 1) (o := 0) (v := .slice none 0 0) (by simp [go_sem]) (by omega) (by simp [go_sem])
  have p1 := tk_cell hg1 (b := w.heap.size + 1 + 1) (o := 0) (v := .slice none 0 0) (by simp [go_sem]) (by omega)
  have pf := tk_free hg1 (b := w.heap.size + 1 + 1) (o := 0) (v := .slice none 0 0) (by simp [go_sem]) (by omega) (by simp [go_sem])
  have s1 : w.heap.size + 3 ≤ w1.heap.size := by have := hg1.size; simpa using this
  have O1 : Off T w.heap.size w w1 := Off.grown ((((Off.refl T w.heap.size w).alloc (Nat.le_refl _) _).alloc (by simp) _).alloc (by simp; omega) _) hg1 (by simp; omega) (fun k hk => by cases hk; exact .inl rfl)
  have lB := L.size
  have L1 := hid (L.off O1 hT (by omega))
  have pb1 : PBox w1 (w.heap.size + 1 + 1) [] none 0 0 := ⟨p1, pf, OwnFns.nil _ _ _ _⟩
  have PB1 := hid pb1
  have TK1 := hid tk1
  have OO := hid O1
  clear hg1 tk1 pb1 L tk O1
  go_wp2_with fail
  refine (eachProg_any T w.heap.size (w.heap.size + 1 + 1) m _ (by decide) _ none 0 0 _ TK1.out q1 (by omega) (by omega) PB1.out L1.out hT (by omega) (by omega)).mono ?_
  rintro e u ⟨off, va, vn, vc, pc, hr⟩
  have k1 := off.cell r1 (by omega) (by omega)
  have kf := off.free rf (by omega) (by omega)
  have su := off.size
  have O4 := hid (OO.out.trans ⟨off.os, off.tape, off.output, off.size, fun k hk hne => off.block k (by omega) hne⟩)
  clear off r1 rf q1 p1 pf
  rcases hr with ⟨l, s', hc, rfl, tk', pb⟩ | ⟨hc, v, z, mm, rfl, hch, hz⟩
  · have HC := hid hc
    have TK := hid tk'
    have PB := hid pb
    clear hc tk' pb
    go_wp2_with fail
    refine bodyPost_ret (v := .tuple #[.agg #[.slice va vn vc], .nilIface]) (by simp [results, Tryd.results36, go_sem, k1]) rfl ⟨O4.out.setCell (by simp) _, va, vn, vc, _, rfl, .inl ⟨l, s', ?_, rfl, TK.out.set _ _ (by simp; omega), (PB.out.row.set _ _ (by simp)).base (by omega), by have := fSt_len HC.out; omega⟩⟩
    rw [HSB.out]
    simp only [pProg, Int.toNat_natCast]
    rw [← HD.out, HC.out]
  · obtain ⟨tt, zz, rfl⟩ := hch.iface
    have HC := hid hc
    have HCH := hid hch
    clear hc hch
    go_wp2_with fail
    refine bodyPost_ret (v := .tuple #[.agg #[.slice va vn vc], .iface tt zz]) (by simp [results, Tryd.results36, go_sem, k1]) rfl ⟨O4.out.setCell (by simp) _, va, vn, vc, _, rfl, .inr ⟨?_, z, mm, HCH.out, hz⟩⟩
    rw [HSB.out]
    simp only [pProg, Int.toNat_natCast]
    rw [← HD.out, HC.out]

theorem pAll_of {l r : List Int} (h : l = 84 :: 105 :: 107 :: r) : pAll l = match pProg r with | some (fs, []) => some fs | _ => none := by
  subst h
  cases r with
  | nil => rfl
  | cons n r => simp only [pAll, pProg, and_self, if_true]; rfl
theorem pAll_head {l : List Int} (h : ∀ r, l ≠ 84 :: 105 :: 107 :: r) : pAll l = none := by
  match l with
  | x :: y :: z :: n :: r =>
    simp only [pAll]
    split
    · next he => obtain ⟨rfl, rfl, rfl⟩ := he; exact absurd rfl (h _)
    · rfl
  | [] => rfl
  | [_] => rfl
  | [_, _] => rfl
  | [_, _, _] => rfl

def takeAllPost (a b : Addr) (s : ByteArray) (w : World) (e : Ending) (u : World) : Prop :=
  Below w.heap.size w u ∧ ∃ va vn vc err, e = .returned (.tuple #[.agg #[.slice va vn vc], err]) ∧
      ((∃ l, pAll (sb s) = some l ∧ err = .nilIface ∧ OwnFns 43 46 u w.heap.size (.slice va vn vc) l ∧ l.length ≤ 255) ∨ (pAll (sb s) = none ∧ ∃ z m, Chain err z m ∧ (z = a ∨ z = b)))

set_option maxRecDepth 100000 in
set_option maxHeartbeats 4000000 in
theorem takeAll_any (s : ByteArray) (w : World) (hs : s.size ≤ 140737488351232) {a b : Addr} (L : Laid a b w.heap.size w) :
    Calls Tryd.prog 24 #[.string s] w fun e u => takeAllPost a b s w e u := by
  have tk0 : Tk ((w.alloc (.cells #[.slice none 0 0] 24)).alloc (.cells #[.string s] 76)) (w.heap.size + 1) s := ⟨by simp [go_sem], by simp [go_sem], hs⟩
  have L0 := hid ((L.alloc (.cells #[.slice none 0 0] 24)).alloc (.cells #[.string s] 76))
  obtain ⟨ll1, ll2, _⟩ := L.low
  by_cases h3 : 3 ≤ s.size
  · have ht3 : (s.extract 0 3).size = 3 := by simp; omega
    have htb : sb (s.extract 0 3) = (sb s).take 3 := by rw [sb_extract]
    have hdr : sb (s.extract 3 s.size) = (sb s).drop 3 := by rw [sb_ext_drop]
    have HDR := hid hdr
    have HTB := hid htb
    clear hdr htb L
    go_enter Tryd.func24, Tryd.ntmps24
    go_wp2_with fail
    refine (take_ok (w.heap.size + 1) 3 s _ tk0 h3).mono ?_
    rintro e w2 ⟨rfl, tk2, hg2⟩
    have r0 := tk_cell hg2 (b := w.heap.size) (o := 0) (v := .slice none 0 0) (by simp [go_sem]) (by omega)
    have rf := tk_free hg2 (b := w.heap.size) (o := 0) (v := .slice none 0 0) (by simp [go_sem]) (by omega) (by simp [go_sem])
    have s2 : w.heap.size + 2 ≤ w2.heap.size := by have := hg2.size; simpa using this
    have B2 : Below w.heap.size w w2 := tk_below (by go_grown) hg2 (by omega) (by simp; omega)
    have L2 := hid (L0.out.kept (tk_below (Below.refl _ _) hg2 (by omega) (by simp; omega)))
    have BB := hid B2
    have TK2 := hid tk2
    clear hg2 tk2 tk0 L0 B2
    by_cases hh : s.extract 0 3 = ⟨#[84, 105, 107]⟩
    · rw [hh]
      have hsb : Hid (sb s = 84 :: 105 :: 107 :: sb (s.extract 3 s.size)) := by
        show sb s = _
        rw [HDR.out]
        have e := HTB.out
        rw [hh] at e
        have e2 : (sb s).take 3 = [84, 105, 107] := by rw [← e]; rfl
        conv => lhs; rw [← List.take_append_drop 3 (sb s), e2]
        rfl
      have HPA := hid (pAll_of hsb.out)
      clear hh ht3
      go_wp2_with fail
      refine (program_any (w.heap.size + 1) _ _ TK2.out L2.out (by omega)).mono ?_
      rintro e u ⟨off, va, vn, vc, err, rfl, hr⟩
      have k0 := off.cell r0 (by omega) (by omega)
      have kf := off.free rf (by omega) (by omega)
      have su := off.size
      have B4 := hid (BB.out.trans (off.below (B := w.heap.size) (by omega) (by omega)))
      have c4 := (L2.out.off off (by omega) (by omega)).form
      have bU : Below u.heap.size u (u.alloc (.cells #[.slice va vn vc] 24)) := Below.alloc (Below.refl _ _) (Nat.le_refl _) _
      have k0U := kept_cell bU k0
      have kfU := (bU.frozen (p := ⟨w.heap.size, 0, none⟩) (lt_of_cell k0)).trans kf
      have c4U := kept_cell bU c4
      have BU := hid (BB.out.trans ((off.below (B := w.heap.size) (by omega) (by omega)).trans (bU.mono (by omega))))
      have BW := hid bU
      clear off r0 rf B4 bU c4 k0 kf
      rcases hr with ⟨l, s', hp, rfl, tk', ow, hll⟩ | ⟨hp, z, m, hch, hz⟩
      · have HP := hid hp
        have OW := hid (ow.kept BW.out)
        have tl := kept_cell BW.out tk'.left
        clear hp ow tk'
        by_cases he : s' = ByteArray.empty
        · subst he
          go_wp2_with fail
          refine bodyPost_ret (v := .tuple #[.agg #[.slice va vn vc], .nilIface]) (by simp [results, Tryd.results24, go_sem, k0U]) rfl ⟨BU.out.setCell (by simp) _, va, vn, vc, _, rfl, .inl ⟨l, ?_, rfl, ?_, hll⟩⟩
          · rw [HPA.out, HP.out]; rfl
          · obtain ⟨tt, h1, h2, h3'⟩ := OW.out
            exact (OwnFns.set (base := w2.heap.size) ⟨tt, h1, h2, h3'⟩ _ _ (by simp; omega)).base (by omega)
        · have hne : (s'.toList == []) = false := by
            rw [Go.ByteArray.toList_eq]
            simp
            exact fun h => he (ByteArray.ext h)
          have hnl : sb s' ≠ [] := by
            intro h
            apply he
            rw [← str_sb s', h]
            rfl
          have HNL := hid hnl
          clear hnl
          go_wp2_with fail
          refine bodyPost_ret (v := .tuple #[.agg #[.slice va vn vc], .iface 80 (.agg #[.string ⟨#[114, 101, 115, 116]⟩, .iface 119 (.pointer (some a))])]) (by simp [results, Tryd.results24, go_sem, k0U]) rfl ⟨BU.out.setCell (by simp) _, va, vn, vc, _, rfl, .inr ⟨?_, a, 1, .wrap _ _ _ _ (.leaf a), .inl rfl⟩⟩
          rw [HPA.out, HP.out]
          have := HNL.out
          cases e : sb s' with
          | nil => exact absurd e this
          | cons x r => rfl
      · obtain ⟨tt, zz, rfl⟩ := hch.iface
        have HP := hid hp
        have HCH := hid hch
        clear hp hch
        go_wp2_with fail
        refine bodyPost_ret (v := .tuple #[.agg #[.slice va vn vc], .iface tt zz]) (by simp [results, Tryd.results24, go_sem, k0U]) rfl ⟨BU.out.setCell (by simp) _, va, vn, vc, _, rfl, .inr ⟨?_, z, m, HCH.out, hz⟩⟩
        rw [HPA.out, HP.out]
    · have hne : ((s.extract 0 3).toList == [84, 105, 107]) = false := by
        rw [Go.ByteArray.toList_eq]
        simp only [beq_eq_false_iff_ne]
        exact fun h => hh (ByteArray.ext (Array.ext' h))
      have hsb : Hid (pAll (sb s) = none) := by
        refine hid (pAll_head fun r e => hh ?_)
        have e2 := HTB.out
        rw [e] at e2
        rw [← str_sb (s.extract 0 3), e2]
        rfl
      have c0 := L2.out.form
      clear hh ht3
      go_wp2_with fail
      go_region
      go_wp2_with fail
      refine bodyPost_ret (v := .tuple #[.agg #[.slice none 0 0], .iface 80 (.agg #[.string ⟨#[104, 101, 97, 100]⟩, .iface 119 (.pointer (some a))])]) (by simp [results, Tryd.results24, go_sem, r0]) rfl ⟨(BB.out.setCell (by simp) _).drew, none, 0, 0, _, rfl, .inr ⟨hsb.out, a, 1, .wrap _ _ _ _ (.leaf a), .inl rfl⟩⟩
  · have hsb : Hid (pAll (sb s) = none) := by
      refine hid (pAll_head fun r e => h3 ?_)
      rw [← sb_len, e]; simp
    have c0 := L0.out.form
    go_enter Tryd.func24, Tryd.ntmps24
    go_wp2_with fail
    refine (take_end (w.heap.size + 1) 3 s _ tk0 (by omega) (by omega) L0.out).mono ?_
    rintro e w2 ⟨rfl, d, rfl⟩
    go_wp2_with fail
    go_region
    go_wp2_with fail
    refine bodyPost_ret (v := .tuple #[.agg #[.slice none 0 0], .iface 80 (.agg #[.string ⟨#[104, 101, 97, 100]⟩, .iface 119 (.pointer (some a))])]) (by simp [results, Tryd.results24, go_sem]) rfl ⟨Below.setCell (below_drewN (by go_grown) _) (by simp) _, none, 0, 0, _, rfl, .inr ⟨hsb.out, a, 1, .wrap _ _ _ _ (.leaf a), .inl rfl⟩⟩

end Go.Proofs.YtlknaanheieneaaDoor
