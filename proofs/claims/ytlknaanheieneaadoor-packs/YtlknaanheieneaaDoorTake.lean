/- What the package's taker does: bytes off the front of what is left, numbers, instructions. -/
import Derived.Test.YtlknaanheieneaaDoorParse
import Derived.Laws.BitsAllLaws
namespace Go.Proofs.YtlknaanheieneaaDoor
open Go.RowKit
set_option linter.unusedVariables false

/-- The taker at block T: what is left. -/
structure Tk (w : World) (T : Nat) (s : ByteArray) : Prop where
  left : w.cell? ⟨T, 0, none⟩ = some (.string s)
  free : w.frozen? ⟨T, 0, none⟩ = false
  fits : s.size ≤ 140737488351232
theorem Tk.kept {w w' : World} {T : Nat} {s : ByteArray} (h : Tk w T s) (hb : Below w.heap.size w w') : Tk w' T s :=
  ⟨kept_cell hb h.left, (hb.frozen (p := ⟨T, 0, none⟩) (lt_of_cell h.left)).trans h.free, h.fits⟩
theorem Tk.alloc {w : World} {T : Nat} {s : ByteArray} (h : Tk w T s) (o : Obj) : Tk (w.alloc o) T s := h.kept (Below.alloc (Below.refl _ _) (Nat.le_refl _) o)
theorem Tk.grown {w w' : World} {T : Nat} {s : ByteArray} {row : Option Nat} (h : Tk w T s) (hg : w.grownBy w' row) (hne : some T ≠ row) : Tk w' T s :=
  ⟨hg.cell h.left hne, (hg.frozen_far ⟨T, 0, none⟩ (lt_of_cell h.left) hne).trans h.free, h.fits⟩
theorem Tk.set {w : World} {T : Nat} {s : ByteArray} (h : Tk w T s) (a : Addr) (v : Value) (ha : a.block ≠ T) : Tk (w.setCell a v) T s := by
  have e : (w.setCell a v).heap[T]? = w.heap[T]? := Below.heap_setCell w a v T (Ne.symm ha)
  exact ⟨(World.cell?_of_block (w := w) e).trans h.left, (World.frozen?_of_block (w := w) e).trans h.free, h.fits⟩

theorem sb_ext_drop (s : ByteArray) (n : Nat) : sb (s.extract n s.size) = (sb s).drop n := by
  unfold sb
  rw [← List.map_drop]
  congr 1
  simp [ByteArray.extract, ByteArray.copySlice]
  exact List.take_of_length_le (by simp)

set_option maxHeartbeats 1000000 in
theorem take_ok (T n : Nat) (s : ByteArray) (w : World) (h : Tk w T s) (hn : n ≤ s.size) :
    Calls Tryd.prog 35 #[.pointer (some ⟨T, 0, none⟩), .int .i64 n] w fun e w' => e = .returned (.tuple #[.string (s.extract 0 n), .nilIface]) ∧ Tk w' T (s.extract n s.size) ∧ w.grownBy w' (some T) := by
  obtain ⟨h1, h2, h3⟩ := h
  have hn' : ¬ ((s.size : Int) < (n : Int)) := by omega
  go_enter Tryd.func35, Tryd.ntmps35
  go_wp2_with fail
  go_ret2
  refine ⟨rfl, ⟨World.cell?_setCell_same _ _ _ h1, by simpa using h2, by simp; omega⟩, grownBy_set w T 0 _⟩

set_option maxHeartbeats 1000000 in
theorem take_end (T n : Nat) (s : ByteArray) (w : World) (h : Tk w T s) (hl : n ≤ 1000) (hn : s.size < n) {a b : Addr} {B : Nat} (L : Laid a b B w) :
    Calls Tryd.prog 35 #[.pointer (some ⟨T, 0, none⟩), .int .i64 n] w fun e w' => e = .returned (.tuple #[.string ByteArray.empty, .iface 119 (.pointer (some b))]) ∧ ∃ d, w' = w.drewN d := by
  obtain ⟨h1, h2, h3⟩ := h
  have hn' : ((s.size : Int) < (n : Int)) := by omega
  have c1 := L.fend
  clear L
  go_enter Tryd.func35, Tryd.ntmps35
  go_wp2_with fail
  go_quiet (fail)
  go_wp2_with fail
  go_ret2
  exact ⟨rfl, _, rfl⟩

set_option maxHeartbeats 1000000 in
theorem number_end (T n : Nat) (s : ByteArray) (w : World) (h : Tk w T s) (hl : n ≤ 4) (hn : s.size < n) {a b : Addr} {B : Nat} (L : Laid a b B w) :
    Calls Tryd.prog 43 #[.pointer (some ⟨T, 0, none⟩), .int .i64 n] w fun e w' => e = .returned (.tuple #[.int .i64 0, .iface 119 (.pointer (some b))]) ∧ ∃ d, w' = w.drewN d := by
  go_enter Tryd.func43, Tryd.ntmps43
  go_wp2_with fail
  refine (take_end T n s _ h (by omega) hn L).mono ?_
  rintro e w1 ⟨rfl, d, rfl⟩
  go_wp2_with fail
  refine wp_loop_rounds 1 ?_
  rw [rounds_succ]
  go_wp2_with fail
  go_ret2
  exact ⟨rfl, d, rfl⟩

theorem le_snoc (l : List Int) (b : Int) : le (l ++ [b]) = le l + 256 ^ l.length * b := by
  induction l with
  | nil => simp [le]
  | cons x r ih => simp only [List.cons_append, le, ih, List.length_cons, Int.pow_succ]; rw [Int.mul_add]; simp only [Int.mul_assoc, Int.add_assoc]; congr 2; rw [Int.mul_left_comm]
theorem le_bd {l : List Int} (h : isB l) : 0 ≤ le l ∧ le l < 256 ^ l.length := by
  induction l with
  | nil => simp [le]
  | cons x r ih =>
    have h1 := ih (fun y hy => h y (by simp [hy]))
    have h2 := h x (by simp)
    simp only [le, List.length_cons, Int.pow_succ]
    omega
theorem i64_or_nat (a b : Nat) (ha : a < 2 ^ 62) (hb : b < 2 ^ 62) : bits .or .i64 (a : Int) (b : Int) = ((a ||| b : Nat) : Int) := by
  have hx : a ||| b < 2 ^ 62 := Nat.or_lt_two_pow ha hb
  show IntKind.i64.wrap ((BitVec.ofInt 64 (a : Int) ||| BitVec.ofInt 64 (b : Int)).toNat : Int) = _
  rw [BitVec.toNat_or, ofInt_u64 a (by omega), ofInt_u64 b (by omega)]
  generalize a ||| b = c at hx
  rw [IntKind.wrap_i64]
  omega
theorem nat_or_add (a b i : Nat) (ha : a < 2 ^ i) : a ||| (b * 2 ^ i) = a + b * 2 ^ i := by
  have h := Nat.two_pow_add_eq_or_of_lt ha b
  rw [Nat.or_comm, Nat.mul_comm b, ← h, Nat.add_comm]
theorem or_le {t : ByteArray} {k : Nat} (hk : k < 4) (ht : k < t.size) : bits .or .i64 (le ((sb t).take k)) (wrap64 (wrap64 (t[k].toNat : Int) * 256 ^ k)) = le ((sb t).take (k + 1)) := by
  have hb : isB ((sb t).take k) := fun x hx => sb_isB t x (List.mem_of_mem_take hx)
  have hlen : ((sb t).take k).length = k := by rw [List.length_take, sb_len]; omega
  have h1 := le_bd hb
  rw [hlen] at h1
  have hs : (sb t).take (k + 1) = (sb t).take k ++ [(t[k].toNat : Int)] := by
    rw [List.take_succ_eq_append_getElem (by rw [sb_len]; exact ht)]
    congr 2
    have := sb_at t k ht
    rw [this, List.getD_eq_getElem?_getD, List.getElem?_eq_getElem (by rw [sb_len]; exact ht)]; rfl
  rw [hs, le_snoc, hlen]
  obtain ⟨A, hA⟩ := Int.eq_ofNat_of_zero_le h1.1
  rw [hA] at h1 ⊢
  have hc := t[k].toNat_lt
  generalize t[k].toNat = c at hc ⊢
  have e0 : wrap64 (c : Int) = c := IntWalk.wrap64_in _ (by omega)
  rw [e0]
  rcases (show k = 0 ∨ k = 1 ∨ k = 2 ∨ k = 3 by omega) with rfl | rfl | rfl | rfl
  · have e1 : wrap64 ((c : Int) * 256 ^ 0) = ((c * 2 ^ 0 : Nat) : Int) := by rw [IntWalk.wrap64_in _ (by omega)]; simp
    rw [e1, i64_or_nat _ _ (by omega) (by omega), nat_or_add _ _ _ (by omega)]; simp
  · have e1 : wrap64 ((c : Int) * 256 ^ 1) = ((c * 2 ^ 8 : Nat) : Int) := by rw [IntWalk.wrap64_in _ (by omega)]; simp
    rw [e1, i64_or_nat _ _ (by omega) (by omega), nat_or_add _ _ _ (by omega)]; simp; omega
  · have e1 : wrap64 ((c : Int) * 256 ^ 2) = ((c * 2 ^ 16 : Nat) : Int) := by rw [IntWalk.wrap64_in _ (by omega)]; simp
    rw [e1, i64_or_nat _ _ (by omega) (by omega), nat_or_add _ _ _ (by omega)]; simp; omega
  · have e1 : wrap64 ((c : Int) * 256 ^ 3) = ((c * 2 ^ 24 : Nat) : Int) := by rw [IntWalk.wrap64_in _ (by omega)]; simp
    rw [e1, i64_or_nat _ _ (by omega) (by omega), nat_or_add _ _ _ (by omega)]; simp; omega

set_option maxHeartbeats 2000000 in
theorem number_ok (T n : Nat) (s : ByteArray) (w : World) (h : Tk w T s) (hl : n ≤ 4) (hn : n ≤ s.size) :
    Calls Tryd.prog 43 #[.pointer (some ⟨T, 0, none⟩), .int .i64 n] w fun e w' => e = .returned (.tuple #[.int .i64 (le ((sb s).take n)), .nilIface]) ∧ Tk w' T (s.extract n s.size) ∧ w.grownBy w' (some T) := by
  have hts : (s.extract 0 n).size = n := by simp; omega
  have htb : sb (s.extract 0 n) = (sb s).take n := sb_extract s n
  rw [← htb]
  go_enter Tryd.func43, Tryd.ntmps43
  go_wp2_with fail
  refine (take_ok T n s _ h hn).mono ?_
  rintro e w1 ⟨rfl, tk, hg⟩
  have TK := hid tk
  have HG := hid hg
  clear tk hg htb
  generalize hte : s.extract 0 n = t at hts ⊢
  have HTE := hid hte
  clear hte
  go_wp2_with fail
  go_loopw [8, 18] (fun x i wr => wr = w1 ∧ ∃ k : Nat, k ≤ n ∧ i = .int .i64 k ∧ x = .int .i64 (le ((sb t).take k))) (fun _ i _ => n - (intOf i).toNat)
  case atStart => exact ⟨rfl, 0, Nat.zero_le _, rfl, rfl⟩
  case round =>
    obtain ⟨rfl, k, hk, rfl, rfl⟩ := hrel
    by_cases hlt : k < n
    · have ho := or_le (t := t) (k := k) (by omega) (by omega)
      have HO := hid ho
      clear ho
      rcases (show k = 0 ∨ k = 1 ∨ k = 2 ∨ k = 3 by omega) with rfl | rfl | rfl | rfl
      · go_wp2_with fail
        refine ⟨⟨trivial, 1, by omega, rfl, ?_⟩, by simp [intOf]; omega⟩
        have := HO.out; simp at this; simpa using this
      · go_wp2_with fail
        refine ⟨⟨trivial, 2, by omega, rfl, ?_⟩, by simp [intOf]; omega⟩
        have := HO.out; simp at this; simpa using this
      · go_wp2_with fail
        refine ⟨⟨trivial, 3, by omega, rfl, ?_⟩, by simp [intOf]; omega⟩
        have := HO.out; simp at this; simpa using this
      · go_wp2_with fail
        refine ⟨⟨trivial, 4, by omega, rfl, ?_⟩, by simp [intOf]; omega⟩
        have := HO.out; simp at this; simpa using this
    · go_wp2_with fail
      go_ret2
      have hkn : k = n := by omega
      refine ⟨?_, TK.out, HG.out⟩
      subst hkn
      rw [List.take_of_length_le (by rw [sb_len]; omega), HTE.out]
      rfl

theorem Off.drewN {T H : Nat} {a b : World} (h : Off T H a b) (d : Nat) : Off T H a (b.drewN d) := ⟨h.os, h.tape, h.output, h.size, h.block⟩
theorem Tk.drewN {w : World} {T : Nat} {s : ByteArray} (h : Tk w T s) (d : Nat) : Tk (w.drewN d) T s := ⟨h.left, h.free, h.fits⟩
theorem Laid.off {a b : Addr} {B T H : Nat} {w w' : World} (h : Laid a b B w) (ho : Off T H w w') (hT : B ≤ T) (hH : B ≤ H) : Laid a b B w' := h.kept (ho.below hT hH)
theorem off_of {T : Nat} {w w' : World} (hg : w.grownBy w' (some T)) : Off T w.heap.size w w' := (Off.refl _ _ _).grown hg (Nat.le_refl _) (fun k hk => by cases hk; exact .inl rfl)

set_option maxHeartbeats 4000000 in
theorem instruction_any (T : Nat) (s : ByteArray) (w : World) (h : Tk w T s) {a b : Addr} {B : Nat} (L : Laid a b B w) (hT : B ≤ T) :
    Calls Tryd.prog 52 #[.pointer (some ⟨T, 0, none⟩)] w fun e u => Off T w.heap.size w u ∧ ∃ k x err, e = .returned (.tuple #[.agg #[.int .i64 k, .int .i64 x], err]) ∧
      ((∃ s', pIns (sb s) = some ((k, x), sb s') ∧ err = .nilIface ∧ Tk u T s') ∨ (pIns (sb s) = none ∧ err = .iface 119 (.pointer (some b)))) := by
  have hTl := lt_of_cell h.left
  by_cases h0 : s.size = 0
  · have hs : Hid (pIns (sb s) = none) := by
      show pIns (sb s) = none
      have : sb s = [] := List.eq_nil_of_length_eq_zero (by rw [sb_len]; exact h0)
      rw [this]; rfl
    go_enter Tryd.func52, Tryd.ntmps52
    go_wp2_with fail
    refine (number_end T 1 s _ (h.alloc _) (by omega) (by omega) (L.alloc _)).mono ?_
    rintro e w1 ⟨rfl, d, rfl⟩
    go_wp2_with fail
    refine bodyPost_ret (v := .tuple #[.agg #[.int .i64 0, .int .i64 0], .iface 119 (.pointer (some b))]) (by simp [results, Tryd.results52, go_sem]) rfl ⟨?_, 0, 0, _, rfl, .inr ⟨hs.out, rfl⟩⟩
    exact ((((Off.refl _ _ _).alloc (Nat.le_refl _) _).drewN d).setCell (Nat.le_refl _) _).setCell (Nat.le_refl _) _
  obtain ⟨k0, r, hsb⟩ : ∃ k0 r, sb s = k0 :: r := by
    cases e : sb s with
    | nil => have := sb_len s; rw [e] at this; simp at this; omega
    | cons k0 r => exact ⟨k0, r, rfl⟩
  have hk0 : 0 ≤ k0 ∧ k0 ≤ 255 := sb_isB s k0 (by rw [hsb]; simp)
  have hle : le ((sb s).take 1) = k0 := by rw [hsb]; simp [le]
  have HSB := hid hsb
  have hdrop : sb (s.extract 1 s.size) = r := by rw [sb_ext_drop, hsb]; rfl
  have hlen : (s.extract 1 s.size).size = r.length := by rw [← sb_len, hdrop]
  have HLE := hid hle
  have HD := hid hdrop
  have hsl := szA_le k0
  clear hsb hle hdrop
  go_enter Tryd.func52, Tryd.ntmps52
  go_wp2_with fail
  refine (number_ok T 1 s _ (h.alloc _) (by omega) (by omega)).mono ?_
  rintro e w1 ⟨rfl, tk1, hg1⟩
  rw [HLE.out]
  have c0 := tk_cell hg1 (b := w.heap.size) (o := 0) (v := .int .i64 0) (by simp [go_sem]) (by omega)
  have c1 := tk_cell hg1 (b := w.heap.size) (o := 1) (v := .int .i64 0) (by simp [go_sem]) (by omega)
  have f0 := tk_free hg1 (b := w.heap.size) (o := 0) (v := .int .i64 0) (by simp [go_sem]) (by omega) (by simp [go_sem])
  have f1 := tk_free hg1 (b := w.heap.size) (o := 1) (v := .int .i64 0) (by simp [go_sem]) (by omega) (by simp [go_sem])
  have O1 := hid (Off.grown ((Off.refl T w.heap.size w).alloc (Nat.le_refl _) (.cells #[.int .i64 0, .int .i64 0] 43)) hg1 (by simp) (fun k hk => by cases hk; exact .inl rfl))
  have s1 : w.heap.size + 1 ≤ w1.heap.size := by have := hg1.size; simpa using this
  have L1 := hid (L.off O1.out hT (by have := L.size; omega))
  clear hg1 L
  generalize s.extract 1 s.size = s1' at tk1 hlen HD
  by_cases hz : szA k0 ≤ s1'.size
  · go_wp2_with (go_at_call 21; refine (sizeOfA_any _ _).mono ?_; rintro e w' ⟨rfl, hw⟩; rw [hw]; clear hw)
    refine (number_ok T (szA k0) s1' _ tk1 hsl hz).mono ?_
    rintro e w2 ⟨rfl, tk2, hg2⟩
    have d0 := tk_cell hg2 c0 (by omega)
    have d1 := tk_cell hg2 c1 (by omega)
    have e0 := tk_free hg2 c0 (by omega) f0
    have e1 := tk_free hg2 c1 (by omega) f1
    have O2 := hid (O1.out.grown hg2 (by omega) (fun k hk => by cases hk; exact .inl rfl))
    have TK2 := hid tk2
    clear hg2 c0 c1 f0 f1 tk1 tk2
    go_wp2_with (go_at_call 47; refine (wrap_any _ _).mono ?_; rintro e w' ⟨rfl, hw⟩; rw [hw]; clear hw)
    refine bodyPost_ret (v := .tuple #[.agg #[.int .i64 k0, .int .i64 (wrap32 (le ((sb s1').take (szA k0))))], .nilIface]) (by simp [results, Tryd.results52, go_sem, d0, d1]) rfl ⟨(O2.out.setCell (Nat.le_refl _) _).setCell (Nat.le_refl _) _, _, _, _, rfl, .inl ⟨s1'.extract (szA k0) s1'.size, ?_, rfl, (TK2.out.set _ _ (by simp; omega)).set _ _ (by simp; omega)⟩⟩
    rw [HSB.out, sb_ext_drop, HD.out]
    simp only [pIns]
    rw [if_neg (by omega)]
  · go_wp2_with (go_at_call 21; refine (sizeOfA_any _ _).mono ?_; rintro e w' ⟨rfl, hw⟩; rw [hw]; clear hw)
    refine (number_end T (szA k0) s1' _ tk1 hsl (by omega) L1.out).mono ?_
    rintro e w2 ⟨rfl, d, rfl⟩
    go_wp2_with (go_at_call 47; refine (wrap_any _ _).mono ?_; rintro e w' ⟨rfl, hw⟩; rw [hw]; clear hw)
    refine bodyPost_ret (v := .tuple #[.agg #[.int .i64 k0, .int .i64 (wrap32 0)], .iface 119 (.pointer (some b))]) (by simp [results, Tryd.results52, go_sem, c0, c1]) rfl ⟨((O1.out.drewN d).setCell (Nat.le_refl _) _).setCell (Nat.le_refl _) _, _, _, _, rfl, .inr ⟨?_, rfl⟩⟩
    rw [HSB.out]
    simp only [pIns]
    rw [if_pos (by omega)]

end Go.Proofs.YtlknaanheieneaaDoor
