/- What check returns: nil, if the program may be packed; else a chain of faults. -/
import Derived.Test.YtcngmkbgcfhmdaaGreatDoorEach
import Derived.Test.YtcngmkbgcfhmdaaGreatDoorPlain3
import Derived.Test.YtcngmkbgcfhmdaaGreatDoorRefPacks
import Derived.Shelf.Abstract
namespace Go.Proofs.YtcngmkbgcfhmdaaGreatDoor
open Go.RowKit Go.Extern.Stop Go.Stop Go.Extern
set_option linter.unusedVariables false

/-- A fault that leads to one of the two sentinels. -/
def Bad (a b : Addr) (e : Ending) : Prop := ∃ v x m, e = .returned v ∧ Chain v x m ∧ (x = a ∨ x = b)
theorem Bad.wrap {a b : Addr} {v : Value} (h : Bad a b (.returned v)) (s : ByteArray) : Bad a b (.returned (.iface 202 (.agg #[.string s, v]))) := by
  obtain ⟨v', x, m, e, hc, hx⟩ := h
  cases e
  exact ⟨_, x, m + 1, rfl, .wrap _ _ _ _ hc, hx⟩

theorem bounds_ok (part : ByteArray) (x lo hi : Int) (w : World) (h1 : lo ≤ x) (h2 : x ≤ hi) :
    Calls Tryz.prog 126 #[.string part, .int .i64 x, .int .i64 lo, .int .i64 hi] w fun e w' => e = .returned .nilIface ∧ w' = w := by
  have h1' : ¬ x < lo := by omega
  have h2' : ¬ hi < x := by omega
  go_enter Tryz.func126, Tryz.ntmps126
  go_wp2
  go_ret
  exact ⟨rfl, rfl⟩
theorem bounds_bad (part : ByteArray) (x lo hi : Int) (w : World) {a b : Addr} {B : Nat} (L : Laid a b B w) (h : x < lo ∨ hi < x) :
    Calls Tryz.prog 126 #[.string part, .int .i64 x, .int .i64 lo, .int .i64 hi] w fun e w' => (∃ v, e = .returned (.iface 202 v) ∧ Bad a b (.returned (.iface 202 v))) ∧ w' = w := by
  have c0 := L.form
  clear L
  by_cases h1 : x < lo
  · go_enter Tryz.func126, Tryz.ntmps126
    go_wp2
    go_ret
    exact ⟨⟨_, rfl, _, a, 1, rfl, .wrap _ _ _ _ (.leaf a), .inl rfl⟩, rfl⟩
  · have h2 : hi < x := by omega
    go_enter Tryz.func126, Tryz.ntmps126
    go_wp2
    go_ret
    exact ⟨⟨_, rfl, _, a, 1, rfl, .wrap _ _ _ _ (.leaf a), .inl rfl⟩, rfl⟩

set_option maxHeartbeats 1000000 in
/-- One instruction of the function at block p. -/
theorem checkIns_any (p k : Nat) (sa : Option Addr) (n c : Nat) (l : List (Int × Int)) (w : World) {a b : Addr} {B : Nat} (L : Laid a b B w) (hk : k < n) (hc : w.cell? ⟨p, 2, none⟩ = some (.slice sa n c)) (h : Inss w sa n c l) :
    Calls Tryz.prog 141 #[.int .i64 k, .pointer (some ⟨p, 0, none⟩)] w fun e w' => ((mayB (l.getD k (0, 0)).1 (l.getD k (0, 0)).2 = true ∧ e = .returned .nilIface) ∨ (mayB (l.getD k (0, 0)).1 (l.getD k (0, 0)).2 = false ∧ Bad a b e)) ∧ Below w.heap.size w w' := by
  have c0 := L.form
  have hr := h.room
  have hcp := h.cap
  obtain ⟨b1, o1, x1, y1, rfl, e1, d1, d2⟩ := h.at k hk
  rw [e1]
  clear L h e1
  go_enter Tryz.func141, Tryz.ntmps141
  go_wp2_with fail
  refine (insMay_any _ _ _).mono ?_
  rintro e w1 ⟨rfl, hb⟩
  have c1 := kept_cell hb c0
  have HB := hid hb
  clear hb
  cases hm : mayB x1 y1
  · go_wp2_with fail
    go_ret
    exact ⟨.inr ⟨hm, _, a, 0, rfl, .leaf a, .inl rfl⟩, HB.out⟩
  · go_wp2_with fail
    go_ret
    exact ⟨.inl ⟨hm, rfl⟩, HB.out⟩

theorem enter_checkIns : ∀ args w, (callFunc 141 args).run Tryz.prog w = .ok (.enter 141 args) w := enters_of Tryz.func141 (by kernel_rfl) rfl

theorem eachIns_any (p : Nat) (name : ByteArray) (hname : name.size ≤ 100) (sa : Option Addr) (n c : Nat) (l : List (Int × Int)) (W : World) {a b : Addr} {B : Nat} (L : Laid a b B W) (hn : n ≤ 64)
    (hc : W.cell? ⟨p, 2, none⟩ = some (.slice sa n c)) (h : Inss W sa n c l) :
    Calls Tryz.prog 127 #[.string name, .int .i64 n, .func (.func 141) #[] #[.pointer (some ⟨p, 0, none⟩)]] W fun e u => (((l.all fun q => mayB q.1 q.2) = true ∧ e = .returned .nilIface) ∨ ((l.all fun q => mayB q.1 q.2) = false ∧ Bad a b e)) ∧ Below W.heap.size W u := by
  have hl := h.len
  refine (each_any name hname n (by omega) 141 _ enter_checkIns (a := a) (b := b) (B := B) (fun k u => ((l.take k).all fun q => mayB q.1 q.2) = true ∧ Below W.heap.size W u) (fun _ u => (l.all fun q => mayB q.1 q.2) = false ∧ Below W.heap.size W u) W ⟨by simp, Below.refl _ _⟩ (fun k u hu => L.kept (hu.2.mono L.size)) (fun k u u' hu hb => ⟨hu.1, kt hu.2 hb⟩) ?_).mono ?_
  · intro k u hk hu
    refine (checkIns_any p k sa n c l u (L.kept (hu.2.mono L.size)) hk (kept_cell hu.2 hc) (h.kept hu.2)).mono ?_
    rintro e u' ⟨⟨ha, rfl⟩ | ⟨ha, v, x, m, rfl, hch, hx⟩, hb⟩
    · exact .inl ⟨rfl, all_take_step (d := (0, 0)) (by omega) hu.1 ha, kt hu.2 hb⟩
    · exact .inr ⟨v, x, m, rfl, hch, hx, all_not_at (d := (0, 0)) (by omega) ha, kt hu.2 hb⟩
  · rintro e u (⟨rfl, ha, hb⟩ | ⟨k, v, x, m, hk, rfl, hch, hx, ha, hb⟩)
    · exact ⟨.inl ⟨all_take_all (by omega) ha, rfl⟩, hb⟩
    · exact ⟨.inr ⟨ha, v, x, m, rfl, hch, hx⟩, hb⟩

theorem Laid.alloc {a b : Addr} {B : Nat} {w : World} (L : Laid a b B w) (o : Obj) : Laid a b B (w.alloc o) := L.kept (Below.alloc (Below.refl _ _) L.size o)

set_option maxHeartbeats 2000000 in
theorem checkFunc_any (x y : Int) (sa : Option Addr) (n c : Nat) (l : List (Int × Int)) (w : World) {a b : Addr} {B : Nat} (L : Laid a b B w) (h : Inss w sa n c l) :
    Calls Tryz.prog 129 #[.agg #[.int .i64 x, .int .i64 y, .slice sa n c]] w fun e w' => ((fnB (x, y, l) = true ∧ e = .returned .nilIface) ∨ (fnB (x, y, l) = false ∧ Bad a b e)) ∧ Below w.heap.size w w' := by
  have LN := hid h.len
  have hr := h.room
  have hcp := h.cap
  have LL := hid (L.alloc (.cells #[.int .i64 x, .int .i64 y, .slice sa n c] 66))
  have HI := hid h
  clear L h
  by_cases k1 : x < 0 ∨ 4 < x
  · go_enter Tryz.func129, Tryz.ntmps129
    go_wp2_with fail
    refine (bounds_bad _ _ _ _ _ LL.out k1).mono ?_
    rintro e w1 ⟨⟨v, rfl, hbad⟩, rfl⟩
    go_wp2_with fail
    go_ret
    exact ⟨.inr ⟨fnB_args (by omega), hbad⟩, by go_grown⟩
  by_cases k2 : y < x ∨ 8 < y
  · go_enter Tryz.func129, Tryz.ntmps129
    go_wp2_with fail
    refine (bounds_ok _ _ _ _ _ (by omega) (by omega)).mono ?_
    rintro e w1 ⟨rfl, rfl⟩
    go_wp2_with fail
    refine (bounds_bad _ _ _ _ _ LL.out k2).mono ?_
    rintro e w1 ⟨⟨v, rfl, hbad⟩, rfl⟩
    go_wp2_with fail
    go_ret
    exact ⟨.inr ⟨fnB_args (by omega), hbad⟩, by go_grown⟩
  by_cases k3 : (n : Int) < 1 ∨ 64 < (n : Int)
  · go_enter Tryz.func129, Tryz.ntmps129
    go_wp2_with fail
    refine (bounds_ok _ _ _ _ _ (by omega) (by omega)).mono ?_
    rintro e w1 ⟨rfl, rfl⟩
    go_wp2_with fail
    refine (bounds_ok _ _ _ _ _ (by omega) (by omega)).mono ?_
    rintro e w1 ⟨rfl, rfl⟩
    go_wp2_with fail
    refine (bounds_bad _ _ _ _ _ LL.out k3).mono ?_
    rintro e w1 ⟨⟨v, rfl, hbad⟩, rfl⟩
    go_wp2_with fail
    go_ret
    exact ⟨.inr ⟨fnB_code (codeB_short (by have := LN.out; omega)), hbad⟩, by go_grown⟩
  go_enter Tryz.func129, Tryz.ntmps129
  go_wp2_with fail
  refine (bounds_ok _ _ _ _ _ (by omega) (by omega)).mono ?_
  rintro e w1 ⟨rfl, rfl⟩
  go_wp2_with fail
  refine (bounds_ok _ _ _ _ _ (by omega) (by omega)).mono ?_
  rintro e w1 ⟨rfl, rfl⟩
  go_wp2_with fail
  refine (bounds_ok _ _ _ _ _ (by omega) (by omega)).mono ?_
  rintro e w1 ⟨rfl, rfl⟩
  go_wp2_with fail
  refine (eachIns_any w.heap.size _ (by decide) sa n c l _ LL.out (by omega) (by simp [go_sem]) (HI.out.kept (by go_grown))).mono ?_
  rintro e u ⟨⟨ha, rfl⟩ | ⟨ha, v, x', m, rfl, hc, hx⟩, hb⟩
  · go_wp2_with fail
    go_ret
    exact ⟨.inl ⟨fnB_yes (by omega) (by omega) (by omega) (by omega) (codeB_yes (by have := LN.out; omega) ha), rfl⟩, kt (by go_grown) hb⟩
  · obtain ⟨t, z, rfl⟩ := hc.iface
    have HC := hid hc
    clear hc
    go_wp2_with fail
    go_ret
    exact ⟨.inr ⟨fnB_code (codeB_not ha), _, x', m, rfl, HC.out, hx⟩, kt (by go_grown) hb⟩

set_option maxHeartbeats 2000000 in
/-- One function of the program at block p. -/
theorem checkFn_any (p k : Nat) (sa : Option Addr) (n c : Nat) (l : List Fn) (w : World) {a b : Addr} {B : Nat} (L : Laid a b B w) (hk : k < n) (hc : w.cell? ⟨p, 0, none⟩ = some (.slice sa n c)) (h : Fns w sa n c l) :
    Calls Tryz.prog 128 #[.int .i64 k, .pointer (some ⟨p, 0, none⟩)] w fun e w' => ((fnB (l.getD k noFn) = true ∧ e = .returned .nilIface) ∨ (fnB (l.getD k noFn) = false ∧ Bad a b e)) ∧ Below w.heap.size w w' := by
  have hr := h.room
  have hcp := h.cap
  obtain ⟨b1, o1, x1, y1, a1, n1, m1, l1, rfl, e1, d1, d2, d3, i1⟩ := h.at k hk
  rw [e1]
  have LL := hid L
  clear L h e1
  go_enter Tryz.func128, Tryz.ntmps128
  go_wp2_with fail
  refine (checkFunc_any _ _ _ _ _ l1 _ LL.out i1).mono ?_
  rintro e u ⟨⟨ha, rfl⟩ | ⟨ha, v, x', m, rfl, hc, hx⟩, hb⟩
  · go_wp2_with fail
    go_ret
    exact ⟨.inl ⟨ha, rfl⟩, hb⟩
  · obtain ⟨t, z, rfl⟩ := hc.iface
    have HC := hid hc
    clear hc
    go_wp2_with fail
    go_ret
    exact ⟨.inr ⟨ha, _, x', m, rfl, HC.out, hx⟩, hb⟩

theorem enter_checkFn : ∀ args w, (callFunc 128 args).run Tryz.prog w = .ok (.enter 128 args) w := enters_of Tryz.func128 (by kernel_rfl) rfl

theorem eachFn_any (p : Nat) (name : ByteArray) (hname : name.size ≤ 100) (sa : Option Addr) (n c : Nat) (l : List Fn) (W : World) {a b : Addr} {B : Nat} (L : Laid a b B W) (hn : n ≤ 64)
    (hc : W.cell? ⟨p, 0, none⟩ = some (.slice sa n c)) (h : Fns W sa n c l) :
    Calls Tryz.prog 127 #[.string name, .int .i64 n, .func (.func 128) #[] #[.pointer (some ⟨p, 0, none⟩)]] W fun e u => (((l.all fnB) = true ∧ e = .returned .nilIface) ∨ ((l.all fnB) = false ∧ Bad a b e)) ∧ Below W.heap.size W u := by
  have hl := h.len
  refine (each_any name hname n (by omega) 128 _ enter_checkFn (a := a) (b := b) (B := B) (fun k u => ((l.take k).all fnB) = true ∧ Below W.heap.size W u) (fun _ u => (l.all fnB) = false ∧ Below W.heap.size W u) W ⟨by simp, Below.refl _ _⟩ (fun k u hu => L.kept (hu.2.mono L.size)) (fun k u u' hu hb => ⟨hu.1, kt hu.2 hb⟩) ?_).mono ?_
  · intro k u hk hu
    refine (checkFn_any p k sa n c l u (L.kept (hu.2.mono L.size)) hk (kept_cell hu.2 hc) (h.kept hu.2)).mono ?_
    rintro e u' ⟨⟨ha, rfl⟩ | ⟨ha, v, x, m, rfl, hch, hx⟩, hb⟩
    · exact .inl ⟨rfl, all_take_step (d := noFn) (by omega) hu.1 ha, kt hu.2 hb⟩
    · exact .inr ⟨v, x, m, rfl, hch, hx, all_not_at (d := noFn) (by omega) ha, kt hu.2 hb⟩
  · rintro e u (⟨rfl, ha, hb⟩ | ⟨k, v, x, m, hk, rfl, hch, hx, ha, hb⟩)
    · exact ⟨.inl ⟨all_take_all (by omega) ha, rfl⟩, hb⟩
    · exact ⟨.inr ⟨ha, v, x, m, rfl, hch, hx⟩, hb⟩

set_option maxHeartbeats 2000000 in
theorem check_any (sa : Option Addr) (n c : Nat) (l : List Fn) (w : World) {a b : Addr} {B : Nat} (L : Laid a b B w) (h : Fns w sa n c l) :
    Calls Tryz.prog 111 #[.agg #[.slice sa n c]] w fun e w' => ((packsB l = true ∧ e = .returned .nilIface) ∨ (packsB l = false ∧ Bad a b e)) ∧ Below w.heap.size w w' := by
  have LN := hid h.len
  have hr := h.room
  have hcp := h.cap
  have LL := hid (L.alloc (.cells #[.slice sa n c] 24))
  have HI := hid h
  clear L h
  by_cases k3 : (n : Int) < 1 ∨ 8 < (n : Int)
  · go_enter Tryz.func111, Tryz.ntmps111
    go_wp2_with fail
    refine (bounds_bad _ _ _ _ _ LL.out k3).mono ?_
    rintro e w1 ⟨⟨v, rfl, hbad⟩, rfl⟩
    go_wp2_with fail
    go_ret
    exact ⟨.inr ⟨packsB_short (by have := LN.out; omega), hbad⟩, by go_grown⟩
  go_enter Tryz.func111, Tryz.ntmps111
  go_wp2_with fail
  refine (bounds_ok _ _ _ _ _ (by omega) (by omega)).mono ?_
  rintro e w1 ⟨rfl, rfl⟩
  go_wp2_with fail
  refine (eachFn_any w.heap.size _ (by decide) sa n c l _ LL.out (by omega) (by simp [go_sem]) (HI.out.kept (by go_grown))).mono ?_
  rintro e u ⟨⟨ha, rfl⟩ | ⟨ha, v, x', m, rfl, hc, hx⟩, hb⟩
  · go_wp2_with fail
    go_ret
    exact ⟨.inl ⟨packsB_yes (by have := LN.out; omega) ha, rfl⟩, kt (by go_grown) hb⟩
  · obtain ⟨t, z, rfl⟩ := hc.iface
    have HC := hid hc
    clear hc
    go_wp2_with fail
    go_ret
    exact ⟨.inr ⟨packsB_not ha, _, x', m, rfl, HC.out, hx⟩, kt (by go_grown) hb⟩

end Go.Proofs.YtcngmkbgcfhmdaaGreatDoor
