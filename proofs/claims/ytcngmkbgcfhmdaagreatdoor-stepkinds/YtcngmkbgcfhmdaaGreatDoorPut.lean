/- What pack.Put returns: the bytes of a program that may be packed, else an error. -/
import Derived.Test.YtcngmkbgcfhmdaaGreatDoorPutNum
import Derived.Deep.RegionWith
import Derived.ArgAppend
import Derived.Lib.SlBytesConst
namespace Go.Proofs.YtcngmkbgcfhmdaaGreatDoor
open Go.RowKit
set_option linter.unusedVariables false

theorem insBytes_low {x y : Int} (h : mayB x y = true) : insBytes (x, y) = [x] ++ lowB y (szA x) := by
  by_cases h0 : x = 0
  · subst h0
    simp [insBytes, szA, lowB, c0, c1, c2, c3]
  · cases hs : smallB x
    · rw [insBytes_else h0 hs]; simp [szA, h0, hs, lowB]
    · obtain ⟨r0, r63⟩ := small_bd h hs
      rw [insBytes_small h0 hs]; simp [szA, h0, hs, lowB]; omega
theorem may_num {x y : Int} (h : mayB x y = true) : -2147483648 ≤ y ∧ y ≤ 2147483647 := by
  by_cases h0 : x = 0
  · subst h0
    rw [may0] at h
    simp [isNum] at h
    omega
  · cases hs : smallB x
    · have hy : y = 0 := by
        simp [smallB] at hs
        unfold mayB at h
        rw [if_neg h0, if_neg (by omega), if_neg (by omega), if_neg (by omega)] at h
        simp at h
        exact h.2.2
      omega
    · have := small_bd h hs; omega

theorem cells_of_new {w : World} {H : Nat} (hH : w.heap.size = H) (C : Array Value) (t : TypeId) (f : Nat × Nat) (o : Obj) : ∀ b, some (⟨H, 0, none⟩ : Addr) = some b → ∀ j u, C.toList[j]? = some u → ((w.alloc (.cells C t f)).alloc o).cell? (b.add j) = some u := by
  intro b hb j u hu
  cases hb
  subst hH
  rw [Below.cell (Below.alloc (Below.refl (w.alloc (.cells C t f)).heap.size _) (Nat.le_refl _) o) (by unfold Addr.add; split <;> simp)]
  exact World.news_of_block (heap_alloc_new w _) j u (by simpa using hu)

set_option maxHeartbeats 1000000 in
theorem put_bad (sa : Option Addr) (n c : Nat) (l : List Fn) (w : World) {a b : Addr} (L : Laid a b w.heap.size w) (h : Fns w sa n c l) (hp : packsB l = false) :
    Calls Tryz.prog 101 #[.agg #[.slice sa n c]] w fun e w' => e = .returned (.tuple #[.string ByteArray.empty, .int .i64 300]) ∧ Below w.heap.size w w' := by
  go_enter Tryz.func101, Tryz.ntmps101
  go_wp2_with fail
  refine (check_any _ _ _ l _ (L.alloc _) (h.kept (by go_grown))).mono ?_
  rintro e w1 ⟨⟨ha, _⟩ | ⟨_, v, x, m, rfl, hc, hx⟩, b1⟩
  · rw [hp] at ha; cases ha
  obtain ⟨t, y, rfl⟩ := hc.iface
  have HC := hid hc
  have B1 := hid b1
  have L1 := hid ((L.alloc (.cells #[.slice sa n c] 24)).kept (b1.mono (by simp)))
  clear hc b1 L h
  go_wp2_with fail
  refine (numberOf_any L1.out _ x m HC.out hx).mono ?_
  rintro e w2 ⟨rfl, b2⟩
  have B2 := hid b2
  clear b2
  go_wp2_with fail
  go_ret2
  exact ⟨rfl, kt (kt (by go_grown) B1.out) B2.out⟩

set_option maxRecDepth 100000 in
set_option maxHeartbeats 4000000 in
theorem put_good (sa : Option Addr) (n c : Nat) (l : List Fn) (w : World) {a b : Addr} (L : Laid a b w.heap.size w) (h : Fns w sa n c l) (hp : packsB l = true) :
    Calls Tryz.prog 101 #[.agg #[.slice sa n c]] w fun e w' => e = .returned (.tuple #[.string (strOfNums (putBytes l)), .int .i64 0]) ∧ Below w.heap.size w w' := by
  obtain ⟨i0, hi, hz0, hz1, hz2⟩ := info_parts Tryz.infoByte
  have LN := hid h.len
  have hn : 1 ≤ n ∧ n ≤ 8 := by have := h.len; simp [packsB] at hp; omega
  obtain ⟨hn1, hn8⟩ := hn
  have hcap := h.cap
  go_enter Tryz.func101, Tryz.ntmps101
  go_wp2_with fail
  refine (check_any _ _ _ l _ (L.alloc _) (h.kept (by go_grown))).mono ?_
  rintro e w1 ⟨⟨_, rfl⟩ | ⟨ha, _⟩, b1⟩
  rotate_left
  · rw [hp] at ha; cases ha
  have g0 := kept_cell b1 (b := w.heap.size) (o := 0) (v := .slice sa n c) (by simp [go_sem])
  have hb := kt (Below.alloc (Below.refl _ _) (Nat.le_refl _) _) b1
  have hs := hb.size
  have hs1 := lt_of_cell g0
  clear b1 L
  have hcv := fun (w : World) (C : Array Value) (n c : Nat) => Lib.run_convert_bytes_const (P := Tryz.prog) w 169 5 C n c Tryz.underlying169 Tryz.underlying5
  go_wp2_with (at_builtin; go_must ((refine wpList_append_grows _ rfl _ _ 169 rfl 5 i0 (.int .u8 0) 1 1 Tryz.underlying169 hi hz0 hz1 hz2 rfl (by decide) _ 3 3 [.int .u8 84, .int .u8 105, .int .u8 107] rfl (fun h => (by cases h)) rfl (cells_of_new rfl _ _ _ _) ⟨w1.heap.size + 1, 0, none⟩ 1 1 [.int .u8 n] rfl rfl (news_new (by simp) _ _) (nums_one [(n : Int)]) (by decide) (by unfold maxLen; omega) (by omega) ?_; intro v6 w6 ho6 hg6; have g6 := hg6.cell (kept_cell (by go_grown) g0) (by intro e; cases e))))
  have hs6 := hg6.size
  have hown0 := owns_base ho6 (base' := w.heap.size + 1) (by simp; omega)
  have hb6 : Below w.heap.size w w6 := Below.grown (kt hb (by go_grown)) hg6 (by simp; omega) (fun k hk => by cases hk)
  clear ho6 hg6 g6 g0 hb hs
  go_loopw [5, 27] (fun v i wr => ∃ q : Nat, q ≤ n ∧ i = .int .i64 q ∧ wr.ownsRow (w.heap.size + 1) 5 1 v ([84, 105, 107, (n : Int)] ++ fnsBytes (l.take q)).length (nums ([84, 105, 107, (n : Int)] ++ fnsBytes (l.take q))) ∧ Below w.heap.size w wr ∧ w.heap.size < wr.heap.size) (fun _ i _ => n - (intOf i).toNat)
  case atStart => exact ⟨0, Nat.zero_le _, rfl, by simpa [fnsBytes, nums] using hown0, hb6, by simp at hs6; omega⟩
  case round =>
    obtain ⟨wo, hwo⟩ : ∃ wo : World, wo = wr := ⟨wr, rfl⟩
    subst hwo
    obtain ⟨q, hq, rfl, ho, hb, hsz⟩ := hrel
    have hlq := fnsBytes_len hp q
    generalize hxs : [84, 105, 107, (n : Int)] ++ fnsBytes (l.take q) = xs at ho
    have hxl : xs.length ≤ 2588 := by rw [← hxs]; simp; omega
    have XS := hid hxs
    clear hxs hown0 hlq hb6
    by_cases hlt : q < n
    · obtain ⟨b1, o1, x1, y1, a1, n1, m1, l1, rfl, e1, k1, k2, k3, i1⟩ := h.at q hlt
      replace k1 := kept_cell hb k1
      replace k2 := kept_cell hb k2
      replace k3 := kept_cell hb k3
      have hf : fnB (x1, y1, l1) = true := fnB_of hp (by have := LN.out; omega) e1
      have hbd := fnB_bd hf
      have L1 := hid i1.len
      obtain ⟨x0, x4, xy, y8, c1', c64⟩ := hbd
      have hn1' : 1 ≤ n1 := by have := L1.out; omega
      have hn64 : n1 ≤ 64 := by have := L1.out; omega
      have E1 := hid e1
      clear e1
      have hs := hb.size
      have z1 := World.new_ne _ _ k1
      have HF := hid hf
      have HO := hid ho
      have OL := hid ho.lt
      clear hf ho c1' c64
      go_wp2_with (at_builtin; go_must ((refine wpList_append_lies _ rfl _ _ 169 rfl (w.heap.size + 1) 5 i0 (.int .u8 0) 1 1 Tryz.underlying169 hi hz0 hz1 hz2 rfl (by decide) _ _ _ rfl ((HO.out.alloc _).alloc _) ⟨wo.heap.size + 1, 0, none⟩ 3 3 [.int .u8 x1, .int .u8 y1, .int .u8 n1] rfl rfl (news_new (by simp) _ _) (nums_one [x1, y1, (n1 : Int)]) (by decide) (by unfold maxLen; omega) (by omega) (by simp; omega) (wo.heap.size + 2) (by simp) ?_; intro g6 cap6 w6 ho6 hg6 hat6 hlt6; have f6 : w6.cell? ⟨wo.heap.size, 2, none⟩ = some (.slice a1 n1 m1) := app_cell hg6 OL.out (by simp [go_sem]) (.inr (Nat.le_refl _)))))
      have hb6 : Below w.heap.size w w6 := app_below (by go_grown) hg6 OL.out (by omega) (by simp; omega)
      have ho6' := nums_grow (ys := [x1, y1, (n1 : Int)]) ho6 rfl rfl
      generalize hys : xs ++ [x1, y1, (n1 : Int)] = ys at ho6'
      have hyl : ys.length ≤ 2591 := by rw [← hys]; simp; omega
      have YS := hid hys
      have hsz6 : w.heap.size < w6.heap.size := by have := hg6.size; simp at this; omega
      clear ho6 hg6 hys hat6 f6
      go_loopw [5, 47] (fun v j wi => ∃ k : Nat, k ≤ n1 ∧ j = .int .i64 k ∧ wi.ownsRow (w.heap.size + 1) 5 1 v (ys ++ codeBytes (l1.take k)).length (nums (ys ++ codeBytes (l1.take k))) ∧ Below w.heap.size w wi ∧ w.heap.size < wi.heap.size) (fun _ j _ => n1 - (intOf j).toNat)
      case atStart => exact ⟨0, Nat.zero_le _, rfl, by simpa [codeBytes] using ho6', hb6, hsz6⟩
      case round =>
        obtain ⟨k, hk, rfl, hoi, hbi, hszi⟩ := hrel
        have hcl := codeBytes_len (l1.take k)
        have hcl2 : (l1.take k).length ≤ 64 := by rw [List.length_take]; have := L1.out; omega
        generalize hzs : ys ++ codeBytes (l1.take k) = zs at hoi
        have hzl : zs.length ≤ 2911 := by rw [← hzs]; simp; omega
        have ZS := hid hzs
        have OI := hid hoi
        have OLi := hid hoi.lt
        clear hzs hoi hcl hcl2
        by_cases hlk : k < n1
        · obtain ⟨b2, o2, p, r, rfl, e2, d1, d2⟩ := i1.at k hlk
          have hm : mayB p r = true := mayB_of HF.out (by have := L1.out; omega) e2
          obtain ⟨hk0, hk16⟩ := may_kind hm
          obtain ⟨hr0, hr1⟩ := may_num hm
          replace d1 := kept_cell hbi d1
          replace d2 := kept_cell hbi d2
          have E2 := hid e2
          have HM := hid hm
          have hsl := szA_le p
          clear e2 hm
          have hsb := hbi.size
          have z2 := World.new_ne _ _ d1
          go_wp2_with (at_builtin; go_must ((refine wpList_append_lies _ rfl _ _ 169 rfl (w.heap.size + 1) 5 i0 (.int .u8 0) 1 1 Tryz.underlying169 hi hz0 hz1 hz2 rfl (by decide) _ _ _ rfl ((OI.out.alloc _).alloc _) ⟨wr.heap.size + 1, 0, none⟩ 1 1 [.int .u8 p] rfl rfl (news_new (by simp) _ _) (nums_one [p]) (by decide) (by unfold maxLen; omega) (by omega) (by simp; omega) (wr.heap.size + 2) (by simp) ?_; intro g cap w6 ho6 hg6 hat hlt6; have q1 := app_cell hg6 OLi.out (b := wr.heap.size) (o := 0) (u := .int .i64 p) (by simp [go_sem]) (.inr (Nat.le_refl _)); have q2 := app_cell hg6 OLi.out (b := wr.heap.size) (o := 1) (u := .int .i64 r) (by simp [go_sem]) (.inr (Nat.le_refl _)); have hz6 : wr.heap.size + 2 ≤ w6.heap.size := (by have := hg6.size; simpa using this); have P := hid (And.intro (nums_grow (ys := [p]) ho6 rfl rfl) (app_below (B := w.heap.size) (w := w) (by go_grown) hg6 OLi.out (by omega) (by simp; omega))); clear ho6 hg6 hat hlt6)))
          have CN := hid (appendNumber_any (.slice (some ⟨g, 0, none⟩) (zs.length + 1) cap) r (szA p) (w.heap.size + 1) (zs ++ [p]) w6.drew hr0 hr1 hsl (by simp; omega) (by show w.heap.size + 1 ≤ w6.heap.size; omega) P.out.1)
          go_region_with (first | (go_at_call 114; refine (sizeOfA_any _ _).mono ?_; rintro e w' ⟨rfl, rfl⟩) | (go_at_call 113; refine CN.out.mono ?_; rintro e u8 ⟨v8, rfl, ho8, hb8⟩))
          all_goals
            go_wp2_with fail
            go_roundw
            case rel =>
              have hb9 : Below w.heap.size w6 u8 := ⟨hb8.os, hb8.tape, hb8.output, hb8.size, fun k hk => hb8.block k (by omega)⟩
              have hs9 : w6.heap.size ≤ u8.heap.size := hb8.size
              exact ⟨k + 1, by omega, by go_num, put_row ZS.out (by have := L1.out; omega) E2.out (by rw [insBytes_low HM.out, ← List.append_assoc]; exact ho8), P.out.2.trans hb9, by omega⟩
            case measure => simp [intOf]; omega
        · have hkn : k = n1 := by omega
          clear h i1
          go_wp2_with fail
          go_roundw
          case rel =>
            have hrow : zs = [84, 105, 107, (n : Int)] ++ fnsBytes (l.take (q + 1)) := by
              rw [take_snoc_getD (by have := LN.out; omega) E1.out, fnsBytes_snoc, ← List.append_assoc, XS.out, ← ZS.out, ← YS.out, List.take_of_length_le (by have := L1.out; omega)]
              simp [fnBytes, L1.out]
            exact ⟨q + 1, by omega, by go_num, hrow ▸ OI.out, hbi, hszi⟩
          case measure => simp [intOf]; omega
    · have hpos : 0 < xs.length := by rw [← XS.out]; simp
      obtain ⟨g, cap, rfl, _⟩ := ho.form hpos
      have hrun := run_convert_bytes_arg (P := Tryz.prog) wo 169 5 Tryz.underlying169 Tryz.underlying5 g 0 xs.length cap xs rfl (nums_cell ho) 9 Tryz.underlying9
      clear h
      go_wp2_with fail
      go_ret2
      have hx : strOfNums xs = strOfNums (putBytes l) := by
        rw [← XS.out, List.take_of_length_le (by have := LN.out; omega), putBytes, ← LN.out]
      exact ⟨ret_si hx, hb⟩

theorem put_any (sa : Option Addr) (n c : Nat) (l : List Fn) (w : World) {a b : Addr} (L : Laid a b w.heap.size w) (h : Fns w sa n c l) :
    Calls Tryz.prog 101 #[.agg #[.slice sa n c]] w fun e w' => e = .returned (.tuple #[.string (putS l), .int .i64 (putE l)]) ∧ Below w.heap.size w w' := by
  cases hp : packsB l
  · have := put_bad sa n c l w L h hp
    simpa [putS, putE, hp] using this
  · have := put_good sa n c l w L h hp
    simpa [putS, putE, hp] using this

end Go.Proofs.YtcngmkbgcfhmdaaGreatDoor
