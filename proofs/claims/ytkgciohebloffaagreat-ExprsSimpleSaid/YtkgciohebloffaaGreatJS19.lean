/- Texts joined: VFind. -/
import Derived.Test.YtkgciohebloffaaGreatJS18
import Derived.Test.YtkgciohebloffaaGreatJS05
import Derived.Deep.LoopGhost
/- find: what has a name among spans that rise, and the bounds of a variable. -/
namespace Go.Proofs.YtkgciohebloffaaGreat
open Go.RowKit

set_option maxHeartbeats 400000 in
theorem v_spanName (x : ByteArray × Int × Int) (w : World) : Calls Tryz.prog 135 #[.agg #[.string x.1, .int .i64 x.2.1, .int .i64 x.2.2]] w fun e w' => e = .returned (.string x.1) ∧ Below w.heap.size w w' := by
  go_enter Tryz.func135, Tryz.ntmps135
  go_wp2
  go_ret
  exact ⟨rfl, alloc_below _ _⟩

set_option maxHeartbeats 1000000 in
theorem v_find1 (x : ByteArray × Int × Int) (s : ByteArray) (nb : Nat) (w : World) (h : w.cell? ⟨nb, 0, none⟩ = some (.func (.func 135) #[] #[])) :
    Calls Tryz.prog 189 #[.agg #[.string x.1, .int .i64 x.2.1, .int .i64 x.2.2], .string s, .pointer (some ⟨nb, 0, none⟩)] w fun e w' => e = .returned (.int .i64 (Lib.compareBytes x.1.data.toList s.data.toList)) ∧ Below w.heap.size w w' := by
  have hlt : nb < w.heap.size := World.block_lt_of_cell? _ _ h
  go_enter Tryz.func189, Tryz.ntmps189
  go_wp2_with fail
  refine (v_spanName x _).mono ?_
  rintro e w' ⟨rfl, hb⟩
  have HB := hid ((alloc_below w _).trans (hb.mono (by simp)))
  clear hb
  go_wp2_with fail
  refine (Tryz.strings_Compare _ _ _).mono ?_
  rintro e w2 ⟨rfl, rfl⟩
  go_wp2_with fail
  go_ret
  exact ⟨rfl, HB.out⟩

def Found (L : List (ByteArray × Int × Int)) (s : ByteArray) (i : Nat) (f : Bool) : Prop :=
  (f = true ∧ ∃ x, L[i]? = some x ∧ x.1.data.toList = s.data.toList) ∨ (f = false ∧ ∀ x ∈ L, x.1.data.toList ≠ s.data.toList)
def spKeys (L : List (ByteArray × Int × Int)) : List (List UInt8) := L.map fun x => x.1.data.toList
theorem keys_at {L : List (ByteArray × Int × Int)} {i : Nat} {x : ByteArray × Int × Int} (h : L[i]? = some x) : (spKeys L)[i]? = some x.1.data.toList := by simp [spKeys, h]
/-- What is known behind some rounds. -/
def Halves (L : List (ByteArray × Int × Int)) (s : ByteArray) (lo hi : Nat) : Prop :=
  (∀ t x, t < lo → L[t]? = some x → x.1.data.toList < s.data.toList) ∧ (∀ t x, hi ≤ t → L[t]? = some x → ¬ x.1.data.toList < s.data.toList)
theorem Halves.up {L : List (ByteArray × Int × Int)} {s : ByteArray} {lo hi m : Nat} (h : Halves L s lo hi) (hr : Rising (spKeys L)) {x : ByteArray × Int × Int} (hx : L[m]? = some x) (hc : Lib.compareBytes x.1.data.toList s.data.toList < 0) : Halves L s (m + 1) hi := by
  refine ⟨fun t y ht hy => ?_, h.2⟩
  rw [cb_lt] at hc
  by_cases e : t = m
  · subst e; rw [hx] at hy; cases hy; exact hc
  · exact List.lt_trans (hr.at t m _ _ (by omega) (keys_at hy) (keys_at hx)) hc
theorem Halves.down {L : List (ByteArray × Int × Int)} {s : ByteArray} {lo hi m : Nat} (h : Halves L s lo hi) (hr : Rising (spKeys L)) {x : ByteArray × Int × Int} (hx : L[m]? = some x) (hc : ¬ Lib.compareBytes x.1.data.toList s.data.toList < 0) : Halves L s lo m := by
  refine ⟨h.1, fun t y ht hy hlt => ?_⟩
  rw [cb_lt] at hc
  by_cases e : t = m
  · subst e; rw [hx] at hy; cases hy; exact hc hlt
  · exact hc (List.lt_trans (hr.at m t _ _ (by omega) (keys_at hx) (keys_at hy)) hlt)
theorem Halves.found {L : List (ByteArray × Int × Int)} {s : ByteArray} {i : Nat} (h : Halves L s i i) (hr : Rising (spKeys L)) {x : ByteArray × Int × Int} (hx : L[i]? = some x) (f : Bool) (hf : (Lib.compareBytes x.1.data.toList s.data.toList == 0) = f) : Found L s i f := by
  cases f with
  | true => exact .inl ⟨rfl, x, hx, (cb_eq _ _).1 (by simpa using hf)⟩
  | false =>
    refine .inr ⟨rfl, fun y hy e => ?_⟩
    obtain ⟨t, ht⟩ := List.getElem?_of_mem hy
    have hne : ¬ x.1.data.toList = s.data.toList := fun k => by rw [(cb_eq _ _).2 k] at hf; simp at hf
    by_cases h1 : t < i
    · have := h.1 t y h1 ht; rw [e] at this; exact List.lt_irrefl _ this
    · by_cases h2 : t = i
      · subst h2; rw [hx] at ht; cases ht; exact hne e
      · have h3 := hr.at i t _ _ (by omega) (keys_at hx) (keys_at ht)
        rw [e] at h3
        exact h.2 i x (Nat.le_refl _) hx h3
theorem Halves.none {L : List (ByteArray × Int × Int)} {s : ByteArray} {i : Nat} (h : Halves L s i i) (hi : L.length ≤ i) : Found L s i false := by
  refine .inr ⟨rfl, fun y hy e => ?_⟩
  obtain ⟨t, ht⟩ := List.getElem?_of_mem hy
  have hlt : t < L.length := by
    rcases Nat.lt_or_ge t L.length with h | h
    · exact h
    · rw [List.getElem?_eq_none h] at ht; cases ht
  have := h.1 t y (by omega) ht
  rw [e] at this; exact List.lt_irrefl _ this

set_option maxRecDepth 100000 in
set_option maxHeartbeats 4000000 in
theorem v_search (L : List (ByteArray × Int × Int)) (lp : Option Addr) (lc : Nat) (s : ByteArray) (nb : Nat) (w : World) (h : w.cell? ⟨nb, 0, none⟩ = some (.func (.func 135) #[] #[])) (hp : SpP w L lp) (hl : L.length ≤ 4) (_hlc : L.length ≤ lc) (_hcm : lc ≤ maxLen) (hr : Rising (spKeys L)) :
    Calls Tryz.prog 188 #[.slice lp L.length lc, .string s, .func (.func 189) #[] #[.pointer (some ⟨nb, 0, none⟩)]] w fun e w' => (∃ (i : Nat) (f : Bool), e = .returned (.tuple #[.int .i64 i, .bool f]) ∧ Found L s i f) ∧ Below w.heap.size w w' := by
  have HP := hid hp
  have HR := hid hr
  have HC := hid h
  have hnb : nb < w.heap.size := World.block_lt_of_cell? _ _ h
  have hll : (L.length : Int) ≤ 4 := by omega
  clear hp hr h
  go_enter Tryz.func188, Tryz.ntmps188
  go_wp2_with fail
  go_loopg [9, 10] L.length (fun kx s9 s10 wr => ∃ lo hi : Nat, s9 = .int .i64 lo ∧ s10 = .int .i64 hi ∧ lo ≤ hi ∧ hi ≤ L.length ∧ hi - lo ≤ kx ∧ Hid (Halves L s lo hi) ∧ Below w.heap.size w wr)
  case atStart => exact ⟨0, L.length, rfl, rfl, Nat.zero_le _, Nat.le_refl _, by omega, hid ⟨fun t x ht => absurd ht (Nat.not_lt_zero _), fun t x ht hx => by rw [List.getElem?_eq_none ht] at hx; cases hx⟩, Below.refl _ _⟩
  case round =>
    obtain ⟨lo, hi, rfl, rfl, hlh, hin, hg, HI, hbl⟩ := hrel
    have HB := hid hbl
    have hzr : w.heap.size ≤ wr.heap.size := hbl.size
    have HCr := hid ((Ext.of_below (S := fun _ => False) hbl).cell_some HC.out id)
    clear hbl
    by_cases hlt : lo < hi
    · have hm : (lo + hi) / 2 < L.length := by omega
      rcases HP.out with h0 | ⟨b, rfl, hat⟩
      · rw [h0] at hm; simp at hm
      have HA := hid (hat.ext (S := fun _ => False) (Ext.of_below HB.out) id)
      obtain ⟨c0, c1, c2⟩ := HA.out _ _ (List.getElem?_eq_getElem hm)
      have HX := hid (List.getElem?_eq_getElem hm)
      generalize L[(lo + hi) / 2] = x at c0 c1 c2 HX
      by_cases hyx : Lib.compareBytes x.1.data.toList s.data.toList < 0
      · have HI2 := hid (HI.out.up HR.out HX.out hyx)
        go_wp2_with fail
        refine (v_find1 x s nb _ HCr.out).mono ?_
        rintro e w' ⟨rfl, hb⟩
        have HB2 := hid (HB.out.trans (hb.mono hzr))
        clear hb
        generalize Lib.compareBytes x.1.data.toList s.data.toList = cv at hyx ⊢
        go_wp2_with fail
        go_roundg (hi - ((lo + hi) / 2 + 1))
        case measure => omega
        case rel => exact ⟨(lo + hi) / 2 + 1, hi, by go_num, rfl, by omega, hin, Nat.le_refl _, HI2, HB2.out⟩
      · have HI2 := hid (HI.out.down HR.out HX.out hyx)
        go_wp2_with fail
        refine (v_find1 x s nb _ HCr.out).mono ?_
        rintro e w' ⟨rfl, hb⟩
        have HB2 := hid (HB.out.trans (hb.mono hzr))
        clear hb
        generalize Lib.compareBytes x.1.data.toList s.data.toList = cv at hyx ⊢
        go_wp2_with fail
        go_roundg ((lo + hi) / 2 - lo)
        case measure => omega
        case rel => exact ⟨lo, (lo + hi) / 2, rfl, by go_num, by omega, by omega, Nat.le_refl _, HI2, HB2.out⟩
    · obtain rfl : hi = lo := by omega
      by_cases hn : hi < L.length
      · rcases HP.out with h0 | ⟨b, rfl, hat⟩
        · rw [h0] at hn; simp at hn
        have HA := hid (hat.ext (S := fun _ => False) (Ext.of_below HB.out) id)
        obtain ⟨c0, c1, c2⟩ := HA.out _ _ (List.getElem?_eq_getElem hn)
        have HX := hid (List.getElem?_eq_getElem hn)
        generalize L[hi] = x at c0 c1 c2 HX
        go_wp2_with fail
        refine (v_find1 x s nb _ HCr.out).mono ?_
        rintro e w' ⟨rfl, hb⟩
        have HB2 := hid (HB.out.trans (hb.mono hzr))
        clear hb
        have HF := hid (fun f hf => HI.out.found HR.out HX.out f hf)
        generalize Lib.compareBytes x.1.data.toList s.data.toList = cv at HF ⊢
        go_wp2_with fail
        go_ret2
        exact ⟨⟨hi, cv == 0, rfl, HF.out _ rfl⟩, HB2.out⟩
      · have HF := hid (HI.out.none (by omega))
        go_wp2_with fail
        go_ret2
        exact ⟨⟨hi, false, rfl, HF.out⟩, HB.out⟩

/-- The first one of a name is looked up. -/
theorem look_of {L : List (ByteArray × Int × Int)} {s : ByteArray} {i : Nat} {x : ByteArray × Int × Int} (hr : Rising (spKeys L)) (hx : L[i]? = some x) (e : x.1.data.toList = s.data.toList) : look s L = x.2 := by
  induction L generalizing i with
  | nil => simp at hx
  | cons y r ih =>
    unfold look
    rw [Lib.toList_data, Lib.toList_data]
    cases i with
    | zero => simp at hx; subst hx; rw [if_pos (by simpa using e)]
    | succ i =>
      have hx' : r[i]? = some x := by simpa using hx
      have hlt := hr.at 0 (i + 1) _ _ (by omega) (keys_at (L := y :: r) (i := 0) rfl) (keys_at hx)
      rw [if_neg (by simp; intro k; rw [k, ← e] at hlt; exact List.lt_irrefl _ hlt)]
      exact ih hr.2 hx'
theorem look_none {L : List (ByteArray × Int × Int)} {s : ByteArray} (h : ∀ x ∈ L, x.1.data.toList ≠ s.data.toList) : look s L = (0, 999) := by
  induction L with
  | nil => rfl
  | cons y r ih =>
    unfold look
    rw [Lib.toList_data, Lib.toList_data, if_neg (by simpa using h y (by simp))]
    exact ih fun x hx => h x (by simp [hx])

def OneSpan (L : List (ByteArray × Int × Int)) (s : ByteArray) (e : Ending) : Prop :=
  ∃ (x : ByteArray × Int × Int) (b : Bool), e = .returned (.tuple #[.agg #[.string x.1, .int .i64 x.2.1, .int .i64 x.2.2], .bool b]) ∧ look s L = if b = true then x.2 else (0, 999)
theorem blk3 {w : World} {b : Nat} {v0 v1 v2 : Value} {T : TypeId} (h : w.heap[b]? = some (.cells #[v0, v1, v2] T (0, 0))) :
    (w.cell? ⟨b, 0, none⟩ = some v0 ∧ w.cell? ⟨b, 1, none⟩ = some v1 ∧ w.cell? ⟨b, 2, none⟩ = some v2) ∧ (w.frozen? ⟨b, 0, none⟩ = false ∧ w.frozen? ⟨b, 1, none⟩ = false ∧ w.frozen? ⟨b, 2, none⟩ = false) := by
  refine ⟨⟨?_, ?_, ?_⟩, ?_, ?_, ?_⟩ <;> first | (rw [cell_of_row _ _ _ _ _ _ h]; rfl) | simp [World.frozen?, h]
theorem below_set3 {B : Nat} {a w : World} (h : Below B a w) {b : Nat} (hb : B ≤ b) (v0 v1 v2 : Value) : Below B a (((w.setCell ⟨b, 0, none⟩ v0).setCell ⟨b, 1, none⟩ v1).setCell ⟨b, 2, none⟩ v2) := ((h.setCell hb v0).setCell hb v1).setCell hb v2

/-- Two new blocks: of one cell, and of three. -/
theorem nil_new_any (w : World) (u v0 v1 v2 : Value) (T U : TypeId) : ∃ W, (w.alloc (.cells #[u] T)).alloc (.cells #[v0, v1, v2] U) = W ∧ W.cell? ⟨w.heap.size, 0, none⟩ = some u ∧ W.heap[w.heap.size + 1]? = some (.cells #[v0, v1, v2] U (0, 0)) ∧ Below w.heap.size w W ∧ w.heap.size + 2 ≤ W.heap.size := by
  refine ⟨_, rfl, ?_, ?_, (alloc_below w _).trans ((alloc_below _ _).mono (by simp)), by simp⟩
  · have h := ((Ext.refl (S := fun _ => False) (w.alloc (.cells #[u] T))).alloc (.cells #[v0, v1, v2] U)).heap (heap_new w (.cells #[u] T)) id
    rw [cell_of_row _ _ _ _ _ _ h]; rfl
  · have h := heap_new (w.alloc (.cells #[u] T)) (.cells #[v0, v1, v2] U)
    simpa using h
set_option maxRecDepth 100000 in
set_option maxHeartbeats 4000000 in
theorem v_find (L : List (ByteArray × Int × Int)) (lp : Option Addr) (lc : Nat) (s : ByteArray) (w : World) (hp : SpP w L lp) (hl : L.length ≤ 4) (hlc : L.length ≤ lc) (hcm : lc ≤ maxLen) (hr : Rising (spKeys L)) :
    Calls Tryz.prog 143 #[.slice lp L.length lc, .func (.func 135) #[] #[], .string s] w fun e w' => OneSpan L s e ∧ Below w.heap.size w w' := by
  have HP := hid hp
  have HR := hid hr
  have hll : (L.length : Int) ≤ 4 := by omega
  clear hp hr
  go_enter Tryz.func143, Tryz.ntmps143
  go_wp2_with fail
  obtain ⟨W, hW, hcell, hblk, hbl, hsz⟩ := nil_new_any w (.func (.func 135) #[] #[]) (.string ⟨#[]⟩) (.int .i64 0) (.int .i64 0) 167 114
  rw [hW]
  have HN := hid hblk
  have HB := hid hbl
  clear hblk hbl hW
  refine (v_search L lp lc s _ _ hcell (HP.out.ext (S := fun _ => False) (Ext.of_below HB.out) (fun _ _ => id)) hl hlc hcm HR.out).mono ?_
  rintro e w2 ⟨⟨i, f, rfl, hf⟩, hb⟩
  have HN2 := hid ((Ext.of_below (S := fun _ => False) hb).heap HN.out id)
  have HB2 := hid (HB.out.trans (hb.mono (by omega)))
  clear hb HN HB hcell
  obtain ⟨⟨q0, q1, q2⟩, f0, f1, f2⟩ := blk3 HN2.out
  have hlt2 : w.heap.size + 1 < w2.heap.size := World.block_lt_of_cell? _ _ q0
  rcases hf with ⟨rfl, x, hx, hs⟩ | ⟨rfl, hs⟩
  · have hi : i < L.length := by
      rcases Nat.lt_or_ge i L.length with h | h
      · exact h
      · rw [List.getElem?_eq_none h] at hx; cases hx
    rcases HP.out with h0 | ⟨b, rfl, hat⟩
    · rw [h0] at hi; simp at hi
    have HA := hid (hat.ext (S := fun _ => False) (Ext.of_below HB2.out) id)
    obtain ⟨c0, c1, c2⟩ := HA.out _ _ hx
    have HX := hid (look_of HR.out hx hs)
    clear hx hs
    go_wp2_with fail
    refine bodyPost_ret (v := .tuple #[.agg #[.string x.1, .int .i64 x.2.1, .int .i64 x.2.2], .bool true]) (by simp [results, Tryz.results143, go_sem, q0, q1, q2]) rfl ⟨⟨x, true, rfl, by rw [HX.out]; rfl⟩, below_set3 HB2.out (by omega) _ _ _⟩
  · have HX := hid (look_none hs)
    clear hs
    go_wp2_with fail
    refine bodyPost_ret (v := .tuple #[.agg #[.string ⟨#[]⟩, .int .i64 0, .int .i64 0], .bool false]) (by simp [results, Tryz.results143, go_sem, World.cell?_alloc_past, hlt2, q0, q1, q2]) rfl ⟨⟨(⟨#[]⟩, 0, 0), false, rfl, by rw [HX.out]; rfl⟩, ?_⟩
    exact (below_set3 HB2.out (by omega) _ _ _).alloc (by simp; omega) _
end Go.Proofs.YtkgciohebloffaaGreat
