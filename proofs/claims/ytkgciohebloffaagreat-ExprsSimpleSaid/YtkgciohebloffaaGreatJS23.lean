/- Texts joined: VRul0, BackF, VFindS. -/
import Derived.Test.YtkgciohebloffaaGreatJS13
import Derived.Test.YtkgciohebloffaaGreatJS11
import Derived.Test.YtkgciohebloffaaGreatJS12
import Derived.Test.YtkgciohebloffaaGreatJS22
import Derived.Test.YtkgciohebloffaaGreatJS19
import Derived.Test.YtkgciohebloffaaGreatJS16
import Derived.Deep.LoopGhost
/- number, isNumber, the program's; what a rule hands back. -/
namespace Go.Proofs.YtkgciohebloffaaGreat
open Go.RowKit

set_option maxHeartbeats 1000000 in
theorem v_isNumber (op n : Int) (s : ByteArray) (q : Option Addr) (l c : Nat) (v : Int) (w : World) :
    Calls Tryz.prog 210 #[.agg #[.int .i64 op, .int .i64 n, .string s, .slice q l c], .int .i64 v] w fun e w' => e = .returned (.bool (op == 1 && n == v)) ∧ Below w.heap.size w w' := by
  by_cases h1 : (op == 1) = true
  · by_cases h2 : (n == v) = true
    · have HE := hid (show (op == 1 && n == v) = true by simp only [h1, h2, Bool.and_true])
      go_enter Tryz.func210, Tryz.ntmps210
      go_wp2
      go_ret
      exact ⟨ret_bool HE.out.symm, alloc_below _ _⟩
    · have h3 : (n == v) = false := by simpa using h2
      have HE := hid (show (op == 1 && n == v) = false by simp only [h3, Bool.and_false])
      clear h2
      go_enter Tryz.func210, Tryz.ntmps210
      go_wp2
      go_ret
      exact ⟨ret_bool HE.out.symm, alloc_below _ _⟩
  · have h3 : (op == 1) = false := by simpa using h1
    have HE := hid (show (op == 1 && n == v) = false by simp only [h3, Bool.false_and])
    clear h1
    go_enter Tryz.func210, Tryz.ntmps210
    go_wp2
    go_ret
    exact ⟨ret_bool HE.out.symm, alloc_below _ _⟩

/-- What a rule hands back: an expression (in blocks of fp or new ones), and whether it applies. -/
def GotRule (fp : List Nat) (o : Option F) (w : World) (e : Ending) (w' : World) : Prop :=
  (∃ (op n : Int) (s : ByteArray) (a : F) (p : Option Addr) (c : Nat) (fa : List Nat), e = .returned (.tuple #[.agg #[.int .i64 op, .int .i64 n, .string s, .slice p a.len c], .bool o.isSome]) ∧ (∀ g, o = some g → g = .cons op n s a .nil) ∧ RdP w' a p fa ∧ a.len ≤ c ∧ c ≤ 9223372036854775807 ∧ (∀ b ∈ fa, b ∈ fp ∨ w.heap.size ≤ b)) ∧ Below w.heap.size w w'
theorem num_got {fp : List Nat} {o : Option F} {tr : Int} {eq : Bool} {w w' : World} (ho : o = if eq = true then some (numF tr) else none) (hb : Below w.heap.size w w') : GotRule fp o w (.returned (.tuple #[.agg #[.int .i64 1, .int .i64 tr, .string ⟨#[]⟩, .slice none 0 0], .bool eq])) w' := by
  subst ho
  refine ⟨⟨1, tr, ⟨#[]⟩, .nil, none, 0, [], ?_, ?_, .inl ⟨rfl, rfl⟩, Nat.le_refl _, by omega, by simp⟩, hb⟩
  · cases eq <;> rfl
  · intro g hg
    cases eq
    · cases hg
    · injection hg with hg; exact hg.symm
theorem none_got {fp : List Nat} {o : Option F} {w w' : World} (ho : o = none) (hb : Below w.heap.size w w') : GotRule fp o w (.returned (.tuple #[.agg #[.int .i64 0, .int .i64 0, .string ⟨#[]⟩, .slice none 0 0], .bool false])) w' := by
  subst ho
  exact ⟨⟨0, 0, ⟨#[]⟩, .nil, none, 0, [], rfl, (fun g hg => by cases hg), .inl ⟨rfl, rfl⟩, Nat.le_refl _, by omega, by simp⟩, hb⟩
/-- The argument at k, its cells, and what it reads as. -/
theorem RdP.arg {w : World} {a : F} {p : Option Addr} {fa : List Nat} (h : RdP w a p fa) {k : Nat} (hk : k < a.len) :
    ∃ b o op n s a' p' c' fa', p = some ⟨b, o, none⟩ ∧ a.drop k = .cons op n s a' (a.drop (k + 1)) ∧ w.cell? ⟨b, o + k * 4, none⟩ = some (.int .i64 op) ∧ w.cell? ⟨b, o + k * 4 + 1, none⟩ = some (.int .i64 n) ∧ w.cell? ⟨b, o + k * 4 + 2, none⟩ = some (.string s) ∧ w.cell? ⟨b, o + k * 4 + 3, none⟩ = some (.slice p' a'.len c') ∧ a'.len ≤ c' ∧ c' ≤ 9223372036854775807 ∧ RdP w a' p' fa' ∧ (∀ b ∈ fa', b ∈ fa) := by
  rcases h with ⟨h0, _⟩ | ⟨b, o, xa, fb, rfl, rfl, _, hcell, _, hx⟩
  · rw [h0] at hk; simp [F.len] at hk
  obtain ⟨op', n', s', a', p', c', fa', hdrop, x0, x1, x2, x3, hl', hc', hp', hmem⟩ := hx.at hk
  have y0 := hcell _ _ x0
  have y1 := hcell _ _ x1
  have y2 := hcell _ _ x2
  have y3 := hcell _ _ x3
  simp only [← Nat.add_assoc, Nat.mul_comm 4 k] at y0 y1 y2 y3
  exact ⟨b, o, op', n', s', a', p', c', fa', rfl, hdrop, y0, y1, y2, y3, hl', hc', hp', fun b hb => List.mem_cons_of_mem _ (hmem b hb)⟩
end Go.Proofs.YtkgciohebloffaaGreat
/- The stack of expressions behind each word, and what a round of the program's loop leaves. -/
namespace Go.Proofs.YtkgciohebloffaaGreat
open Go.RowKit

/-- The stack of expressions behind a word. -/
def stepF (x : Int × Int × ByteArray) (st : F) : F := (st.take (st.len - (opsN x.1).toNat)).app (.cons x.1 x.2.1 x.2.2 (st.drop (st.len - (opsN x.1).toNat)) .nil)
def bkF : List (Int × Int × ByteArray) → F → F
  | [], st => st
  | x :: r, st => bkF r (stepF x st)
theorem F.size_take_drop : ∀ (k : Nat) (f : F), (f.take k).size + (f.drop k).size = f.size
  | 0, f => by simp [F.take, F.drop, F.size]
  | _ + 1, .nil => by simp [F.take, F.drop, F.size]
  | k + 1, .cons _ _ _ a r => by have := F.size_take_drop k r; simp only [F.take, F.drop, F.size]; omega
theorem stepF_size (x : Int × Int × ByteArray) (st : F) : (stepF x st).size = st.size + 1 := by
  have := F.size_take_drop (st.len - (opsN x.1).toNat) st
  unfold stepF; rw [F.size_app]; simp only [F.size]; omega
theorem stepF_len {x : Int × Int × ByteArray} {st : F} {f : Nat} (h : (f : Int) = st.len - opsN x.1) : (stepF x st).len = f + 1 := by
  have := opsN_range x.1
  unfold stepF; rw [F.len_app, F.len_take]; simp only [F.len]; omega
theorem stepF_fits {x : Int × Int × ByteArray} {st : F} (h : st.Fits) (hx : WdOk x) : (stepF x st).Fits :=
  F.fits_app (F.fits_take _ h) ⟨hx.1, hx.2.1, hx.2.2, F.fits_drop _ h, trivial⟩
theorem bkF_size : ∀ (L : List (Int × Int × ByteArray)) (st : F), (bkF L st).size = st.size + L.length
  | [], st => by simp [bkF]
  | x :: r, st => by rw [bkF, bkF_size r, stepF_size, List.length_cons]; omega

/-- Four cells of an expression behind those of a row. -/
def exV (op n : Int) (s : ByteArray) (q : Option Addr) (l c : Nat) : List Value := [.int .i64 op, .int .i64 n, .string s, .slice q l c]
def WeRel (L : List (Int × Int × ByteArray)) (base : Nat) (w : World) (k : Nat) (v : Value) (wr : World) : Prop :=
  ∃ (st : F) (xs : List Value) (fp : List Nat), bkF L .nil = bkF (L.drop k) st ∧ cErr (L.drop k) st.len = 0 ∧ st.size = k ∧ st.Fits ∧ RdV wr st xs fp ∧ (∀ b ∈ fp, base ≤ b ∧ v.ownBlock ≠ some b) ∧
    wr.ownsRow base 28 4 v st.len xs ∧ Below w.heap.size w wr ∧ base ≤ wr.heap.size
theorem we_next {L : List (Int × Int × ByteArray)} {base : Nat} {w wr w5 w6 w4 : World} {k n f cap g' cq : Nat} {v : Value} {st : F} {xs : List Value} {fp fq : List Nat} {xo xn : Int} {s : ByteArray} {q : Option Addr}
    (hX : bkF L .nil = bkF (L.drop (k + 1)) (stepF (xo, xn, s) st)) (hC : wErr (xo, xn, s) = 0 ∧ opsN xo ≤ n ∧ cErr (L.drop (k + 1)) (n + (1 - opsN xo)) = 0) (hf : (f : Int) = n - opsN xo) (hn : st.len = n)
    (hsz : st.size = k) (hfit : st.Fits) (hok : WdOk (xo, xn, s)) (hx : RdV wr st xs fp) (hfp : ∀ b ∈ fp, base ≤ b ∧ v.ownBlock ≠ some b) (hown : wr.ownsRow base 28 4 v n xs) (hbl : Below w.heap.size w wr) (hbase : base ≤ wr.heap.size) (hwb : w.heap.size ≤ base)
    (e5 : Ext (fun _ => False) wr w5) (hq : RdP w5 (st.drop f) q fq) (hcq : (st.drop f).len ≤ cq ∧ cq ≤ 9223372036854775807) (hfq : ∀ b ∈ fq, b ∈ fp ∨ wr.heap.size ≤ b) (e6 : Ext (fun _ => False) w5 w6)
    (hown4 : w4.ownsRow base 28 4 (.slice (some ⟨g', 0, none⟩) (f + 1) cap) (f + 1) (xs.take (f * 4) ++ exV xo xn s q (st.drop f).len cq)) (e64 : Ext (fun b => some b = v.ownBlock) w6 w4) (hat : v.ownBlock = some g' ∨ w6.heap.size ≤ g') :
    WeRel L base w (k + 1) (.slice (some ⟨g', 0, none⟩) (f + 1) cap) w4 := by
  have hr := opsN_range xo
  have hvlt : ∀ b, v.ownBlock = some b → base ≤ b ∧ b < wr.heap.size := fun b e => hown.lt b e
  have h56 := e5.size
  have h66 := e6.size
  have h64 := e64.size
  have e4 : Ext (fun b => some b = v.ownBlock) wr w4 := (e5.mono (fun _ _ h => h.elim)).trans ((e6.mono (fun _ _ h => h.elim)).trans e64)
  have hff : st.len - (opsN xo).toNat = f := by omega
  have hs : stepF (xo, xn, s) st = (st.take f).app (.cons xo xn s (st.drop f) .nil) := by unfold stepF; rw [hff]
  have hsl : (stepF (xo, xn, s) st).len = f + 1 := stepF_len (by rw [hn]; exact hf)
  obtain ⟨ft, ht, hsub⟩ := hx.take f
  have hq4 : RdP w4 (st.drop f) q fq := (hq.ext e6 (fun _ _ => id)).ext e64 (fun b hb e => by
    rcases hfq b hb with h | h
    · exact (hfp b h).2 e.symm
    · have := (hvlt b e.symm).2; omega)
  have ht4 : RdV w4 (st.take f) (xs.take (4 * f)) ft := ht.ext e4 (fun b hb e => (hfp b (hsub.subset hb)).2 e.symm)
  have hlt6 : ∀ b ∈ fq, b < w5.heap.size := hq.lt
  refine ⟨stepF (xo, xn, s) st, xs.take (4 * f) ++ exV xo xn s q (st.drop f).len cq, ft ++ fq, hX, ?_, ?_, stepF_fits hfit hok, ?_, ?_, ?_, ?_, ?_⟩
  · rw [hsl]
    have h := hC.2.2
    rwa [show (n : Int) + (1 - opsN xo) = ((f + 1 : Nat) : Int) by omega] at h
  · rw [stepF_size]; omega
  · rw [hs]
    exact RdV.app ht4 ⟨q, cq, fq, [], [], rfl, by simp, hcq.1, hcq.2, ⟨rfl, rfl⟩, hq4⟩
  · intro b hb
    have hne : b ∈ fp ∨ wr.heap.size ≤ b ∧ b < w5.heap.size := by
      rcases List.mem_append.1 hb with h | h
      · exact .inl (hsub.subset h)
      · rcases hfq b h with h' | h'
        · exact .inl h'
        · exact .inr ⟨h', hlt6 b h⟩
    refine ⟨?_, fun e => ?_⟩
    · rcases hne with h | h
      · exact (hfp b h).1
      · omega
    · have e' : g' = b := by simpa [Value.ownBlock] using e
      subst e'
      rcases hat with h | h
      · rcases hne with h' | h'
        · exact (hfp _ h').2 h
        · have := (hvlt _ h).2; omega
      · rcases hne with h' | h'
        · have := hx.lt _ h'; omega
        · omega
  · rw [hsl, Nat.mul_comm 4 f]; exact hown4
  · exact ⟨e4.os.trans hbl.os, e4.tape.trans hbl.tape, e4.output.trans hbl.output, Nat.le_trans hbl.size e4.size, fun i hi => (e4.block i (by have := hbl.size; omega) (fun e => by have := (hvlt i e.symm).1; omega)).trans (hbl.block i hi)⟩
  · omega

/-- Four cells of a block of four are written: the block. -/
theorem set4_heap {w : World} {b : Nat} {v0 v1 v2 v3 a0 a1 a2 a3 : Value} {T : TypeId} (h : w.heap[b]? = some (.cells #[v0, v1, v2, v3] T (0, 0))) :
    ((((w.setCell ⟨b, 0, none⟩ a0).setCell ⟨b, 1, none⟩ a1).setCell ⟨b, 2, none⟩ a2).setCell ⟨b, 3, none⟩ a3).heap[b]? = some (.cells #[a0, a1, a2, a3] T (0, 0)) := by
  simp [World.setCell, Array.getElem?_modify, h]
theorem own_takeN {w : World} {base : Nat} {e : TypeId} {size : Nat} {ao : Option Addr} {n c : Nat} {xs : List Value} (h : w.ownsRow base e size (.slice ao n c) n xs) {k : Nat} (hk : k ≤ n) : w.ownsRow base e size (.slice ao k c) k (xs.take (k * size)) := by
  obtain ⟨h1, h2⟩ := h
  have hks : k * size ≤ n * size := Nat.mul_le_mul_right _ hk
  refine ⟨by rw [List.length_take]; omega, ?_⟩
  rcases h2 with ⟨h2, h3⟩ | ⟨g, cap, cur, h2, h3, h4, h5, h6, h7, h8⟩
  · injection h2 with e1 e2 e3
    subst e1 e2 e3
    obtain rfl : k = 0 := by omega
    exact .inl ⟨rfl, rfl⟩
  · injection h2 with e1 e2 e3
    subst e1 e3
    refine .inr ⟨g, c, cur, rfl, h3, h4, by omega, h6, h7, ?_⟩
    rw [← h8, List.take_take, Nat.min_eq_left hks]
theorem own_anyN {w : World} {base : Nat} {e : TypeId} {size : Nat} {v : Value} {n : Nat} {xs : List Value} (h : w.ownsRow base e size v n xs) :
    ∃ (ao : Option Addr) (ca : Nat), v = .slice ao n ca ∧ (ao = none → n = 0 ∧ ca = 0) ∧ n ≤ ca ∧ ca ≤ maxLen ∧ ∀ b, ao = some b → ∃ g, b = ⟨g, 0, none⟩ ∧ base ≤ g ∧ ∀ (i : Nat) u, xs[i]? = some u → w.cell? ⟨g, i, none⟩ = some u := by
  rcases h.2 with ⟨rfl, rfl⟩ | ⟨g, cap, cur, hv, hb, hg, h1, h2, h3, h4⟩
  · exact ⟨none, 0, rfl, (fun _ => ⟨rfl, rfl⟩), Nat.le_refl _, by decide, (fun b hb => by cases hb)⟩
  · refine ⟨some ⟨g, 0, none⟩, cap, hv, (fun h => by cases h), h1, h2, fun b hb' => ⟨g, by injection hb' with h; exact h.symm, hb, fun i u hu => ?_⟩⟩
    rw [cell_of_row _ _ _ _ _ _ hg]
    rw [← h4, List.getElem?_take] at hu
    split at hu
    · simpa using hu
    · cases hu
/-- The cells behind a place of a row. -/
theorem own_drop {w : World} {g f k : Nat} {xs : List Value} (hc : ∀ (i : Nat) u, xs[i]? = some u → w.cell? ⟨g, i, none⟩ = some u) (hk : k = f * 4) : CellsP w (some ⟨g, k, none⟩) (xs.drop (4 * f)) :=
  .inr ⟨g, k, rfl, fun i v hv => by
    rw [List.getElem?_drop] at hv
    have := hc _ v hv
    rwa [show 4 * f + i = k + i by omega] at this⟩
end Go.Proofs.YtkgciohebloffaaGreat
/- find: what has a name among slots that rise, and the value of a variable (made by tools/gen/slot.py). -/
namespace Go.Proofs.YtkgciohebloffaaGreat
open Go.RowKit

set_option maxHeartbeats 400000 in
theorem v_slotName (x : ByteArray × Int) (w : World) : Calls Tryz.prog 66 #[.agg #[.string x.1, .int .i64 x.2]] w fun e w' => e = .returned (.string x.1) ∧ Below w.heap.size w w' := by
  go_enter Tryz.func66, Tryz.ntmps66
  go_wp2
  go_ret
  exact ⟨rfl, alloc_below _ _⟩

set_option maxHeartbeats 1000000 in
theorem s_find1 (x : ByteArray × Int) (s : ByteArray) (nb : Nat) (w : World) (h : w.cell? ⟨nb, 0, none⟩ = some (.func (.func 66) #[] #[])) :
    Calls Tryz.prog 167 #[.agg #[.string x.1, .int .i64 x.2], .string s, .pointer (some ⟨nb, 0, none⟩)] w fun e w' => e = .returned (.int .i64 (Lib.compareBytes x.1.data.toList s.data.toList)) ∧ Below w.heap.size w w' := by
  have hlt : nb < w.heap.size := World.block_lt_of_cell? _ _ h
  go_enter Tryz.func167, Tryz.ntmps167
  go_wp2_with fail
  refine (v_slotName x _).mono ?_
  rintro e w' ⟨rfl, hb⟩
  have HB := hid ((alloc_below w _).trans (hb.mono (by simp)))
  clear hb
  go_wp2_with fail
  refine (Tryz.strings_Compare _ _ _).mono ?_
  rintro e w2 ⟨rfl, rfl⟩
  go_wp2_with fail
  go_ret
  exact ⟨rfl, HB.out⟩

def FoundS (L : List (ByteArray × Int)) (s : ByteArray) (i : Nat) (f : Bool) : Prop :=
  (f = true ∧ ∃ x, L[i]? = some x ∧ x.1.data.toList = s.data.toList) ∨ (f = false ∧ ∀ x ∈ L, x.1.data.toList ≠ s.data.toList)
def slKeys (L : List (ByteArray × Int)) : List (List UInt8) := L.map fun x => x.1.data.toList
theorem skeys_at {L : List (ByteArray × Int)} {i : Nat} {x : ByteArray × Int} (h : L[i]? = some x) : (slKeys L)[i]? = some x.1.data.toList := by simp [slKeys, h]
/-- What is known behind some rounds. -/
def HalvesS (L : List (ByteArray × Int)) (s : ByteArray) (lo hi : Nat) : Prop :=
  (∀ t x, t < lo → L[t]? = some x → x.1.data.toList < s.data.toList) ∧ (∀ t x, hi ≤ t → L[t]? = some x → ¬ x.1.data.toList < s.data.toList)
theorem HalvesS.up {L : List (ByteArray × Int)} {s : ByteArray} {lo hi m : Nat} (h : HalvesS L s lo hi) (hr : Rising (slKeys L)) {x : ByteArray × Int} (hx : L[m]? = some x) (hc : Lib.compareBytes x.1.data.toList s.data.toList < 0) : HalvesS L s (m + 1) hi := by
  refine ⟨fun t y ht hy => ?_, h.2⟩
  rw [cb_lt] at hc
  by_cases e : t = m
  · subst e; rw [hx] at hy; cases hy; exact hc
  · exact List.lt_trans (hr.at t m _ _ (by omega) (skeys_at hy) (skeys_at hx)) hc
theorem HalvesS.down {L : List (ByteArray × Int)} {s : ByteArray} {lo hi m : Nat} (h : HalvesS L s lo hi) (hr : Rising (slKeys L)) {x : ByteArray × Int} (hx : L[m]? = some x) (hc : ¬ Lib.compareBytes x.1.data.toList s.data.toList < 0) : HalvesS L s lo m := by
  refine ⟨h.1, fun t y ht hy hlt => ?_⟩
  rw [cb_lt] at hc
  by_cases e : t = m
  · subst e; rw [hx] at hy; cases hy; exact hc hlt
  · exact hc (List.lt_trans (hr.at m t _ _ (by omega) (skeys_at hx) (skeys_at hy)) hlt)
theorem HalvesS.found {L : List (ByteArray × Int)} {s : ByteArray} {i : Nat} (h : HalvesS L s i i) (hr : Rising (slKeys L)) {x : ByteArray × Int} (hx : L[i]? = some x) (f : Bool) (hf : (Lib.compareBytes x.1.data.toList s.data.toList == 0) = f) : FoundS L s i f := by
  cases f with
  | true => exact .inl ⟨rfl, x, hx, (cb_eq _ _).1 (by simpa using hf)⟩
  | false =>
    refine .inr ⟨rfl, fun y hy e => ?_⟩
    obtain ⟨t, ht⟩ := List.getElem?_of_mem hy
    have hne : ¬ x.1.data.toList = s.data.toList := fun k => by rw [(cb_eq _ _).2 k] at hf; simp at hf
    by_cases h1 : t < i
    · have := h.1 t y h1 ht; rw [e] at this; exact List.lt_irrefl _ this
    · by_cases h2 : t = i
      · subst h2; rw [hx] at ht; cases ht; exact hne e
      · have h3 := hr.at i t _ _ (by omega) (skeys_at hx) (skeys_at ht)
        rw [e] at h3
        exact h.2 i x (Nat.le_refl _) hx h3
theorem HalvesS.none {L : List (ByteArray × Int)} {s : ByteArray} {i : Nat} (h : HalvesS L s i i) (hi : L.length ≤ i) : FoundS L s i false := by
  refine .inr ⟨rfl, fun y hy e => ?_⟩
  obtain ⟨t, ht⟩ := List.getElem?_of_mem hy
  have hlt : t < L.length := by
    rcases Nat.lt_or_ge t L.length with h | h
    · exact h
    · rw [List.getElem?_eq_none h] at ht; cases ht
  have := h.1 t y (by omega) ht
  rw [e] at this; exact List.lt_irrefl _ this

set_option maxRecDepth 100000 in
set_option maxHeartbeats 4000000 in
theorem s_search (L : List (ByteArray × Int)) (lp : Option Addr) (lc : Nat) (s : ByteArray) (nb : Nat) (w : World) (h : w.cell? ⟨nb, 0, none⟩ = some (.func (.func 66) #[] #[])) (hp : SlP w L lp) (hl : L.length ≤ 4) (_hlc : L.length ≤ lc) (_hcm : lc ≤ maxLen) (hr : Rising (slKeys L)) :
    Calls Tryz.prog 166 #[.slice lp L.length lc, .string s, .func (.func 167) #[] #[.pointer (some ⟨nb, 0, none⟩)]] w fun e w' => (∃ (i : Nat) (f : Bool), e = .returned (.tuple #[.int .i64 i, .bool f]) ∧ FoundS L s i f) ∧ Below w.heap.size w w' := by
  have HP := hid hp
  have HR := hid hr
  have HC := hid h
  have hnb : nb < w.heap.size := World.block_lt_of_cell? _ _ h
  have hll : (L.length : Int) ≤ 4 := by omega
  clear hp hr h
  go_enter Tryz.func166, Tryz.ntmps166
  go_wp2_with fail
  go_loopg [9, 10] L.length (fun kx s9 s10 wr => ∃ lo hi : Nat, s9 = .int .i64 lo ∧ s10 = .int .i64 hi ∧ lo ≤ hi ∧ hi ≤ L.length ∧ hi - lo ≤ kx ∧ Hid (HalvesS L s lo hi) ∧ Below w.heap.size w wr)
  case atStart => exact ⟨0, L.length, rfl, rfl, Nat.zero_le _, Nat.le_refl _, by omega, hid ⟨fun t x ht => absurd ht (Nat.not_lt_zero _), fun t x ht hx => by rw [List.getElem?_eq_none ht] at hx; cases hx⟩, Below.refl _ _⟩
  case round =>
    obtain ⟨lo, hi, rfl, rfl, hlh, hin, hg, HI, hbl⟩ := hrel
    have HB := hid hbl
    have hzr : w.heap.size ≤ wr.heap.size := hbl.size
    have HCr := hid ((Ext.of_below (S := fun _ => False) hbl).cell_some HC.out id)
    clear hbl
    by_cases hlt : lo < hi
    · have hm : (lo + hi) / 2 < L.length := by omega
      rcases HP.out with h0 | ⟨b, rfl, hat⟩
      · rw [h0] at hm; simp at hm
      have HA := hid (hat.ext (S := fun _ => False) (Ext.of_below HB.out) id)
      obtain ⟨c0, c1⟩ := HA.out _ _ (List.getElem?_eq_getElem hm)
      have HX := hid (List.getElem?_eq_getElem hm)
      generalize L[(lo + hi) / 2] = x at c0 c1 HX
      by_cases hyx : Lib.compareBytes x.1.data.toList s.data.toList < 0
      · have HI2 := hid (HI.out.up HR.out HX.out hyx)
        go_wp2_with fail
        refine (s_find1 x s nb _ HCr.out).mono ?_
        rintro e w' ⟨rfl, hb⟩
        have HB2 := hid (HB.out.trans (hb.mono hzr))
        clear hb
        generalize Lib.compareBytes x.1.data.toList s.data.toList = cv at hyx ⊢
        go_wp2_with fail
        go_roundg (hi - ((lo + hi) / 2 + 1))
        case measure => omega
        case rel => exact ⟨(lo + hi) / 2 + 1, hi, by go_num, rfl, by omega, hin, Nat.le_refl _, HI2, HB2.out⟩
      · have HI2 := hid (HI.out.down HR.out HX.out hyx)
        go_wp2_with fail
        refine (s_find1 x s nb _ HCr.out).mono ?_
        rintro e w' ⟨rfl, hb⟩
        have HB2 := hid (HB.out.trans (hb.mono hzr))
        clear hb
        generalize Lib.compareBytes x.1.data.toList s.data.toList = cv at hyx ⊢
        go_wp2_with fail
        go_roundg ((lo + hi) / 2 - lo)
        case measure => omega
        case rel => exact ⟨lo, (lo + hi) / 2, rfl, by go_num, by omega, by omega, Nat.le_refl _, HI2, HB2.out⟩
    · obtain rfl : hi = lo := by omega
      by_cases hn : hi < L.length
      · rcases HP.out with h0 | ⟨b, rfl, hat⟩
        · rw [h0] at hn; simp at hn
        have HA := hid (hat.ext (S := fun _ => False) (Ext.of_below HB.out) id)
        obtain ⟨c0, c1⟩ := HA.out _ _ (List.getElem?_eq_getElem hn)
        have HX := hid (List.getElem?_eq_getElem hn)
        generalize L[hi] = x at c0 c1 HX
        go_wp2_with fail
        refine (s_find1 x s nb _ HCr.out).mono ?_
        rintro e w' ⟨rfl, hb⟩
        have HB2 := hid (HB.out.trans (hb.mono hzr))
        clear hb
        have HF := hid (fun f hf => HI.out.found HR.out HX.out f hf)
        generalize Lib.compareBytes x.1.data.toList s.data.toList = cv at HF ⊢
        go_wp2_with fail
        go_ret2
        exact ⟨⟨hi, cv == 0, rfl, HF.out _ rfl⟩, HB2.out⟩
      · have HF := hid (HI.out.none (by omega))
        go_wp2_with fail
        go_ret2
        exact ⟨⟨hi, false, rfl, HF.out⟩, HB.out⟩

/-- The one of a name is looked up. -/
theorem fold_none {s : List UInt8} : ∀ {L : List (ByteArray × Int)} {v : Int}, (∀ x ∈ L, x.1.data.toList ≠ s) → L.foldl (fun v x => if x.1.data.toList = s then x.2 else v) v = v
  | [], _, _ => rfl
  | x :: r, v, h => by
    rw [List.foldl_cons, if_neg (h x (by simp))]
    exact fold_none fun y hy => h y (by simp [hy])
theorem fold_of {s : List UInt8} : ∀ {L : List (ByteArray × Int)} {v : Int} {i : Nat} {x : ByteArray × Int}, Rising (slKeys L) → L[i]? = some x → x.1.data.toList = s → L.foldl (fun v x => if x.1.data.toList = s then x.2 else v) v = x.2
  | [], _, _, _, _, h, _ => by simp at h
  | y :: r, v, 0, x, hr, h, e => by
    simp at h; subst h
    rw [List.foldl_cons, if_pos e]
    refine fold_none fun z hz k => ?_
    have := hr.1 z.1.data.toList (List.mem_map.2 ⟨z, hz, rfl⟩)
    rw [k, ← e] at this; exact List.lt_irrefl _ this
  | y :: r, v, i + 1, x, hr, h, e => by
    rw [List.foldl_cons]
    exact fold_of hr.2 (by simpa using h) e
theorem val_of {L : List (ByteArray × Int)} {s : ByteArray} {i : Nat} {x : ByteArray × Int} (hr : Rising (slKeys L)) (hx : L[i]? = some x) (e : x.1.data.toList = s.data.toList) : valL s.data.toList L = x.2 := fold_of hr hx e
theorem val_none {L : List (ByteArray × Int)} {s : ByteArray} (h : ∀ x ∈ L, x.1.data.toList ≠ s.data.toList) : valL s.data.toList L = 0 := fold_none h

def OneSlot (L : List (ByteArray × Int)) (s : ByteArray) (e : Ending) : Prop :=
  ∃ (x : ByteArray × Int) (b : Bool), e = .returned (.tuple #[.agg #[.string x.1, .int .i64 x.2], .bool b]) ∧ valL s.data.toList L = x.2
/-- Two new blocks: of one cell, and of two. -/
theorem nil_new_two (w : World) (u v0 v1 : Value) (T U : TypeId) : ∃ W, (w.alloc (.cells #[u] T)).alloc (.cells #[v0, v1] U) = W ∧ W.cell? ⟨w.heap.size, 0, none⟩ = some u ∧ W.heap[w.heap.size + 1]? = some (.cells #[v0, v1] U (0, 0)) ∧ Below w.heap.size w W ∧ w.heap.size + 2 ≤ W.heap.size := by
  refine ⟨_, rfl, ?_, ?_, (alloc_below w _).trans ((alloc_below _ _).mono (by simp)), by simp⟩
  · have h := ((Ext.refl (S := fun _ => False) (w.alloc (.cells #[u] T))).alloc (.cells #[v0, v1] U)).heap (heap_new w (.cells #[u] T)) id
    rw [cell_of_row _ _ _ _ _ _ h]; rfl
  · have h := heap_new (w.alloc (.cells #[u] T)) (.cells #[v0, v1] U)
    simpa using h
set_option maxRecDepth 100000 in
set_option maxHeartbeats 4000000 in
theorem s_find (L : List (ByteArray × Int)) (lp : Option Addr) (lc : Nat) (s : ByteArray) (w : World) (hp : SlP w L lp) (hl : L.length ≤ 4) (hlc : L.length ≤ lc) (hcm : lc ≤ maxLen) (hr : Rising (slKeys L)) :
    Calls Tryz.prog 110 #[.slice lp L.length lc, .func (.func 66) #[] #[], .string s] w fun e w' => OneSlot L s e ∧ Below w.heap.size w w' := by
  have HP := hid hp
  have HR := hid hr
  have hll : (L.length : Int) ≤ 4 := by omega
  clear hp hr
  go_enter Tryz.func110, Tryz.ntmps110
  go_wp2_with fail
  obtain ⟨W, hW, hcell, hblk, hbl, hsz⟩ := nil_new_two w (.func (.func 66) #[] #[]) (.string ⟨#[]⟩) (.int .i64 0) 102 86
  rw [hW]
  have HN := hid hblk
  have HB := hid hbl
  clear hblk hbl hW
  refine (s_search L lp lc s _ _ hcell (HP.out.ext (S := fun _ => False) (Ext.of_below HB.out) (fun _ _ => id)) hl hlc hcm HR.out).mono ?_
  rintro e w2 ⟨⟨i, f, rfl, hf⟩, hb⟩
  have HN2 := hid ((Ext.of_below (S := fun _ => False) hb).heap HN.out id)
  have HB2 := hid (HB.out.trans (hb.mono (by omega)))
  clear hb HN HB hcell
  obtain ⟨⟨q0, q1⟩, f0, f1⟩ := blk2 HN2.out
  have hlt2 : w.heap.size + 1 < w2.heap.size := World.block_lt_of_cell? _ _ q0
  rcases hf with ⟨rfl, x, hx, hs⟩ | ⟨rfl, hs⟩
  · have hi : i < L.length := by
      rcases Nat.lt_or_ge i L.length with h | h
      · exact h
      · rw [List.getElem?_eq_none h] at hx; cases hx
    rcases HP.out with h0 | ⟨b, rfl, hat⟩
    · rw [h0] at hi; simp at hi
    have HA := hid (hat.ext (S := fun _ => False) (Ext.of_below HB2.out) id)
    obtain ⟨c0, c1⟩ := HA.out _ _ hx
    have HX := hid (val_of HR.out hx hs)
    clear hx hs
    go_wp2_with fail
    refine bodyPost_ret (v := .tuple #[.agg #[.string x.1, .int .i64 x.2], .bool true]) (by simp [results, Tryz.results110, go_sem, q0, q1]) rfl ⟨⟨x, true, rfl, HX.out⟩, below_set2 HB2.out (by omega) _ _⟩
  · have HX := hid (val_none hs)
    clear hs
    go_wp2_with fail
    refine bodyPost_ret (v := .tuple #[.agg #[.string ⟨#[]⟩, .int .i64 0], .bool false]) (by simp [results, Tryz.results110, go_sem, World.cell?_alloc_past, hlt2, q0, q1]) rfl ⟨⟨(⟨#[]⟩, 0), false, rfl, HX.out⟩, ?_⟩
    exact (below_set2 HB2.out (by omega) _ _).alloc (by simp; omega) _
end Go.Proofs.YtkgciohebloffaaGreat
