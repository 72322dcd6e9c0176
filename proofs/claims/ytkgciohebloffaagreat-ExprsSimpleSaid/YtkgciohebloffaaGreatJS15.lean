/- Texts joined: CodeOf, Vars. -/
import Derived.Test.YtkgciohebloffaaGreatJS14
import Derived.Test.YtkgciohebloffaaGreatJS03
/- The code of an expression, and the error of code; the reference's. -/
namespace Go.Proofs.YtkgciohebloffaaGreat
open Go.RowKit

theorem info_word : (Tryz.prog.info? 78).map (fun i => (i.zero, i.size, i.bytes)) = some (some (.agg #[.int .i64 0, .int .i64 0, .string ⟨#[]⟩]), 3, 32) := by kernel_rfl

/-- What holds behind k rounds: the words of the first k parts. -/
def CwRel (L : List (Int × Int × ByteArray)) (ys : List Value) (g3 : Nat) (w : World) (k : Nat) (v : Value) (wr : World) : Prop :=
  ∃ acc : List (Int × Int × ByteArray), L = acc ++ L.drop k ∧ acc.length = k ∧ wr.ownsRow w.heap.size 78 3 v acc.length (wdV acc) ∧ Below w.heap.size w wr ∧
    (∀ j u, ys[j]? = some u → wr.cell? ⟨g3, j, none⟩ = some u) ∧ v.ownBlock ≠ some g3 ∧ g3 < wr.heap.size ∧ w.heap.size ≤ wr.heap.size

def GotWords (L : List (Int × Int × ByteArray)) (w : World) (e : Ending) (w' : World) : Prop :=
  (∃ v, e = .returned v ∧ w'.ownsRow w.heap.size 78 3 v L.length (wdV L)) ∧ Below w.heap.size w w'

set_option maxRecDepth 100000 in
set_option maxHeartbeats 4000000 in
theorem r_CodeOf (op n : Int) (s : ByteArray) (a : F) (p : Option Addr) (c : Nat) (fa : List Nat) (w : World) (ha : a.size ≤ 1000) (h1 : RdP w a p fa) (h2 : a.len ≤ c) (h3 : c ≤ 9223372036854775807) :
    Calls Tryz.prog 42 #[.agg #[.int .i64 op, .int .i64 n, .string s, .slice p a.len c]] w (GotWords (ptE op n s a) w) := by
  have H1 := hid h1
  obtain ⟨i0, hi0, hz0, hz1, hz2⟩ := info_parts info_word
  clear h1
  go_enter Tryz.func42, Tryz.ntmps42
  go_wp2_with fail
  refine (r_parts (a.size + 1) (by omega) op n s a p c fa _ (by omega) (H1.out.ext (S := fun _ => False) ((Ext.refl _).alloc _) (fun _ _ => id)) h2 h3).mono ?_
  rintro e w3 ⟨⟨p3, c3, ys, rfl, hown3, hpt3⟩, hb3⟩
  have HB3 := hid ((alloc_below w _).trans (hb3.mono (by simp)))
  have hz3 : w.heap.size + 1 ≤ w3.heap.size := by have := hb3.size; simpa using this
  obtain ⟨g3, cc3, hv3, hg3, _, _, hcell3, _⟩ := own_cells hown3 (by omega)
  injection hv3 with hv4 _ hv5
  subst hv4 hv5
  have hls : ((a.size + 1 : Nat) : Int) ≤ 1001 := by omega
  have hg3s : g3 < w3.heap.size := by
    have hl4 := hpt3.length
    rw [ptE_length] at hl4
    exact World.block_lt_of_cell? _ _ (hcell3 0 _ (List.getElem?_eq_getElem (by omega)))
  have hle : (ptE op n s a).length = a.size + 1 := ptE_length op n s a
  generalize ptE op n s a = L at *
  have HL := hid hle
  have HT3 := hid hpt3
  have HV0 := hid (show CwRel L ys g3 w 0 (.slice none 0 0) w3 from ⟨[], rfl, rfl, World.ownsRow_nil _ _ _ _, HB3.out, hcell3, by simp [Value.ownBlock], hg3s, by omega⟩)
  clear hb3 hown3 hcell3 hpt3 hle
  go_wp2_with fail
  go_loopw [3, 9] (fun v i wr => ∃ (j : Nat) (u : Value), j ≤ a.size + 1 ∧ i = .int .i64 j ∧ v = u ∧ CwRel L ys g3 w j u wr) (fun _ i _ => a.size + 1 - (intOf i).toNat)
  case atStart => exact ⟨0, _, by omega, rfl, rfl, HV0.out⟩
  case round =>
    obtain ⟨j, v, hj, rfl, hgv, acc2, hacc2, hlen2, hown2, hbl2, hcell2, hno2, hgs2, hzw2⟩ := hrel
    subst hgv
    have HA2 := hid (And.intro hacc2 (And.intro hlen2 (And.intro hcell2 (And.intro hno2 hgs2))))
    have HO2 := hid hown2
    have HB2 := hid hbl2
    have hl2' : acc2.length ≤ 1001 := by omega
    clear hacc2 hlen2 hown2 hbl2 hno2
    by_cases hlt2 : j < a.size + 1
    · have hlt2' : (j : Int) < ((a.size + 1 : Nat) : Int) := by omega
      have hjl : j < L.length := by rw [HL.out]; exact hlt2
      obtain ⟨g0, g1, g2, vq, vl, vc, g4⟩ := HT3.out.get j _ (List.getElem?_eq_getElem hjl)
      have z0 := hcell2 _ _ g0
      have z1 := hcell2 _ _ g1
      have z2 := hcell2 _ _ g2
      have z3 := hcell2 _ _ g4
      have hDJ := hid (List.drop_eq_getElem_cons hjl)
      clear hcell2 g0 g1 g2 g4
      generalize L[j] = x at z0 z1 z2 hDJ
      obtain ⟨xo, xn, xs⟩ := x
      dsimp only at z0 z1 z2
      have HJ : Hid (L = acc2 ++ ((xo, xn, xs) :: L.drop (j + 1))) := hid (HA2.out.1.trans (by rw [hDJ.out]))
      clear hDJ
      have HN2 := hid (show ((wr.alloc (.cells #[.int .i64 xo, .int .i64 xn, .string xs, .slice vq vl vc] 28)).alloc (.cells #[.int .i64 xo, .int .i64 xn, .string xs] 78)).heap[wr.heap.size + 1]? = some (.cells #[.int .i64 xo, .int .i64 xn, .string xs] 78 (0, 0)) from (two_new rfl).2.1)
      go_wp2_with (at_builtin; refine wpList_append_lies _ rfl _ _ 67 rfl w.heap.size 78 i0 _ 3 32 Tryz.underlying67 hi0 hz0 hz1 hz2 rfl (by decide) _ _ _ (by rfl) ((HO2.out.alloc _).alloc _) ⟨wr.heap.size + 1, 0, none⟩ 1 1 [.int .i64 xo, .int .i64 xn, .string xs] rfl rfl (World.news_of_block HN2.out) (fun x hx => by simp at hx; rcases hx with rfl | rfl | rfl <;> rfl) (by omega) (by unfold maxLen; omega) (by omega) (by simp; omega) (wr.heap.size + 2) (by simp) ?_; intro g cap w4 hown4 hgrow hat4 hlt4)
      have hno4 := HA2.out.2.2.2.1
      have hgs4 := HA2.out.2.2.2.2
      have e4 : Ext (fun b => some b = u3.ownBlock) wr w4 := (((Ext.refl wr).alloc _).alloc _).grown hgrow (fun b hb => .inl hb.symm)
      have hne : ∀ b, b < w.heap.size → some b ≠ u3.ownBlock := fun b hb e => by have := (HO2.out.lt b e.symm).1; omega
      go_roundw
      case rel =>
        refine ⟨j + 1, _, by omega, by go_num, rfl, acc2 ++ [(xo, xn, xs)], ?_, by have := HA2.out.2.1; simp; omega, ?_, ?_, fun i u hu => e4.cell_some (HA2.out.2.2.1 i u hu) (fun e => hno4 e.symm), ?_, Nat.lt_of_lt_of_le hgs4 e4.size, Nat.le_trans hzw2 e4.size⟩
        · rw [List.append_assoc]; exact HJ.out
        · rw [wdV_app, List.length_append]; simpa [wdV] using hown4
        · exact ⟨e4.os.trans HB2.out.os, e4.tape.trans HB2.out.tape, e4.output.trans HB2.out.output, Nat.le_trans HB2.out.size e4.size, fun i hi => (e4.block i (by have := HB2.out.size; omega) (hne _ (by omega))).trans (HB2.out.block i hi)⟩
        · intro e
          simp [Value.ownBlock] at e
          subst e
          rcases hat4 with h | h
          · exact hno4 h
          · omega
      case measure => simp [intOf]; omega
    · have HZ : Hid (L = acc2) := hid (by
        have h := HA2.out.1
        rw [List.drop_eq_nil_of_le (by rw [HL.out]; omega), List.append_nil] at h
        exact h)
      go_wp2_with fail
      go_ret
      exact ⟨⟨_, rfl, by rw [HZ.out]; exact HO2.out⟩, HB2.out⟩

/-- The error of code behind some words, with so many values on the stack. -/
def cErr : List (Int × Int × ByteArray) → Int → Int
  | [], have_ => if (have_ != 1) = true then 3 else 0
  | x :: r, have_ =>
    if (wErr x != 0) = true then wErr x
    else if decide (have_ < opsN x.1) = true then 11
    else cErr r (have_ + (1 - opsN x.1))
theorem opsN_range (op : Int) : 0 ≤ opsN op ∧ opsN op ≤ 3 := by unfold opsN; (repeat' split) <;> omega

set_option maxRecDepth 100000 in
set_option maxHeartbeats 4000000 in
theorem r_CodeFault (L : List (Int × Int × ByteArray)) (p : Option Addr) (c : Nat) (w : World) (hp : WdP w L p) (hl : L.length ≤ 2000) (_hlc : L.length ≤ c) (_hcm : c ≤ maxLen) (hok : ∀ x ∈ L, WdOk x) :
    Calls Tryz.prog 37 #[.slice p L.length c] w fun e w' => e = .returned (.int .i64 (cErr L 0)) ∧ Below w.heap.size w w' := by
  have HP := hid hp
  have HK := hid hok
  have hl' : (L.length : Int) ≤ 2000 := by omega
  have hlg : decide ((L.length : Int) > 10000) = false := by simp; omega
  clear hp hok
  go_enter Tryz.func37, Tryz.ntmps37
  go_wp2_with fail
  go_loopw [3, 12] (fun v i wr => ∃ (k : Nat) (h : Int), k ≤ L.length ∧ i = .int .i64 k ∧ v = .int .i64 h ∧ (-6000 ≤ h - k ∧ h ≤ k) ∧ (-3 * (k : Int) ≤ h) ∧ cErr L 0 = cErr (L.drop k) h ∧ Below w.heap.size w wr) (fun _ i _ => L.length - (intOf i).toNat)
  case atStart => exact ⟨0, 0, by omega, rfl, rfl, by omega, by omega, rfl, Below.refl _ _⟩
  case round =>
    obtain ⟨k, h, hk, rfl, rfl, hh1, hh2, herr, hbl⟩ := hrel
    have HR := hid herr
    have HB := hid hbl
    have HH := hid (And.intro hh1 hh2)
    have hb1 : -20000 ≤ h ∧ h ≤ 20000 := by omega
    have hzr : w.heap.size ≤ wr.heap.size := hbl.size
    clear herr hbl hh1 hh2
    by_cases hlt : k < L.length
    · rcases HP.out with h0 | ⟨b, rfl, hat⟩
      · rw [h0] at hlt; simp at hlt
      have HA := hid (hat.ext (S := fun _ => False) (Ext.of_below HB.out) id)
      obtain ⟨c0, c1, c2⟩ := HA.out k _ (List.getElem?_eq_getElem hlt)
      have HD := hid (List.drop_eq_getElem_cons hlt)
      have HKx := hid (HK.out _ (List.getElem_mem hlt))
      generalize L[k] = x at c0 c1 c2 HD HKx
      obtain ⟨xo, xn, xs⟩ := x
      dsimp only at c0 c1 c2
      have HR2 := hid (show cErr L 0 = cErr ((xo, xn, xs) :: L.drop (k + 1)) h by rw [HR.out, ← HD.out])
      clear HR HD
      go_wp2_with fail
      refine (r_wordFault xo xn xs _ (by have := HKx.out.2.2; simp only at this; omega)).mono ?_
      rintro e w2 ⟨rfl, hb2⟩
      have HB2 := hid ((HB.out.alloc hzr _).trans (hb2.mono (by simp; omega)))
      have hblk := (Ext.of_below (S := fun _ => False) hb2).heap (heap_new wr (.cells #[.int .i64 xo, .int .i64 xn, .string xs] 78)) id
      clear hb2
      have d0 : w2.cell? ⟨wr.heap.size, 0, none⟩ = some (.int .i64 xo) := by rw [cell_of_row _ _ _ _ _ _ hblk]; rfl
      clear hblk
      generalize hwe : wErr (xo, xn, xs) = we
      have HW := hid hwe
      clear hwe
      by_cases hw0 : (we != 0) = true
      · have HW0 := hid hw0
        go_wp2_with fail
        go_ret
        exact ⟨ret_int (by rw [HR2.out, cErr, HW.out, if_pos HW0.out]), HB2.out⟩
      have hw1 : (we != 0) = false := by simpa using hw0
      have HW0 := hid hw0
      clear hw0
      have hon := opsN_range xo
      have HON := hid hon
      generalize hoo : opsN xo = oo at hon HON
      have HOO := hid hoo
      clear hoo
      by_cases hlo : decide (h < oo) = true
      · have HLO := hid hlo
        go_wp2_with fail
        refine (r_operands xo _).mono ?_
        rintro e w4 ⟨rfl, rfl⟩
        rw [HOO.out]
        go_wp2_with fail
        go_ret
        exact ⟨ret_int (by rw [HR2.out, cErr, HW.out, if_neg HW0.out, HOO.out, if_pos HLO.out]), HB2.out⟩
      · have hlo' : decide (h < oo) = false := by simpa using hlo
        have HLO := hid hlo
        have hge : oo ≤ h := by simpa using hlo
        clear hlo
        go_wp2_with fail
        refine (r_operands xo _).mono ?_
        rintro e w4 ⟨rfl, rfl⟩
        rw [HOO.out]
        go_wp2_with fail
        refine (r_operands xo _).mono ?_
        rintro e w4 ⟨rfl, rfl⟩
        rw [HOO.out]
        go_wp2_with fail
        go_roundw
        case rel =>
          refine ⟨k + 1, h + (1 - oo), by omega, by go_num, by go_num, by have := HH.out; omega, by have := HH.out; omega, ?_, HB2.out⟩
          rw [HR2.out, cErr, HW.out, if_neg HW0.out, HOO.out, if_neg HLO.out]
        case measure => simp [intOf]; omega
    · have HF := hid (show cErr L 0 = if (h != 1) = true then 3 else 0 by rw [HR.out, List.drop_eq_nil_of_le (by omega)]; rfl)
      by_cases h1 : (h != 1) = true
      · have H1 := hid h1
        go_wp2_with fail
        go_ret
        exact ⟨ret_int (by rw [HF.out, if_pos H1.out]), HB.out⟩
      · have h1' : (h != 1) = false := by simpa using h1
        have H1 := hid h1
        clear h1
        go_wp2_with fail
        go_ret
        exact ⟨ret_int (by rw [HF.out, if_neg H1.out]), HB.out⟩
end Go.Proofs.YtkgciohebloffaaGreat
/- VarList: variables with their values, in new memory. -/
namespace Go.Proofs.YtkgciohebloffaaGreat
open Go.RowKit
section
variable {sb : Nat} {a : Option Addr} {len cap : Nat} {zs : List Int} {at_ : Int}

/-- The cells of slots in a row. -/
def slV : List (ByteArray × Int) → List Value
  | [] => []
  | x :: r => .string x.1 :: .int .i64 x.2 :: slV r
theorem slV_length : ∀ L, (slV L).length = L.length * 2
  | [] => rfl
  | x :: r => by simp [slV, slV_length r]; omega
theorem slV_app : ∀ L M, slV (L ++ M) = slV L ++ slV M
  | [], M => rfl
  | x :: r, M => by simp [slV, slV_app r M]
theorem slV_get : ∀ L i x, L[i]? = some x → (slV L)[i * 2]? = some (.string x.1) ∧ (slV L)[i * 2 + 1]? = some (.int .i64 x.2)
  | y :: r, 0, x, h => by simp at h; subst h; simp [slV]
  | y :: r, i + 1, x, h => by
    have := slV_get r i x (by simpa using h)
    rw [show (i + 1) * 2 = i * 2 + 1 + 1 by omega]
    simpa [slV] using this
/-- A slot whose parts are small. -/
def SlOk (x : ByteArray × Int) : Prop := x.1.size ≤ 2 ∧ (-1099511627776 ≤ x.2 ∧ x.2 ≤ 1099511627776)
/-- The slots lie in block b. -/
def SlAt (w : World) (b : Nat) (L : List (ByteArray × Int)) : Prop :=
  ∀ i x, L[i]? = some x → w.cell? ⟨b, i * 2, none⟩ = some (.string x.1) ∧ w.cell? ⟨b, i * 2 + 1, none⟩ = some (.int .i64 x.2)
theorem SlAt.ext {S : Nat → Prop} {w w' : World} {b : Nat} {L : List (ByteArray × Int)} (h : SlAt w b L) (e : Ext S w w') (hb : ¬ S b) : SlAt w' b L := fun i x hx => by
  obtain ⟨h0, h1⟩ := h i x hx
  exact ⟨e.cell_some h0 hb, e.cell_some h1 hb⟩
theorem sl_own {w : World} {base : Nat} {e : TypeId} {size : Nat} {v : Value} {n : Nat} {xs : List Value} (h : w.ownsRow base e size v n xs) (hn : 0 < n) :
    ∃ g cap, v = .slice (some ⟨g, 0, none⟩) n cap ∧ base ≤ g ∧ n ≤ cap ∧ cap ≤ maxLen ∧ (∀ (i : Nat) u, xs[i]? = some u → w.cell? ⟨g, i, none⟩ = some u) ∧ ∀ i, w.frozen? ⟨g, i, none⟩ = false := by
  rcases h.2 with ⟨_, h0⟩ | ⟨g, cap, cur, hv, hb, hg, h1, h2, h3, h4⟩
  · omega
  · refine ⟨g, cap, hv, hb, h1, h2, fun i u hu => ?_, fun i => by simp [World.frozen?, hg]⟩
    rw [cell_of_row _ _ _ _ _ _ hg]
    rw [← h4, List.getElem?_take] at hu
    split at hu
    · simpa using hu
    · cases hu
theorem info_slot : (Tryz.prog.info? 86).map (fun i => (i.zero, i.size, i.bytes)) = some (some (.agg #[.string ⟨#[]⟩, .int .i64 0]), 2, 24) := by kernel_rfl

def SlRel (sb : Nat) (a : Option Addr) (len cap : Nat) (zs : List Int) (at_ : Int) (w : World) (nb k : Nat) (v : Value) (wr : World) : Prop :=
  ∃ (L : List (ByteArray × Int)) (at' : Int), L.length ≤ k ∧ wr.ownsRow (nb + 1) 86 2 v L.length (slV L) ∧ (∀ x ∈ L, SlOk x) ∧
    wr.heap[nb]? = some (.cells #[.string ⟨#[120]⟩, .string ⟨#[121]⟩, .string ⟨#[122]⟩] 9 (0, 0)) ∧ Str wr sb a len cap zs at' ∧ at' ≤ at_ + 3 * k ∧ Ext (· = sb) w wr ∧ nb < wr.heap.size

/-- Slots in new memory. -/
def SlP (w : World) (L : List (ByteArray × Int)) (p : Option Addr) : Prop := L = [] ∨ ∃ b, p = some ⟨b, 0, none⟩ ∧ SlAt w b L
theorem SlP.ext {S : Nat → Prop} {w w' : World} {L : List (ByteArray × Int)} {p : Option Addr} (h : SlP w L p) (e : Ext S w w') (hb : ∀ b, p.map (·.block) = some b → ¬ S b) : SlP w' L p := by
  rcases h with h | ⟨b, rfl, h⟩
  · exact .inl h
  · exact .inr ⟨b, rfl, h.ext e (hb b rfl)⟩
def SomeSlots (sb : Nat) (a : Option Addr) (len cap : Nat) (zs : List Int) (at_ d : Int) (w : World) (e : Ending) (w' : World) : Prop :=
  (∃ (L : List (ByteArray × Int)) (p : Option Addr) (c : Nat), e = .returned (.slice p L.length c) ∧ (L = [] ∨ ∃ b, p = some ⟨b, 0, none⟩ ∧ w.heap.size ≤ b ∧ SlAt w' b L) ∧ L.length ≤ 4 ∧ (∀ x ∈ L, SlOk x) ∧ L.length ≤ c ∧ c ≤ maxLen) ∧ Went sb a len cap zs at_ d w w'
theorem slots_end {w wr : World} {base : Nat} {v : Value} {L : List (ByteArray × Int)} (h : wr.ownsRow base 86 2 v L.length (slV L)) (hb : w.heap.size ≤ base) :
    ∃ p c, v = .slice p L.length c ∧ (L = [] ∨ ∃ b, p = some ⟨b, 0, none⟩ ∧ w.heap.size ≤ b ∧ SlAt wr b L) ∧ L.length ≤ c ∧ c ≤ maxLen := by
  by_cases hL : L = []
  · subst hL
    rcases h.2 with ⟨h1, _⟩ | ⟨g, c, cur, h1, _, _, _, hc, _⟩
    · exact ⟨_, _, h1, .inl rfl, by simp, by decide⟩
    · exact ⟨_, _, h1, .inl rfl, by simp, hc⟩
  · obtain ⟨g, c, rfl, hg, hlc, hcm, hcell, _⟩ := sl_own h (List.length_pos_iff.2 hL)
    exact ⟨_, c, rfl, .inr ⟨g, rfl, by omega, fun i x hx => by obtain ⟨h0, h1⟩ := slV_get L i x hx; exact ⟨hcell _ _ h0, hcell _ _ h1⟩⟩, hlc, hcm⟩

set_option maxRecDepth 100000 in
set_option maxHeartbeats 2000000 in
theorem slots_any (w : World) (h : Str w sb a len cap zs at_) (hat : at_ ≤ 900000000) :
    Calls Tryz.prog 8 #[.pointer (some ⟨sb, 0, none⟩)] w (SomeSlots sb a len cap zs at_ 20 w) := by
  have H := hid h
  have HS := h.size
  obtain ⟨i0, hi0, hz0, hz1, hz2⟩ := info_parts info_slot
  have hrel0 : SlRel sb a len cap zs at_ w w.heap.size 0 (.slice none 0 0) (w.alloc (.cells #[.string ⟨#[120]⟩, .string ⟨#[121]⟩, .string ⟨#[122]⟩] 9)) :=
    ⟨[], at_, by simp, World.ownsRow_nil _ _ _ _, by simp, heap_new _ _, h.alloc _, by omega, (Ext.refl w).alloc _, by simp⟩
  have HR0 := hid hrel0
  clear h hrel0
  go_enter Tryz.func8, Tryz.ntmps8
  go_wp2_with fail
  go_loopw [3, 8] (fun v i wr => ∃ (k : Nat) (u : Value), k ≤ 3 ∧ i = .int .i64 k ∧ v = u ∧ SlRel sb a len cap zs at_ w w.heap.size k u wr) (fun _ i _ => 3 - (intOf i).toNat)
  case atStart => exact ⟨0, _, by omega, rfl, rfl, HR0.out⟩
  case round =>
    obtain ⟨k, v, hk, rfl, hgv, L, at', hlen, hown, hok, hnb, hs, hat', hext, hnbs⟩ := hrel
    have HO := hid hown
    have HK := hid hok
    have HN := hid hnb
    have HSn := hid hs
    have HE := hid hext
    subst hgv
    have hkm : L.length + 1 ≤ maxLen := by unfold maxLen; omega
    clear hown hok hnb hs hext
    by_cases hk3 : k = 3
    · go_wp2_with fail
      refine (flip_any 15 _ HSn.out (by omega) (by omega) (by omega)).mono ?_
      rintro e w1 ⟨⟨r, rfl⟩, hw1⟩
      obtain ⟨at1, h1, hle1⟩ := hw1.2
      have H1 := hid h1
      have HW1 := hid hw1.1
      have hz1' := hw1.1.size
      have HO1 := hid (ownsRow_ext HO.out HW1.out (fun b hb _ => by omega))
      clear h1 hw1
      cases r
      · obtain ⟨p, c, rfl, hat2, hlc, hcm⟩ := slots_end (w := w) HO1.out (by omega)
        have HT := hid hat2
        clear hat2
        go_wp2_with fail
        go_ret
        exact ⟨⟨L, p, c, rfl, HT.out, by omega, HK.out, hlc, hcm⟩, HE.out.trans HW1.out, at1, H1.out, by omega⟩
      · go_wp2_with fail
        refine (some_new 3 [⟨#[120]⟩, ⟨#[65]⟩, ⟨#[122, 122]⟩] _ _ H1.out (by omega) rfl (by omega) (by omega)).mono ?_
        rintro e w3 ⟨⟨s, hs, rfl⟩, hw3⟩
        obtain ⟨at3, h3, hle3⟩ := hw3.2
        have H3 := hid h3
        have HW3 := hid hw3.1
        have hz3' := hw3.1.size
        have hs' : Hid (s.size ≤ 2) := hid (by
          simp at hs
          rcases hs with rfl | rfl | rfl <;> decide)
        clear h3 hw3 hs
        go_wp2_with fail
        refine (odd_any 0 999 _ H3.out (by omega) (by omega) (by omega) (by omega)).mono ?_
        rintro e w4 ⟨⟨n1, hn1, rfl⟩, hw4⟩
        obtain ⟨at4, h4, hle4⟩ := hw4.2
        have H4 := hid h4
        have HW4 := hid hw4.1
        have hz4' := hw4.1.size
        clear h4 hw4
        have HO4 := hid (ownsRow_ext (S := (· = sb)) (ownsRow_ext (S := (· = sb)) HO1.out HW3.out (fun b hb _ => by omega)) HW4.out (fun b hb _ => by omega))
        go_wp2_with (at_builtin; refine wpList_append_lies _ rfl _ _ 30 rfl (w.heap.size + 1) 86 i0 _ 2 24 Tryz.underlying30 hi0 hz0 hz1 hz2 rfl (by decide) _ _ _ (by rfl) (HO4.out.alloc _) ⟨w4.heap.size, 0, none⟩ 1 1 _ rfl rfl (World.news_of_block (heap_alloc_new w4 _)) (fun x hx => by simp at hx; rcases hx with rfl | rfl <;> rfl) (by omega) hkm (by omega) (by simp <;> omega) _ rfl ?_; intro g cap w5 hown5 hgrow hat5 hlt5)
        have hne : ∀ b, b ≤ w.heap.size → some b ≠ u3.ownBlock := fun b hb e => by have := (HO.out.lt b e.symm).1; omega
        have e5 : Ext (fun b => some b = u3.ownBlock) w4 w5 := ((Ext.refl w4).alloc _).grown hgrow (fun b hb => .inl hb.symm)
        have hs5 := H4.out.ext e5 (hne _ (by omega)) (fun b hb => hne _ (by omega))
        have he5 : Ext (· = sb) w w5 := ((((HE.out.trans HW1.out).trans HW3.out).trans HW4.out).alloc _).grown hgrow (fun b hb => .inr (by have := (HO.out.lt b hb).1; omega))
        have hown6 : w5.ownsRow (w.heap.size + 1) 86 2 (.slice (some ⟨g, 0, none⟩) (L.length + 1) cap) (L ++ [(s, n1)]).length (slV (L ++ [(s, n1)])) := by
          rw [List.length_append, slV_app]; exact hown5
        obtain ⟨p, c, hpc, hat2, hlc, hcm⟩ := slots_end (w := w) hown6 (by omega)
        have HT := hid (And.intro hpc (And.intro hat2 (And.intro hlc hcm)))
        have H5 := hid hs5
        have HE5 := hid he5
        clear hpc hat2 hlc hcm hs5 he5 hown6 hown5 hgrow e5 hne
        go_wp2_with fail
        go_ret
        refine ⟨⟨L ++ [(s, n1)], p, c, by rw [← HT.out.1]; rfl, HT.out.2.1, by simp; omega, ?_, HT.out.2.2.1, HT.out.2.2.2⟩, HE5.out, at4, H5.out, by omega⟩
        intro z hz
        rcases List.mem_append.1 hz with hz | hz
        · exact HK.out z hz
        · simp at hz; subst hz; exact ⟨hs'.out, hn1⟩
    · obtain ⟨s, hs2, hcell⟩ : ∃ s : ByteArray, Hid (s.size ≤ 2) ∧ wr.cell? ⟨w.heap.size, k, none⟩ = some (.string s) := by
        rcases (show k = 0 ∨ k = 1 ∨ k = 2 by omega) with rfl | rfl | rfl
        · exact ⟨⟨#[120]⟩, hid (by decide), by rw [cell_of_row _ _ _ _ _ _ HN.out]; rfl⟩
        · exact ⟨⟨#[121]⟩, hid (by decide), by rw [cell_of_row _ _ _ _ _ _ HN.out]; rfl⟩
        · exact ⟨⟨#[122]⟩, hid (by decide), by rw [cell_of_row _ _ _ _ _ _ HN.out]; rfl⟩
      go_wp2_with fail
      refine (flip_any 2 _ HSn.out (by omega) (by omega) (by omega)).mono ?_
      rintro e w1 ⟨⟨r, rfl⟩, hw1⟩
      obtain ⟨at1, h1, hle1⟩ := hw1.2
      have H1 := hid h1
      have HW1 := hid hw1.1
      clear h1 hw1
      cases r
      · go_wp2_with fail
        go_roundw
        case rel => exact ⟨k + 1, _, by omega, by go_num, rfl, L, at1, by omega, ownsRow_ext HO.out HW1.out (fun b hb _ => by omega), HK.out, HW1.out.heap HN.out (by omega), H1.out, by omega, HE.out.trans HW1.out, Nat.lt_of_lt_of_le hnbs HW1.out.size⟩
        case measure => simp [intOf]; omega
      · have hz1' := HW1.out.size
        have HO1 := hid (ownsRow_ext HO.out HW1.out (fun b hb _ => by omega))
        have hN1 := HW1.out.heap HN.out (by omega)
        go_wp2_with fail
        refine (pick_new 7 [0, 1, 2, 5, 7, 500, 999] _ _ H1.out (by omega) rfl (by omega) (by omega)).mono ?_
        rintro e w2 ⟨⟨x1, hx1, rfl⟩, hw2⟩
        obtain ⟨at2, h2, hle2⟩ := hw2.2
        have H2 := hid h2
        have HW2 := hid hw2.1
        have hz2' := hw2.1.size
        have hx1' : 0 ≤ x1 ∧ x1 ≤ 999 := by simp at hx1; omega
        clear hx1 h2 hw2
        have HO2 := hid (ownsRow_ext (S := (· = sb)) HO1.out HW2.out (fun b hb _ => by omega))
        go_wp2_with (at_builtin; refine wpList_append_lies _ rfl _ _ 30 rfl (w.heap.size + 1) 86 i0 _ 2 24 Tryz.underlying30 hi0 hz0 hz1 hz2 rfl (by decide) _ _ _ (by rfl) (HO2.out.alloc _) ⟨w2.heap.size, 0, none⟩ 1 1 _ rfl rfl (World.news_of_block (heap_alloc_new w2 _)) (fun x hx => by simp at hx; rcases hx with rfl | rfl <;> rfl) (by omega) hkm (by omega) (by simp <;> omega) _ rfl ?_; intro g cap w4 hown4 hgrow hat4 hlt4)
        have hne : ∀ b, b ≤ w.heap.size → some b ≠ u3.ownBlock := fun b hb e => by have := (HO.out.lt b e.symm).1; omega
        have e4 : Ext (fun b => some b = u3.ownBlock) w2 w4 := ((Ext.refl w2).alloc _).grown hgrow (fun b hb => .inl hb.symm)
        have hs4 := H2.out.ext e4 (hne _ (by omega)) (fun b hb => hne _ (by omega))
        have he4 : Ext (· = sb) w w4 := (((HE.out.trans HW1.out).trans HW2.out).alloc _).grown hgrow (fun b hb => .inr (by have := (HO.out.lt b hb).1; omega))
        have hn4 := e4.heap (HW2.out.heap hN1 (by omega)) (hne _ (Nat.le_refl _))
        go_roundw
        case rel =>
          refine ⟨k + 1, _, by omega, by go_num, rfl, L ++ [(s, x1)], at2, by simp <;> omega, ?_, ?_, hn4, hs4, by omega, he4, by have := he4.size; have := e4.size; omega⟩
          · rw [List.length_append, slV_app]; exact hown4
          · intro z hz
            rcases List.mem_append.1 hz with hz | hz
            · exact HK.out z hz
            · simp at hz; subst hz; exact ⟨hs2.out, by show -1099511627776 ≤ x1 ∧ x1 ≤ 1099511627776; omega⟩
        case measure => simp [intOf]; omega
end
end Go.Proofs.YtkgciohebloffaaGreat
