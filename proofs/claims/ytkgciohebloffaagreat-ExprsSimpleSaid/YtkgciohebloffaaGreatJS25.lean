/- Texts joined: VWith, VRulA, MeanOf. -/
import Derived.Test.YtkgciohebloffaaGreatJS23
import Derived.Test.YtkgciohebloffaaGreatJS24
import Derived.Deep.RegionLaw
/- withArgs, the program's: an expression with what a function makes of its arguments, in new memory. -/
namespace Go.Proofs.YtkgciohebloffaaGreat
open Go.RowKit

/-- An expression in new memory. -/
def GotNew (g : F) (w : World) (e : Ending) (w' : World) : Prop :=
  (∃ (op n : Int) (s : ByteArray) (a : F) (p : Option Addr) (c : Nat) (fa : List Nat), e = .returned (.agg #[.int .i64 op, .int .i64 n, .string s, .slice p a.len c]) ∧ g = .cons op n s a .nil ∧ RdP w' a p fa ∧ a.len ≤ c ∧ c ≤ 9223372036854775807 ∧ (∀ b ∈ fa, w.heap.size ≤ b)) ∧ Below w.heap.size w w'
/-- What a function makes of expressions in a row. -/
def wiF (gO : Int → Int → ByteArray → F → F) : F → F
  | .nil => .nil
  | .cons op n s a r => (gO op n s a).app (wiF gO r)
theorem F.app_assoc : ∀ f g h : F, (f.app g).app h = f.app (g.app h)
  | .nil, _, _ => rfl
  | .cons _ _ _ _ r, g, h => by simp only [F.app]; rw [F.app_assoc r g h]

theorem F.app_nil : ∀ f : F, f.app .nil = f
  | .nil => rfl
  | .cons _ _ _ _ r => by simp only [F.app]; rw [F.app_nil r]
/-- A row that was gathered reads as the expressions in it; its blocks lie behind a base. -/
theorem row_read {w : World} {base : Nat} {A : F} {xs : List Value} {fb : List Nat} {q : Option Addr} {k c : Nat} (hx : RdV w A xs fb) (hown : w.ownsRow base 28 4 (.slice q k c) k xs) (hk : A.len = k) (hb : ∀ b ∈ fb, base ≤ b) :
    ∃ fq, RdP w A q fq ∧ (∀ b ∈ fq, base ≤ b) ∧ A.len ≤ c ∧ c ≤ 9223372036854775807 := by
  subst hk
  obtain ⟨ao, ca, hv, _, h1, h2, _⟩ := own_anyN hown
  injection hv with e1 _ e3
  subst e1 e3
  have h3 : c ≤ 9223372036854775807 := by unfold maxLen at h2; omega
  rcases Nat.eq_zero_or_pos A.len with h | h
  · have : A = .nil := F.eq_nil_of_len h
    subst this
    exact ⟨[], .inl ⟨rfl, rfl⟩, by simp, h1, h3⟩
  · obtain ⟨g, cc, hv, hg, _, _, hcell, hfr⟩ := own_cells hown h
    injection hv with e1 _ _
    subst e1
    refine ⟨g :: fb, .inr ⟨g, 0, xs, fb, rfl, rfl, h, fun i v hv => by rw [Nat.zero_add]; exact hcell i v hv, hfr, hx⟩, fun b hb' => ?_, h1, h3⟩
    rcases List.mem_cons.1 hb' with rfl | hb'
    · exact hg
    · exact hb b hb'

def WiRel (gO : Int → Int → ByteArray → F → F) (op n : Int) (s : ByteArray) (a : F) (w : World) (k : Nat) (wr : World) : Prop :=
  ∃ (g : F) (xs : List Value) (fp : List Nat) (ao : Option Addr) (ca : Nat), wiF gO a = g.app (wiF gO (a.drop k)) ∧ g.len = k ∧
    wr.heap[w.heap.size + 2]? = some (.cells #[.int .i64 op, .int .i64 n, .string s, .slice ao k ca] 28 (0, 0)) ∧
    wr.heap[w.heap.size + 1]? = some (.cells #[.int .i64 0, .int .i64 0, .string ⟨#[]⟩, .slice none 0 0] 28 (0, 0)) ∧
    wr.ownsRow (w.heap.size + 3) 28 4 (.slice ao k ca) k xs ∧ RdV wr g xs fp ∧ (∀ b ∈ fp, w.heap.size + 3 ≤ b ∧ (Value.slice ao k ca).ownBlock ≠ some b) ∧ Below w.heap.size w wr ∧ w.heap.size + 3 ≤ wr.heap.size
theorem wi_next {gO : Int → Int → ByteArray → F → F} {op n : Int} {s : ByteArray} {a : F} {w wr w3 w4 : World} {k : Nat} {g : F} {xs : List Value} {fp : List Nat} {ao : Option Addr} {ca gg cap' : Nat} {o1 n1 : Int} {s1 : ByteArray} {a1 : F} {p1 : Option Addr} {c1 : Nat} {fa1 : List Nat}
    (h1 : wiF gO a = (g.app (.cons o1 n1 s1 a1 .nil)).app (wiF gO (a.drop (k + 1)))) (h2 : g.len = k)
    (h3 : wr.heap[w.heap.size + 2]? = some (.cells #[.int .i64 op, .int .i64 n, .string s, .slice ao k ca] 28 (0, 0)))
    (h4 : wr.heap[w.heap.size + 1]? = some (.cells #[.int .i64 0, .int .i64 0, .string ⟨#[]⟩, .slice none 0 0] 28 (0, 0)))
    (h5 : wr.ownsRow (w.heap.size + 3) 28 4 (.slice ao k ca) k xs) (h6 : RdV wr g xs fp) (h7 : ∀ b ∈ fp, w.heap.size + 3 ≤ b ∧ (Value.slice ao k ca).ownBlock ≠ some b) (h8 : Below w.heap.size w wr) (h9 : w.heap.size + 3 ≤ wr.heap.size)
    (e3 : Ext (fun _ => False) wr w3) (hq : RdP w3 a1 p1 fa1) (hl : a1.len ≤ c1 ∧ c1 ≤ 9223372036854775807) (hfa : ∀ b ∈ fa1, wr.heap.size ≤ b)
    (hown4 : w4.ownsRow (w.heap.size + 3) 28 4 (.slice (some ⟨gg, 0, none⟩) (k + 1) cap') (k + 1) (xs ++ exV o1 n1 s1 p1 a1.len c1)) (e34 : Ext (fun b => some b = (Value.slice ao k ca).ownBlock) w3 w4) (hat : (Value.slice ao k ca).ownBlock = some gg ∨ w3.heap.size ≤ gg) :
    WiRel gO op n s a w (k + 1) (w4.setCell ⟨w.heap.size + 2, 3, none⟩ (.slice (some ⟨gg, 0, none⟩) (k + 1) cap')) := by
  have hvlt : ∀ b, (Value.slice ao k ca).ownBlock = some b → w.heap.size + 3 ≤ b ∧ b < wr.heap.size := fun b e => h5.lt b e
  have z3 := e3.size
  have z4 := e34.size
  have e4 : Ext (fun b => some b = (Value.slice ao k ca).ownBlock) wr w4 := (e3.mono (fun _ _ h => h.elim)).trans e34
  have e45 : Ext (fun b => b = w.heap.size + 2) w4 (w4.setCell ⟨w.heap.size + 2, 3, none⟩ (.slice (some ⟨gg, 0, none⟩) (k + 1) cap')) := (Ext.refl (S := fun b => b = w.heap.size + 2) w4).setCell (p := ⟨w.heap.size + 2, 3, none⟩) (.inl rfl) _
  have hB4 := e4.heap h3 (fun e => by have := hvlt _ e.symm; omega)
  have hZ4 := e4.heap h4 (fun e => by have := hvlt _ e.symm; omega)
  have hr4 : RdV w4 g xs fp := h6.ext e4 (fun b hb e => (h7 b hb).2 e.symm)
  have hq4 : RdP w4 a1 p1 fa1 := hq.ext e34 (fun b hb e => by have := hfa b hb; have := hvlt b e.symm; omega)
  have hlt3 : ∀ b ∈ fa1, b < w3.heap.size := hq.lt
  refine ⟨g.app (.cons o1 n1 s1 a1 .nil), xs ++ exV o1 n1 s1 p1 a1.len c1, fp ++ fa1, some ⟨gg, 0, none⟩, cap', h1, by rw [F.len_app, h2]; rfl, ?_, e45.heap hZ4 (by omega), ?_, ?_, ?_, ?_, ?_⟩
  · simp [World.setCell, Array.getElem?_modify, hB4]
  · exact ownsRow_ext hown4 e45 (fun b hb _ e => by omega)
  · refine RdV.app (hr4.ext e45 (fun b hb e => by have := (h7 b hb).1; omega)) ?_
    exact ⟨p1, c1, fa1, [], [], rfl, by simp, hl.1, hl.2, ⟨rfl, rfl⟩, hq4.ext e45 (fun b hb e => by have := hfa b hb; omega)⟩
  · intro b hb
    rcases List.mem_append.1 hb with h | h
    · refine ⟨(h7 b h).1, fun e => ?_⟩
      have e' : gg = b := by simpa [Value.ownBlock] using e
      subst e'
      rcases hat with h' | h'
      · exact (h7 _ h).2 h'
      · have := h6.lt _ h; omega
    · refine ⟨by have := hfa b h; omega, fun e => ?_⟩
      have e' : gg = b := by simpa [Value.ownBlock] using e
      subst e'
      rcases hat with h' | h'
      · have := hfa _ h; have := hvlt _ h'; omega
      · have := hlt3 _ h; omega
  · have e5 : Ext (fun b => some b = (Value.slice ao k ca).ownBlock ∨ b = w.heap.size + 2) wr _ := (e4.mono (fun _ _ h => .inl h)).trans (e45.mono (fun _ _ h => .inr h))
    exact ⟨e5.os.trans h8.os, e5.tape.trans h8.tape, e5.output.trans h8.output, Nat.le_trans h8.size e5.size, fun i hi => (e5.block i (by have := h8.size; omega) (fun e => by rcases e with e | e; have := (hvlt i e.symm).1; omega; omega)).trans (h8.block i hi)⟩
  · have := e45.size; omega

set_option maxRecDepth 100000 in
set_option maxHeartbeats 4000000 in
theorem v_withArgs (K : Nat) (cv : Array Value) (gO : Int → Int → ByteArray → F → F) (op n : Int) (s : ByteArray) (a : F) (p : Option Addr) (c : Nat) (fa : List Nat) (w : World) (hE : Enters K) (hbig : a.len ≤ 100000)
    (hK : ∀ (k : Nat) (op' n' : Int) (s' : ByteArray) (a' r : F) (p' : Option Addr) (c' : Nat) (fa' : List Nat) (w' : World), a.drop k = .cons op' n' s' a' r → Ext (fun _ => False) w w' → RdP w' a' p' fa' → a'.len ≤ c' → c' ≤ 9223372036854775807 →
      Calls Tryz.prog K (#[.agg #[.int .i64 op', .int .i64 n', .string s', .slice p' a'.len c']] ++ cv) w' (GotNew (gO op' n' s' a') w'))
    (hp : RdP w a p fa) (hac : a.len ≤ c) (hc : c ≤ 9223372036854775807) :
    Calls Tryz.prog 115 #[.agg #[.int .i64 op, .int .i64 n, .string s, .slice p a.len c], .func (.func K) #[] cv] w (GotNew (.cons op n s (wiF gO a) .nil) w) := by
  have HP := hid hp
  have HK := hid hK
  unfold Enters at hE
  obtain ⟨i0, hi0, hz0, hz1, hz2⟩ := info_parts info_expr
  have hal : (a.len : Int) ≤ 100000 := by omega
  have E3 := ((Ext.refl (S := fun _ => False) w).alloc (.cells #[.int .i64 op, .int .i64 n, .string s, .slice p a.len c] 28)).alloc (.cells #[.int .i64 0, .int .i64 0, .string ⟨#[]⟩, .slice none 0 0] 28)
  have hb3 := heap_new ((w.alloc (.cells #[.int .i64 op, .int .i64 n, .string s, .slice p a.len c] 28)).alloc (.cells #[.int .i64 0, .int .i64 0, .string ⟨#[]⟩, .slice none 0 0] 28)) (.cells #[.int .i64 op, .int .i64 n, .string s, .slice none 0 0] 28)
  have hb2 := ((Ext.refl (S := fun _ => False) _).alloc (.cells #[.int .i64 op, .int .i64 n, .string s, .slice none 0 0] 28)).heap (heap_new (w.alloc (.cells #[.int .i64 op, .int .i64 n, .string s, .slice p a.len c] 28)) (.cells #[.int .i64 0, .int .i64 0, .string ⟨#[]⟩, .slice none 0 0] 28)) id
  rw [show ((w.alloc (.cells #[.int .i64 op, .int .i64 n, .string s, .slice p a.len c] 28)).alloc (.cells #[.int .i64 0, .int .i64 0, .string ⟨#[]⟩, .slice none 0 0] 28)).heap.size = w.heap.size + 2 by simp] at hb3
  rw [show (w.alloc (.cells #[.int .i64 op, .int .i64 n, .string s, .slice p a.len c] 28)).heap.size = w.heap.size + 1 by simp] at hb2
  have HR0 := hid (show WiRel gO op n s a w 0 (((w.alloc (.cells #[.int .i64 op, .int .i64 n, .string s, .slice p a.len c] 28)).alloc (.cells #[.int .i64 0, .int .i64 0, .string ⟨#[]⟩, .slice none 0 0] 28)).alloc (.cells #[.int .i64 op, .int .i64 n, .string s, .slice none 0 0] 28)) from ⟨.nil, [], [], none, 0, rfl, rfl, hb3, hb2, World.ownsRow_nil _ _ _ _, ⟨rfl, rfl⟩, by simp, (E3.alloc _).below (Below.refl _ _) (fun _ _ => id), by simp⟩)
  clear hp hK E3 hb2 hb3
  go_enter Tryz.func115, Tryz.ntmps115
  go_wp2_with fail
  go_loopw [18] (fun i wr => ∃ k : Nat, k ≤ a.len ∧ i = .int .i64 k ∧ WiRel gO op n s a w k wr) (fun i _ => a.len - (intOf i).toNat)
  case atStart => exact ⟨0, by omega, rfl, HR0.out⟩
  case round =>
    obtain ⟨k, hk, rfl, g, xs, fp, ao, ca, h1, h2, h3, h4, h5, h6, h7, h8, h9⟩ := hrel
    have HA := hid (And.intro h1 h2)
    have HB := hid (And.intro h3 h4)
    have HO := hid h5
    have HRd := hid (And.intro h6 h7)
    have HBl := hid h8
    have hpr : RdP wr a p fa := HP.out.ext (S := fun _ => False) (Ext.of_below h8) (fun _ _ => id)
    obtain ⟨⟨o0, o1, o2, o3⟩, g0, g1, g2, g3⟩ := blk4 h3
    have hzw : w.heap.size ≤ wr.heap.size := h8.size
    clear h1 h2 h3 h4 h5 h6 h7 h8
    by_cases hlt : k < a.len
    · rcases hpr with ⟨h0, _⟩ | ⟨b, o, xa, fb, rfl, _, _, hcell, _, hx⟩
      · rw [h0] at hlt; simp [F.len] at hlt
      obtain ⟨op', n', s', a', p', c', fa', hdrop, x0, x1, x2, x3, hl', hc', hp', _⟩ := hx.at hlt
      have y0 := hcell _ _ x0
      have y1 := hcell _ _ x1
      have y2 := hcell _ _ x2
      have y3 := hcell _ _ x3
      simp only [← Nat.add_assoc, Nat.mul_comm 4 k] at y0 y1 y2 y3
      have E1 := (Ext.refl (S := fun _ => False) wr).alloc (.cells #[.int .i64 op', .int .i64 n', .string s', .slice p' a'.len c'] 28)
      have hcall := HK.out k op' n' s' a' _ p' c' fa' (wr.alloc (.cells #[.int .i64 op', .int .i64 n', .string s', .slice p' a'.len c'] 28)).drew hdrop ((Ext.of_below HBl.out).trans E1.drew) (hp'.ext E1.drew (fun _ _ => id)) hl' hc'
      have HCall := hid hcall
      have HD := hid hdrop
      have HE1 := hid E1
      have q3 := E1.cell_some o3 id
      have HQ3 := hid q3
      have HG3 := hid g3
      have hsub : w.heap.size + 2 < wr.heap.size := by omega
      have hkm : k + 1 ≤ maxLen := by unfold maxLen; omega
      have HO3 := hid (show ∀ o, some (⟨w.heap.size + 2, o, none⟩ : Addr).block ≠ (Value.slice ao k ca).ownBlock from fun o e => by have := (HO.out.lt (w.heap.size + 2) e.symm).1; omega)
      clear hcell hx x0 x1 x2 x3 hp' hl' hc' hdrop hcall E1 q3 g0 g1 g2
      go_wp2_with fail
      go_region_law (first
        | (refine step_append_lies _ (by rfl) _ _ 26 (by rfl) (w.heap.size + 3) 28 i0 _ 4 56 Tryz.underlying26 hi0 hz0 hz1 hz2 rfl (by omega) (.slice ao k ca) k xs (by rfl) (HO4.out.alloc _) ⟨w3.heap.size, 0, none⟩ 1 1 [.int .i64 op1, .int .i64 n1, .string s1, .slice p1 a1.len c1] (by rfl) (by rfl) (World.news_of_block (cs := #[.int .i64 op1, .int .i64 n1, .string s1, .slice p1 a1.len c1]) (t := 28) (fr := (0, 0)) (heap_alloc_new w3 _)) (by simp [Value.oneCell']) (by omega) hkm (by omega) (by simp; omega) (w3.heap.size + 1) (by simp) ?_; intro gg cap' w4 hown4 hgrow hat4 hlt4; have q4 : w4.cell? ⟨w.heap.size + 2, 3, none⟩ = some (.slice ao k ca) := (hgrow.cell_far _ (by simp; omega) (HO3.out 3)).trans (((Ext.refl (S := fun _ => False) w3).alloc _).cell_some q3' id); have f4 : w4.frozen? ⟨w.heap.size + 2, 3, none⟩ = false := (hgrow.frozen_far _ (by simp; omega) (HO3.out 3)).trans ((((Ext.refl (S := fun _ => False) w3).alloc _).frozen (p := ⟨w.heap.size + 2, 3, none⟩) hz3 id).trans f3'))
        | (go_simp; go_at_fn K; refine HCall.out.mono ?_; rintro e w3 ⟨⟨op1, n1, s1, a1, p1, c1, fa1, rfl, m1, m2, m3, m4, m5⟩, hb3⟩; have F3 := (Ext.refl (S := fun _ => False) (wr.alloc (.cells #[.int .i64 op', .int .i64 n', .string s', .slice p' a'.len c'] 28))).drew.trans (Ext.of_below hb3); have G3 := HE1.out.trans F3; have hz3 : w.heap.size + 2 < w3.heap.size := Nat.lt_of_lt_of_le hsub G3.size; have q3' : w3.cell? ⟨w.heap.size + 2, 3, none⟩ = some (.slice ao k ca) := F3.cell_some HQ3.out id; have f3' : w3.frozen? ⟨w.heap.size + 2, 3, none⟩ = false := (G3.frozen (p := ⟨w.heap.size + 2, 3, none⟩) hsub id).trans HG3.out; have HO4 := hid (ownsRow_ext (S := fun _ => False) HO.out G3 (fun _ _ _ => id)); have HM := hid (And.intro m1 (And.intro m2 (And.intro m3 (And.intro m4 m5)))); have HG := hid G3; clear m1 m2 m3 m4 m5 hb3 F3 G3))
      all_goals
        have HT := hid (wi_next (gO := gO) (a := a) (by rw [HA.out.1, HD.out]; show _ = _; rw [wiF, HM.out.1, ← F.app_assoc]) HA.out.2 HB.out.1 HB.out.2 HO.out HRd.out.1 HRd.out.2 HBl.out h9 HG.out HM.out.2.1 ⟨HM.out.2.2.1, HM.out.2.2.2.1⟩ (fun b hb => by have h1 := HM.out.2.2.2.2 b hb; simp at h1; omega) hown4 (((Ext.refl w3).alloc _).grown hgrow (fun b hb => .inl hb.symm)) (hat4.imp id (fun h => by omega)))
        go_wp2_with fail
        go_roundw
        case rel => exact ⟨k + 1, by omega, by go_num, HT.out⟩
        case measure => simp [intOf]; omega
    · obtain ⟨rfl, hfin⟩ : k = a.len ∧ a.drop k = .nil := ⟨by omega, F.eq_nil_of_len (by rw [F.len_drop]; omega)⟩
      have hg : wiF gO a = g := by rw [HA.out.1, hfin]; exact F.app_nil g
      have hgl : g.len = a.len := HA.out.2
      obtain ⟨fq, hq1, hq2, hac2, ham2⟩ := row_read HRd.out.1 HO.out hgl (fun b hb => (HRd.out.2 b hb).1)
      have HQ := hid (And.intro hq1 (And.intro hq2 (And.intro hac2 ham2)))
      have HG := hid (And.intro hg hgl)
      clear hpr hfin hg hgl hq1 hq2 hac2 ham2
      obtain ⟨⟨z0, z1, z2, z3⟩, r0, r1, r2, r3⟩ := blk4 HB.out.2
      go_wp2_with fail
      obtain ⟨u0, u1, u2, u3⟩ := set4 (a0 := .int .i64 op) (a1 := .int .i64 n) (a2 := .string s) (a3 := .slice ao a.len ca) z0 z1 z2 z3
      have e4 : Ext (· = w.heap.size + 1) wr ((((wr.setCell ⟨w.heap.size + 1, 0, none⟩ (.int .i64 op)).setCell ⟨w.heap.size + 1, 1, none⟩ (.int .i64 n)).setCell ⟨w.heap.size + 1, 2, none⟩ (.string s)).setCell ⟨w.heap.size + 1, 3, none⟩ (.slice ao a.len ca)) := set4_ext (S := (· = w.heap.size + 1)) (Ext.refl wr) (.inl rfl)
      generalize ((((wr.setCell ⟨w.heap.size + 1, 0, none⟩ (.int .i64 op)).setCell ⟨w.heap.size + 1, 1, none⟩ (.int .i64 n)).setCell ⟨w.heap.size + 1, 2, none⟩ (.string s)).setCell ⟨w.heap.size + 1, 3, none⟩ (.slice ao a.len ca)) = w4 at *
      exact bodyPost_ret (v := .agg #[.int .i64 op, .int .i64 n, .string s, .slice ao a.len ca]) (by simp [results, Tryz.results115, go_sem, u0, u1, u2, u3]) rfl ⟨⟨op, n, s, g, ao, ca, fq, by rw [HG.out.2], by rw [HG.out.1], HQ.out.1.ext e4 (fun b hb e => by have := HQ.out.2.1 b hb; omega), HQ.out.2.2.1, HQ.out.2.2.2, fun b hb => by have := HQ.out.2.1 b hb; omega⟩, e4.below HBl.out (fun i hi e => by omega)⟩
end Go.Proofs.YtkgciohebloffaaGreat
/- What the rules' walks share: the arguments of an expression as they lie in memory; what a rule hands back. -/
namespace Go.Proofs.YtkgciohebloffaaGreat
open Go.RowKit

/-- The four cells of an expression. -/
def At4 (w : World) (b o : Nat) (op n : Int) (s : ByteArray) (p : Option Addr) (l c : Nat) : Prop :=
  w.cell? ⟨b, o, none⟩ = some (.int .i64 op) ∧ w.cell? ⟨b, o + 1, none⟩ = some (.int .i64 n) ∧ w.cell? ⟨b, o + 2, none⟩ = some (.string s) ∧ w.cell? ⟨b, o + 3, none⟩ = some (.slice p l c)
theorem At4.ext {w w' : World} {b o : Nat} {op n : Int} {s : ByteArray} {p : Option Addr} {l c : Nat} (h : At4 w b o op n s p l c) (e : Ext (fun _ => False) w w') : At4 w' b o op n s p l c :=
  ⟨e.cell_some h.1 id, e.cell_some h.2.1 id, e.cell_some h.2.2.1 id, e.cell_some h.2.2.2 id⟩
/-- An argument: its cells, its own arguments. -/
def Arg (w : World) (fa : List Nat) (b o : Nat) (op n : Int) (s : ByteArray) (a : F) (p : Option Addr) (c : Nat) (f : List Nat) : Prop :=
  At4 w b o op n s p a.len c ∧ a.len ≤ c ∧ c ≤ 9223372036854775807 ∧ RdP w a p f ∧ (∀ b ∈ f, b ∈ fa) ∧ b ∈ fa
theorem Arg.ext {w w' : World} {fa : List Nat} {b o : Nat} {op n : Int} {s : ByteArray} {a : F} {p : Option Addr} {c : Nat} {f : List Nat} (h : Arg w fa b o op n s a p c f) (e : Ext (fun _ => False) w w') : Arg w' fa b o op n s a p c f :=
  ⟨h.1.ext e, h.2.1, h.2.2.1, h.2.2.2.1.ext e (fun _ _ => id), h.2.2.2.2⟩
theorem Arg.ext_s {S : Nat → Prop} {w w' : World} {fa : List Nat} {b o : Nat} {op n : Int} {s : ByteArray} {a : F} {p : Option Addr} {c : Nat} {f : List Nat} (h : Arg w fa b o op n s a p c f) (e : Ext S w w') (hs : ∀ x ∈ fa, ¬ S x) : Arg w' fa b o op n s a p c f :=
  ⟨⟨e.cell_some h.1.1 (hs b h.2.2.2.2.2), e.cell_some h.1.2.1 (hs b h.2.2.2.2.2), e.cell_some h.1.2.2.1 (hs b h.2.2.2.2.2), e.cell_some h.1.2.2.2 (hs b h.2.2.2.2.2)⟩, h.2.1, h.2.2.1, h.2.2.2.1.ext e (fun x hx => hs x (h.2.2.2.2.1 x hx)), h.2.2.2.2⟩
theorem RdP.mem {w : World} {a : F} {b o : Nat} {fa : List Nat} (h : RdP w a (some ⟨b, o, none⟩) fa) (h0 : 0 < a.len) : b ∈ fa := by
  rcases h with ⟨rfl, _⟩ | ⟨b', o', xa, fb, e, rfl, _⟩
  · simp [F.len] at h0
  · injection e with e; injection e with e _ _; subst e; simp
theorem arg_at {w : World} {a : F} {p : Option Addr} {fa : List Nat} (h : RdP w a p fa) {k m : Nat} (hk : k < a.len) (hm : m = k * 4) :
    ∃ b o op n s a' p' c' f, p = some ⟨b, o, none⟩ ∧ a.drop k = .cons op n s a' (a.drop (k + 1)) ∧ Arg w fa b (o + m) op n s a' p' c' f := by
  subst hm
  obtain ⟨b, o, op, n, s, a', p', c', f, h1, h2, y0, y1, y2, y3, h3, h4, h5, h6⟩ := h.arg hk
  subst h1
  exact ⟨b, o, op, n, s, a', p', c', f, rfl, h2, ⟨y0, y1, y2, y3⟩, h3, h4, h5, h6, h.mem (by omega)⟩
theorem args_one {w : World} {a : F} {p : Option Addr} {fa : List Nat} (h : RdP w a p fa) (hl : a.len = 1) :
    ∃ b o xo xn xs xa xp xc xf, p = some ⟨b, o, none⟩ ∧ a = .cons xo xn xs xa .nil ∧ Arg w fa b o xo xn xs xa xp xc xf := by
  obtain ⟨b, o, op, n, s, a', p', c', f, h1, h2, h3⟩ := arg_at h (k := 0) (m := 0) (by omega) rfl
  have h4 : a.drop 1 = .nil := F.eq_nil_of_len (by rw [F.len_drop]; omega)
  rw [F.drop, h4] at h2
  exact ⟨b, o, op, n, s, a', p', c', f, h1, h2, h3⟩
theorem args_two {w : World} {a : F} {p : Option Addr} {fa : List Nat} (h : RdP w a p fa) (hl : a.len = 2) :
    ∃ b o xo xn xs xa xp xc xf yo yn ys ya yp yc yf, p = some ⟨b, o, none⟩ ∧ a = .cons xo xn xs xa (.cons yo yn ys ya .nil) ∧ Arg w fa b o xo xn xs xa xp xc xf ∧ Arg w fa b (o + 4) yo yn ys ya yp yc yf := by
  obtain ⟨b, o, op, n, s, a', p', c', f, h1, h2, h3⟩ := arg_at h (k := 0) (m := 0) (by omega) rfl
  obtain ⟨b2, o2, op2, n2, s2, a2, p2, c2, f2, g1, g2, g3⟩ := arg_at h (k := 1) (m := 4) (by omega) rfl
  rw [h1] at g1
  injection g1 with g1
  injection g1 with g1 g4 _
  subst g1 g4
  have h4 : a.drop 2 = .nil := F.eq_nil_of_len (by rw [F.len_drop]; omega)
  rw [h4] at g2
  rw [F.drop, g2] at h2
  exact ⟨b, o, op, n, s, a', p', c', f, op2, n2, s2, a2, p2, c2, f2, h1, h2, h3, g3⟩
theorem args_three {w : World} {a : F} {p : Option Addr} {fa : List Nat} (h : RdP w a p fa) (hl : a.len = 3) :
    ∃ b o xo xn xs xa xp xc xf yo yn ys ya yp yc yf zo zn zs za zp zc zf, p = some ⟨b, o, none⟩ ∧ a = .cons xo xn xs xa (.cons yo yn ys ya (.cons zo zn zs za .nil)) ∧ Arg w fa b o xo xn xs xa xp xc xf ∧ Arg w fa b (o + 4) yo yn ys ya yp yc yf ∧ Arg w fa b (o + 8) zo zn zs za zp zc zf := by
  obtain ⟨b, o, op, n, s, a', p', c', f, h1, h2, h3⟩ := arg_at h (k := 0) (m := 0) (by omega) rfl
  obtain ⟨b2, o2, op2, n2, s2, a2, p2, c2, f2, g1, g2, g3⟩ := arg_at h (k := 1) (m := 4) (by omega) rfl
  obtain ⟨b3, o3, op3, n3, s3, a3, p3, c3, f3, k1, k2, k3⟩ := arg_at h (k := 2) (m := 8) (by omega) rfl
  rw [h1] at g1 k1
  injection g1 with g1
  injection g1 with g1 g4 _
  injection k1 with k1
  injection k1 with k1 k4 _
  subst g1 g4 k1 k4
  have h4 : a.drop 3 = .nil := F.eq_nil_of_len (by rw [F.len_drop]; omega)
  rw [h4] at k2
  rw [k2] at g2
  rw [F.drop, g2] at h2
  exact ⟨b, o, op, n, s, a', p', c', f, op2, n2, s2, a2, p2, c2, f2, op3, n3, s3, a3, p3, c3, f3, h1, h2, h3, g3, k3⟩

/-- A rule hands an argument back. -/
theorem arg_got {fa : List Nat} {b o : Nat} {op n : Int} {s : ByteArray} {a : F} {p : Option Addr} {c : Nat} {f : List Nat} {r : Option F} {yes : Bool} {w w' : World} (h : Arg w' fa b o op n s a p c f) (hr : r = if yes = true then some (.cons op n s a .nil) else none) (hb : Below w.heap.size w w') :
    GotRule fa r w (.returned (.tuple #[.agg #[.int .i64 op, .int .i64 n, .string s, .slice p a.len c], .bool yes])) w' := by
  subst hr
  refine ⟨⟨op, n, s, a, p, c, f, ?_, ?_, h.2.2.2.1, h.2.1, h.2.2.1, fun b hb => .inl (h.2.2.2.2.1 b hb)⟩, hb⟩
  · cases yes <;> rfl
  · intro g hg
    cases yes
    · cases hg
    · injection hg with hg; exact hg.symm
/-- A rule hands the OpNot of an argument back. -/
theorem not_got {fa : List Nat} {b o : Nat} {op n : Int} {s : ByteArray} {a : F} {p : Option Addr} {c : Nat} {f : List Nat} {r : Option F} {g : Nat} {T : TypeId} {w w' : World} (h : Arg w' fa b o op n s a p c f) (hg : w'.heap[g]? = some (.cells #[.int .i64 op, .int .i64 n, .string s, .slice p a.len c] T (0, 0))) (hn : w.heap.size ≤ g) (hr : r = some (.cons 8 0 ⟨#[]⟩ (.cons op n s a .nil) .nil)) (hb : Below w.heap.size w w') :
    GotRule fa r w (.returned (.tuple #[.agg #[.int .i64 8, .int .i64 0, .string ⟨#[]⟩, .slice (some ⟨g, 0, none⟩) 1 1], .bool true])) w' := by
  subst hr
  obtain ⟨hl, hc, hp, hf, _⟩ := h.2
  obtain ⟨⟨c0, c1, c2, c3⟩, _⟩ := blk4 hg
  refine ⟨⟨8, 0, ⟨#[]⟩, .cons op n s a .nil, some ⟨g, 0, none⟩, 1, g :: (f ++ []), rfl, fun x hx => by injection hx with hx; exact hx.symm, .inr ⟨g, 0, [.int .i64 op, .int .i64 n, .string s, .slice p a.len c], f ++ [], rfl, rfl, by simp [F.len], ?_, ?_, p, c, f, [], [], rfl, rfl, hl, hc, ⟨rfl, rfl⟩, hp⟩, by simp [F.len], by omega, ?_⟩, hb⟩
  · intro i v hv
    match i, hv with
    | 0, hv => simp at hv; subst hv; exact c0
    | 1, hv => simp at hv; subst hv; exact c1
    | 2, hv => simp at hv; subst hv; exact c2
    | 3, hv => simp at hv; subst hv; exact c3
    | i + 4, hv => simp at hv
  · intro k; simp [World.frozen?, hg]
  · intro x hx
    simp at hx
    rcases hx with rfl | hx
    · exact .inr hn
    · exact .inl (hf x hx)
/-- A result's block that is written, and a row that is made behind it. -/
theorem set4_row {w : World} {b : Nat} {v0 v1 v2 v3 a0 a1 a2 a3 : Value} {o : Obj} (h0 : w.cell? ⟨b, 0, none⟩ = some v0) (h1 : w.cell? ⟨b, 1, none⟩ = some v1) (h2 : w.cell? ⟨b, 2, none⟩ = some v2) (h3 : w.cell? ⟨b, 3, none⟩ = some v3) :
    ∃ W, (((((w.setCell ⟨b, 0, none⟩ a0).setCell ⟨b, 1, none⟩ a1).setCell ⟨b, 2, none⟩ a2).setCell ⟨b, 3, none⟩ a3).alloc o) = W ∧ W.cell? ⟨b, 0, none⟩ = some a0 ∧ W.cell? ⟨b, 1, none⟩ = some a1 ∧ W.cell? ⟨b, 2, none⟩ = some a2 ∧ W.cell? ⟨b, 3, none⟩ = some a3 ∧ W.heap[w.heap.size]? = some o ∧ Ext (· = b) w W := by
  obtain ⟨u0, u1, u2, u3⟩ := set4 (a0 := a0) (a1 := a1) (a2 := a2) (a3 := a3) h0 h1 h2 h3
  have e := set4_ext (S := (· = b)) (a0 := a0) (a1 := a1) (a2 := a2) (a3 := a3) (Ext.refl w) (b := b) (.inl rfl)
  have e2 := (Ext.refl (S := fun _ => False) ((((w.setCell ⟨b, 0, none⟩ a0).setCell ⟨b, 1, none⟩ a1).setCell ⟨b, 2, none⟩ a2).setCell ⟨b, 3, none⟩ a3)).alloc o
  refine ⟨_, rfl, e2.cell_some u0 id, e2.cell_some u1 id, e2.cell_some u2 id, e2.cell_some u3 id, ?_, e.trans (e2.mono (fun _ _ h => h.elim))⟩
  have h := heap_new ((((w.setCell ⟨b, 0, none⟩ a0).setCell ⟨b, 1, none⟩ a1).setCell ⟨b, 2, none⟩ a2).setCell ⟨b, 3, none⟩ a3) o
  rwa [show ((((w.setCell ⟨b, 0, none⟩ a0).setCell ⟨b, 1, none⟩ a1).setCell ⟨b, 2, none⟩ a2).setCell ⟨b, 3, none⟩ a3).heap.size = w.heap.size by simp [World.setCell]] at h
theorem set4_all {w : World} {b : Nat} {v0 v1 v2 v3 a0 a1 a2 a3 : Value} (h0 : w.cell? ⟨b, 0, none⟩ = some v0) (h1 : w.cell? ⟨b, 1, none⟩ = some v1) (h2 : w.cell? ⟨b, 2, none⟩ = some v2) (h3 : w.cell? ⟨b, 3, none⟩ = some v3) :
    ∃ W, ((((w.setCell ⟨b, 0, none⟩ a0).setCell ⟨b, 1, none⟩ a1).setCell ⟨b, 2, none⟩ a2).setCell ⟨b, 3, none⟩ a3) = W ∧ W.cell? ⟨b, 0, none⟩ = some a0 ∧ W.cell? ⟨b, 1, none⟩ = some a1 ∧ W.cell? ⟨b, 2, none⟩ = some a2 ∧ W.cell? ⟨b, 3, none⟩ = some a3 ∧ Ext (· = b) w W := by
  obtain ⟨u0, u1, u2, u3⟩ := set4 (a0 := a0) (a1 := a1) (a2 := a2) (a3 := a3) h0 h1 h2 h3
  exact ⟨_, rfl, u0, u1, u2, u3, set4_ext (S := (· = b)) (a0 := a0) (a1 := a1) (a2 := a2) (a3 := a3) (Ext.refl w) (b := b) (.inl rfl)⟩
/-- What else a new block might hold. -/
theorem alloc_other (w : World) (o o' : Obj) {b : Nat} (hb : b = w.heap.size) : Ext (· = b) (w.alloc o) (w.alloc o') := by
  subst hb
  refine ⟨rfl, rfl, rfl, by simp, fun k hk hs => ?_⟩
  have hk2 : k < w.heap.size := by simp at hk; omega
  rw [Below.heap_alloc _ _ _ hk2, Below.heap_alloc _ _ _ hk2]
/-- Four new blocks. -/
theorem four_new (w : World) (A B C D : Array Value) (T : TypeId) : ∃ W, ((((w.alloc (.cells A T)).alloc (.cells B T)).alloc (.cells C T)).alloc (.cells D T)).drew = W ∧ W.heap[w.heap.size]? = some (.cells A T (0, 0)) ∧ W.heap[w.heap.size + 1]? = some (.cells B T (0, 0)) ∧ W.heap[w.heap.size + 1 + 1]? = some (.cells C T (0, 0)) ∧ W.heap[w.heap.size + 1 + 1 + 1]? = some (.cells D T (0, 0)) ∧ Ext (fun _ => False) w W := by
  have E : ∀ (v : World) (o : Obj), Ext (fun _ => False) v (v.alloc o) := fun v o => (Ext.refl v).alloc o
  have s1 : (w.alloc (.cells A T)).heap.size = w.heap.size + 1 := by simp
  have s2 : ((w.alloc (.cells A T)).alloc (.cells B T)).heap.size = w.heap.size + 1 + 1 := by simp
  have s3 : (((w.alloc (.cells A T)).alloc (.cells B T)).alloc (.cells C T)).heap.size = w.heap.size + 1 + 1 + 1 := by simp
  have h1 := heap_new w (.cells A T)
  have h2 := heap_new (w.alloc (.cells A T)) (.cells B T)
  have h3 := heap_new ((w.alloc (.cells A T)).alloc (.cells B T)) (.cells C T)
  have h4 := heap_new (((w.alloc (.cells A T)).alloc (.cells B T)).alloc (.cells C T)) (.cells D T)
  rw [s1] at h2
  rw [s2] at h3
  rw [s3] at h4
  exact ⟨_, rfl, (E _ _).heap ((E _ _).heap ((E _ _).heap h1 id) id) id, (E _ _).heap ((E _ _).heap h2 id) id, (E _ _).heap h3 id, h4, ((((E _ _).trans (E _ _)).trans (E _ _)).trans (E _ _)).drew⟩
theorem below_at {B b : Nat} {a w w' : World} (h : Below B a w) (e : Ext (· = b) w w') (hb : B ≤ b) (hB : B ≤ w.heap.size) : Below B a w' :=
  ⟨e.os.trans h.os, e.tape.trans h.tape, e.output.trans h.output, Nat.le_trans h.size e.size, fun i hi => (e.block i (by omega) (by omega)).trans (h.block i hi)⟩
end Go.Proofs.YtkgciohebloffaaGreat
/- meaningOf: a meaning out of those of the operands. -/
namespace Go.Proofs.YtkgciohebloffaaGreat
open Go.RowKit

/-- The value of an expression whose variables a function tells. -/
def valG (f : ByteArray → Int) : F → List Int
  | .nil => []
  | .cons op n s a r => (if op = 1 then n else if op = 2 then f s else compV op (valG f a)) :: valG f r
def valO (op n : Int) (s : ByteArray) (gs : List ((ByteArray → Int) → Int)) (f : ByteArray → Int) : Int := if op = 1 then n else if op = 2 then f s else compV op (gs.map fun g => g f)
/-- The operands' meanings, in a row from b on. -/
def MeansAt (S : Nat → Prop) (w : World) (b o : Nat) (gs : List ((ByteArray → Int) → Int)) : Prop := ∀ i g, gs[i]? = some g → ∃ v, w.cell? ⟨b, o + i, none⟩ = some v ∧ Mean S w v g
theorem MeansAt.ext {S : Nat → Prop} {w w' : World} {b o : Nat} {gs : List ((ByteArray → Int) → Int)} (h : MeansAt S w b o gs) (e : Ext (fun _ => False) w w') : MeansAt S w' b o gs := fun i g hg => by
  obtain ⟨v, h1, h2⟩ := h i g hg
  exact ⟨v, e.cell_some h1 id, h2.ext e⟩

theorem Mean.in {S : Nat → Prop} {w W : World} {v of : Value} {g : (ByteArray → Int) → Int} {f : ByteArray → Int} (h : Mean S w v g) (e : Agree S w W) (ho : OfOk W of f) : V999 (g f) := by
  obtain ⟨k, c, rfl, _, hk⟩ := h
  exact (hk of f W e ho).1
set_option maxHeartbeats 400000 in
theorem mean_number {S : Nat → Prop} {w' : World} {b : Nat} (sb : S b) {n : Int} (h : w'.cell? ⟨b, 1, none⟩ = some (.int .i64 n)) (hn : V999 n) : Mean S w' (.func (.func 153) #[] #[.pointer (some ⟨b, 0, none⟩)]) fun _ => n :=
  ⟨_, _, rfl, enters_of Tryz.func153 (by kernel_rfl) rfl, fun of _ W hW _ => ⟨hn, m_one b n of W (hW.cell h sb)⟩⟩
theorem mean_var {S : Nat → Prop} {w' : World} {b : Nat} (sb : S b) {s : ByteArray} (h : w'.cell? ⟨b, 2, none⟩ = some (.string s)) : Mean S w' (.func (.func 154) #[] #[.pointer (some ⟨b, 0, none⟩)]) fun f => f s :=
  ⟨_, _, rfl, enters_of Tryz.func154 (by kernel_rfl) rfl, fun of f W hW ho => ⟨ho.elim fun _ h => h.elim fun _ h => h.2.2.1 s, m_var b s of f W (hW.cell h sb) ho⟩⟩
theorem mean_not {S : Nat → Prop} {w' : World} {b : Nat} (sb : S b) {v : Value} {g : (ByteArray → Int) → Int} (h : w'.cell? ⟨b, 0, none⟩ = some v) (hm : Mean S w' v g) : Mean S w' (.func (.func 155) #[] #[.pointer (some ⟨b, 0, none⟩)]) fun f => compV 8 [g f] := by
  refine ⟨_, _, rfl, enters_of Tryz.func155 (by kernel_rfl) rfl, fun of f W hW ho => ⟨?_, m_not b v of g f W (hW.cell h sb) (hm.agree hW) ho⟩⟩
  exact comp_in (by intro x hx; simp at hx; subst hx; exact hm.in hW ho)
theorem mean_two3 {S : Nat → Prop} {w' : World} {b c : Nat} (sb : S b) (sc : S c) {u v : Value} {g k : (ByteArray → Int) → Int} (h1 : w'.cell? ⟨b, 0, none⟩ = some u) (h2 : w'.cell? ⟨c, 0, none⟩ = some v) (m1 : Mean S w' u g) (m2 : Mean S w' v k) : Mean S w' (.func (.func 193) #[] #[.pointer (some ⟨b, 0, none⟩), .pointer (some ⟨c, 0, none⟩)]) fun f => compV 3 [g f, k f] := by
  refine ⟨_, _, rfl, enters_of Tryz.func193 (by kernel_rfl) rfl, fun of f W hW ho => ⟨?_, m_two3 b c u v of g k f W (hW.cell h1 sb) (hW.cell h2 sc) (m1.agree hW) (m2.agree hW) ho⟩⟩
  exact comp_in (by intro x hx; simp at hx; rcases hx with rfl | rfl; exact m1.in hW ho; exact m2.in hW ho)
theorem mean_two4 {S : Nat → Prop} {w' : World} {b c : Nat} (sb : S b) (sc : S c) {u v : Value} {g k : (ByteArray → Int) → Int} (h1 : w'.cell? ⟨b, 0, none⟩ = some u) (h2 : w'.cell? ⟨c, 0, none⟩ = some v) (m1 : Mean S w' u g) (m2 : Mean S w' v k) : Mean S w' (.func (.func 194) #[] #[.pointer (some ⟨b, 0, none⟩), .pointer (some ⟨c, 0, none⟩)]) fun f => compV 4 [g f, k f] := by
  refine ⟨_, _, rfl, enters_of Tryz.func194 (by kernel_rfl) rfl, fun of f W hW ho => ⟨?_, m_two4 b c u v of g k f W (hW.cell h1 sb) (hW.cell h2 sc) (m1.agree hW) (m2.agree hW) ho⟩⟩
  exact comp_in (by intro x hx; simp at hx; rcases hx with rfl | rfl; exact m1.in hW ho; exact m2.in hW ho)
theorem mean_two5 {S : Nat → Prop} {w' : World} {b c : Nat} (sb : S b) (sc : S c) {u v : Value} {g k : (ByteArray → Int) → Int} (h1 : w'.cell? ⟨b, 0, none⟩ = some u) (h2 : w'.cell? ⟨c, 0, none⟩ = some v) (m1 : Mean S w' u g) (m2 : Mean S w' v k) : Mean S w' (.func (.func 195) #[] #[.pointer (some ⟨b, 0, none⟩), .pointer (some ⟨c, 0, none⟩)]) fun f => compV 5 [g f, k f] := by
  refine ⟨_, _, rfl, enters_of Tryz.func195 (by kernel_rfl) rfl, fun of f W hW ho => ⟨?_, m_two5 b c u v of g k f W (hW.cell h1 sb) (hW.cell h2 sc) (m1.agree hW) (m2.agree hW) ho⟩⟩
  exact comp_in (by intro x hx; simp at hx; rcases hx with rfl | rfl; exact m1.in hW ho; exact m2.in hW ho)
theorem mean_two6 {S : Nat → Prop} {w' : World} {b c : Nat} (sb : S b) (sc : S c) {u v : Value} {g k : (ByteArray → Int) → Int} (h1 : w'.cell? ⟨b, 0, none⟩ = some u) (h2 : w'.cell? ⟨c, 0, none⟩ = some v) (m1 : Mean S w' u g) (m2 : Mean S w' v k) : Mean S w' (.func (.func 196) #[] #[.pointer (some ⟨b, 0, none⟩), .pointer (some ⟨c, 0, none⟩)]) fun f => compV 6 [g f, k f] := by
  refine ⟨_, _, rfl, enters_of Tryz.func196 (by kernel_rfl) rfl, fun of f W hW ho => ⟨?_, m_two6 b c u v of g k f W (hW.cell h1 sb) (hW.cell h2 sc) (m1.agree hW) (m2.agree hW) ho⟩⟩
  exact comp_in (by intro x hx; simp at hx; rcases hx with rfl | rfl; exact m1.in hW ho; exact m2.in hW ho)
theorem mean_two7 {S : Nat → Prop} {w' : World} {b c : Nat} (sb : S b) (sc : S c) {u v : Value} {g k : (ByteArray → Int) → Int} (h1 : w'.cell? ⟨b, 0, none⟩ = some u) (h2 : w'.cell? ⟨c, 0, none⟩ = some v) (m1 : Mean S w' u g) (m2 : Mean S w' v k) : Mean S w' (.func (.func 197) #[] #[.pointer (some ⟨b, 0, none⟩), .pointer (some ⟨c, 0, none⟩)]) fun f => compV 7 [g f, k f] := by
  refine ⟨_, _, rfl, enters_of Tryz.func197 (by kernel_rfl) rfl, fun of f W hW ho => ⟨?_, m_two7 b c u v of g k f W (hW.cell h1 sb) (hW.cell h2 sc) (m1.agree hW) (m2.agree hW) ho⟩⟩
  exact comp_in (by intro x hx; simp at hx; rcases hx with rfl | rfl; exact m1.in hW ho; exact m2.in hW ho)
theorem mean_when {S : Nat → Prop} {w' : World} {b c d : Nat} (sb : S b) (sc : S c) (sd : S d) {u v t : Value} {g k l : (ByteArray → Int) → Int} (h1 : w'.cell? ⟨b, 0, none⟩ = some u) (h2 : w'.cell? ⟨c, 0, none⟩ = some v) (h3 : w'.cell? ⟨d, 0, none⟩ = some t) (m1 : Mean S w' u g) (m2 : Mean S w' v k) (m3 : Mean S w' t l) : Mean S w' (.func (.func 192) #[] #[.pointer (some ⟨b, 0, none⟩), .pointer (some ⟨c, 0, none⟩), .pointer (some ⟨d, 0, none⟩)]) fun f => compV 9 [g f, k f, l f] := by
  refine ⟨_, _, rfl, enters_of Tryz.func192 (by kernel_rfl) rfl, fun of f W hW ho => ⟨?_, m_when b c d u v t of g k l f W (hW.cell h1 sb) (hW.cell h2 sc) (hW.cell h3 sd) (m1.agree hW) (m2.agree hW) (m3.agree hW) ho⟩⟩
  exact comp_in (by intro x hx; simp at hx; rcases hx with rfl | rfl | rfl; exact m1.in hW ho; exact m2.in hW ho; exact m3.in hW ho)
end Go.Proofs.YtkgciohebloffaaGreat
