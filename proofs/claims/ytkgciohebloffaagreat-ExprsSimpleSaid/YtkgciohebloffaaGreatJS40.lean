/- Texts joined: FreshE, VNames. -/
import Derived.Test.YtkgciohebloffaaGreatJS39
import Derived.Test.YtkgciohebloffaaGreatJS25
import Derived.Test.YtkgciohebloffaaGreatJS30
/- Expr of package fresh, walked. -/
namespace Go.Proofs.YtkgciohebloffaaGreat
open Go.RowKit

/-- Four cells in a row are written. -/
theorem set4_at {w : World} {g o : Nat} {v0 v1 v2 v3 a0 a1 a2 a3 : Value} (h0 : w.cell? ⟨g, o, none⟩ = some v0) (h1 : w.cell? ⟨g, o + 1, none⟩ = some v1) (h2 : w.cell? ⟨g, o + 2, none⟩ = some v2) (h3 : w.cell? ⟨g, o + 3, none⟩ = some v3) :
    ∃ W, ((((w.setCell ⟨g, o, none⟩ a0).setCell ⟨g, o + 1, none⟩ a1).setCell ⟨g, o + 2, none⟩ a2).setCell ⟨g, o + 3, none⟩ a3) = W ∧ W.cell? ⟨g, o, none⟩ = some a0 ∧ W.cell? ⟨g, o + 1, none⟩ = some a1 ∧ W.cell? ⟨g, o + 2, none⟩ = some a2 ∧ W.cell? ⟨g, o + 3, none⟩ = some a3 ∧
      (∀ j, j < o ∨ o + 4 ≤ j → W.cell? ⟨g, j, none⟩ = w.cell? ⟨g, j, none⟩) ∧ (∀ j, W.frozen? ⟨g, j, none⟩ = w.frozen? ⟨g, j, none⟩) ∧ Ext (· = g) w W := by
  have ot : ∀ (w : World) (i j : Nat) (x : Value), i ≠ j → (w.setCell ⟨g, j, none⟩ x).cell? ⟨g, i, none⟩ = w.cell? ⟨g, i, none⟩ := fun w i j x hij => World.cell?_setCell_other _ _ _ _ (by intro e; cases e; exact hij rfl)
  have e0 := World.cell?_setCell_same w ⟨g, o, none⟩ a0 h0
  have e1 := World.cell?_setCell_same (w.setCell ⟨g, o, none⟩ a0) ⟨g, o + 1, none⟩ a1 ((ot _ _ _ _ (by omega)).trans h1)
  have e2 := World.cell?_setCell_same ((w.setCell ⟨g, o, none⟩ a0).setCell ⟨g, o + 1, none⟩ a1) ⟨g, o + 2, none⟩ a2 ((ot _ _ _ _ (by omega)).trans ((ot _ _ _ _ (by omega)).trans h2))
  have e3 := World.cell?_setCell_same (((w.setCell ⟨g, o, none⟩ a0).setCell ⟨g, o + 1, none⟩ a1).setCell ⟨g, o + 2, none⟩ a2) ⟨g, o + 3, none⟩ a3 ((ot _ _ _ _ (by omega)).trans ((ot _ _ _ _ (by omega)).trans ((ot _ _ _ _ (by omega)).trans h3)))
  refine ⟨_, rfl, (ot _ _ _ _ (by omega)).trans ((ot _ _ _ _ (by omega)).trans ((ot _ _ _ _ (by omega)).trans e0)), (ot _ _ _ _ (by omega)).trans ((ot _ _ _ _ (by omega)).trans e1), (ot _ _ _ _ (by omega)).trans e2, e3, fun j hj => ?_, fun j => by simp, ?_⟩
  · exact (ot _ _ _ _ (by omega)).trans ((ot _ _ _ _ (by omega)).trans ((ot _ _ _ _ (by omega)).trans (ot _ _ _ _ (by omega))))
  · exact ((((Ext.refl (S := (· = g)) w).setCell (p := ⟨g, o, none⟩) (.inl rfl) a0).setCell (p := ⟨g, o + 1, none⟩) (.inl rfl) a1).setCell (p := ⟨g, o + 2, none⟩) (.inl rfl) a2).setCell (p := ⟨g, o + 3, none⟩) (.inl rfl) a3
theorem F.take_step : ∀ (k : Nat) (f : F) {op n : Int} {s : ByteArray} {a : F}, f.drop k = .cons op n s a (f.drop (k + 1)) → f.take (k + 1) = (f.take k).app (.cons op n s a .nil)
  | 0, .nil, _, _, _, _, h => by simp [F.drop] at h
  | 0, .cons _ _ _ _ r, _, _, _, _, h => by simp only [F.drop, F.cons.injEq] at h; obtain ⟨rfl, rfl, rfl, rfl, _⟩ := h; rfl
  | _ + 1, .nil, _, _, _, _, h => by simp [F.drop] at h
  | k + 1, .cons o' n' s' a' r, _, _, _, _, h => by
    have := F.take_step k r h
    rw [F.take, this]; rfl
theorem F.take_len : ∀ f : F, f.take f.len = f
  | .nil => rfl
  | .cons _ _ _ _ r => by rw [F.len, F.take, F.take_len r]

/-- The first k expressions of the row g are copied. -/
def FxRel (op n : Int) (s : ByteArray) (a : F) (q : Option Addr) (cq g : Nat) (xs : List Value) (w : World) (k : Nat) (wr : World) : Prop :=
  ∃ (ys : List Value) (fp : List Nat), RdV wr (a.take k) ys fp ∧ (∀ b ∈ fp, w.heap.size + 2 ≤ b ∧ b ≠ g) ∧ (∀ i v, (ys ++ xs.drop (4 * k))[i]? = some v → wr.cell? ⟨g, i, none⟩ = some v) ∧ (∀ i, wr.frozen? ⟨g, i, none⟩ = false) ∧
    wr.heap[w.heap.size]? = some (.cells #[.int .i64 op, .int .i64 n, .string s, .slice q a.len cq] 28 (0, 0)) ∧ wr.heap[w.heap.size + 1]? = some (.cells #[.int .i64 0, .int .i64 0, .string ⟨#[]⟩, .slice none 0 0] 28 (0, 0)) ∧ Below w.heap.size w wr ∧ w.heap.size + 2 ≤ wr.heap.size
theorem fx_next {op n : Int} {s : ByteArray} {a : F} {q : Option Addr} {cq g : Nat} {xs : List Value} {w wr w3 W : World} {k : Nat} (h : FxRel op n s a q cq g xs w k wr) (hg : w.heap.size + 2 ≤ g) (hgl : g < wr.heap.size) (hk : k < a.len) {op' n' : Int} {s' : ByteArray} {a' : F} {p1 : Option Addr} {c1 : Nat} {f1 : List Nat}
    (hd : a.drop k = .cons op' n' s' a' (a.drop (k + 1))) (e3 : Ext (fun _ => False) wr w3) (hr : RdP w3 a' p1 f1) (hl : a'.len ≤ c1) (hc : c1 ≤ 9223372036854775807) (hf : ∀ b ∈ f1, wr.heap.size ≤ b)
    (u0 : W.cell? ⟨g, k * 4, none⟩ = some (.int .i64 op')) (u1 : W.cell? ⟨g, k * 4 + 1, none⟩ = some (.int .i64 n')) (u2 : W.cell? ⟨g, k * 4 + 2, none⟩ = some (.string s')) (u3 : W.cell? ⟨g, k * 4 + 3, none⟩ = some (.slice p1 a'.len c1))
    (hot : ∀ j, j < k * 4 ∨ k * 4 + 4 ≤ j → W.cell? ⟨g, j, none⟩ = w3.cell? ⟨g, j, none⟩) (hfz : ∀ j, W.frozen? ⟨g, j, none⟩ = w3.frozen? ⟨g, j, none⟩) (eW : Ext (· = g) w3 W) : FxRel op n s a q cq g xs w (k + 1) W := by
  obtain ⟨ys, fp, h1, h2, h3, h4, h5, h6, h7, h8⟩ := h
  have hyl : ys.length = 4 * k := by rw [h1.length, F.len_take]; omega
  have z3 := e3.size
  refine ⟨ys ++ exV op' n' s' p1 a'.len c1, fp ++ f1, ?_, ?_, ?_, ?_, ?_, ?_, ?_, ?_⟩
  · rw [F.take_step k a hd]
    refine RdV.app ((h1.ext e3 (fun _ _ => id)).ext eW (fun b hb e => (h2 b hb).2 e)) ?_
    exact ⟨p1, c1, f1, [], [], rfl, by simp, hl, hc, ⟨rfl, rfl⟩, hr.ext eW (fun b hb e => by have := hf b hb; omega)⟩
  · intro b hb
    rcases List.mem_append.1 hb with h | h
    · exact h2 b h
    · have := hf b h; exact ⟨by omega, by omega⟩
  · intro i v hv
    have hel : (exV op' n' s' p1 a'.len c1).length = 4 := rfl
    rcases Nat.lt_or_ge i (4 * k) with hi | hi
    · rw [List.append_assoc, List.getElem?_append_left (by omega)] at hv
      rw [hot i (.inl (by omega))]
      exact e3.cell_some (h3 i v (by rw [List.getElem?_append_left (by omega)]; exact hv)) id
    · rcases Nat.lt_or_ge i (4 * k + 4) with hi2 | hi2
      · rw [List.append_assoc, List.getElem?_append_right (by omega), List.getElem?_append_left (by omega), hyl] at hv
        obtain ⟨j, rfl⟩ : ∃ j, i = k * 4 + j := ⟨i - k * 4, by omega⟩
        rw [show k * 4 + j - 4 * k = j by omega] at hv
        match j, hv with
        | 0, hv => simp [exV] at hv; subst hv; exact u0
        | 1, hv => simp [exV] at hv; subst hv; exact u1
        | 2, hv => simp [exV] at hv; subst hv; exact u2
        | 3, hv => simp [exV] at hv; subst hv; exact u3
        | j + 4, hv => simp [exV] at hv
      · rw [hot i (.inr (by omega))]
        refine e3.cell_some (h3 i v ?_) id
        rw [List.getElem?_append_right (by rw [List.length_append]; omega)] at hv
        rw [List.getElem?_append_right (by omega)]
        rw [List.getElem?_drop] at hv ⊢
        rw [← hv]; congr 1
        rw [List.length_append]; omega
  · intro i
    rw [hfz i, e3.frozen (p := ⟨g, i, none⟩) hgl id]; exact h4 i
  · exact eW.heap (e3.heap h5 id) (by omega)
  · exact eW.heap (e3.heap h6 id) (by omega)
  · exact below_at (below_ext h7 e3 (by omega)) eW (by omega) (by omega)
  · have := eW.size; omega

set_option maxRecDepth 100000 in
set_option maxHeartbeats 4000000 in
theorem f_Expr1 (m : Nat) (ih : ∀ (op n : Int) (s : ByteArray) (a : F) (p : Option Addr) (c : Nat) (fa : List Nat) (w : World), a.size < m → a.size ≤ 100000 → RdP w a p fa → a.len ≤ c → c ≤ 9223372036854775807 →
      Calls Tryz.prog 120 #[.agg #[.int .i64 op, .int .i64 n, .string s, .slice p a.len c]] w (GotNew (.cons op n s a .nil) w))
    (op n : Int) (s : ByteArray) (a : F) (p : Option Addr) (c : Nat) (fa : List Nat) (w : World) (ham : a.size ≤ m) (hbig : a.size ≤ 100000) (hp : RdP w a p fa) (_hac : a.len ≤ c) (_hc : c ≤ 9223372036854775807) :
    Calls Tryz.prog 120 #[.agg #[.int .i64 op, .int .i64 n, .string s, .slice p a.len c]] w (GotNew (.cons op n s a .nil) w) := by
  have HK := hid ih
  have hlz := F.len_le_size a
  have hal : (a.len : Int) ≤ 100000 := by omega
  have EZ := hid (((Ext.refl (S := fun _ => False) w).alloc (.cells #[.int .i64 op, .int .i64 n, .string s, .slice p a.len c] 28)).alloc (.cells #[.int .i64 0, .int .i64 0, .string ⟨#[]⟩, .slice none 0 0] 28))
  have HBZ := hid (show Below w.heap.size w _ from EZ.out.below (Below.refl _ _) (fun _ _ => id))
  obtain ⟨HB, HR⟩ : Hid ((((w.alloc (.cells #[.int .i64 op, .int .i64 n, .string s, .slice p a.len c] 28)).alloc (.cells #[.int .i64 0, .int .i64 0, .string ⟨#[]⟩, .slice none 0 0] 28))).heap[w.heap.size]? = some (.cells #[.int .i64 op, .int .i64 n, .string s, .slice p a.len c] 28 (0, 0))) ∧ Hid ((((w.alloc (.cells #[.int .i64 op, .int .i64 n, .string s, .slice p a.len c] 28)).alloc (.cells #[.int .i64 0, .int .i64 0, .string ⟨#[]⟩, .slice none 0 0] 28))).heap[w.heap.size + 1]? = some (.cells #[.int .i64 0, .int .i64 0, .string ⟨#[]⟩, .slice none 0 0] 28 (0, 0))) := by
    have h1 := heap_new w (.cells #[.int .i64 op, .int .i64 n, .string s, .slice p a.len c] 28)
    have h2 := heap_new (w.alloc (.cells #[.int .i64 op, .int .i64 n, .string s, .slice p a.len c] 28)) (.cells #[.int .i64 0, .int .i64 0, .string ⟨#[]⟩, .slice none 0 0] 28)
    rw [show (w.alloc (.cells #[.int .i64 op, .int .i64 n, .string s, .slice p a.len c] 28)).heap.size = w.heap.size + 1 by simp] at h2
    exact ⟨hid (((Ext.refl (S := fun _ => False) _).alloc _).heap h1 id), hid h2⟩
  have HP := hid (hp.ext EZ.out (fun _ _ => id))
  obtain ⟨xs, fb, hx, hcp, hfb⟩ := CellsP.of_rd hp
  have HX := hid hx
  have HC := hid (f_Clone a p c xs fb ((w.alloc (.cells #[.int .i64 op, .int .i64 n, .string s, .slice p a.len c] 28)).alloc (.cells #[.int .i64 0, .int .i64 0, .string ⟨#[]⟩, .slice none 0 0] 28)) (by omega) (hx.ext EZ.out (fun _ _ => id)) (hcp.ext EZ.out (fun _ _ => id)) (fun h => by
    rcases hp with ⟨h0, _⟩ | ⟨b, o, xa, fb, e, _⟩
    · rw [h0] at h; simp [F.len] at h
    · exact ⟨b, o, e⟩))
  clear hp ih hx hcp hfb
  go_enter Tryz.func120, Tryz.ntmps120
  go_wp2_with fail
  refine HC.out.mono ?_
  rintro e w3 ⟨⟨q, cq, rfl, h1, h2, h3⟩, hb3⟩
  have E3 := hid (Ext.of_below (S := fun _ => False) hb3)
  have HB3 := hid (below_ext HBZ.out E3.out (by simp; omega))
  have HBx := hid (E3.out.heap HB.out id)
  have HZx := hid (E3.out.heap HR.out id)
  have hz3 : w.heap.size + 2 ≤ w3.heap.size := by have := E3.out.size; simp at this; omega
  obtain ⟨⟨o0, o1, o2, o3⟩, g0, g1, g2, g3⟩ := blk4 HBx.out
  clear hb3 HB HR HC
  have e4 := (Ext.refl (S := (· = w.heap.size)) w3).setCell (p := ⟨w.heap.size, 3, none⟩) (.inl rfl) (.slice q a.len cq)
  have HW := hid (show Ext (· = w.heap.size) w3 (w3.setCell ⟨w.heap.size, 3, none⟩ (.slice q a.len cq)) ∧ (w3.setCell ⟨w.heap.size, 3, none⟩ (.slice q a.len cq)).heap[w.heap.size]? = some (.cells #[.int .i64 op, .int .i64 n, .string s, .slice q a.len cq] 28 (0, 0)) ∧ (w3.setCell ⟨w.heap.size, 3, none⟩ (.slice q a.len cq)).heap[w.heap.size + 1]? = some (.cells #[.int .i64 0, .int .i64 0, .string ⟨#[]⟩, .slice none 0 0] 28 (0, 0)) ∧ Below w.heap.size w (w3.setCell ⟨w.heap.size, 3, none⟩ (.slice q a.len cq)) from
    ⟨e4, by simp [World.setCell, Array.getElem?_modify, HBx.out], e4.heap HZx.out (by omega), below_at HB3.out e4 (Nat.le_refl _) (by omega)⟩)
  have hcqI : (cq : Int) ≤ 9223372036854775807 := by unfold maxLen at h2; omega
  have HL := hid (And.intro h1 h2)
  clear e4
  by_cases hnil : a.len = 0
  · have ha : a = .nil := F.eq_nil_of_len hnil
    subst ha
    go_wp2_with fail
    rw [show F.nil.len = 0 from rfl] at HW
    generalize w3.setCell ⟨w.heap.size, 3, none⟩ (.slice q 0 cq) = w4 at *
    obtain ⟨⟨o0, o1, o2, o3⟩, _⟩ := blk4 HW.out.2.1
    obtain ⟨⟨z0, z1, z2, z3⟩, r0, r1, r2, r3⟩ := blk4 HW.out.2.2.1
    go_loopw [12] (fun i wr => i = .int .i64 0 ∧ wr = w4) (fun _ _ => 0)
    case atStart => exact ⟨rfl, rfl⟩
    case round =>
      obtain ⟨rfl, rfl⟩ := hrel
      have hz4 : w.heap.size + 1 < wr.heap.size := World.block_lt_of_cell? _ _ z0
      go_wp2_with fail
      obtain ⟨W, hW, u0, u1, u2, u3, eW⟩ := set4_all (a0 := .int .i64 op) (a1 := .int .i64 n) (a2 := .string s) (a3 := .slice q 0 cq) z0 z1 z2 z3
      rw [hW]
      exact bodyPost_ret (v := .agg #[.int .i64 op, .int .i64 n, .string s, .slice q 0 cq]) (by simp [results, Tryz.results120, go_sem, u0, u1, u2, u3]) rfl ⟨⟨op, n, s, .nil, q, cq, [], rfl, rfl, .inl ⟨rfl, rfl⟩, by simp [F.len], by have := HL.out.2; unfold maxLen at this; omega, by simp⟩, below_at HW.out.2.2.2 eW (by omega) (by omega)⟩
  · have hpos : 0 < a.len := by omega
    obtain ⟨g, cap, hv, hg, _, _, hcell, hfr⟩ := own_cells (h3.resolve_left hnil) hpos
    injection hv with hq _ hcc
    subst hq hcc
    have hgl : g < w3.heap.size := by
      have : 0 < xs.length := by rw [HX.out.length]; omega
      exact World.block_lt_of_cell? _ _ (hcell 0 xs[0] (by simp))
    have hg2 : w.heap.size + 2 ≤ g := by simp at hg; omega
    have HR0 := hid (show FxRel op n s a (some ⟨g, 0, none⟩) cq g xs w 0 (w3.setCell ⟨w.heap.size, 3, none⟩ (.slice (some ⟨g, 0, none⟩) a.len cq)) from
      ⟨[], [], ⟨rfl, rfl⟩, by simp, fun i v hv => HW.out.1.cell_some (hcell i v (by simpa using hv)) (by simp; omega), fun i => by rw [HW.out.1.frozen (p := ⟨g, i, none⟩) hgl (by simp; omega)]; exact hfr i, HW.out.2.1, HW.out.2.2.1, HW.out.2.2.2, by have := HW.out.1.size; omega⟩)
    have hgw : g < (w3.setCell ⟨w.heap.size, 3, none⟩ (.slice (some ⟨g, 0, none⟩) a.len cq)).heap.size := Nat.lt_of_lt_of_le hgl HW.out.1.size
    clear h1 h2 h3 hcell hfr hg hnil
    go_wp2_with fail
    generalize w3.setCell ⟨w.heap.size, 3, none⟩ (.slice (some ⟨g, 0, none⟩) a.len cq) = w4 at *
    go_loopw [12] (fun i wr => ∃ k : Nat, k ≤ a.len ∧ i = .int .i64 k ∧ FxRel op n s a (some ⟨g, 0, none⟩) cq g xs w k wr ∧ g < wr.heap.size) (fun i _ => a.len - (intOf i).toNat)
    case atStart => exact ⟨0, by omega, rfl, HR0.out, hgw⟩
    case round =>
      obtain ⟨k, hk, rfl, hrel, hgr⟩ := hrel
      have HRl := hid hrel
      obtain ⟨ys, fp, hy1, hy2, hy3, hy4, hy5, hy6, hy7, hy8⟩ := hrel
      have HFin := hid (And.intro hy1 (And.intro hy2 (And.intro hy3 (And.intro hy4 (And.intro hy5 (And.intro hy6 (And.intro hy7 hy8)))))))
      obtain ⟨⟨o0, o1, o2, o3⟩, _⟩ := blk4 hy5
      obtain ⟨⟨z0, z1, z2, z3⟩, r0, r1, r2, r3⟩ := blk4 hy6
      by_cases hlt : k < a.len
      · have hyl : ys.length = 4 * k := by rw [hy1.length, F.len_take]; omega
        obtain ⟨op', n', s', a', p', c', fa', hd, x0, x1, x2, x3, hl', hc', hp', hm'⟩ := HX.out.at hlt
        have gt : ∀ j v, xs[4 * k + j]? = some v → wr.cell? ⟨g, k * 4 + j, none⟩ = some v := fun j v hv => hy3 _ _ (by rw [List.getElem?_append_right (by omega), hyl, List.getElem?_drop, ← hv]; congr 1; omega)
        have y0 := gt 0 _ x0
        have y1 := gt 1 _ x1
        have y2 := gt 2 _ x2
        have y3 := gt 3 _ x3
        rw [Nat.add_zero] at y0
        have fz0 := hy4 (k * 4)
        have fz1 := hy4 (k * 4 + 1)
        have fz2 := hy4 (k * 4 + 2)
        have fz3 := hy4 (k * 4 + 3)
        have hszk := F.size_split k a hd
        have HD := hid hd
        have HCall := hid (fun w' (e : Ext (fun _ => False) wr w') => HK.out op' n' s' a' p' c' fa' w' (by omega) (by omega) ((hp'.ext (S := fun _ => False) (Ext.of_below hy7) (fun _ _ => id)).ext e (fun _ _ => id)) hl' hc')
        have E1 := hid ((Ext.refl (S := fun _ => False) wr).alloc (.cells #[.int .i64 op', .int .i64 n', .string s', .slice p' a'.len c'] 28))
        have E1d := hid E1.out.drew
        have q3d := E1d.out.cell_some o3 id
        clear gt x0 x1 x2 x3 hp' hl' hc' hm' hd hszk hy1 hy2 hy3 hy4 hy5 hy6 hy7
        have HOY := hid (And.intro o3 (And.intro y0 (And.intro y1 (And.intro y2 (And.intro y3 (And.intro fz0 (And.intro fz1 (And.intro fz2 fz3))))))))
        go_wp2_with fail
        first
          | (go_region_law (first
              | (go_simp; go_at_call 120; refine (HCall.out _ E1d.out).mono ?_; rintro e w6 ⟨⟨o9, n9, s9, a9, p9, c9, f9, rfl, h1, h2, h3, h4, h5⟩, hb6⟩; obtain ⟨rfl, rfl, rfl, rfl, _⟩ := F.cons.inj h1; have E6 := hid (E1d.out.trans (Ext.of_below (S := fun _ => False) hb6)); have HG := hid (And.intro h2 (And.intro h3 (And.intro h4 h5))); have k3e := E6.out.cell_some HOY.out.1 id; have y0e := E6.out.cell_some HOY.out.2.1 id; have y1e := E6.out.cell_some HOY.out.2.2.1 id; have y2e := E6.out.cell_some HOY.out.2.2.2.1 id; have y3e := E6.out.cell_some HOY.out.2.2.2.2.1 id; have f0e := (E6.out.frozen (p := ⟨g, k * 4, none⟩) hgr id).trans HOY.out.2.2.2.2.2.1; have f1e := (E6.out.frozen (p := ⟨g, k * 4 + 1, none⟩) hgr id).trans HOY.out.2.2.2.2.2.2.1; have f2e := (E6.out.frozen (p := ⟨g, k * 4 + 2, none⟩) hgr id).trans HOY.out.2.2.2.2.2.2.2.1; have f3e := (E6.out.frozen (p := ⟨g, k * 4 + 3, none⟩) hgr id).trans HOY.out.2.2.2.2.2.2.2.2; clear h1 h2 h3 h4 h5 hb6)))
          | fail "the region"
        all_goals
          obtain ⟨W, hW, u0, u1, u2, u3, hot, hfz, eW⟩ := set4_at (a0 := .int .i64 op') (a1 := .int .i64 n') (a2 := .string s') (a3 := .slice p9 a'.len c9) y0e y1e y2e y3e
          rw [hW]
          have HT := hid (fx_next HRl.out hg2 hgr hlt HD.out E6.out HG.out.1 HG.out.2.1 HG.out.2.2.1 (fun b hb => by have h := HG.out.2.2.2 b hb; simp at h; omega) u0 u1 u2 u3 hot hfz eW)
          have hgW : g < W.heap.size := World.block_lt_of_cell? _ _ u0
          clear hW u0 u1 u2 u3 hot hfz eW
          go_wp2_with fail
          go_roundw
          case rel => exact ⟨k + 1, by omega, by go_num, HT.out, hgW⟩
          case measure => simp [intOf]; omega
      · have hkl : k = a.len := by omega
        subst hkl
        have hz2 : w.heap.size + 1 < wr.heap.size := by omega
        clear hy1 hy2 hy3 hy4 hy5 hy6 hy7
        go_wp2_with fail
        obtain ⟨W, hW, u0, u1, u2, u3, eW⟩ := set4_all (a0 := .int .i64 op) (a1 := .int .i64 n) (a2 := .string s) (a3 := .slice (some ⟨g, 0, none⟩) a.len cq) z0 z1 z2 z3
        rw [hW]
        have hxl : xs.drop (4 * a.len) = [] := List.drop_eq_nil_of_le (by rw [HX.out.length]; omega)
        refine bodyPost_ret (v := .agg #[.int .i64 op, .int .i64 n, .string s, .slice (some ⟨g, 0, none⟩) a.len cq]) (by simp [results, Tryz.results120, go_sem, u0, u1, u2, u3]) rfl ⟨⟨op, n, s, a, some ⟨g, 0, none⟩, cq, g :: fp, rfl, rfl, .inr ⟨g, 0, ys, fp, rfl, rfl, hpos, fun i v hv => ?_, fun i => ?_, ?_⟩, HL.out.1, by have := HL.out.2; unfold maxLen at this; omega, fun b hb => ?_⟩, below_at HFin.out.2.2.2.2.2.2.1 eW (by omega) (by omega)⟩
        · rw [Nat.zero_add]
          exact eW.cell_some (HFin.out.2.2.1 i v (by rw [hxl, List.append_nil]; exact hv)) (by simp; omega)
        · rw [eW.frozen (p := ⟨g, i, none⟩) hgr (by simp; omega)]; exact HFin.out.2.2.2.1 i
        · have h := HFin.out.1
          rw [F.take_len] at h
          exact h.ext eW (fun b hb e => by have := (HFin.out.2.1 b hb).1; omega)
        · rcases List.mem_cons.1 hb with rfl | hb
          · omega
          · have := (HFin.out.2.1 b hb).1; omega
theorem f_Expr (m : Nat) : ∀ (op n : Int) (s : ByteArray) (a : F) (p : Option Addr) (c : Nat) (fa : List Nat) (w : World), a.size < m → a.size ≤ 100000 → RdP w a p fa → a.len ≤ c → c ≤ 9223372036854775807 →
      Calls Tryz.prog 120 #[.agg #[.int .i64 op, .int .i64 n, .string s, .slice p a.len c]] w (GotNew (.cons op n s a .nil) w) := by
  induction m with
  | zero => intro op n s a p c fa w h; omega
  | succ m ih => intro op n s a p c fa w h h1 h2 h3 h4; exact f_Expr1 m ih op n s a p c fa w (by omega) h1 h2 h3 h4
end Go.Proofs.YtkgciohebloffaaGreat
/- appendNames, the program's: the variables' names, each where it stands. -/
namespace Go.Proofs.YtkgciohebloffaaGreat
open Go.RowKit

def nmN : F → List (List UInt8)
  | .nil => []
  | .cons op _ s a r => (if op = 2 then [s.data.toList] else []) ++ (nmN a ++ nmN r)
theorem nmN_le : ∀ f : F, (nmN f).length ≤ f.size
  | .nil => by simp [nmN]
  | .cons op n s a r => by
    have h1 := nmN_le a
    have h2 := nmN_le r
    simp only [nmN, List.length_append, F.size]
    split <;> simp <;> omega
theorem nmN_eq : ∀ f : F, f.Small → nmN f = nmL (ptF f)
  | .nil, _ => rfl
  | .cons op n s a r, h => by
    have h1 := nmN_eq a h.2.1
    have h2 := nmN_eq r h.2.2
    simp only [nmN, ptF, nmL_app, h1, h2]
    by_cases ho : op = 2
    · have ha : a = .nil := by
        have := h.1.2.2
        subst ho
        exact F.eq_nil_of_len (by simp [ar] at this; omega)
      subst ha ho
      simp [ptF, nmL]
    · simp [nmL, ho]
theorem box_after {wr w4 : World} {C : Array Value} {T : TypeId} {o : Obj} {ob : Option Nat} (hg : ((wr.alloc (.cells C T)).alloc o).grownBy w4 ob) (hlt : ∀ b, ob = some b → b < wr.heap.size) : w4.heap[wr.heap.size]? = some (.cells C T (0, 0)) := by
  have e : Ext (fun b => some b = ob) wr ((wr.alloc (.cells C T)).alloc o) := ((Ext.refl wr).alloc _).alloc _
  have h1 := ((Ext.refl (S := fun b => some b = ob) (wr.alloc (.cells C T))).alloc o).heap (heap_new wr (.cells C T)) (fun e => by have := hlt _ e.symm; omega)
  exact ((Ext.refl (S := fun b => some b = ob) _).grown hg (fun k hk => .inl hk.symm)).heap h1 (fun e => by have := hlt _ e.symm; omega)
def ARel (f : F) (acc : List (List UInt8)) (v : Value) (B : Nat) (w : World) (k : Nat) (u : Value) (wr : World) : Prop :=
  ∃ acc2 : List (List UInt8), acc ++ nmN f = acc2 ++ nmN (f.drop k) ∧ acc2.length + (f.drop k).size ≤ acc.length + f.size ∧ wr.ownsRow B 9 1 u acc2.length (acc2.map encStr) ∧ Ext (fun b => some b = v.ownBlock) w wr ∧ (u.ownBlock = v.ownBlock ∨ ∀ b, u.ownBlock = some b → w.heap.size ≤ b)
def GotNames (f : F) (acc : List (List UInt8)) (v : Value) (B : Nat) (w : World) (e : Ending) (w' : World) : Prop :=
  (∃ v', e = .returned v' ∧ w'.ownsRow B 9 1 v' (acc ++ nmN f).length ((acc ++ nmN f).map encStr) ∧ (v'.ownBlock = v.ownBlock ∨ ∀ b, v'.ownBlock = some b → w.heap.size ≤ b)) ∧ Ext (fun b => some b = v.ownBlock) w w'

set_option maxRecDepth 100000 in
set_option maxHeartbeats 4000000 in
theorem v_names1 (m : Nat) (ih : ∀ (f : F) (p : Option Addr) (c : Nat) (fa : List Nat) (acc : List (List UInt8)) (v : Value) (B : Nat) (w : World), f.size < m → RdP w f p fa → f.len ≤ c → c ≤ 9223372036854775807 → (∀ b ∈ fa, b < B) → B ≤ w.heap.size → w.ownsRow B 9 1 v acc.length (acc.map encStr) → acc.length + f.size ≤ 100000 →
      Calls Tryz.prog 111 #[v, .slice p f.len c] w (GotNames f acc v B w))
    (f : F) (p : Option Addr) (c : Nat) (fa : List Nat) (acc : List (List UInt8)) (v : Value) (B : Nat) (w : World) (hfm : f.size ≤ m) (hp : RdP w f p fa) (hac : f.len ≤ c) (hc : c ≤ 9223372036854775807) (hfa : ∀ b ∈ fa, b < B) (hB : B ≤ w.heap.size) (hown : w.ownsRow B 9 1 v acc.length (acc.map encStr)) (hsz : acc.length + f.size ≤ 100000) :
    Calls Tryz.prog 111 #[v, .slice p f.len c] w (GotNames f acc v B w) := by
  have HP := hid hp
  have HF := hid hfa
  have IH := hid ih
  have hal : (f.len : Int) ≤ 9223372036854775807 := by omega
  obtain ⟨i0, hi0, hz0, hz1, hz2⟩ := info_parts info_str
  have hR0 : ARel f acc v B w 0 v w := ⟨acc, rfl, Nat.le_refl _, hown, Ext.refl _, .inl rfl⟩
  have HR0 := hid hR0
  have HOwn := hid hown
  clear hp hfa ih hown hR0
  go_enter Tryz.func111, Tryz.ntmps111
  go_wp2_with fail
  go_loopw [0, 9] (fun v0 i wr => ∃ (k : Nat) (u : Value), k ≤ f.len ∧ i = .int .i64 k ∧ v0 = u ∧ ARel f acc v B w k u wr) (fun _ i _ => f.len - (intOf i).toNat)
  case atStart => exact ⟨0, _, by omega, rfl, rfl, HR0.out⟩
  case round =>
    obtain ⟨k, vv, hk, rfl, hgv, acc2, hacc, hlen2, hown, hext, hnew⟩ := hrel
    subst hgv
    have HA := hid hacc
    have HO := hid hown
    have HE := hid hext
    have HN := hid hnew
    have hzr : w.heap.size ≤ wr.heap.size := hext.size
    have hpr : RdP wr f p fa := HP.out.ext hext (fun b hb e => by have := HF.out b hb; have := (HOwn.out.lt b e.symm).1; omega)
    clear hacc hown hext hnew
    by_cases hlt : k < f.len
    · rcases hpr with ⟨h0, _⟩ | ⟨b, o, xa, fb, rfl, rfl, _, hcell, _, hx⟩
      · rw [h0] at hlt; simp [F.len] at hlt
      obtain ⟨op', n', s', a', p', c', fa', hdrop, x0, x1, x2, x3, hl', hc', hp', hfm'⟩ := hx.at hlt
      have y0 := hcell _ _ x0
      have y1 := hcell _ _ x1
      have y2 := hcell _ _ x2
      have y3 := hcell _ _ x3
      simp only [← Nat.add_assoc, Nat.mul_comm 4 k] at y0 y1 y2 y3
      have hszk := F.size_split k f hdrop
      have hdk : (f.drop k).size = a'.size + (f.drop (k + 1)).size + 1 := by rw [hdrop]; rfl
      rw [hdk] at hlen2
      have hsz' : a'.size < m := by omega
      have HD := hid (show acc ++ nmN f = acc2 ++ ((if op' = 2 then [s'.data.toList] else []) ++ (nmN a' ++ nmN (f.drop (k + 1)))) by rw [HA.out, hdrop]; rfl)
      have HP' := hid (And.intro hp' (And.intro hl' (And.intro hc' (And.intro hsz' (show ∀ b ∈ fa', b < B from fun b hb => HF.out b (List.mem_cons_of_mem _ (hfm' b hb)))))))
      have HBox := hid (heap_new wr (.cells #[.int .i64 op', .int .i64 n', .string s', .slice p' a'.len c'] 28))
      clear hcell hx x0 x1 x2 x3 hp' hl' hc' hsz' hdrop hfm'
      have hne : ∀ b, b < B → some b ≠ u0.ownBlock := fun b hb e => by have := (HO.out.lt b e.symm).1; omega
      have hlt0 : ∀ b, u0.ownBlock = some b → b < wr.heap.size := fun b e => (HO.out.lt b e).2
      by_cases hx2 : op' = 2
      · have hxb : (op' == 2) = true := by simpa using hx2
        have HX2 := hid hx2
        clear hx2
        have HN2 := hid (show ((wr.alloc (.cells #[.int .i64 op', .int .i64 n', .string s', .slice p' a'.len c'] 28)).alloc (.cells #[.string s'] 9)).heap[wr.heap.size + 1]? = some (.cells #[.string s'] 9 (0, 0)) from (two_new rfl).2.1)
        go_wp2_with (at_builtin; refine wpList_append_lies _ rfl _ _ 37 rfl B 9 i0 _ 1 16 Tryz.underlying37 hi0 hz0 hz1 hz2 rfl (by decide) _ _ _ (by rfl) ((HO.out.alloc _).alloc _) ⟨wr.heap.size + 1, 0, none⟩ 1 1 [.string s'] rfl rfl (World.news_of_block HN2.out) (fun x hx => by simp at hx; subst hx; rfl) (by omega) (by unfold maxLen; omega) (by omega) (by simp; omega) (wr.heap.size + 2) (by simp) ?_; intro g cap w4 hown4 hgrow hat4 hlt4; obtain ⟨⟨z0, z1, z2, z3⟩, _⟩ := blk4 (box_after hgrow hlt0))
        have e4 : Ext (fun b => some b = u0.ownBlock) wr w4 := (((Ext.refl wr).alloc _).alloc _).grown hgrow (fun b hb => .inl hb.symm)
        have HO4 := hid (show w4.ownsRow B 9 1 (.slice (some ⟨g, 0, none⟩) (acc2.length + 1) cap) (acc2 ++ [s'.data.toList]).length ((acc2 ++ [s'.data.toList]).map encStr) by rw [List.map_append, List.length_append]; simpa [enc_self] using hown4)
        have hg4 : u0.ownBlock = some g ∨ wr.heap.size ≤ g := hat4.imp id (fun h => by omega)
        have HP4 := hid (HP'.out.1.ext e4 (fun b hb => hne b (HP'.out.2.2.2.2 b hb)))
        clear hown4 hgrow hat4
        have hB4 : B ≤ w4.heap.size := by have := e4.size; omega
        refine (IH.out a' p' c' fa' (acc2 ++ [s'.data.toList]) _ B _ HP'.out.2.2.2.1 HP4.out HP'.out.2.1 HP'.out.2.2.1 HP'.out.2.2.2.2 hB4 HO4.out (by simp; omega)).mono ?_
        rintro e w5 ⟨⟨v5, rfl, hown5, hat5⟩, hext5⟩
        have H5 := hid (And.intro hown5 (And.intro hat5 hext5))
        clear hown5 hat5 hext5
        go_wp2_with fail
        go_roundw
        case rel =>
          refine ⟨k + 1, _, by omega, by go_num, rfl, (acc2 ++ [s'.data.toList]) ++ nmN a', ?_, ?_, H5.out.1, ?_, ?_⟩
          · rw [HD.out, if_pos HX2.out]; simp
          · have := nmN_le a'; simp; omega
          · have e45 : Ext (fun b => some b = u0.ownBlock ∨ wr.heap.size ≤ b) w4 w5 := H5.out.2.2.mono (fun b _ hb => by
              have e : g = b := by simpa [Value.ownBlock] using hb.symm
              subst e
              rcases hg4 with h | h
              · exact .inl h.symm
              · exact .inr h)
            have e5 := (e4.mono (S' := fun b => some b = u0.ownBlock ∨ wr.heap.size ≤ b) (fun _ _ h => .inl h)).trans e45
            exact HE.out.trans_new e5 (fun b hb h => by
              rcases h with h | h
              · rcases HN.out with hn | hn
                · rw [← hn]; exact h
                · have := hn b h.symm; omega
              · omega)
          · have hgs : g < w4.heap.size := hlt4
            rcases H5.out.2.1 with h | h
            · have e : v5.ownBlock = some g := by rw [h]; rfl
              rcases hg4 with h' | h'
              · rcases HN.out with hn | hn
                · exact .inl (by rw [e, ← h', hn])
                · exact .inr fun b hb => hn b (by rw [h', ← e]; exact hb)
              · exact .inr fun b hb => by rw [e] at hb; cases hb; omega
            · exact .inr fun b hb => by have := h b hb; have := e4.size; omega
        case measure => simp [intOf]; omega
      · have hxb : (op' == 2) = false := by simpa using hx2
        have HX2 := hid hx2
        clear hx2
        have E1 := hid ((Ext.refl (S := fun _ => False) wr).alloc (.cells #[.int .i64 op', .int .i64 n', .string s', .slice p' a'.len c'] 28))
        go_wp2_with fail
        refine (IH.out a' p' c' fa' acc2 _ B _ HP'.out.2.2.2.1 (HP'.out.1.ext E1.out (fun _ _ => id)) HP'.out.2.1 HP'.out.2.2.1 HP'.out.2.2.2.2 (by simp; omega) (HO.out.alloc _) (by omega)).mono ?_
        rintro e w5 ⟨⟨v5, rfl, hown5, hat5⟩, hext5⟩
        have H5 := hid (And.intro hown5 (And.intro hat5 hext5))
        clear hown5 hat5 hext5
        go_wp2_with fail
        go_roundw
        case rel =>
          refine ⟨k + 1, _, by omega, by go_num, rfl, acc2 ++ nmN a', ?_, ?_, H5.out.1, ?_, ?_⟩
          · rw [HD.out, if_neg HX2.out]; simp
          · have := nmN_le a'; simp; omega
          · exact HE.out.trans_new ((Ext.refl (S := fun b => some b = u0.ownBlock) wr).alloc _ |>.trans H5.out.2.2) (fun b hb h => by
              rcases HN.out with hn | hn
              · rw [← hn]; exact h
              · have := hn b h.symm; omega)
          · rcases H5.out.2.1 with h | h
            · rcases HN.out with hn | hn
              · exact .inl (h.trans hn)
              · exact .inr fun b hb => hn b (h ▸ hb)
            · exact .inr fun b hb => by have := h b hb; simp at this; omega
        case measure => simp [intOf]; omega
    · have hkl : k = f.len := by omega
      have hfin : f.drop k = .nil := F.eq_nil_of_len (by rw [F.len_drop]; omega)
      have HA2 := hid (show acc ++ nmN f = acc2 by rw [HA.out, hfin]; simp [nmN])
      clear hpr hfin
      go_wp2_with fail
      go_ret
      exact ⟨⟨_, rfl, by rw [HA2.out]; exact HO.out, HN.out⟩, HE.out⟩
theorem v_names (m : Nat) : ∀ (f : F) (p : Option Addr) (c : Nat) (fa : List Nat) (acc : List (List UInt8)) (v : Value) (B : Nat) (w : World), f.size < m → RdP w f p fa → f.len ≤ c → c ≤ 9223372036854775807 → (∀ b ∈ fa, b < B) → B ≤ w.heap.size → w.ownsRow B 9 1 v acc.length (acc.map encStr) → acc.length + f.size ≤ 100000 →
      Calls Tryz.prog 111 #[v, .slice p f.len c] w (GotNames f acc v B w) := by
  induction m with
  | zero => intro f p c fa acc v B w h; omega
  | succ m ih =>
    intro f p c fa acc v B w h h1 h2 h3 h4 h5 h6 h7
    exact v_names1 m ih f p c fa acc v B w (by omega) h1 h2 h3 h4 h5 h6 h7
end Go.Proofs.YtkgciohebloffaaGreat
