/- Texts joined: VCode, Delete. -/
import Derived.Test.YtckbhlnncokigaaGreatJC18
import Derived.Test.YtckbhlnncokigaaGreatJC20
import Derived.Test.YtckbhlnncokigaaGreatJC12
import Derived.Deep.RegionLaw
import Derived.Deep.MidRow
/- appendCode and Code, the program's. -/
namespace Go.Proofs.YtckbhlnncokigaaGreat
open Go.RowKit

def KRel (op n : Int) (s : ByteArray) (a : F) (p : Option Addr) (c : Nat) (acc : List (Int × Int × ByteArray)) (v : Value) (B : Nat) (w : World) (k : Nat) (u : Value) (wr : World) : Prop :=
  ∃ acc2 : List (Int × Int × ByteArray), acc ++ ptF a = acc2 ++ ptF (a.drop k) ∧ wr.ownsRow B 78 3 u acc2.length (wdV acc2) ∧ Ext (fun b => some b = v.ownBlock) w wr ∧ (u.ownBlock = v.ownBlock ∨ ∀ b, u.ownBlock = some b → w.heap.size + 1 ≤ b) ∧
    wr.heap[w.heap.size]? = some (.cells #[.int .i64 op, .int .i64 n, .string s, .slice p a.len c] 28 (0, 0))
def GotWd (L acc : List (Int × Int × ByteArray)) (v : Value) (B : Nat) (w : World) (e : Ending) (w' : World) : Prop :=
  (∃ v', e = .returned v' ∧ w'.ownsRow B 78 3 v' (acc ++ L).length (wdV (acc ++ L)) ∧ (v'.ownBlock = v.ownBlock ∨ ∀ b, v'.ownBlock = some b → w.heap.size ≤ b)) ∧ Ext (fun b => some b = v.ownBlock) w w'
theorem kept_after {wr w4 : World} {o : Obj} {ob : Option Nat} {b : Nat} {C : Array Value} {T : TypeId} (h : wr.heap[b]? = some (.cells C T (0, 0))) (hg : (wr.alloc o).grownBy w4 ob) (hne : ob ≠ some b) : w4.heap[b]? = some (.cells C T (0, 0)) := by
  have h1 := ((Ext.refl (S := fun b => some b = ob) wr).alloc o).heap h (fun e => hne e.symm)
  exact ((Ext.refl (S := fun b => some b = ob) _).grown hg (fun k hk => .inl hk.symm)).heap h1 (fun e => hne e.symm)

set_option maxRecDepth 100000 in
set_option maxHeartbeats 4000000 in
theorem v_code1 (m : Nat) (ih : ∀ (op n : Int) (s : ByteArray) (a : F) (p : Option Addr) (c : Nat) (fa : List Nat) (acc : List (Int × Int × ByteArray)) (v : Value) (B : Nat) (w : World), a.size < m → RdP w a p fa → a.len ≤ c → c ≤ 9223372036854775807 → (∀ b ∈ fa, b < B) → B ≤ w.heap.size → w.ownsRow B 78 3 v acc.length (wdV acc) → acc.length + a.size ≤ 100000 →
      Calls Tryz.prog 88 #[v, .agg #[.int .i64 op, .int .i64 n, .string s, .slice p a.len c]] w (GotWd (ptE op n s a) acc v B w))
    (op n : Int) (s : ByteArray) (a : F) (p : Option Addr) (c : Nat) (fa : List Nat) (acc : List (Int × Int × ByteArray)) (v : Value) (B : Nat) (w : World) (ham : a.size ≤ m) (hp : RdP w a p fa) (hac : a.len ≤ c) (hc : c ≤ 9223372036854775807) (hfa : ∀ b ∈ fa, b < B) (hB : B ≤ w.heap.size) (hown : w.ownsRow B 78 3 v acc.length (wdV acc)) (hsz : acc.length + a.size ≤ 100000) :
    Calls Tryz.prog 88 #[v, .agg #[.int .i64 op, .int .i64 n, .string s, .slice p a.len c]] w (GotWd (ptE op n s a) acc v B w) := by
  have HP := hid hp
  have HF := hid hfa
  have IH := hid ih
  have hal : (a.len : Int) ≤ 9223372036854775807 := by omega
  obtain ⟨i0, hi0, hz0, hz1, hz2⟩ := info_parts info_word
  have HOwn := hid hown
  have hR0 : KRel op n s a p c acc v B w 0 v (w.alloc (.cells #[.int .i64 op, .int .i64 n, .string s, .slice p a.len c] 28)) := ⟨acc, rfl, hown.alloc _, (Ext.refl w).alloc _, .inl rfl, heap_new w _⟩
  have HR0 := hid hR0
  clear hp hfa ih hown hR0
  go_enter Tryz.func88, Tryz.ntmps88
  go_wp2_with fail
  go_loopw [0, 10] (fun v0 i wr => ∃ (k : Nat) (u : Value), k ≤ a.len ∧ i = .int .i64 k ∧ v0 = u ∧ KRel op n s a p c acc v B w k u wr) (fun _ i _ => a.len - (intOf i).toNat)
  case atStart => exact ⟨0, _, by omega, rfl, rfl, HR0.out⟩
  case round =>
    obtain ⟨k, vv, hk, rfl, hgv, acc2, hacc, hown, hext, hnew, hbox⟩ := hrel
    subst hgv
    have hlen2 : acc2.length + (a.drop k).size = acc.length + a.size := by
      have h1 := congrArg List.length hacc
      rw [List.length_append, List.length_append, ptF_length, ptF_length] at h1; omega
    have HA := hid hacc
    have HO := hid hown
    have HE := hid hext
    have HN := hid hnew
    have HBx := hid hbox
    have hzr : w.heap.size ≤ wr.heap.size := hext.size
    have hpr : RdP wr a p fa := HP.out.ext hext (fun b hb e => by have := HF.out b hb; have := (HOwn.out.lt b e.symm).1; omega)
    have hnb : u0.ownBlock ≠ some w.heap.size := fun e => by
      rcases hnew with h | h
      · have := (HOwn.out.lt w.heap.size (by rw [← h]; exact e)).2; omega
      · have := h _ e; omega
    obtain ⟨⟨q0, q1, q2, q3⟩, _⟩ := blk4 hbox
    clear hacc hown hext hnew hbox
    by_cases hlt : k < a.len
    · rcases hpr with ⟨h0, _⟩ | ⟨b, o, xa, fb, rfl, rfl, _, hcell, _, hx⟩
      · rw [h0] at hlt; simp [F.len] at hlt
      obtain ⟨op', n', s', a', p', c', fa', hdrop, x0, x1, x2, x3, hl', hc', hp', hfm'⟩ := hx.at hlt
      have y0 := hcell _ _ x0
      have y1 := hcell _ _ x1
      have y2 := hcell _ _ x2
      have y3 := hcell _ _ x3
      simp only [← Nat.add_assoc, Nat.mul_comm 4 k] at y0 y1 y2 y3
      have hszk := F.size_split k a hdrop
      have hdk : (a.drop k).size = a'.size + (a.drop (k + 1)).size + 1 := by rw [hdrop]; rfl
      rw [hdk] at hlen2
      have hsz' : a'.size < m := by omega
      have HD := hid (show acc ++ ptF a = acc2 ++ (ptE op' n' s' a' ++ ptF (a.drop (k + 1))) by rw [HA.out, hdrop, ptF_cons])
      have HP' := hid (And.intro hp' (And.intro hl' (And.intro hc' (And.intro hsz' (show ∀ b ∈ fa', b < B from fun b hb => HF.out b (List.mem_cons_of_mem _ (hfm' b hb)))))))
      have E1 := hid ((Ext.refl (S := fun _ => False) wr).alloc (.cells #[.int .i64 op', .int .i64 n', .string s', .slice p' a'.len c'] 28))
      clear hcell hx x0 x1 x2 x3 hp' hl' hc' hsz' hdrop hfm' q0 q1 q2 q3
      go_wp2_with fail
      refine (IH.out op' n' s' a' p' c' fa' acc2 _ B _ HP'.out.2.2.2.1 (HP'.out.1.ext E1.out (fun _ _ => id)) HP'.out.2.1 HP'.out.2.2.1 HP'.out.2.2.2.2 (by simp; omega) (HO.out.alloc _) (by omega)).mono ?_
      rintro e w5 ⟨⟨v5, rfl, hown5, hat5⟩, hext5⟩
      have H5 := hid (And.intro hown5 (And.intro hat5 hext5))
      clear hown5 hat5 hext5
      go_wp2_with fail
      go_roundw
      case rel =>
        refine ⟨k + 1, _, by omega, by go_num, rfl, acc2 ++ ptE op' n' s' a', ?_, H5.out.1, ?_, ?_, ?_⟩
        · rw [HD.out]; simp
        · exact HE.out.trans_new ((Ext.refl (S := fun b => some b = u0.ownBlock) wr).alloc _ |>.trans H5.out.2.2) (fun b hb h => by
            rcases HN.out with hn | hn
            · rw [← hn]; exact h
            · have := hn b h.symm; omega)
        · rcases H5.out.2.1 with h | h
          · rcases HN.out with hn | hn
            · exact .inl (h.trans hn)
            · exact .inr fun b hb => hn b (h ▸ hb)
          · exact .inr fun b hb => by have := h b hb; simp at this; omega
        · exact H5.out.2.2.heap (E1.out.heap HBx.out id) (fun e => hnb e.symm)
      case measure => simp [intOf]; omega
    · have hkl : k = a.len := by omega
      have hfin : a.drop k = .nil := F.eq_nil_of_len (by rw [F.len_drop]; omega)
      rw [hfin] at hlen2
      have hl2 : acc2.length ≤ 100000 := by omega
      have HA2 := hid (show acc ++ ptE op n s a = acc2 ++ [(op, n, s)] by
        have h := HA.out; rw [hfin] at h; simp only [ptF, List.append_nil] at h
        rw [← h]; simp [ptE])
      have hlt0 : ∀ b, u0.ownBlock = some b → b < wr.heap.size := fun b e => (HO.out.lt b e).2
      clear hpr hfin
      go_wp2_with (at_builtin; refine wpList_append_lies _ rfl _ _ 67 rfl B 78 i0 _ 3 32 Tryz.underlying67 hi0 hz0 hz1 hz2 rfl (by decide) _ _ _ (by rfl) (HO.out.alloc _) ⟨wr.heap.size, 0, none⟩ 1 1 [.int .i64 op, .int .i64 n, .string s] rfl rfl (World.news_of_block (heap_alloc_new wr _)) (fun x hx => by simp at hx; rcases hx with rfl | rfl | rfl <;> rfl) (by omega) (by unfold maxLen; omega) (by omega) (by simp; omega) (wr.heap.size + 1) (by simp) ?_; intro g cap w4 hown4 hgrow hat4 hlt4)
      have e4 : Ext (fun b => some b = u0.ownBlock) wr w4 := ((Ext.refl wr).alloc _).grown hgrow (fun b hb => .inl hb.symm)
      have HO4 := hid (show w4.ownsRow B 78 3 (.slice (some ⟨g, 0, none⟩) (acc2.length + 1) cap) (acc2 ++ [(op, n, s)]).length (wdV (acc2 ++ [(op, n, s)])) by rw [wdV_app, List.length_append]; simpa [wdV] using hown4)
      have hg4 : u0.ownBlock = some g ∨ wr.heap.size ≤ g := hat4.imp id (fun h => by omega)
      clear hown4 hgrow hat4
      go_wp2_with fail
      go_ret
      refine ⟨⟨_, rfl, by rw [HA2.out]; exact HO4.out, ?_⟩, HE.out.trans_new e4 (fun b hb h => by
            rcases HN.out with hn | hn
            · rw [← hn]; exact h
            · have := hn b h.symm; omega)⟩
      rcases hg4 with h' | h'
      · rcases HN.out with hn | hn
        · exact .inl (by show some g = _; rw [← h', hn])
        · exact .inr fun b hb => by have e : g = b := by simpa [Value.ownBlock] using hb
                                    subst e; have := hn g h'; omega
      · exact .inr fun b hb => by have e : g = b := by simpa [Value.ownBlock] using hb
                                  subst e; omega
theorem v_appendCode (m : Nat) : ∀ (op n : Int) (s : ByteArray) (a : F) (p : Option Addr) (c : Nat) (fa : List Nat) (acc : List (Int × Int × ByteArray)) (v : Value) (B : Nat) (w : World), a.size < m → RdP w a p fa → a.len ≤ c → c ≤ 9223372036854775807 → (∀ b ∈ fa, b < B) → B ≤ w.heap.size → w.ownsRow B 78 3 v acc.length (wdV acc) → acc.length + a.size ≤ 100000 →
      Calls Tryz.prog 88 #[v, .agg #[.int .i64 op, .int .i64 n, .string s, .slice p a.len c]] w (GotWd (ptE op n s a) acc v B w) := by
  induction m with
  | zero => intro op n s a p c fa acc v B w h; omega
  | succ m ih =>
    intro op n s a p c fa acc v B w h h1 h2 h3 h4 h5 h6 h7
    exact v_code1 m ih op n s a p c fa acc v B w (by omega) h1 h2 h3 h4 h5 h6 h7

/-- Words in a row that a call made, as a slice. -/
theorem words_end {w : World} {base : Nat} {v : Value} {L : List (Int × Int × ByteArray)} (h : w.ownsRow base 78 3 v L.length (wdV L)) :
    ∃ p c, v = .slice p L.length c ∧ WdP w L p ∧ L.length ≤ c ∧ c ≤ maxLen ∧ ∀ x, p = some x → base ≤ x.block := by
  by_cases hL : L = []
  · subst hL
    rcases h.2 with ⟨h1, _⟩ | ⟨g, c, cur, h1, h2, _, _, hc, _⟩
    · exact ⟨_, _, h1, .inl rfl, by simp, by decide, by simp⟩
    · exact ⟨_, _, h1, .inl rfl, by simp, hc, by intro x hx; cases hx; exact h2⟩
  · obtain ⟨g, c, rfl, hg, hlc, hcm, hcell, _⟩ := own_cells h (List.length_pos_iff.2 hL)
    exact ⟨_, c, rfl, .inr ⟨g, rfl, fun i x hx => by obtain ⟨h0, h1, h2⟩ := wdV_get L i x hx; exact ⟨hcell _ _ h0, hcell _ _ h1, hcell _ _ h2⟩⟩, hlc, hcm, by intro x hx; cases hx; exact hg⟩
/-- What Code answers. -/
def cdAns (op n : Int) (s : ByteArray) (a : F) : List (Int × Int × ByteArray) := if errE op n s a 1 ≠ 0 then [] else ptE op n s a
theorem ret_wd {q : Option Addr} {k : Nat} {a b : Int} {L M : List (Int × Int × ByteArray)} (h : L = M) (g : a = b) : Ending.returned (.tuple #[.slice q L.length k, .int .i64 a]) = .returned (.tuple #[.slice q M.length k, .int .i64 b]) := by rw [h, g]

set_option maxRecDepth 100000 in
set_option maxHeartbeats 4000000 in
theorem v_Code (op n : Int) (s : ByteArray) (a : F) (p : Option Addr) (c : Nat) (fa : List Nat) (w : World) (hsz : a.size ≤ 149) (h1 : RdP w a p fa) (h2 : a.len ≤ c) (h3 : c ≤ 9223372036854775807) (h4 : (F.cons op n s a .nil).Fits) :
      Calls Tryz.prog 38 #[.agg #[.int .i64 op, .int .i64 n, .string s, .slice p a.len c]] w fun e w' => (∃ q k, e = .returned (.tuple #[.slice q (cdAns op n s a).length k, .int .i64 (errE op n s a 1)]) ∧ WdP w' (cdAns op n s a) q ∧ (cdAns op n s a).length ≤ k ∧ k ≤ maxLen) ∧ Below w.heap.size w w' := by
  have E1 := (Ext.refl (S := fun _ => False) w).alloc (.cells #[.int .i64 op, .int .i64 n, .string s, .slice p a.len c] 28)
  have HX := hid (And.intro (h1.ext E1 (fun _ _ => id)) h4)
  have HLT := hid h1.lt
  have HN := hid (heap_new w (.cells #[.int .i64 op, .int .i64 n, .string s, .slice p a.len c] 28))
  have HB := hid (alloc_below w (.cells #[.int .i64 op, .int .i64 n, .string s, .slice p a.len c] 28))
  have hz1 : w.heap.size + 1 = (w.alloc (.cells #[.int .i64 op, .int .i64 n, .string s, .slice p a.len c] 28)).heap.size := by simp
  clear h1 h4 E1
  go_enter Tryz.func38, Tryz.ntmps38
  go_wp2_with fail
  generalize w.alloc (.cells #[.int .i64 op, .int .i64 n, .string s, .slice p a.len c] 28) = w1 at *
  refine (p_CheckExpr op n s a p c fa _ HX.out.1 h2 h3 HX.out.2).mono ?_
  rintro e w2 ⟨rfl, hb2⟩
  have E2 := Ext.of_below (S := fun _ => False) hb2
  have HX2 := hid (HX.out.1.ext E2 (fun _ _ => id))
  have HN2 := hid (E2.heap HN.out id)
  have HB2 := hid (below_ext HB.out E2 (by omega))
  have hz2 : w.heap.size + 1 ≤ w2.heap.size := by have := E2.size; omega
  clear HX HN HB E2 hb2
  generalize hge : errE op n s a 1 = er
  have GE := hid hge
  clear hge
  by_cases he : er = 0
  case neg =>
    have hne : (er != 0) = true := by simpa using he
    have HA := hid (show cdAns op n s a = [] by rw [cdAns, if_pos (by rw [GE.out]; exact he)])
    clear he
    go_wp2_with fail
    go_ret2
    exact ⟨⟨none, 0, ret_wd (L := []) HA.out.symm GE.out.symm, .inl HA.out, by rw [HA.out]; simp, by decide⟩, HB2.out⟩
  subst he
  have HA := hid (show cdAns op n s a = ptE op n s a by rw [cdAns, if_neg (by rw [GE.out]; simp)])
  obtain ⟨⟨q0, q1, q2, q3⟩, _⟩ := blk4 HN2.out
  go_wp2_with fail
  refine (v_appendCode (a.size + 1) op n s a p c fa [] (.slice none 0 0) w2.heap.size _ (by omega) HX2.out h2 h3 HX2.out.lt (Nat.le_refl _) (World.ownsRow_nil _ _ _ _) (by simp; omega)).mono ?_
  rintro e w4 ⟨⟨v4, rfl, hown, _⟩, hext⟩
  rw [List.nil_append] at hown
  obtain ⟨q, k, rfl, hwd, hk1, hk2, _⟩ := words_end hown
  have HW := hid (And.intro hwd (And.intro hk1 hk2))
  have HB4 := hid (below_ext HB2.out (hext.mono (S' := fun _ => False) (fun b _ h => by simp [Value.ownBlock] at h)) (by omega))
  clear hown hext hwd hk1 hk2
  generalize ptE op n s a = vs at HW HA ⊢
  go_wp2_with fail
  go_ret2
  exact ⟨⟨q, k, ret_wd HA.out.symm GE.out.symm, by rw [HA.out]; exact HW.out⟩, HB4.out⟩
end Go.Proofs.YtckbhlnncokigaaGreat
/- slices.Delete of one word. -/
namespace Go.Proofs.YtckbhlnncokigaaGreat
open Go.RowKit

theorem wdV_take : ∀ (k : Nat) (L : List (Int × Int × ByteArray)), wdV (L.take k) = (wdV L).take (k * 3)
  | 0, L => by simp [wdV]
  | _ + 1, [] => by simp [wdV]
  | k + 1, x :: r => by rw [show (k + 1) * 3 = k * 3 + 1 + 1 + 1 by omega]; simp [wdV, wdV_take k r]
theorem wdV_drop : ∀ (k : Nat) (L : List (Int × Int × ByteArray)), wdV (L.drop k) = (wdV L).drop (k * 3)
  | 0, L => by simp
  | _ + 1, [] => by simp [wdV]
  | k + 1, x :: r => by rw [show (k + 1) * 3 = k * 3 + 1 + 1 + 1 by omega]; simp [wdV, wdV_drop k r]
theorem wdV_erase (L : List (Int × Int × ByteArray)) (i : Nat) : wdV (L.eraseIdx i) = (wdV L).take (i * 3) ++ (wdV L).drop ((i + 1) * 3) := by
  rw [List.eraseIdx_eq_take_drop_succ, wdV_app, wdV_take, wdV_drop]
theorem wdV_one : ∀ (L : List (Int × Int × ByteArray)), ∀ u ∈ wdV L, u.oneCell' = true
  | [], u, hu => by simp [wdV] at hu
  | x :: r, u, hu => by
    simp only [wdV, List.mem_cons] at hu
    rcases hu with rfl | rfl | rfl | hu
    · rfl
    · rfl
    · rfl
    · exact wdV_one r u hu
theorem wdAt_of {w : World} {g : Nat} {M : List (Int × Int × ByteArray)} (h : ∀ (j : Nat) v, (wdV M)[j]? = some v → w.cell? ⟨g, j, none⟩ = some v) : WdAt w g M := fun i x hx => by
  obtain ⟨h0, h1, h2⟩ := wdV_get M i x hx
  exact ⟨h _ _ h0, h _ _ h1, h _ _ h2⟩
theorem zero_word (w : World) : (zeroValue 78).run Tryz.prog w = .ok (.agg #[.int .i64 0, .int .i64 0, .string ⟨#[]⟩]) w := by kernel_rfl
theorem run_clear_word (W : World) (ty : TypeId) (g o k c : Nat) (hk : k = 1) (hc : ∀ j, j < 3 → (W.cell? ⟨g, o + j, none⟩).isSome = true) (hf : ∀ j, j < 3 → W.frozen? ⟨g, o + j, none⟩ = false) :
    (Builtin.clear_ #[67] ty #[.slice (some ⟨g, o, none⟩) k c]).run Tryz.prog W = .ok (.tuple #[]) (W.setCells g o [.int .i64 0, .int .i64 0, .string ⟨#[]⟩]) := by
  subst hk
  have hst := run_storeCells_cells (P := Tryz.prog) g o [.int .i64 0, .int .i64 0, .string ⟨#[]⟩] 0 W (by simpa using hc) (by simpa using hf) (by simp [Value.oneCell'])
  simp only [Nat.add_zero] at hst
  have hz : (Builtin.zeroCells #[Value.int .i64 0, .int .i64 0, .string ⟨#[]⟩] 1).toList = [.int .i64 0, .int .i64 0, .string ⟨#[]⟩] := by kernel_rfl
  simp [Builtin.clear_, run_underlying Tryz.underlying67, Value.cells, hz, hst]
theorem cell_written (b o : Nat) (vs : List Value) (w : World) (hc : ∀ j, j < vs.length → (w.cell? ⟨b, o + j, none⟩).isSome = true) (j : Nat) (hj : j < vs.length) : (w.setCells b o vs).cell? ⟨b, o + j, none⟩ = some vs[j] :=
  World.cell?_setCells_in b vs o w hc j hj

theorem ext_setCells (g : Nat) : ∀ (vs : List Value) (o : Nat) {a w : World}, Ext (· = g) a w → Ext (· = g) a (w.setCells g o vs)
  | [], _, _, _, h => h
  | v :: r, o, _, _, h => ext_setCells g r (o + 1) (h.setCell (p := ⟨g, o, none⟩) (.inl rfl) v)

set_option maxRecDepth 100000 in
set_option maxHeartbeats 4000000 in
theorem w_Delete (L : List (Int × Int × ByteArray)) (g n cap i base : Nat) (w : World) (hn : L.length = n) (hown : w.ownsRow base 78 3 (.slice (some ⟨g, 0, none⟩) n cap) n (wdV L)) (hi : i < n) :
    Calls Tryz.prog 85 #[.slice (some ⟨g, 0, none⟩) n cap, .int .i64 i, .int .i64 ((i : Int) + 1)] w fun e w' => e = .returned (.slice (some ⟨g, 0, none⟩) (n - 1) cap) ∧ WdAt w' g (L.eraseIdx i) ∧ Ext (· = g) w w' := by
  obtain ⟨i0, hi0, hz0, hz1, hz2⟩ := info_parts info_word
  obtain ⟨g', cap', hv, _, hnc, hcm, hcell, hfr⟩ := own_cells hown (by omega)
  injection hv with e1 _ e3
  injection e1 with e1
  injection e1 with e1
  subst e1 e3
  have hvl : (wdV L).length = n * 3 := by rw [wdV_length, hn]
  have hfull : ∀ j, j < n * 3 → (w.cell? ⟨g, j, none⟩).isSome = true := fun j hj => by
    rw [hcell j _ (List.getElem?_eq_getElem (by omega))]; rfl
  obtain ⟨news, hnews⟩ : ∃ news, news = (wdV L).drop ((i + 1) * 3) := ⟨_, rfl⟩
  have hlen : news.length = (n - (i + 1)) * 3 := by rw [hnews, List.length_drop, hvl]; omega
  obtain ⟨A, hA, hsrc⟩ : ∃ A : Addr, (if cap = i + 1 then (some (⟨g, 0, none⟩ : Addr)) else some ⟨g, (i + 1) * 3, none⟩) = some A ∧ Hid (∀ t u, news[t]? = some u → w.drew.cell? (A.add t) = some u) := by
    by_cases h : cap = i + 1
    · refine ⟨⟨g, 0, none⟩, by simp [h], fun t u hu => ?_⟩
      have h0 : news.length = 0 := by rw [hlen]; omega
      rw [List.length_eq_zero_iff.1 h0] at hu
      simp at hu
    · refine ⟨⟨g, (i + 1) * 3, none⟩, by simp [h], fun t u hu => ?_⟩
      rw [hnews, List.getElem?_drop] at hu
      rw [Addr.add_lit]
      exact hcell _ u hu
  have s1 : Hid (news.length = (n - (i + 1)) * 3) := hlen
  have s2 : Hid (∀ u ∈ news, u.oneCell' = true) := by
    intro u hu
    rw [hnews] at hu
    exact wdV_one L u (List.mem_of_mem_drop hu)
  have s3 : Hid (∀ t, t < news.length → (w.drew.cell? ⟨g, 0 + i * 3 + t, none⟩).isSome = true ∧ w.drew.frozen? ⟨g, 0 + i * 3 + t, none⟩ = false) := by
    intro t ht
    exact ⟨hfull _ (by omega), hfr _⟩
  obtain ⟨W1, hW1⟩ : ∃ W1, W1 = w.drew.setCells g (0 + i * 3) news := ⟨_, rfl⟩
  have hk : n - (i + (n - (i + 1))) = 1 := by omega
  have hsp : ∀ t, t < news.length → (w.drew.cell? ⟨g, 0 + i * 3 + t, none⟩).isSome = true := fun t ht => (s3.out t ht).1
  have hsome1 : ∀ j, j < n * 3 → (W1.cell? ⟨g, j, none⟩).isSome = true := fun j hj => by
    rw [hW1]
    exact World.isSome_setCells g news _ w.drew _ (hfull j hj)
  have hfr1 : ∀ j, W1.frozen? ⟨g, j, none⟩ = false := fun j => by rw [hW1, World.frozen?_setCells]; exact hfr j
  have hcl : ∀ ty, (Builtin.clear_ #[67] ty #[.slice (some ⟨g, (i + (n - (i + 1))) * 3, none⟩) (n - (i + (n - (i + 1)))) (cap - (i + (n - (i + 1))))]).run Tryz.prog W1 = .ok (.tuple #[]) (W1.setCells g ((i + (n - (i + 1))) * 3) [.int .i64 0, .int .i64 0, .string ⟨#[]⟩]) :=
    fun ty => run_clear_word W1 ty g _ _ _ hk (fun j hj => hsome1 _ (by omega)) (fun j _ => hfr1 _)
  have HE := hid (show WdAt (W1.setCells g ((i + (n - (i + 1))) * 3) [.int .i64 0, .int .i64 0, .string ⟨#[]⟩]) g (L.eraseIdx i) from wdAt_of fun j v hv => by
    rw [wdV_erase, ← hnews] at hv
    have hj : j < (n - 1) * 3 := by
      have h := (List.getElem?_eq_some_iff.1 hv).1
      rw [List.length_append, List.length_take, hvl, hlen] at h
      omega
    rw [World.cell?_setCells_out g _ _ W1 ⟨g, j, none⟩ (fun _ _ => by left; show j < _; omega), hW1]
    by_cases hji : j < i * 3
    · rw [List.getElem?_append_left (by rw [List.length_take, hvl]; omega), List.getElem?_take_of_lt hji] at hv
      rw [World.cell?_setCells_out g _ _ w.drew ⟨g, j, none⟩ (fun _ _ => by left; show j < _; omega)]
      exact hcell j v hv
    · have hlt : ((wdV L).take (i * 3)).length = i * 3 := by rw [List.length_take, hvl]; omega
      rw [List.getElem?_append_right (by omega), hlt] at hv
      have hjn := (List.getElem?_eq_some_iff.1 hv).1
      have h2 := cell_written g (0 + i * 3) news w.drew hsp (j - i * 3) hjn
      rw [show 0 + i * 3 + (j - i * 3) = j by omega] at h2
      rw [h2, ← hv, List.getElem?_eq_getElem hjn])
  have HX := hid (show Ext (· = g) w (W1.setCells g ((i + (n - (i + 1))) * 3) [.int .i64 0, .int .i64 0, .string ⟨#[]⟩]) from by
    rw [hW1]; exact ext_setCells g _ _ (ext_setCells g _ _ (Ext.refl w).drew))
  have hW : Hid (W1 = w.drew.setCells g (0 + i * 3) news) := hW1
  have hi1 : (i : Int) < n := by omega
  have hncI : (n : Int) ≤ cap := by omega
  have hcI : (cap : Int) ≤ 9223372036854775807 := by unfold maxLen at hcm; omega
  have hic : i ≤ cap := by omega
  have hjc : i + 1 ≤ cap := by omega
  have hne : ¬ cap = i + (n - (i + 1)) := by omega
  have hr : i + (n - (i + 1)) ≤ cap := by omega
  have HR := hid (show i + (n - (i + 1)) = n - 1 by omega)
  clear hW1 hlen hnews hfull hsome1 hfr1 hsp hcell hfr hown hvl hk hn
  go_enter Tryz.func85, Tryz.ntmps85
  have hw1 : IntKind.i64.wrap ((i : Int) + 1) = i + 1 := IntWalk.i64_in _ (by omega)
  have hw2 : ((i : Int) + 1).toNat = i + 1 := by omega
  have hw3 : (0 : Int) ≤ (i : Int) + 1 := by omega
  have hw4 : (i : Int) + 1 ≤ n := by omega
  go_wp2_with fail
  go_region_law (refine step_append_room rfl (.tmp 22) (.tmp 25) 67 rfl 78 i0 3 Tryz.underlying67 hi0 hz1 g 0 i cap (by simp [Act.eval, Act.put]) A (n - (i + 1)) (cap - (i + 1)) news (by simp [Act.eval, Act.put]) s1.out hsrc.out s2.out (by omega) s3.out ?_; rw [← hW.out])
  go_wp2
  go_ret
  exact ⟨by rw [HR.out]; rfl, HE.out, HX.out⟩
end Go.Proofs.YtckbhlnncokigaaGreat
