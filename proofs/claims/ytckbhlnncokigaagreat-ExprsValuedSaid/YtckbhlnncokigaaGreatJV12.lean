/- Texts joined: VNames. -/
import Derived.Test.YtckbhlnncokigaaGreatJV11
/- appendNames, the program's: the variables' names, each where it stands. -/
namespace Go.Proofs.YtckbhlnncokigaaGreat
open Go.RowKit

def nmN : F → List (List UInt8)
  | .nil => []
  | .cons op _ s a r => (if op = 2 then [s.data.toList] else []) ++ (nmN a ++ nmN r)
theorem nmN_le : ∀ f : F, (nmN f).length ≤ f.size
  | .nil => by simp [nmN]
  | .cons op n s a r => by
    have h1 := nmN_le a
    have h2 := nmN_le r
    simp only [nmN, List.length_append, F.size]
    split <;> simp <;> omega
theorem nmN_eq : ∀ f : F, f.Small → nmN f = nmL (ptF f)
  | .nil, _ => rfl
  | .cons op n s a r, h => by
    have h1 := nmN_eq a h.2.1
    have h2 := nmN_eq r h.2.2
    simp only [nmN, ptF, nmL_app, h1, h2]
    by_cases ho : op = 2
    · have ha : a = .nil := by
        have := h.1.2.2
        subst ho
        exact F.eq_nil_of_len (by simp [ar] at this; omega)
      subst ha ho
      simp [ptF, nmL]
    · simp [nmL, ho]
theorem box_after {wr w4 : World} {C : Array Value} {T : TypeId} {o : Obj} {ob : Option Nat} (hg : ((wr.alloc (.cells C T)).alloc o).grownBy w4 ob) (hlt : ∀ b, ob = some b → b < wr.heap.size) : w4.heap[wr.heap.size]? = some (.cells C T (0, 0)) := by
  have e : Ext (fun b => some b = ob) wr ((wr.alloc (.cells C T)).alloc o) := ((Ext.refl wr).alloc _).alloc _
  have h1 := ((Ext.refl (S := fun b => some b = ob) (wr.alloc (.cells C T))).alloc o).heap (heap_new wr (.cells C T)) (fun e => by have := hlt _ e.symm; omega)
  exact ((Ext.refl (S := fun b => some b = ob) _).grown hg (fun k hk => .inl hk.symm)).heap h1 (fun e => by have := hlt _ e.symm; omega)
def ARel (f : F) (acc : List (List UInt8)) (v : Value) (B : Nat) (w : World) (k : Nat) (u : Value) (wr : World) : Prop :=
  ∃ acc2 : List (List UInt8), acc ++ nmN f = acc2 ++ nmN (f.drop k) ∧ acc2.length + (f.drop k).size ≤ acc.length + f.size ∧ wr.ownsRow B 9 1 u acc2.length (acc2.map encStr) ∧ Ext (fun b => some b = v.ownBlock) w wr ∧ (u.ownBlock = v.ownBlock ∨ ∀ b, u.ownBlock = some b → w.heap.size ≤ b)
def GotNames (f : F) (acc : List (List UInt8)) (v : Value) (B : Nat) (w : World) (e : Ending) (w' : World) : Prop :=
  (∃ v', e = .returned v' ∧ w'.ownsRow B 9 1 v' (acc ++ nmN f).length ((acc ++ nmN f).map encStr) ∧ (v'.ownBlock = v.ownBlock ∨ ∀ b, v'.ownBlock = some b → w.heap.size ≤ b)) ∧ Ext (fun b => some b = v.ownBlock) w w'

set_option maxRecDepth 100000 in
set_option maxHeartbeats 4000000 in
theorem v_names1 (m : Nat) (ih : ∀ (f : F) (p : Option Addr) (c : Nat) (fa : List Nat) (acc : List (List UInt8)) (v : Value) (B : Nat) (w : World), f.size < m → RdP w f p fa → f.len ≤ c → c ≤ 9223372036854775807 → (∀ b ∈ fa, b < B) → B ≤ w.heap.size → w.ownsRow B 9 1 v acc.length (acc.map encStr) → acc.length + f.size ≤ 100000 →
      Calls Tryz.prog 111 #[v, .slice p f.len c] w (GotNames f acc v B w))
    (f : F) (p : Option Addr) (c : Nat) (fa : List Nat) (acc : List (List UInt8)) (v : Value) (B : Nat) (w : World) (hfm : f.size ≤ m) (hp : RdP w f p fa) (hac : f.len ≤ c) (hc : c ≤ 9223372036854775807) (hfa : ∀ b ∈ fa, b < B) (hB : B ≤ w.heap.size) (hown : w.ownsRow B 9 1 v acc.length (acc.map encStr)) (hsz : acc.length + f.size ≤ 100000) :
    Calls Tryz.prog 111 #[v, .slice p f.len c] w (GotNames f acc v B w) := by
  have HP := hid hp
  have HF := hid hfa
  have IH := hid ih
  have hal : (f.len : Int) ≤ 9223372036854775807 := by omega
  obtain ⟨i0, hi0, hz0, hz1, hz2⟩ := info_parts info_str
  have hR0 : ARel f acc v B w 0 v w := ⟨acc, rfl, Nat.le_refl _, hown, Ext.refl _, .inl rfl⟩
  have HR0 := hid hR0
  have HOwn := hid hown
  clear hp hfa ih hown hR0
  go_enter Tryz.func111, Tryz.ntmps111
  go_wp2_with fail
  go_loopw [0, 9] (fun v0 i wr => ∃ (k : Nat) (u : Value), k ≤ f.len ∧ i = .int .i64 k ∧ v0 = u ∧ ARel f acc v B w k u wr) (fun _ i _ => f.len - (intOf i).toNat)
  case atStart => exact ⟨0, _, by omega, rfl, rfl, HR0.out⟩
  case round =>
    obtain ⟨k, vv, hk, rfl, hgv, acc2, hacc, hlen2, hown, hext, hnew⟩ := hrel
    subst hgv
    have HA := hid hacc
    have HO := hid hown
    have HE := hid hext
    have HN := hid hnew
    have hzr : w.heap.size ≤ wr.heap.size := hext.size
    have hpr : RdP wr f p fa := HP.out.ext hext (fun b hb e => by have := HF.out b hb; have := (HOwn.out.lt b e.symm).1; omega)
    clear hacc hown hext hnew
    by_cases hlt : k < f.len
    · rcases hpr with ⟨h0, _⟩ | ⟨b, o, xa, fb, rfl, rfl, _, hcell, _, hx⟩
      · rw [h0] at hlt; simp [F.len] at hlt
      obtain ⟨op', n', s', a', p', c', fa', hdrop, x0, x1, x2, x3, hl', hc', hp', hfm'⟩ := hx.at hlt
      have y0 := hcell _ _ x0
      have y1 := hcell _ _ x1
      have y2 := hcell _ _ x2
      have y3 := hcell _ _ x3
      simp only [← Nat.add_assoc, Nat.mul_comm 4 k] at y0 y1 y2 y3
      have hszk := F.size_split k f hdrop
      have hdk : (f.drop k).size = a'.size + (f.drop (k + 1)).size + 1 := by rw [hdrop]; rfl
      rw [hdk] at hlen2
      have hsz' : a'.size < m := by omega
      have HD := hid (show acc ++ nmN f = acc2 ++ ((if op' = 2 then [s'.data.toList] else []) ++ (nmN a' ++ nmN (f.drop (k + 1)))) by rw [HA.out, hdrop]; rfl)
      have HP' := hid (And.intro hp' (And.intro hl' (And.intro hc' (And.intro hsz' (show ∀ b ∈ fa', b < B from fun b hb => HF.out b (List.mem_cons_of_mem _ (hfm' b hb)))))))
      have HBox := hid (heap_new wr (.cells #[.int .i64 op', .int .i64 n', .string s', .slice p' a'.len c'] 28))
      clear hcell hx x0 x1 x2 x3 hp' hl' hc' hsz' hdrop hfm'
      have hne : ∀ b, b < B → some b ≠ u0.ownBlock := fun b hb e => by have := (HO.out.lt b e.symm).1; omega
      have hlt0 : ∀ b, u0.ownBlock = some b → b < wr.heap.size := fun b e => (HO.out.lt b e).2
      by_cases hx2 : op' = 2
      · have hxb : (op' == 2) = true := by simpa using hx2
        have HX2 := hid hx2
        clear hx2
        have HN2 := hid (show ((wr.alloc (.cells #[.int .i64 op', .int .i64 n', .string s', .slice p' a'.len c'] 28)).alloc (.cells #[.string s'] 9)).heap[wr.heap.size + 1]? = some (.cells #[.string s'] 9 (0, 0)) from (two_new rfl).2.1)
        go_wp2_with (at_builtin; refine wpList_append_lies _ rfl _ _ 37 rfl B 9 i0 _ 1 16 Tryz.underlying37 hi0 hz0 hz1 hz2 rfl (by decide) _ _ _ (by rfl) ((HO.out.alloc _).alloc _) ⟨wr.heap.size + 1, 0, none⟩ 1 1 [.string s'] rfl rfl (World.news_of_block HN2.out) (fun x hx => by simp at hx; subst hx; rfl) (by omega) (by unfold maxLen; omega) (by omega) (by simp; omega) (wr.heap.size + 2) (by simp) ?_; intro g cap w4 hown4 hgrow hat4 hlt4; obtain ⟨⟨z0, z1, z2, z3⟩, _⟩ := blk4 (box_after hgrow hlt0))
        have e4 : Ext (fun b => some b = u0.ownBlock) wr w4 := (((Ext.refl wr).alloc _).alloc _).grown hgrow (fun b hb => .inl hb.symm)
        have HO4 := hid (show w4.ownsRow B 9 1 (.slice (some ⟨g, 0, none⟩) (acc2.length + 1) cap) (acc2 ++ [s'.data.toList]).length ((acc2 ++ [s'.data.toList]).map encStr) by rw [List.map_append, List.length_append]; simpa [enc_self] using hown4)
        have hg4 : u0.ownBlock = some g ∨ wr.heap.size ≤ g := hat4.imp id (fun h => by omega)
        have HP4 := hid (HP'.out.1.ext e4 (fun b hb => hne b (HP'.out.2.2.2.2 b hb)))
        clear hown4 hgrow hat4
        have hB4 : B ≤ w4.heap.size := by have := e4.size; omega
        refine (IH.out a' p' c' fa' (acc2 ++ [s'.data.toList]) _ B _ HP'.out.2.2.2.1 HP4.out HP'.out.2.1 HP'.out.2.2.1 HP'.out.2.2.2.2 hB4 HO4.out (by simp; omega)).mono ?_
        rintro e w5 ⟨⟨v5, rfl, hown5, hat5⟩, hext5⟩
        have H5 := hid (And.intro hown5 (And.intro hat5 hext5))
        clear hown5 hat5 hext5
        go_wp2_with fail
        go_roundw
        case rel =>
          refine ⟨k + 1, _, by omega, by go_num, rfl, (acc2 ++ [s'.data.toList]) ++ nmN a', ?_, ?_, H5.out.1, ?_, ?_⟩
          · rw [HD.out, if_pos HX2.out]; simp
          · have := nmN_le a'; simp; omega
          · have e45 : Ext (fun b => some b = u0.ownBlock ∨ wr.heap.size ≤ b) w4 w5 := H5.out.2.2.mono (fun b _ hb => by
              have e : g = b := by simpa [Value.ownBlock] using hb.symm
              subst e
              rcases hg4 with h | h
              · exact .inl h.symm
              · exact .inr h)
            have e5 := (e4.mono (S' := fun b => some b = u0.ownBlock ∨ wr.heap.size ≤ b) (fun _ _ h => .inl h)).trans e45
            exact HE.out.trans_new e5 (fun b hb h => by
              rcases h with h | h
              · rcases HN.out with hn | hn
                · rw [← hn]; exact h
                · have := hn b h.symm; omega
              · omega)
          · have hgs : g < w4.heap.size := hlt4
            rcases H5.out.2.1 with h | h
            · have e : v5.ownBlock = some g := by rw [h]; rfl
              rcases hg4 with h' | h'
              · rcases HN.out with hn | hn
                · exact .inl (by rw [e, ← h', hn])
                · exact .inr fun b hb => hn b (by rw [h', ← e]; exact hb)
              · exact .inr fun b hb => by rw [e] at hb; cases hb; omega
            · exact .inr fun b hb => by have := h b hb; have := e4.size; omega
        case measure => simp [intOf]; omega
      · have hxb : (op' == 2) = false := by simpa using hx2
        have HX2 := hid hx2
        clear hx2
        have E1 := hid ((Ext.refl (S := fun _ => False) wr).alloc (.cells #[.int .i64 op', .int .i64 n', .string s', .slice p' a'.len c'] 28))
        go_wp2_with fail
        refine (IH.out a' p' c' fa' acc2 _ B _ HP'.out.2.2.2.1 (HP'.out.1.ext E1.out (fun _ _ => id)) HP'.out.2.1 HP'.out.2.2.1 HP'.out.2.2.2.2 (by simp; omega) (HO.out.alloc _) (by omega)).mono ?_
        rintro e w5 ⟨⟨v5, rfl, hown5, hat5⟩, hext5⟩
        have H5 := hid (And.intro hown5 (And.intro hat5 hext5))
        clear hown5 hat5 hext5
        go_wp2_with fail
        go_roundw
        case rel =>
          refine ⟨k + 1, _, by omega, by go_num, rfl, acc2 ++ nmN a', ?_, ?_, H5.out.1, ?_, ?_⟩
          · rw [HD.out, if_neg HX2.out]; simp
          · have := nmN_le a'; simp; omega
          · exact HE.out.trans_new ((Ext.refl (S := fun b => some b = u0.ownBlock) wr).alloc _ |>.trans H5.out.2.2) (fun b hb h => by
              rcases HN.out with hn | hn
              · rw [← hn]; exact h
              · have := hn b h.symm; omega)
          · rcases H5.out.2.1 with h | h
            · rcases HN.out with hn | hn
              · exact .inl (h.trans hn)
              · exact .inr fun b hb => hn b (h ▸ hb)
            · exact .inr fun b hb => by have := h b hb; simp at this; omega
        case measure => simp [intOf]; omega
    · have hkl : k = f.len := by omega
      have hfin : f.drop k = .nil := F.eq_nil_of_len (by rw [F.len_drop]; omega)
      have HA2 := hid (show acc ++ nmN f = acc2 by rw [HA.out, hfin]; simp [nmN])
      clear hpr hfin
      go_wp2_with fail
      go_ret
      exact ⟨⟨_, rfl, by rw [HA2.out]; exact HO.out, HN.out⟩, HE.out⟩
theorem v_names (m : Nat) : ∀ (f : F) (p : Option Addr) (c : Nat) (fa : List Nat) (acc : List (List UInt8)) (v : Value) (B : Nat) (w : World), f.size < m → RdP w f p fa → f.len ≤ c → c ≤ 9223372036854775807 → (∀ b ∈ fa, b < B) → B ≤ w.heap.size → w.ownsRow B 9 1 v acc.length (acc.map encStr) → acc.length + f.size ≤ 100000 →
      Calls Tryz.prog 111 #[v, .slice p f.len c] w (GotNames f acc v B w) := by
  induction m with
  | zero => intro f p c fa acc v B w h; omega
  | succ m ih =>
    intro f p c fa acc v B w h h1 h2 h3 h4 h5 h6 h7
    exact v_names1 m ih f p c fa acc v B w (by omega) h1 h2 h3 h4 h5 h6 h7
end Go.Proofs.YtckbhlnncokigaaGreat
