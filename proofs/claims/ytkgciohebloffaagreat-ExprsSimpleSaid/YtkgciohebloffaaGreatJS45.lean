/- Texts joined: RRul1. -/
import Derived.Test.YtkgciohebloffaaGreatJS44
import Derived.Test.YtkgciohebloffaaGreatJS13
import Derived.Test.YtkgciohebloffaaGreatJS37
import Derived.Test.YtkgciohebloffaaGreatJS32
/- Rule 1, the reference's. -/
namespace Go.Proofs.YtkgciohebloffaaGreat
open Go.RowKit

theorem numsF_length : ∀ a : F, (numsF a).length = a.len
  | .nil => rfl
  | .cons _ _ _ _ r => by simp [numsF, F.len, numsF_length r]
theorem numsF_drop : ∀ (k : Nat) (a : F), (numsF a).drop k = numsF (a.drop k)
  | 0, _ => rfl
  | _ + 1, .nil => by simp [numsF, F.drop]
  | k + 1, .cons _ _ _ _ r => by simp only [numsF, F.drop, List.drop_succ_cons]; exact numsF_drop k r
theorem take_step {α : Type} : ∀ (k : Nat) (L : List α) (x : α) (r : List α), L.drop k = x :: r → L.take (k + 1) = L.take k ++ [x]
  | 0, _, _, _, h => by simp only [List.drop_zero] at h; subst h; rfl
  | k + 1, [], _, _, h => by simp at h
  | k + 1, y :: L, x, r, h => by simp only [List.drop_succ_cons] at h; simp only [List.take_succ_cons, List.cons_append]; rw [take_step k L x r h]
/-- The numbers of the first k arguments, gathered. -/
def NumRel (L : List Int) (w : World) (k : Nat) (v : Value) (wr : World) : Prop :=
  wr.ownsRow (w.heap.size + 1) 3 1 v k ((L.take k).map (Value.int .i64)) ∧ wr.heap[w.heap.size]? = some (.cells #[.int .i64 0, .int .i64 0, .string ⟨#[]⟩, .slice none 0 0] 28 (0, 0)) ∧ Below w.heap.size w wr ∧ w.heap.size + 1 ≤ wr.heap.size
theorem num_next {L : List Int} {w wr w4 : World} {k : Nat} {v v' : Value} {x : Int} {r : List Int} (h : NumRel L w k v wr) (hd : L.drop k = x :: r) (hown : w4.ownsRow (w.heap.size + 1) 3 1 v' (k + 1) ((L.take k).map (Value.int .i64) ++ [.int .i64 x])) (e4 : Ext (fun b => some b = v.ownBlock) wr w4) :
    NumRel L w (k + 1) v' w4 := by
  obtain ⟨h1, h2, h3, h4⟩ := h
  have hne : ∀ b, b < w.heap.size + 1 → some b ≠ v.ownBlock := fun b hb e => by have := (h1.lt b e.symm).1; omega
  refine ⟨by rw [take_step k L x r hd, List.map_append]; exact hown, e4.heap h2 (hne _ (by omega)), ?_, Nat.le_trans h4 e4.size⟩
  exact ⟨e4.os.trans h3.os, e4.tape.trans h3.tape, e4.output.trans h3.output, Nat.le_trans h3.size e4.size, fun i hi => (e4.block i (by have := h3.size; omega) (hne _ (by omega))).trans (h3.block i hi)⟩

set_option maxRecDepth 100000 in
set_option maxHeartbeats 4000000 in
theorem r_rule1 (op n : Int) (s : ByteArray) (a : F) (p : Option Addr) (c : Nat) (fa : List Nat) (w : World) (hs : (F.cons op n s a .nil).Small) (hp : RdP w a p fa) (_hac : a.len ≤ c) (_hc : c ≤ 9223372036854775807) :
    Calls Tryz.prog 125 #[.int .i64 op, .slice p a.len c] w (GotRule fa (rule1 op a) w) := by
  have HP := hid hp
  have HS := hid hs
  have hal3 : a.len ≤ 3 := by
    have h1 := hs.1.2.2
    have : ar op ≤ 3 := by unfold ar; (repeat' split) <;> omega
    omega
  have hal : (a.len : Int) ≤ 3 := by omega
  obtain ⟨i0, hi0, hz0, hz1, hz2⟩ := info_parts info_int
  have HR0 := hid (show NumRel (numsF a) w 0 (.slice none 0 0) (w.alloc (.cells #[.int .i64 0, .int .i64 0, .string ⟨#[]⟩, .slice none 0 0] 28)) from ⟨World.ownsRow_nil _ _ _ _, heap_new w _, alloc_below w _, by simp⟩)
  clear hp hs
  go_enter Tryz.func125, Tryz.ntmps125
  go_wp2_with fail
  go_loopw [6, 11] (fun v i wr => ∃ (k : Nat) (u : Value), k ≤ a.len ∧ i = .int .i64 k ∧ v = u ∧ allNum a = allNum (a.drop k) ∧ NumRel (numsF a) w k u wr) (fun _ i _ => a.len - (intOf i).toNat)
  case atStart => exact ⟨0, _, by omega, rfl, rfl, rfl, HR0.out⟩
  case round =>
    obtain ⟨k, v, hk, rfl, hgv, hall, hR⟩ := hrel
    subst hgv
    have HR := hid hR
    have HAll := hid hall
    obtain ⟨hown, hbox, hbl, hz⟩ := hR
    have HO := hid hown
    have HB := hid hbl
    have hpr : RdP wr a p fa := HP.out.ext (S := fun _ => False) (Ext.of_below hbl) (fun _ _ => id)
    obtain ⟨⟨z0, z1, z2, z3⟩, f0, f1, f2, f3⟩ := blk4 hbox
    clear hown hbox hbl hall
    by_cases hlt : k < a.len
    · obtain ⟨b, o, op', n', s', a', p', c', fa', rfl, hd, y0, y1, y2, y3, _⟩ := hpr.arg hlt
      have hbw : b < wr.heap.size := World.block_lt_of_cell? _ _ y0
      have HD := hid (show (numsF a).drop k = n' :: numsF (a.drop (k + 1)) by rw [numsF_drop, hd]; rfl)
      have HN := hid (show allNum a = (op' == 1 && allNum (a.drop (k + 1))) by rw [HAll.out, allNum_drop hd])
      have E1 := hid ((Ext.refl (S := fun _ => False) wr).alloc (.cells #[.int .i64 op', .int .i64 n', .string s', .slice p' a'.len c'] 28))
      clear hd
      by_cases h1 : op' = 1
      · have e1 : (op' != 1) = false := by simp [h1]
        have HN2 := hid (show allNum a = allNum (a.drop (k + 1)) by rw [HN.out]; simp [h1])
        have HO1 := hid (ownsRow_ext (S := fun _ => False) HO.out E1.out (fun _ _ _ => id))
        clear h1
        go_wp2_with (at_builtin; refine wpList_append_lies _ rfl _ _ 22 rfl (w.heap.size + 1) 3 i0 _ 1 8 Tryz.underlying22 hi0 hz0 hz1 hz2 rfl (by decide) _ _ _ (by rfl) (HO1.out.alloc _) ⟨wr.heap.size + 1, 0, none⟩ 1 1 [.int .i64 n'] rfl rfl (World.news_of_block (by have h := heap_alloc_new (wr.alloc (.cells #[.int .i64 op', .int .i64 n', .string s', .slice p' a'.len c'] 28)) (.cells #[.int .i64 n'] 3); simpa using h)) (fun y hy => by simp at hy; subst hy; rfl) (by omega) (by unfold maxLen; omega) (by omega) (by simp; omega) (wr.heap.size + 2) (by simp) ?_; intro g cap w4 hown4 hgrow hat4 hlt4)
        have e4 : Ext (fun b => some b = u6.ownBlock) wr w4 := (E1.out.mono (fun _ _ h => h.elim)).trans (((Ext.refl _).alloc _).grown hgrow (fun b hb => .inl hb.symm))
        have HH := hid (num_next HR.out HD.out hown4 e4)
        clear hown4 hgrow hat4 hlt4 e4
        go_wp2_with fail
        go_roundw
        case rel => exact ⟨k + 1, _, by omega, by go_num, rfl, HN2.out, HH.out⟩
        case measure => simp [intOf]; omega
      · have e1 : (op' != 1) = true := by simpa using h1
        have HO2 := hid (show rule1 op a = none by unfold rule1; rw [HN.out, show (op' == 1) = false by simpa using h1]; simp)
        have hzw : w.heap.size < wr.heap.size := by omega
        clear h1
        go_wp2_with fail
        obtain ⟨W, hW, u0, u1, u2, u3, _, eW⟩ := set4_row (a0 := .int .i64 0) (a1 := .int .i64 0) (a2 := .string ⟨#[]⟩) (a3 := .slice none 0 0) (o := .cells #[.int .i64 op', .int .i64 n', .string s', .slice p' a'.len c'] 28) z0 z1 z2 z3
        rw [hW]
        exact bodyPost_ret (v := .tuple #[.agg #[.int .i64 0, .int .i64 0, .string ⟨#[]⟩, .slice none 0 0], .bool false]) (by simp [results, Tryz.results125, go_sem, u0, u1, u2, u3]) rfl (none_got HO2.out (below_at HB.out eW (by omega) (by omega)))
    · have HN2 := hid (show allNum a = true by rw [HAll.out, F.eq_nil_of_len (f := a.drop k) (by rw [F.len_drop]; omega)]; rfl)
      have hkl : k = a.len := by omega
      subst hkl
      have hzw : w.heap.size < wr.heap.size := by omega
      by_cases hnil : a.len = 0
      · have hn0 : ((a.len : Int) == 0) = true := by simp; omega
        have HO2 := hid (show rule1 op a = none by unfold rule1; rw [hnil]; rfl)
        clear hnil hpr
        go_wp2_with fail
        obtain ⟨W, hW, u0, u1, u2, u3, eW⟩ := set4_all (a0 := .int .i64 0) (a1 := .int .i64 0) (a2 := .string ⟨#[]⟩) (a3 := .slice none 0 0) z0 z1 z2 z3
        rw [hW]
        exact bodyPost_ret (v := .tuple #[.agg #[.int .i64 0, .int .i64 0, .string ⟨#[]⟩, .slice none 0 0], .bool false]) (by simp [results, Tryz.results125, go_sem, u0, u1, u2, u3]) rfl (none_got HO2.out (below_at HB.out eW (by omega) (by omega)))
      · have hn0 : ((a.len : Int) == 0) = false := by simp; omega
        have HO2 := hid (show rule1 op a = if true = true then some (numF (compV op (numsF a))) else none by unfold rule1; rw [HN2.out, show (a.len == 0) = false by simpa using hnil]; rfl)
        have hop : 3 ≤ op ∧ op ≤ 9 := by
          have h := HS.out.1
          refine ⟨?_, h.1.2⟩
          have h3 : op ≠ 1 ∧ op ≠ 2 := by
            constructor <;> (intro h'; subst h'; have h2 := h.2.2; simp [ar] at h2; omega)
          omega
        have hL : (numsF a).length = a.len := numsF_length a
        have HO3 := hid (show wr.ownsRow (w.heap.size + 1) 3 1 u6 a.len ((numsF a).map (Value.int .i64)) by
          have h := HO.out
          rw [List.take_of_length_le (by omega)] at h
          exact h)
        obtain ⟨g, ca, hv, hg, hac2, ham2, hcell, _⟩ := own_cells HO3.out (by omega)
        subst hv
        have HI := hid (show IntsAt wr g 0 (numsF a) from fun i x hx => by rw [Nat.zero_add]; exact hcell i (.int .i64 x) (by rw [List.getElem?_map, hx]; rfl))
        have HC := hid (r_computed op (numsF a) g 0 a.len ca wr hop.1 hop.2 (by rw [hL]; exact HS.out.1.2.2) hL.symm hac2 ham2 HI.out (numsF_in HS.out.2.1))
        clear hnil hpr hcell hL hop hac2 ham2
        generalize compV op (numsF a) = va at HC HO2
        go_wp2_with fail
        refine HC.out.mono ?_
        rintro e w4 ⟨rfl, hb4⟩
        have E4 := hid (Ext.of_below (S := fun _ => False) hb4)
        clear hb4
        go_wp2_with fail
        refine (r_num va _).mono ?_
        rintro e w5 ⟨rfl, hb5⟩
        have E5 := hid (E4.out.trans (Ext.of_below (S := fun _ => False) hb5))
        have HB5 := hid (below_ext HB.out E5.out (by omega))
        obtain ⟨⟨z0, z1, z2, z3⟩, f0, f1, f2, f3⟩ := blk4 (E5.out.heap HR.out.2.1 id)
        have hz5 : w.heap.size < w5.heap.size := World.block_lt_of_cell? _ _ z0
        clear hb5
        go_wp2_with fail
        obtain ⟨W, hW, u0, u1, u2, u3, eW⟩ := set4_all (a0 := .int .i64 1) (a1 := .int .i64 va) (a2 := .string ⟨#[]⟩) (a3 := .slice none 0 0) z0 z1 z2 z3
        rw [hW]
        exact bodyPost_ret (v := .tuple #[.agg #[.int .i64 1, .int .i64 va, .string ⟨#[]⟩, .slice none 0 0], .bool true]) (by simp [results, Tryz.results125, go_sem, u0, u1, u2, u3]) rfl (num_got (eq := true) HO2.out (below_at HB5.out eW (by omega) (by omega)))
end Go.Proofs.YtkgciohebloffaaGreat
