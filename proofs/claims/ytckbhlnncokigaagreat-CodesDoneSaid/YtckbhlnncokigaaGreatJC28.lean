/- Texts joined: BackW. -/
import Derived.Test.YtckbhlnncokigaaGreatJC27
/- work, the program's, at expressions. -/
namespace Go.Proofs.YtckbhlnncokigaaGreat
open Go.RowKit

def GotWorkE (L : List (Int × Int × ByteArray)) (w : World) (e : Ending) (w' : World) : Prop :=
  (∃ (op n : Int) (s : ByteArray) (a : F) (p : Option Addr) (c : Nat) (fa : List Nat) (mm : Int), e = .returned (.tuple #[.agg #[.int .i64 op, .int .i64 n, .string s, .slice p a.len c], .int .i64 mm]) ∧ bkF L .nil = .cons op n s a .nil ∧ RdP w' a p fa ∧ a.len ≤ c ∧ c ≤ 9223372036854775807 ∧ (∀ b ∈ fa, w.heap.size ≤ b) ∧ (F.cons op n s a .nil).Fits) ∧ Below w.heap.size w w'

set_option maxRecDepth 100000 in
set_option maxHeartbeats 8000000 in
theorem v_workE (L : List (Int × Int × ByteArray)) (p : Option Addr) (c : Nat) (w : World) (hp : WdP w L p) (hl : L.length ≤ 2000) (_hlc : L.length ≤ c) (_hcm : c ≤ maxLen) (hok : ∀ x ∈ L, WdOk x) (he : cErr L 0 = 0) :
    Calls Tryz.prog 91 #[.slice p L.length c, .func (.func 92) #[] #[]] w (GotWorkE L w) := by
  have HP := hid hp
  have HK := hid hok
  have hl' : (L.length : Int) ≤ 2000 := by omega
  obtain ⟨i0, hi0, hz0, hz1, hz2⟩ := info_parts info_expr
  have hal := alloc_below w (.cells #[.int .i64 0, .int .i64 0, .string ⟨#[]⟩, .slice none 0 0] 28)
  have HR0 := hid (show WeRel L (w.heap.size + 1) w 0 (.slice none 0 0) (w.alloc (.cells #[.int .i64 0, .int .i64 0, .string ⟨#[]⟩, .slice none 0 0] 28)) from ⟨.nil, [], [], rfl, he, rfl, trivial, ⟨rfl, rfl⟩, by simp, World.ownsRow_nil _ _ _ _, hal, by simp⟩)
  have HN0 := hid (heap_new w (.cells #[.int .i64 0, .int .i64 0, .string ⟨#[]⟩, .slice none 0 0] 28))
  clear hp hok he hal
  go_enter Tryz.func91, Tryz.ntmps91
  go_wp2_with fail
  go_loopw [5, 6, 13] (fun m v i wr => ∃ (k : Nat) (u : Value) (mm : Int), k ≤ L.length ∧ i = .int .i64 k ∧ v = u ∧ m = .int .i64 mm ∧ (0 ≤ mm ∧ mm ≤ k) ∧ WeRel L (w.heap.size + 1) w k u wr ∧ wr.heap[w.heap.size]? = some (.cells #[.int .i64 0, .int .i64 0, .string ⟨#[]⟩, .slice none 0 0] 28 (0, 0))) (fun _ _ i _ => L.length - (intOf i).toNat)
  case atStart => exact ⟨0, _, 0, by omega, rfl, rfl, rfl, by omega, HR0.out, HN0.out⟩
  case round =>
    obtain ⟨k, v, mm, hk, rfl, hgv, rfl, ⟨hm0, hm1⟩, ⟨st, xs, fp, hex, hce, hsz, hfit, hrd, hfp, hown, hbl, hbs⟩, hbox⟩ := hrel
    subst hgv
    have hvl : xs.length = 4 * st.len := hrd.length
    have HX := hid hex
    have HC := hid hce
    have HRd := hid hrd
    have HFp := hid hfp
    have HO := hid hown
    have HB := hid hbl
    have HFi := hid hfit
    have HBox := hid hbox
    have hsk : st.len ≤ k := by have := st.len_le_size; omega
    have hzr : w.heap.size ≤ wr.heap.size := hbl.size
    clear hex hce hrd hfp hown hbl hfit hbox
    generalize hnn : st.len = n at *
    have HNn := hid hnn
    clear hnn
    by_cases hlt : k < L.length
    · rcases HP.out with h0 | ⟨b, rfl, hat⟩
      · rw [h0] at hlt; simp at hlt
      have HA := hid (hat.ext (S := fun _ => False) (Ext.of_below HB.out) id)
      obtain ⟨c0, c1, c2⟩ := HA.out k _ (List.getElem?_eq_getElem hlt)
      have HD := hid (List.drop_eq_getElem_cons hlt)
      have HKx := hid (HK.out _ (List.getElem_mem hlt))
      generalize L[k] = x at c0 c1 c2 HD HKx
      obtain ⟨xo, xn, s⟩ := x
      dsimp only at c0 c1 c2
      have HC2 := hid (cErr_cons (show cErr ((xo, xn, s) :: L.drop (k + 1)) n = 0 by rw [← HD.out]; exact HC.out))
      have HX2 := hid (show bkF L .nil = bkF (L.drop (k + 1)) (stepF (xo, xn, s) st) by rw [HX.out, HD.out]; rfl)
      clear HX HD
      have HW := hid (wErr_zero HC2.out.1)
      obtain ⟨⟨v0, v1⟩, v2, v3⟩ := HW.out
      have hsl : (n : Int) ≤ 2000 := by omega
      have hle := HC2.out.2.1
      have hor := opsN_range xo
      dsimp only at hle
      have HAR := hid (opsN_ar v0 v1)
      obtain ⟨f, hf, hfl⟩ : ∃ f : Nat, (f : Int) = n - opsN xo ∧ f ≤ n := ⟨((n : Int) - opsN xo).toNat, by omega, by omega⟩
      have HF := hid hf
      have HQ := hid (show opn xo = (n : Int) - f by rw [opn_opsN]; omega)
      obtain ⟨ao, ca, hv, ha0, hac, ham, hcells⟩ := own_anyN HO.out
      subst hv
      have HCe := hid (And.intro ha0 hcells)
      have hca : (ca : Int) ≤ 9223372036854775807 := by unfold maxLen at ham; omega
      have hnc : (n : Int) ≤ ca := by omega
      have hfl' : (f : Int) ≤ n := by omega
      have hf0 : (0 : Int) ≤ f := by omega
      have hfn : (f : Int).toNat = f := by omega
      have hfc : (f : Int) ≤ ca := by omega
      have hsub : (n : Int) - ((n : Int) - f) = f := by omega
      have hwr : IntKind.i64.wrap (f : Int) = f := IntWalk.i64_in _ (by omega)
      have hA3 : n - f ≤ 3 := by omega
      have HA3 := hid hA3
      clear hf hle hor ha0 hcells hA3
      have HBx := hid (heap_new wr (.cells #[.int .i64 xo, .int .i64 xn, .string s] 78))
      have E1 := hid ((Ext.refl (S := fun _ => False) wr).alloc (.cells #[.int .i64 xo, .int .i64 xn, .string s] 78))
      have E1d := hid E1.out.drew
      have HZ := hid (heap_new (wr.alloc (.cells #[.int .i64 xo, .int .i64 xn, .string s] 78)) (.cells #[.int .i64 0, .int .i64 0, .string ⟨#[]⟩, .slice none 0 0] 28))
      rw [show (wr.alloc (.cells #[.int .i64 xo, .int .i64 xn, .string s] 78)).heap.size = wr.heap.size + 1 by simp] at HZ
      have E1a := hid (E1.out.alloc (.cells #[.int .i64 0, .int .i64 0, .string ⟨#[]⟩, .slice none 0 0] 28)).drew
      obtain ⟨⟨q0, q1, q2⟩, _⟩ := blk3 HBx.out
      have HQ3 := hid (And.intro q0 (And.intro q1 q2))
      have hlen : (st.drop f).len = n - f := by rw [F.len_drop, HNn.out]
      obtain ⟨fd, hfd, hfdm⟩ := HRd.out.drop f
      have HFd := hid (And.intro hfd hfdm)
      go_wp2_with fail
      refine (p_operands xo _).mono ?_
      rintro e w2 ⟨rfl, rfl⟩
      rw [HQ.out]
-- CASES
      cases ao with
      | none =>
        obtain ⟨h1, h2⟩ := HCe.out.1 rfl
        have h3 : f = 0 := by omega
        have HCall := hid (show ∀ w1, Ext (fun _ => False) wr w1 → Calls Tryz.prog 92 #[.agg #[.int .i64 xo, .int .i64 xn, .string s], .slice none (n - f) (ca - f)] w1 (GotBack xo xn s (st.drop f) fd w1) from fun w1 e1 => by
          have h := v_back1 xo xn s (st.drop f) (none) (ca - f) (xs.drop (4 * f)) fd w1 (HFd.out.1.ext e1 (fun _ _ => id)) (.inl (List.eq_nil_of_length_eq_zero (by rw [HFd.out.1.length, hlen]; omega))) (by rw [hlen]; exact HA3.out)
          rwa [hlen] at h)
        clear hlen hfd hfdm
        subst h1 h2 h3
        have HPB := hid (show ∀ pb, wr.heap.size ≤ pb → ¬ (some pb = (Value.slice none 0 0).ownBlock) from fun pb h e => by have := (HO.out.lt pb (e.symm.trans rfl)).2; omega)
        go_wp2_with fail
        go_region_held3 (fun w' => w'.cell? ⟨wr.heap.size, 0, none⟩ = some (.int .i64 xo) ∧ w'.cell? ⟨wr.heap.size, 1, none⟩ = some (.int .i64 xn) ∧ w'.cell? ⟨wr.heap.size, 2, none⟩ = some (.string s))
          (first
            | (with_reducible exact ⟨E5.out.cell_some HQ3.out.1 id, E5.out.cell_some HQ3.out.2.1 id, E5.out.cell_some HQ3.out.2.2 id⟩)
            | (with_reducible exact ⟨(E5.out.alloc _).cell_some HQ3.out.1 id, (E5.out.alloc _).cell_some HQ3.out.2.1 id, (E5.out.alloc _).cell_some HQ3.out.2.2 id⟩)
            | (with_reducible exact ⟨(set4_ext E5.out (.inr (by simp))).cell_some HQ3.out.1 id, (set4_ext E5.out (.inr (by simp))).cell_some HQ3.out.2.1 id, (set4_ext E5.out (.inr (by simp))).cell_some HQ3.out.2.2 id⟩)
            | exact ⟨HQ3.out.1, HQ3.out.2.1, HQ3.out.2.2⟩
            | exact ⟨((Ext.refl (S := fun _ => False) _).alloc _).cell_some HQ3.out.1 id, ((Ext.refl (S := fun _ => False) _).alloc _).cell_some HQ3.out.2.1 id, ((Ext.refl (S := fun _ => False) _).alloc _).cell_some HQ3.out.2.2 id⟩
            | (go_keep; done))
          (first
            | (go_at_call 92; (with_reducible refine (HCall.out _ E1d.out).mono ?_); rintro e w5 ⟨⟨q, cq, fq, rfl, h1, h2, h3, h4⟩, hb5⟩; have E5 := hid ((Ext.refl (S := fun _ => False) _).drew.trans (Ext.of_below hb5)); have HQ5 := hid (And.intro h1 (And.intro h2 (And.intro h3 h4))); clear h1 h2 h3 h4 hb5)
            | (go_at_call 92; (with_reducible refine (HCall.out _ E1a.out).mono ?_); rintro e w5 ⟨⟨q, cq, fq, rfl, h1, h2, h3, h4⟩, hb5⟩; have E5 := hid (((Ext.refl (S := fun _ => False) _).alloc _).drew.trans (Ext.of_below hb5)); have HZ5 := hid ((Ext.of_below (S := fun _ => False) hb5).heap HZ.out id); obtain ⟨⟨z0, z1, z2, z3⟩, g0, g1, g2, g3⟩ := blk4 HZ5.out; have HQ5 := hid (And.intro h1 (And.intro h2 (And.intro h3 h4))); clear h1 h2 h3 h4 hb5))
        · have EU := hid (E1.out.trans E5.out)
          have hz5 : wr.heap.size ≤ w5.heap.size := EU.out.size
          have HU := hid (And.intro (EU.out.alloc (.cells #[.int .i64 xo, .int .i64 xn, .string s, .slice q (st.drop 0).len cq] 28)) (And.intro (HQ5.out.2.2.1.ext ((Ext.refl (S := fun _ => False) w5).alloc (.cells #[.int .i64 xo, .int .i64 xn, .string s, .slice q (st.drop 0).len cq] 28)) (fun _ _ => id)) (And.intro (And.intro HQ5.out.1 HQ5.out.2.1) (And.intro (show ∀ b ∈ fq, b ∈ fp ∨ wr.heap.size ≤ b from fun b hb => (HQ5.out.2.2.2 b hb).imp (HFd.out.2 b) (fun h => by simp at h; omega)) (And.intro (heap_new w5 (.cells #[.int .i64 xo, .int .i64 xn, .string s, .slice q (st.drop 0).len cq] 28)) hz5)))))
          replace HPB := hid (HPB.out _ hz5)
          clear E5 EU HQ5 HQ3 HCall E1 E1d E1a HZ HBx q0 q1 q2
          generalize w5.heap.size = pb at *
          generalize w5.alloc (.cells #[.int .i64 xo, .int .i64 xn, .string s, .slice q (st.drop 0).len cq] 28) = w6 at *
          obtain ⟨hU1, hU2, hU3, hU4, hU5, hU6⟩ := HU.out
          have hpz : pb < w6.heap.size := (Array.getElem?_eq_some_iff.1 hU5).1
          have hw6 : wr.heap.size ≤ w6.heap.size := hU1.size
          obtain ⟨⟨z0, z1, z2, z3⟩, _⟩ := blk4 hU5
          have HZ3 := hid (And.intro z0 (And.intro z1 (And.intro z2 z3)))
          have HOT := hid (ownsRow_ext (S := fun _ => False) (own_takeN HO.out (k := 0) (by omega)) hU1 (fun _ _ _ => id))
          have HNB := hid (heap_new w6 (.cells #[.int .i64 xo, .int .i64 xn, .string s, .slice q (st.drop 0).len cq] 28))
          have E7 := hid ((Ext.refl (S := fun _ => False) w6).alloc (.cells #[.int .i64 xo, .int .i64 xn, .string s, .slice q (st.drop 0).len cq] 28)).drew
          have hf1 : 0 + 1 ≤ maxLen := by unfold maxLen; omega
          clear hU1 hU2 hU3 hU4 hU5 hU6
          go_wp2_with fail
          go_region_held3 (fun w' => w'.cell? ⟨pb, 0, none⟩ = some (.int .i64 xo) ∧ w'.cell? ⟨pb, 1, none⟩ = some (.int .i64 xn) ∧ w'.cell? ⟨pb, 2, none⟩ = some (.string s) ∧ w'.cell? ⟨pb, 3, none⟩ = some (.slice q (st.drop 0).len cq))
            (first
              | (with_reducible exact ⟨HW4.out.cell_some HZ3.out.1 HPB.out, HW4.out.cell_some HZ3.out.2.1 HPB.out, HW4.out.cell_some HZ3.out.2.2.1 HPB.out, HW4.out.cell_some HZ3.out.2.2.2 HPB.out⟩)
              | exact ⟨HZ3.out.1, HZ3.out.2.1, HZ3.out.2.2.1, HZ3.out.2.2.2⟩
              | exact ⟨E7.out.cell_some HZ3.out.1 id, E7.out.cell_some HZ3.out.2.1 id, E7.out.cell_some HZ3.out.2.2.1 id, E7.out.cell_some HZ3.out.2.2.2 id⟩
              | (go_keep; done))
            (first
              | (refine step_append_lies _ rfl _ _ 26 rfl (w.heap.size + 1) 28 i0 _ 4 56 Tryz.underlying26 hi0 hz0 hz1 hz2 rfl (by decide) _ _ _ rfl (ownsRow_ext (S := fun _ => False) HOT.out E7.out (fun _ _ _ => id)) ⟨w6.heap.size, 0, none⟩ 1 1 (exV xo xn s q (st.drop 0).len cq) rfl rfl (World.news_of_block HNB.out) (fun x hx => by simp [exV] at hx; rcases hx with rfl | rfl | rfl | rfl <;> rfl) (by omega) hf1 (by omega) (by simp <;> omega) (w6.heap.size + 1) (by simp) ?_; intro g' cap w4 hown4 hgrow hat4 hlt4; have HW4 := hid ((E7.out.mono (S' := fun b => some b = (Value.slice none 0 0).ownBlock) (fun _ _ h => h.elim)).grown hgrow (fun b hb => .inl hb.symm)); have HO4 := hid (And.intro hown4 (And.intro hat4 hlt4)); clear hown4 hgrow hat4 hlt4))
          have HH := hid (we_next (n := 0) (base := w.heap.size + 1) (v := .slice none 0 0) HX2.out HC2.out HF.out HNn.out hsz HFi.out HKx.out HRd.out HFp.out HO.out HB.out hbs (by omega) HU.out.1 HU.out.2.1 HU.out.2.2.1 HU.out.2.2.2.1 (Ext.refl _) HO4.out.1 HW4.out (HO4.out.2.1.imp id (fun h => by omega)))
          have HBn := hid (((HU.out.1.mono (S' := fun b => some b = (Value.slice none 0 0).ownBlock) (fun _ _ h => h.elim)).trans HW4.out).heap HBox.out (fun e => by have := (HO.out.lt w.heap.size e.symm).1; omega))
          go_wp2_with fail
          go_roundw
          case rel => exact ⟨k + 1, _, max mm (((0 : Nat) : Int) + 1), by omega, by go_num, rfl, rfl, by omega, HH.out, HBn.out⟩
          case measure => simp [intOf]; omega
        · have EU := hid (set4_ext (a0 := .int .i64 xo) (a1 := .int .i64 xn) (a2 := .string s) (a3 := .slice q (st.drop 0).len cq) (E1.out.trans E5.out) (b := wr.heap.size + 1) (.inr (by omega)))
          have HS6 := hid (set4_ext (S := (· = wr.heap.size + 1)) (a0 := .int .i64 xo) (a1 := .int .i64 xn) (a2 := .string s) (a3 := .slice q (st.drop 0).len cq) (Ext.refl w5) (.inl rfl))
          have HB6 := hid (set4_heap (a0 := .int .i64 xo) (a1 := .int .i64 xn) (a2 := .string s) (a3 := .slice q (st.drop 0).len cq) HZ5.out)
          have HU := hid (And.intro EU.out (And.intro (HQ5.out.2.2.1.ext HS6.out (fun b hb e => by
              rcases HQ5.out.2.2.2 b hb with h | h
              · have := HRd.out.lt b (HFd.out.2 b h); omega
              · simp at h; omega)) (And.intro (And.intro HQ5.out.1 HQ5.out.2.1) (And.intro (show ∀ b ∈ fq, b ∈ fp ∨ wr.heap.size ≤ b from fun b hb => (HQ5.out.2.2.2 b hb).imp (HFd.out.2 b) (fun h => by simp at h; omega)) (And.intro HB6.out (show wr.heap.size ≤ wr.heap.size + 1 by omega))))))
          replace HPB := hid (HPB.out (wr.heap.size + 1) (by omega))
          clear E5 EU HQ5 HQ3 HCall E1 E1d E1a HZ HZ5 HBx HS6 HB6 q0 q1 q2 z0 z1 z2 z3 g0 g1 g2 g3
          generalize hpb : wr.heap.size + 1 = pb at *
          generalize ((((w5.setCell ⟨pb, 0, none⟩ (.int .i64 xo)).setCell ⟨pb, 1, none⟩ (.int .i64 xn)).setCell ⟨pb, 2, none⟩ (.string s)).setCell ⟨pb, 3, none⟩ (.slice q (st.drop 0).len cq)) = w6 at *
          obtain ⟨hU1, hU2, hU3, hU4, hU5, hU6⟩ := HU.out
          have hpz : pb < w6.heap.size := (Array.getElem?_eq_some_iff.1 hU5).1
          have hw6 : wr.heap.size ≤ w6.heap.size := hU1.size
          obtain ⟨⟨z0, z1, z2, z3⟩, _⟩ := blk4 hU5
          have HZ3 := hid (And.intro z0 (And.intro z1 (And.intro z2 z3)))
          have HOT := hid (ownsRow_ext (S := fun _ => False) (own_takeN HO.out (k := 0) (by omega)) hU1 (fun _ _ _ => id))
          have HNB := hid (heap_new w6 (.cells #[.int .i64 xo, .int .i64 xn, .string s, .slice q (st.drop 0).len cq] 28))
          have E7 := hid ((Ext.refl (S := fun _ => False) w6).alloc (.cells #[.int .i64 xo, .int .i64 xn, .string s, .slice q (st.drop 0).len cq] 28)).drew
          have hf1 : 0 + 1 ≤ maxLen := by unfold maxLen; omega
          clear hU1 hU2 hU3 hU4 hU5 hU6
          go_wp2_with fail
          go_region_held3 (fun w' => w'.cell? ⟨pb, 0, none⟩ = some (.int .i64 xo) ∧ w'.cell? ⟨pb, 1, none⟩ = some (.int .i64 xn) ∧ w'.cell? ⟨pb, 2, none⟩ = some (.string s) ∧ w'.cell? ⟨pb, 3, none⟩ = some (.slice q (st.drop 0).len cq))
            (first
              | (with_reducible exact ⟨HW4.out.cell_some HZ3.out.1 HPB.out, HW4.out.cell_some HZ3.out.2.1 HPB.out, HW4.out.cell_some HZ3.out.2.2.1 HPB.out, HW4.out.cell_some HZ3.out.2.2.2 HPB.out⟩)
              | exact ⟨HZ3.out.1, HZ3.out.2.1, HZ3.out.2.2.1, HZ3.out.2.2.2⟩
              | exact ⟨E7.out.cell_some HZ3.out.1 id, E7.out.cell_some HZ3.out.2.1 id, E7.out.cell_some HZ3.out.2.2.1 id, E7.out.cell_some HZ3.out.2.2.2 id⟩
              | (go_keep; done))
            (first
              | (refine step_append_lies _ rfl _ _ 26 rfl (w.heap.size + 1) 28 i0 _ 4 56 Tryz.underlying26 hi0 hz0 hz1 hz2 rfl (by decide) _ _ _ rfl (ownsRow_ext (S := fun _ => False) HOT.out E7.out (fun _ _ _ => id)) ⟨w6.heap.size, 0, none⟩ 1 1 (exV xo xn s q (st.drop 0).len cq) rfl rfl (World.news_of_block HNB.out) (fun x hx => by simp [exV] at hx; rcases hx with rfl | rfl | rfl | rfl <;> rfl) (by omega) hf1 (by omega) (by simp <;> omega) (w6.heap.size + 1) (by simp) ?_; intro g' cap w4 hown4 hgrow hat4 hlt4; have HW4 := hid ((E7.out.mono (S' := fun b => some b = (Value.slice none 0 0).ownBlock) (fun _ _ h => h.elim)).grown hgrow (fun b hb => .inl hb.symm)); have HO4 := hid (And.intro hown4 (And.intro hat4 hlt4)); clear hown4 hgrow hat4 hlt4))
          have HH := hid (we_next (n := 0) (base := w.heap.size + 1) (v := .slice none 0 0) HX2.out HC2.out HF.out HNn.out hsz HFi.out HKx.out HRd.out HFp.out HO.out HB.out hbs (by omega) HU.out.1 HU.out.2.1 HU.out.2.2.1 HU.out.2.2.2.1 (Ext.refl _) HO4.out.1 HW4.out (HO4.out.2.1.imp id (fun h => by omega)))
          have HBn := hid (((HU.out.1.mono (S' := fun b => some b = (Value.slice none 0 0).ownBlock) (fun _ _ h => h.elim)).trans HW4.out).heap HBox.out (fun e => by have := (HO.out.lt w.heap.size e.symm).1; omega))
          go_wp2_with fail
          go_roundw
          case rel => exact ⟨k + 1, _, max mm (((0 : Nat) : Int) + 1), by omega, by go_num, rfl, rfl, by omega, HH.out, HBn.out⟩
          case measure => simp [intOf]; omega
      | some bb =>
        obtain ⟨g, rfl, hgb, hcells⟩ := HCe.out.2 bb rfl
        by_cases hfull : ca = f
        · obtain rfl : f = ca := by omega
          obtain rfl : f = n := by omega
          have HCall := hid (show ∀ w1, Ext (fun _ => False) wr w1 → Calls Tryz.prog 92 #[.agg #[.int .i64 xo, .int .i64 xn, .string s], .slice (some ⟨g, 0, none⟩) (f - f) (f - f)] w1 (GotBack xo xn s (st.drop f) fd w1) from fun w1 e1 => by
            have h := v_back1 xo xn s (st.drop f) ((some ⟨g, 0, none⟩)) (f - f) (xs.drop (4 * f)) fd w1 (HFd.out.1.ext e1 (fun _ _ => id)) (.inl (List.eq_nil_of_length_eq_zero (by rw [HFd.out.1.length, hlen]; omega))) (by rw [hlen]; exact HA3.out)
            rwa [hlen] at h)
          clear hlen hfd hfdm
          rw [Nat.sub_self] at HCall
          clear hcells hfull
          have HPB := hid (show ∀ pb, wr.heap.size ≤ pb → ¬ (some pb = (Value.slice (some ⟨g, 0, none⟩) f f).ownBlock) from fun pb h e => by have := (HO.out.lt pb (e.symm.trans rfl)).2; omega)
          go_wp2_with fail
          go_region_held3 (fun w' => w'.cell? ⟨wr.heap.size, 0, none⟩ = some (.int .i64 xo) ∧ w'.cell? ⟨wr.heap.size, 1, none⟩ = some (.int .i64 xn) ∧ w'.cell? ⟨wr.heap.size, 2, none⟩ = some (.string s))
            (first
              | (with_reducible exact ⟨E5.out.cell_some HQ3.out.1 id, E5.out.cell_some HQ3.out.2.1 id, E5.out.cell_some HQ3.out.2.2 id⟩)
              | (with_reducible exact ⟨(E5.out.alloc _).cell_some HQ3.out.1 id, (E5.out.alloc _).cell_some HQ3.out.2.1 id, (E5.out.alloc _).cell_some HQ3.out.2.2 id⟩)
              | (with_reducible exact ⟨(set4_ext E5.out (.inr (by simp))).cell_some HQ3.out.1 id, (set4_ext E5.out (.inr (by simp))).cell_some HQ3.out.2.1 id, (set4_ext E5.out (.inr (by simp))).cell_some HQ3.out.2.2 id⟩)
              | exact ⟨HQ3.out.1, HQ3.out.2.1, HQ3.out.2.2⟩
              | exact ⟨((Ext.refl (S := fun _ => False) _).alloc _).cell_some HQ3.out.1 id, ((Ext.refl (S := fun _ => False) _).alloc _).cell_some HQ3.out.2.1 id, ((Ext.refl (S := fun _ => False) _).alloc _).cell_some HQ3.out.2.2 id⟩
              | (go_keep; done))
            (first
              | (go_at_call 92; (with_reducible refine (HCall.out _ E1d.out).mono ?_); rintro e w5 ⟨⟨q, cq, fq, rfl, h1, h2, h3, h4⟩, hb5⟩; have E5 := hid ((Ext.refl (S := fun _ => False) _).drew.trans (Ext.of_below hb5)); have HQ5 := hid (And.intro h1 (And.intro h2 (And.intro h3 h4))); clear h1 h2 h3 h4 hb5)
              | (go_at_call 92; (with_reducible refine (HCall.out _ E1a.out).mono ?_); rintro e w5 ⟨⟨q, cq, fq, rfl, h1, h2, h3, h4⟩, hb5⟩; have E5 := hid (((Ext.refl (S := fun _ => False) _).alloc _).drew.trans (Ext.of_below hb5)); have HZ5 := hid ((Ext.of_below (S := fun _ => False) hb5).heap HZ.out id); obtain ⟨⟨z0, z1, z2, z3⟩, g0, g1, g2, g3⟩ := blk4 HZ5.out; have HQ5 := hid (And.intro h1 (And.intro h2 (And.intro h3 h4))); clear h1 h2 h3 h4 hb5))
          · have EU := hid (E1.out.trans E5.out)
            have hz5 : wr.heap.size ≤ w5.heap.size := EU.out.size
            have HU := hid (And.intro (EU.out.alloc (.cells #[.int .i64 xo, .int .i64 xn, .string s, .slice q (st.drop f).len cq] 28)) (And.intro (HQ5.out.2.2.1.ext ((Ext.refl (S := fun _ => False) w5).alloc (.cells #[.int .i64 xo, .int .i64 xn, .string s, .slice q (st.drop f).len cq] 28)) (fun _ _ => id)) (And.intro (And.intro HQ5.out.1 HQ5.out.2.1) (And.intro (show ∀ b ∈ fq, b ∈ fp ∨ wr.heap.size ≤ b from fun b hb => (HQ5.out.2.2.2 b hb).imp (HFd.out.2 b) (fun h => by simp at h; omega)) (And.intro (heap_new w5 (.cells #[.int .i64 xo, .int .i64 xn, .string s, .slice q (st.drop f).len cq] 28)) hz5)))))
            replace HPB := hid (HPB.out _ hz5)
            clear E5 EU HQ5 HQ3 HCall E1 E1d E1a HZ HBx q0 q1 q2
            generalize w5.heap.size = pb at *
            generalize w5.alloc (.cells #[.int .i64 xo, .int .i64 xn, .string s, .slice q (st.drop f).len cq] 28) = w6 at *
            obtain ⟨hU1, hU2, hU3, hU4, hU5, hU6⟩ := HU.out
            have hpz : pb < w6.heap.size := (Array.getElem?_eq_some_iff.1 hU5).1
            have hw6 : wr.heap.size ≤ w6.heap.size := hU1.size
            obtain ⟨⟨z0, z1, z2, z3⟩, _⟩ := blk4 hU5
            have HZ3 := hid (And.intro z0 (And.intro z1 (And.intro z2 z3)))
            have HOT := hid (ownsRow_ext (S := fun _ => False) (own_takeN HO.out (k := f) (by omega)) hU1 (fun _ _ _ => id))
            have HNB := hid (heap_new w6 (.cells #[.int .i64 xo, .int .i64 xn, .string s, .slice q (st.drop f).len cq] 28))
            have E7 := hid ((Ext.refl (S := fun _ => False) w6).alloc (.cells #[.int .i64 xo, .int .i64 xn, .string s, .slice q (st.drop f).len cq] 28)).drew
            have hf1 : f + 1 ≤ maxLen := by unfold maxLen; omega
            clear hU1 hU2 hU3 hU4 hU5 hU6
            go_wp2_with fail
            go_region_held3 (fun w' => w'.cell? ⟨pb, 0, none⟩ = some (.int .i64 xo) ∧ w'.cell? ⟨pb, 1, none⟩ = some (.int .i64 xn) ∧ w'.cell? ⟨pb, 2, none⟩ = some (.string s) ∧ w'.cell? ⟨pb, 3, none⟩ = some (.slice q (st.drop f).len cq))
              (first
                | (with_reducible exact ⟨HW4.out.cell_some HZ3.out.1 HPB.out, HW4.out.cell_some HZ3.out.2.1 HPB.out, HW4.out.cell_some HZ3.out.2.2.1 HPB.out, HW4.out.cell_some HZ3.out.2.2.2 HPB.out⟩)
                | exact ⟨HZ3.out.1, HZ3.out.2.1, HZ3.out.2.2.1, HZ3.out.2.2.2⟩
                | exact ⟨E7.out.cell_some HZ3.out.1 id, E7.out.cell_some HZ3.out.2.1 id, E7.out.cell_some HZ3.out.2.2.1 id, E7.out.cell_some HZ3.out.2.2.2 id⟩
                | (go_keep; done))
              (first
                | (refine step_append_lies _ rfl _ _ 26 rfl (w.heap.size + 1) 28 i0 _ 4 56 Tryz.underlying26 hi0 hz0 hz1 hz2 rfl (by decide) _ _ _ rfl (ownsRow_ext (S := fun _ => False) HOT.out E7.out (fun _ _ _ => id)) ⟨w6.heap.size, 0, none⟩ 1 1 (exV xo xn s q (st.drop f).len cq) rfl rfl (World.news_of_block HNB.out) (fun x hx => by simp [exV] at hx; rcases hx with rfl | rfl | rfl | rfl <;> rfl) (by omega) hf1 (by omega) (by simp <;> omega) (w6.heap.size + 1) (by simp) ?_; intro g' cap w4 hown4 hgrow hat4 hlt4; have HW4 := hid ((E7.out.mono (S' := fun b => some b = (Value.slice (some ⟨g, 0, none⟩) f f).ownBlock) (fun _ _ h => h.elim)).grown hgrow (fun b hb => .inl hb.symm)); have HO4 := hid (And.intro hown4 (And.intro hat4 hlt4)); clear hown4 hgrow hat4 hlt4))
            have HH := hid (we_next (n := f) (base := w.heap.size + 1) (v := .slice (some ⟨g, 0, none⟩) f f) HX2.out HC2.out HF.out HNn.out hsz HFi.out HKx.out HRd.out HFp.out HO.out HB.out hbs (by omega) HU.out.1 HU.out.2.1 HU.out.2.2.1 HU.out.2.2.2.1 (Ext.refl _) HO4.out.1 HW4.out (HO4.out.2.1.imp id (fun h => by omega)))
            have HBn := hid (((HU.out.1.mono (S' := fun b => some b = (Value.slice (some ⟨g, 0, none⟩) f f).ownBlock) (fun _ _ h => h.elim)).trans HW4.out).heap HBox.out (fun e => by have := (HO.out.lt w.heap.size e.symm).1; omega))
            go_wp2_with fail
            go_roundw
            case rel => exact ⟨k + 1, _, max mm (((f : Nat) : Int) + 1), by omega, by go_num, rfl, rfl, by omega, HH.out, HBn.out⟩
            case measure => simp [intOf]; omega
          · have EU := hid (set4_ext (a0 := .int .i64 xo) (a1 := .int .i64 xn) (a2 := .string s) (a3 := .slice q (st.drop f).len cq) (E1.out.trans E5.out) (b := wr.heap.size + 1) (.inr (by omega)))
            have HS6 := hid (set4_ext (S := (· = wr.heap.size + 1)) (a0 := .int .i64 xo) (a1 := .int .i64 xn) (a2 := .string s) (a3 := .slice q (st.drop f).len cq) (Ext.refl w5) (.inl rfl))
            have HB6 := hid (set4_heap (a0 := .int .i64 xo) (a1 := .int .i64 xn) (a2 := .string s) (a3 := .slice q (st.drop f).len cq) HZ5.out)
            have HU := hid (And.intro EU.out (And.intro (HQ5.out.2.2.1.ext HS6.out (fun b hb e => by
                rcases HQ5.out.2.2.2 b hb with h | h
                · have := HRd.out.lt b (HFd.out.2 b h); omega
                · simp at h; omega)) (And.intro (And.intro HQ5.out.1 HQ5.out.2.1) (And.intro (show ∀ b ∈ fq, b ∈ fp ∨ wr.heap.size ≤ b from fun b hb => (HQ5.out.2.2.2 b hb).imp (HFd.out.2 b) (fun h => by simp at h; omega)) (And.intro HB6.out (show wr.heap.size ≤ wr.heap.size + 1 by omega))))))
            replace HPB := hid (HPB.out (wr.heap.size + 1) (by omega))
            clear E5 EU HQ5 HQ3 HCall E1 E1d E1a HZ HZ5 HBx HS6 HB6 q0 q1 q2 z0 z1 z2 z3 g0 g1 g2 g3
            generalize hpb : wr.heap.size + 1 = pb at *
            generalize ((((w5.setCell ⟨pb, 0, none⟩ (.int .i64 xo)).setCell ⟨pb, 1, none⟩ (.int .i64 xn)).setCell ⟨pb, 2, none⟩ (.string s)).setCell ⟨pb, 3, none⟩ (.slice q (st.drop f).len cq)) = w6 at *
            obtain ⟨hU1, hU2, hU3, hU4, hU5, hU6⟩ := HU.out
            have hpz : pb < w6.heap.size := (Array.getElem?_eq_some_iff.1 hU5).1
            have hw6 : wr.heap.size ≤ w6.heap.size := hU1.size
            obtain ⟨⟨z0, z1, z2, z3⟩, _⟩ := blk4 hU5
            have HZ3 := hid (And.intro z0 (And.intro z1 (And.intro z2 z3)))
            have HOT := hid (ownsRow_ext (S := fun _ => False) (own_takeN HO.out (k := f) (by omega)) hU1 (fun _ _ _ => id))
            have HNB := hid (heap_new w6 (.cells #[.int .i64 xo, .int .i64 xn, .string s, .slice q (st.drop f).len cq] 28))
            have E7 := hid ((Ext.refl (S := fun _ => False) w6).alloc (.cells #[.int .i64 xo, .int .i64 xn, .string s, .slice q (st.drop f).len cq] 28)).drew
            have hf1 : f + 1 ≤ maxLen := by unfold maxLen; omega
            clear hU1 hU2 hU3 hU4 hU5 hU6
            go_wp2_with fail
            go_region_held3 (fun w' => w'.cell? ⟨pb, 0, none⟩ = some (.int .i64 xo) ∧ w'.cell? ⟨pb, 1, none⟩ = some (.int .i64 xn) ∧ w'.cell? ⟨pb, 2, none⟩ = some (.string s) ∧ w'.cell? ⟨pb, 3, none⟩ = some (.slice q (st.drop f).len cq))
              (first
                | (with_reducible exact ⟨HW4.out.cell_some HZ3.out.1 HPB.out, HW4.out.cell_some HZ3.out.2.1 HPB.out, HW4.out.cell_some HZ3.out.2.2.1 HPB.out, HW4.out.cell_some HZ3.out.2.2.2 HPB.out⟩)
                | exact ⟨HZ3.out.1, HZ3.out.2.1, HZ3.out.2.2.1, HZ3.out.2.2.2⟩
                | exact ⟨E7.out.cell_some HZ3.out.1 id, E7.out.cell_some HZ3.out.2.1 id, E7.out.cell_some HZ3.out.2.2.1 id, E7.out.cell_some HZ3.out.2.2.2 id⟩
                | (go_keep; done))
              (first
                | (refine step_append_lies _ rfl _ _ 26 rfl (w.heap.size + 1) 28 i0 _ 4 56 Tryz.underlying26 hi0 hz0 hz1 hz2 rfl (by decide) _ _ _ rfl (ownsRow_ext (S := fun _ => False) HOT.out E7.out (fun _ _ _ => id)) ⟨w6.heap.size, 0, none⟩ 1 1 (exV xo xn s q (st.drop f).len cq) rfl rfl (World.news_of_block HNB.out) (fun x hx => by simp [exV] at hx; rcases hx with rfl | rfl | rfl | rfl <;> rfl) (by omega) hf1 (by omega) (by simp <;> omega) (w6.heap.size + 1) (by simp) ?_; intro g' cap w4 hown4 hgrow hat4 hlt4; have HW4 := hid ((E7.out.mono (S' := fun b => some b = (Value.slice (some ⟨g, 0, none⟩) f f).ownBlock) (fun _ _ h => h.elim)).grown hgrow (fun b hb => .inl hb.symm)); have HO4 := hid (And.intro hown4 (And.intro hat4 hlt4)); clear hown4 hgrow hat4 hlt4))
            have HH := hid (we_next (n := f) (base := w.heap.size + 1) (v := .slice (some ⟨g, 0, none⟩) f f) HX2.out HC2.out HF.out HNn.out hsz HFi.out HKx.out HRd.out HFp.out HO.out HB.out hbs (by omega) HU.out.1 HU.out.2.1 HU.out.2.2.1 HU.out.2.2.2.1 (Ext.refl _) HO4.out.1 HW4.out (HO4.out.2.1.imp id (fun h => by omega)))
            have HBn := hid (((HU.out.1.mono (S' := fun b => some b = (Value.slice (some ⟨g, 0, none⟩) f f).ownBlock) (fun _ _ h => h.elim)).trans HW4.out).heap HBox.out (fun e => by have := (HO.out.lt w.heap.size e.symm).1; omega))
            go_wp2_with fail
            go_roundw
            case rel => exact ⟨k + 1, _, max mm (((f : Nat) : Int) + 1), by omega, by go_num, rfl, rfl, by omega, HH.out, HBn.out⟩
            case measure => simp [intOf]; omega
        · skip
          have HCall := hid (show ∀ w1, Ext (fun _ => False) wr w1 → Calls Tryz.prog 92 #[.agg #[.int .i64 xo, .int .i64 xn, .string s], .slice (some ⟨g, f * 4, none⟩) (n - f) (ca - f)] w1 (GotBack xo xn s (st.drop f) fd w1) from fun w1 e1 => by
            have h := v_back1 xo xn s (st.drop f) ((some ⟨g, f * 4, none⟩)) (ca - f) (xs.drop (4 * f)) fd w1 (HFd.out.1.ext e1 (fun _ _ => id)) ((own_drop hcells rfl).ext e1 (fun _ _ => id)) (by rw [hlen]; exact HA3.out)
            rwa [hlen] at h)
          clear hlen hfd hfdm
          clear hcells
          have HPB := hid (show ∀ pb, wr.heap.size ≤ pb → ¬ (some pb = (Value.slice (some ⟨g, 0, none⟩) f ca).ownBlock) from fun pb h e => by have := (HO.out.lt pb (e.symm.trans rfl)).2; omega)
          go_wp2_with fail
          go_region_held3 (fun w' => w'.cell? ⟨wr.heap.size, 0, none⟩ = some (.int .i64 xo) ∧ w'.cell? ⟨wr.heap.size, 1, none⟩ = some (.int .i64 xn) ∧ w'.cell? ⟨wr.heap.size, 2, none⟩ = some (.string s))
            (first
              | (with_reducible exact ⟨E5.out.cell_some HQ3.out.1 id, E5.out.cell_some HQ3.out.2.1 id, E5.out.cell_some HQ3.out.2.2 id⟩)
              | (with_reducible exact ⟨(E5.out.alloc _).cell_some HQ3.out.1 id, (E5.out.alloc _).cell_some HQ3.out.2.1 id, (E5.out.alloc _).cell_some HQ3.out.2.2 id⟩)
              | (with_reducible exact ⟨(set4_ext E5.out (.inr (by simp))).cell_some HQ3.out.1 id, (set4_ext E5.out (.inr (by simp))).cell_some HQ3.out.2.1 id, (set4_ext E5.out (.inr (by simp))).cell_some HQ3.out.2.2 id⟩)
              | exact ⟨HQ3.out.1, HQ3.out.2.1, HQ3.out.2.2⟩
              | exact ⟨((Ext.refl (S := fun _ => False) _).alloc _).cell_some HQ3.out.1 id, ((Ext.refl (S := fun _ => False) _).alloc _).cell_some HQ3.out.2.1 id, ((Ext.refl (S := fun _ => False) _).alloc _).cell_some HQ3.out.2.2 id⟩
              | (go_keep; done))
            (first
              | (go_at_call 92; (with_reducible refine (HCall.out _ E1d.out).mono ?_); rintro e w5 ⟨⟨q, cq, fq, rfl, h1, h2, h3, h4⟩, hb5⟩; have E5 := hid ((Ext.refl (S := fun _ => False) _).drew.trans (Ext.of_below hb5)); have HQ5 := hid (And.intro h1 (And.intro h2 (And.intro h3 h4))); clear h1 h2 h3 h4 hb5)
              | (go_at_call 92; (with_reducible refine (HCall.out _ E1a.out).mono ?_); rintro e w5 ⟨⟨q, cq, fq, rfl, h1, h2, h3, h4⟩, hb5⟩; have E5 := hid (((Ext.refl (S := fun _ => False) _).alloc _).drew.trans (Ext.of_below hb5)); have HZ5 := hid ((Ext.of_below (S := fun _ => False) hb5).heap HZ.out id); obtain ⟨⟨z0, z1, z2, z3⟩, g0, g1, g2, g3⟩ := blk4 HZ5.out; have HQ5 := hid (And.intro h1 (And.intro h2 (And.intro h3 h4))); clear h1 h2 h3 h4 hb5))
          · have EU := hid (E1.out.trans E5.out)
            have hz5 : wr.heap.size ≤ w5.heap.size := EU.out.size
            have HU := hid (And.intro (EU.out.alloc (.cells #[.int .i64 xo, .int .i64 xn, .string s, .slice q (st.drop f).len cq] 28)) (And.intro (HQ5.out.2.2.1.ext ((Ext.refl (S := fun _ => False) w5).alloc (.cells #[.int .i64 xo, .int .i64 xn, .string s, .slice q (st.drop f).len cq] 28)) (fun _ _ => id)) (And.intro (And.intro HQ5.out.1 HQ5.out.2.1) (And.intro (show ∀ b ∈ fq, b ∈ fp ∨ wr.heap.size ≤ b from fun b hb => (HQ5.out.2.2.2 b hb).imp (HFd.out.2 b) (fun h => by simp at h; omega)) (And.intro (heap_new w5 (.cells #[.int .i64 xo, .int .i64 xn, .string s, .slice q (st.drop f).len cq] 28)) hz5)))))
            replace HPB := hid (HPB.out _ hz5)
            clear E5 EU HQ5 HQ3 HCall E1 E1d E1a HZ HBx q0 q1 q2
            generalize w5.heap.size = pb at *
            generalize w5.alloc (.cells #[.int .i64 xo, .int .i64 xn, .string s, .slice q (st.drop f).len cq] 28) = w6 at *
            obtain ⟨hU1, hU2, hU3, hU4, hU5, hU6⟩ := HU.out
            have hpz : pb < w6.heap.size := (Array.getElem?_eq_some_iff.1 hU5).1
            have hw6 : wr.heap.size ≤ w6.heap.size := hU1.size
            obtain ⟨⟨z0, z1, z2, z3⟩, _⟩ := blk4 hU5
            have HZ3 := hid (And.intro z0 (And.intro z1 (And.intro z2 z3)))
            have HOT := hid (ownsRow_ext (S := fun _ => False) (own_takeN HO.out (k := f) (by omega)) hU1 (fun _ _ _ => id))
            have HNB := hid (heap_new w6 (.cells #[.int .i64 xo, .int .i64 xn, .string s, .slice q (st.drop f).len cq] 28))
            have E7 := hid ((Ext.refl (S := fun _ => False) w6).alloc (.cells #[.int .i64 xo, .int .i64 xn, .string s, .slice q (st.drop f).len cq] 28)).drew
            have hf1 : f + 1 ≤ maxLen := by unfold maxLen; omega
            clear hU1 hU2 hU3 hU4 hU5 hU6
            go_wp2_with fail
            go_region_held3 (fun w' => w'.cell? ⟨pb, 0, none⟩ = some (.int .i64 xo) ∧ w'.cell? ⟨pb, 1, none⟩ = some (.int .i64 xn) ∧ w'.cell? ⟨pb, 2, none⟩ = some (.string s) ∧ w'.cell? ⟨pb, 3, none⟩ = some (.slice q (st.drop f).len cq))
              (first
                | (with_reducible exact ⟨HW4.out.cell_some HZ3.out.1 HPB.out, HW4.out.cell_some HZ3.out.2.1 HPB.out, HW4.out.cell_some HZ3.out.2.2.1 HPB.out, HW4.out.cell_some HZ3.out.2.2.2 HPB.out⟩)
                | exact ⟨HZ3.out.1, HZ3.out.2.1, HZ3.out.2.2.1, HZ3.out.2.2.2⟩
                | exact ⟨E7.out.cell_some HZ3.out.1 id, E7.out.cell_some HZ3.out.2.1 id, E7.out.cell_some HZ3.out.2.2.1 id, E7.out.cell_some HZ3.out.2.2.2 id⟩
                | (go_keep; done))
              (first
                | (refine step_append_lies _ rfl _ _ 26 rfl (w.heap.size + 1) 28 i0 _ 4 56 Tryz.underlying26 hi0 hz0 hz1 hz2 rfl (by decide) _ _ _ rfl (ownsRow_ext (S := fun _ => False) HOT.out E7.out (fun _ _ _ => id)) ⟨w6.heap.size, 0, none⟩ 1 1 (exV xo xn s q (st.drop f).len cq) rfl rfl (World.news_of_block HNB.out) (fun x hx => by simp [exV] at hx; rcases hx with rfl | rfl | rfl | rfl <;> rfl) (by omega) hf1 (by omega) (by simp <;> omega) (w6.heap.size + 1) (by simp) ?_; intro g' cap w4 hown4 hgrow hat4 hlt4; have HW4 := hid ((E7.out.mono (S' := fun b => some b = (Value.slice (some ⟨g, 0, none⟩) f ca).ownBlock) (fun _ _ h => h.elim)).grown hgrow (fun b hb => .inl hb.symm)); have HO4 := hid (And.intro hown4 (And.intro hat4 hlt4)); clear hown4 hgrow hat4 hlt4))
            have HH := hid (we_next (n := n) (base := w.heap.size + 1) (v := .slice (some ⟨g, 0, none⟩) n ca) HX2.out HC2.out HF.out HNn.out hsz HFi.out HKx.out HRd.out HFp.out HO.out HB.out hbs (by omega) HU.out.1 HU.out.2.1 HU.out.2.2.1 HU.out.2.2.2.1 (Ext.refl _) HO4.out.1 HW4.out (HO4.out.2.1.imp id (fun h => by omega)))
            have HBn := hid (((HU.out.1.mono (S' := fun b => some b = (Value.slice (some ⟨g, 0, none⟩) n ca).ownBlock) (fun _ _ h => h.elim)).trans HW4.out).heap HBox.out (fun e => by have := (HO.out.lt w.heap.size e.symm).1; omega))
            go_wp2_with fail
            go_roundw
            case rel => exact ⟨k + 1, _, max mm (((f : Nat) : Int) + 1), by omega, by go_num, rfl, rfl, by omega, HH.out, HBn.out⟩
            case measure => simp [intOf]; omega
          · have EU := hid (set4_ext (a0 := .int .i64 xo) (a1 := .int .i64 xn) (a2 := .string s) (a3 := .slice q (st.drop f).len cq) (E1.out.trans E5.out) (b := wr.heap.size + 1) (.inr (by omega)))
            have HS6 := hid (set4_ext (S := (· = wr.heap.size + 1)) (a0 := .int .i64 xo) (a1 := .int .i64 xn) (a2 := .string s) (a3 := .slice q (st.drop f).len cq) (Ext.refl w5) (.inl rfl))
            have HB6 := hid (set4_heap (a0 := .int .i64 xo) (a1 := .int .i64 xn) (a2 := .string s) (a3 := .slice q (st.drop f).len cq) HZ5.out)
            have HU := hid (And.intro EU.out (And.intro (HQ5.out.2.2.1.ext HS6.out (fun b hb e => by
                rcases HQ5.out.2.2.2 b hb with h | h
                · have := HRd.out.lt b (HFd.out.2 b h); omega
                · simp at h; omega)) (And.intro (And.intro HQ5.out.1 HQ5.out.2.1) (And.intro (show ∀ b ∈ fq, b ∈ fp ∨ wr.heap.size ≤ b from fun b hb => (HQ5.out.2.2.2 b hb).imp (HFd.out.2 b) (fun h => by simp at h; omega)) (And.intro HB6.out (show wr.heap.size ≤ wr.heap.size + 1 by omega))))))
            replace HPB := hid (HPB.out (wr.heap.size + 1) (by omega))
            clear E5 EU HQ5 HQ3 HCall E1 E1d E1a HZ HZ5 HBx HS6 HB6 q0 q1 q2 z0 z1 z2 z3 g0 g1 g2 g3
            generalize hpb : wr.heap.size + 1 = pb at *
            generalize ((((w5.setCell ⟨pb, 0, none⟩ (.int .i64 xo)).setCell ⟨pb, 1, none⟩ (.int .i64 xn)).setCell ⟨pb, 2, none⟩ (.string s)).setCell ⟨pb, 3, none⟩ (.slice q (st.drop f).len cq)) = w6 at *
            obtain ⟨hU1, hU2, hU3, hU4, hU5, hU6⟩ := HU.out
            have hpz : pb < w6.heap.size := (Array.getElem?_eq_some_iff.1 hU5).1
            have hw6 : wr.heap.size ≤ w6.heap.size := hU1.size
            obtain ⟨⟨z0, z1, z2, z3⟩, _⟩ := blk4 hU5
            have HZ3 := hid (And.intro z0 (And.intro z1 (And.intro z2 z3)))
            have HOT := hid (ownsRow_ext (S := fun _ => False) (own_takeN HO.out (k := f) (by omega)) hU1 (fun _ _ _ => id))
            have HNB := hid (heap_new w6 (.cells #[.int .i64 xo, .int .i64 xn, .string s, .slice q (st.drop f).len cq] 28))
            have E7 := hid ((Ext.refl (S := fun _ => False) w6).alloc (.cells #[.int .i64 xo, .int .i64 xn, .string s, .slice q (st.drop f).len cq] 28)).drew
            have hf1 : f + 1 ≤ maxLen := by unfold maxLen; omega
            clear hU1 hU2 hU3 hU4 hU5 hU6
            go_wp2_with fail
            go_region_held3 (fun w' => w'.cell? ⟨pb, 0, none⟩ = some (.int .i64 xo) ∧ w'.cell? ⟨pb, 1, none⟩ = some (.int .i64 xn) ∧ w'.cell? ⟨pb, 2, none⟩ = some (.string s) ∧ w'.cell? ⟨pb, 3, none⟩ = some (.slice q (st.drop f).len cq))
              (first
                | (with_reducible exact ⟨HW4.out.cell_some HZ3.out.1 HPB.out, HW4.out.cell_some HZ3.out.2.1 HPB.out, HW4.out.cell_some HZ3.out.2.2.1 HPB.out, HW4.out.cell_some HZ3.out.2.2.2 HPB.out⟩)
                | exact ⟨HZ3.out.1, HZ3.out.2.1, HZ3.out.2.2.1, HZ3.out.2.2.2⟩
                | exact ⟨E7.out.cell_some HZ3.out.1 id, E7.out.cell_some HZ3.out.2.1 id, E7.out.cell_some HZ3.out.2.2.1 id, E7.out.cell_some HZ3.out.2.2.2 id⟩
                | (go_keep; done))
              (first
                | (refine step_append_lies _ rfl _ _ 26 rfl (w.heap.size + 1) 28 i0 _ 4 56 Tryz.underlying26 hi0 hz0 hz1 hz2 rfl (by decide) _ _ _ rfl (ownsRow_ext (S := fun _ => False) HOT.out E7.out (fun _ _ _ => id)) ⟨w6.heap.size, 0, none⟩ 1 1 (exV xo xn s q (st.drop f).len cq) rfl rfl (World.news_of_block HNB.out) (fun x hx => by simp [exV] at hx; rcases hx with rfl | rfl | rfl | rfl <;> rfl) (by omega) hf1 (by omega) (by simp <;> omega) (w6.heap.size + 1) (by simp) ?_; intro g' cap w4 hown4 hgrow hat4 hlt4; have HW4 := hid ((E7.out.mono (S' := fun b => some b = (Value.slice (some ⟨g, 0, none⟩) f ca).ownBlock) (fun _ _ h => h.elim)).grown hgrow (fun b hb => .inl hb.symm)); have HO4 := hid (And.intro hown4 (And.intro hat4 hlt4)); clear hown4 hgrow hat4 hlt4))
            have HH := hid (we_next (n := n) (base := w.heap.size + 1) (v := .slice (some ⟨g, 0, none⟩) n ca) HX2.out HC2.out HF.out HNn.out hsz HFi.out HKx.out HRd.out HFp.out HO.out HB.out hbs (by omega) HU.out.1 HU.out.2.1 HU.out.2.2.1 HU.out.2.2.2.1 (Ext.refl _) HO4.out.1 HW4.out (HO4.out.2.1.imp id (fun h => by omega)))
            have HBn := hid (((HU.out.1.mono (S' := fun b => some b = (Value.slice (some ⟨g, 0, none⟩) n ca).ownBlock) (fun _ _ h => h.elim)).trans HW4.out).heap HBox.out (fun e => by have := (HO.out.lt w.heap.size e.symm).1; omega))
            go_wp2_with fail
            go_roundw
            case rel => exact ⟨k + 1, _, max mm (((f : Nat) : Int) + 1), by omega, by go_num, rfl, rfl, by omega, HH.out, HBn.out⟩
            case measure => simp [intOf]; omega
    · have hf : L.drop k = [] := List.drop_eq_nil_of_le (by omega)
      have hc0 := HC.out
      rw [hf] at hc0
      have hl1 : n = 1 := by
        unfold cErr at hc0
        split at hc0
        · cases hc0
        · rename_i h; simp at h; omega
      subst hl1
      obtain ⟨op, nn, s, a, r, rfl⟩ : ∃ op nn s a r, st = F.cons op nn s a r := by
        cases st with
        | nil => have := HNn.out; simp [F.len] at this
        | cons op nn s a r => exact ⟨op, nn, s, a, r, rfl⟩
      obtain rfl : r = .nil := F.eq_nil_of_len (by have := HNn.out; simp only [F.len] at this; omega)
      obtain ⟨p1, c1, fa, fr, xr, rfl, rfl, hac, hcm, ⟨rfl, rfl⟩, hra⟩ := RdV.cons_iff.1 HRd.out
      have HXE := hid (show bkF L .nil = .cons op nn s a .nil by rw [HX.out, hf]; rfl)
      have HRA := hid (And.intro hra (And.intro hac hcm))
      obtain ⟨ao, ca, hv, ha0, hac, ham, hcells⟩ := own_anyN HO.out
      subst hv
      obtain ⟨g, rfl, hgb, hc⟩ : ∃ g, ao = some ⟨g, 0, none⟩ ∧ w.heap.size + 1 ≤ g ∧ ∀ (i : Nat) u, [Value.int .i64 op, .int .i64 nn, .string s, .slice p1 a.len c1][i]? = some u → wr.cell? ⟨g, i, none⟩ = some u := by
        cases ao with
        | none => have := (ha0 rfl).1; omega
        | some bb => obtain ⟨g, rfl, h1, h2⟩ := hcells bb rfl; exact ⟨g, rfl, h1, h2⟩
      have q0 := hc 0 _ rfl
      have q1 := hc 1 _ rfl
      have q2 := hc 2 _ rfl
      have q3 := hc 3 _ rfl
      obtain ⟨⟨p0, p1', p2, p3⟩, f0, f1, f2, f3⟩ := blk4 HBox.out
      have hnc : ((1 : Nat) : Int) ≤ ca := by omega
      have hca : (ca : Int) ≤ 9223372036854775807 := by unfold maxLen at ham; omega
      clear hc0 hf HX HC hc hcells ha0 hra hac hcm ham
      go_wp2_with fail
      obtain ⟨u0, u1, u2, u3⟩ := set4 (a0 := .int .i64 op) (a1 := .int .i64 nn) (a2 := .string s) (a3 := .slice p1 a.len c1) p0 p1' p2 p3
      have e4 : Ext (· = w.heap.size) wr ((((wr.setCell ⟨w.heap.size, 0, none⟩ (.int .i64 op)).setCell ⟨w.heap.size, 1, none⟩ (.int .i64 nn)).setCell ⟨w.heap.size, 2, none⟩ (.string s)).setCell ⟨w.heap.size, 3, none⟩ (.slice p1 a.len c1)) :=
        set4_ext (S := (· = w.heap.size)) (Ext.refl wr) (.inl rfl)
      generalize ((((wr.setCell ⟨w.heap.size, 0, none⟩ (.int .i64 op)).setCell ⟨w.heap.size, 1, none⟩ (.int .i64 nn)).setCell ⟨w.heap.size, 2, none⟩ (.string s)).setCell ⟨w.heap.size, 3, none⟩ (.slice p1 a.len c1)) = w4 at *
      exact bodyPost_ret (v := .tuple #[.agg #[.int .i64 op, .int .i64 nn, .string s, .slice p1 a.len c1], .int .i64 mm]) (by simp [results, Tryz.results91, go_sem, u0, u1, u2, u3]) rfl ⟨⟨op, nn, s, a, p1, c1, fa, mm, rfl, HXE.out, HRA.out.1.ext e4 (fun b hb e => by have := (HFp.out b (List.mem_append_left _ hb)).1; omega), HRA.out.2.1, HRA.out.2.2, fun b hb => by have := (HFp.out b (List.mem_append_left _ hb)).1; omega, HFi.out⟩, e4.below HB.out (fun i hi e => by omega)⟩
end Go.Proofs.YtckbhlnncokigaaGreat
