/- Texts joined: BackOf. -/
import Derived.Test.YtckbhlnncokigaaGreatJC27
import Derived.Test.YtckbhlnncokigaaGreatJC08
/- BackOf, the reference's. -/
namespace Go.Proofs.YtckbhlnncokigaaGreat
open Go.RowKit

def zeroE : F := .cons 0 0 ⟨#[]⟩ .nil .nil
/-- The expression with right code, and its error. -/
def bkOf (L : List (Int × Int × ByteArray)) : F × Int :=
  match bkF L .nil with
  | .cons op n s a _ => if errE op n s a 1 ≠ 0 then (zeroE, errE op n s a 1) else (.cons op n s a .nil, 0)
  | .nil => (zeroE, 0)
def GotBk (A : F × Int) (w : World) (e : Ending) (w' : World) : Prop :=
  (∃ (op n : Int) (s : ByteArray) (a : F) (p : Option Addr) (c : Nat) (fa : List Nat), e = .returned (.tuple #[.agg #[.int .i64 op, .int .i64 n, .string s, .slice p a.len c], .int .i64 A.2]) ∧ A.1 = .cons op n s a .nil ∧ RdP w' a p fa ∧ a.len ≤ c ∧ c ≤ 9223372036854775807 ∧ (F.cons op n s a .nil).Fits ∧ ∀ b ∈ fa, w.heap.size ≤ b) ∧ Below w.heap.size w w'
theorem set3_heap {w : World} {b : Nat} {v0 v1 v2 v3 a3 : Value} {T : TypeId} (h : w.heap[b]? = some (.cells #[v0, v1, v2, v3] T (0, 0))) :
    (w.setCell ⟨b, 3, none⟩ a3).heap[b]? = some (.cells #[v0, v1, v2, a3] T (0, 0)) := by
  simp [World.setCell, Array.getElem?_modify, h]
theorem zero_got {A : F × Int} {w w' : World} {er : Int} (hA : A = (zeroE, er)) (h : Below w.heap.size w w') : GotBk A w (.returned (.tuple #[.agg #[.int .i64 0, .int .i64 0, .string ⟨#[]⟩, .slice none 0 0], .int .i64 er])) w' := by
  subst hA
  exact ⟨⟨0, 0, ⟨#[]⟩, .nil, none, 0, [], rfl, rfl, .inl ⟨rfl, rfl⟩, Nat.le_refl _, by omega, ⟨by omega, by omega, by decide, trivial, trivial⟩, by simp⟩, h⟩

set_option maxRecDepth 100000 in
set_option maxHeartbeats 8000000 in
theorem r_BackOf (L : List (Int × Int × ByteArray)) (p : Option Addr) (c : Nat) (w : World) (hp : WdP w L p) (hl : L.length ≤ 2000) (_hlc : L.length ≤ c) (_hcm : c ≤ maxLen) (hok : ∀ x ∈ L, WdOk x) (he : cErr L 0 = 0) :
    Calls Tryz.prog 44 #[.slice p L.length c] w (GotBk (bkOf L) w) := by
  have HP := hid hp
  have HK := hid hok
  have hl' : (L.length : Int) ≤ 2000 := by omega
  obtain ⟨i0, hi0, hz0, hz1, hz2⟩ := info_parts info_expr
  have hal := alloc_below w (.cells #[.int .i64 0, .int .i64 0, .string ⟨#[]⟩, .slice none 0 0] 28)
  have HR0 := hid (show WeRel L (w.heap.size + 1) w 0 (.slice none 0 0) (w.alloc (.cells #[.int .i64 0, .int .i64 0, .string ⟨#[]⟩, .slice none 0 0] 28)) from ⟨.nil, [], [], rfl, he, rfl, trivial, ⟨rfl, rfl⟩, by simp, World.ownsRow_nil _ _ _ _, hal, by simp⟩)
  have HN0 := hid (heap_new w (.cells #[.int .i64 0, .int .i64 0, .string ⟨#[]⟩, .slice none 0 0] 28))
  clear hp hok he hal
  go_enter Tryz.func44, Tryz.ntmps44
  go_wp2_with fail
  go_loopw [4, 12] (fun v i wr => ∃ (k : Nat) (u : Value), k ≤ L.length ∧ i = .int .i64 k ∧ v = u ∧ WeRel L (w.heap.size + 1) w k u wr ∧ wr.heap[w.heap.size]? = some (.cells #[.int .i64 0, .int .i64 0, .string ⟨#[]⟩, .slice none 0 0] 28 (0, 0))) (fun _ i _ => L.length - (intOf i).toNat)
  case atStart => exact ⟨0, _, by omega, rfl, rfl, HR0.out, HN0.out⟩
  case round =>
    obtain ⟨k, v, hk, rfl, hgv, ⟨st, xs, fp, hex, hce, hsz, hfit, hrd, hfp, hown, hbl, hbs⟩, hbox⟩ := hrel
    subst hgv
    have HX := hid hex
    have HC := hid hce
    have HRd := hid hrd
    have HFp := hid hfp
    have HO := hid hown
    have HB := hid hbl
    have HFi := hid hfit
    have HBox := hid hbox
    have hsk : st.len ≤ k := by have := st.len_le_size; omega
    have hzr : w.heap.size ≤ wr.heap.size := hbl.size
    clear hex hce hrd hfp hown hbl hfit hbox
    generalize hnn : st.len = n at *
    have HNn := hid hnn
    clear hnn
    by_cases hlt : k < L.length
    · rcases HP.out with h0 | ⟨b, rfl, hat⟩
      · rw [h0] at hlt; simp at hlt
      have HA := hid (hat.ext (S := fun _ => False) (Ext.of_below HB.out) id)
      obtain ⟨c0, c1, c2⟩ := HA.out k _ (List.getElem?_eq_getElem hlt)
      have HD := hid (List.drop_eq_getElem_cons hlt)
      have HKx := hid (HK.out _ (List.getElem_mem hlt))
      generalize L[k] = x at c0 c1 c2 HD HKx
      obtain ⟨xo, xn, s⟩ := x
      dsimp only at c0 c1 c2
      have HC2 := hid (cErr_cons (show cErr ((xo, xn, s) :: L.drop (k + 1)) n = 0 by rw [← HD.out]; exact HC.out))
      have HX2 := hid (show bkF L .nil = bkF (L.drop (k + 1)) (stepF (xo, xn, s) st) by rw [HX.out, HD.out]; rfl)
      clear HX HD
      have HW := hid (wErr_zero HC2.out.1)
      obtain ⟨⟨v0, v1⟩, v2, v3⟩ := HW.out
      have hsl : (n : Int) ≤ 2000 := by omega
      have hle := HC2.out.2.1
      have hor := opsN_range xo
      dsimp only at hle
      obtain ⟨f, hf, hfl⟩ : ∃ f : Nat, (f : Int) = n - opsN xo ∧ f ≤ n := ⟨((n : Int) - opsN xo).toNat, by omega, by omega⟩
      have HF := hid hf
      have HQ := hid (show opsN xo = (n : Int) - f by omega)
      obtain ⟨ao, ca, hv, ha0, hac, ham, hcells⟩ := own_anyN HO.out
      subst hv
      have HCe := hid (And.intro ha0 hcells)
      have hca : (ca : Int) ≤ 9223372036854775807 := by unfold maxLen at ham; omega
      have hnc : (n : Int) ≤ ca := by omega
      have hfl' : (f : Int) ≤ n := by omega
      have hf0 : (0 : Int) ≤ f := by omega
      have hfn : (f : Int).toNat = f := by omega
      have hfc : (f : Int) ≤ ca := by omega
      have hsub : (n : Int) - ((n : Int) - f) = f := by omega
      have hwr : IntKind.i64.wrap (f : Int) = f := IntWalk.i64_in _ (by omega)
      have hA3 : n - f ≤ 3 := by omega
      clear hf hle hor ha0 hcells
      have EW := ((Ext.refl (S := fun _ => False) wr).alloc (.cells #[.int .i64 xo, .int .i64 xn, .string s] 78))
      have hsz1 : (wr.alloc (.cells #[.int .i64 xo, .int .i64 xn, .string s] 78)).heap.size = wr.heap.size + 1 := by simp
      have EX := hid (EW.alloc (.cells #[.int .i64 xo, .int .i64 xn, .string s, .slice none 0 0] 28)).drew
      have HBe := hid (heap_new (wr.alloc (.cells #[.int .i64 xo, .int .i64 xn, .string s] 78)) (.cells #[.int .i64 xo, .int .i64 xn, .string s, .slice none 0 0] 28))
      rw [hsz1] at HBe
      have hlen : (st.drop f).len = n - f := by rw [F.len_drop, HNn.out]
      obtain ⟨fd, hfd, hfdm⟩ := HRd.out.drop f
      have HFd := hid (And.intro hfd (And.intro hfdm hlen))
      clear EW hsz1 hfd hfdm hlen
      go_wp2_with fail
      refine (r_operands xo _).mono ?_
      rintro e w2 ⟨rfl, rfl⟩
      rw [HQ.out]
-- CASES
      cases ao with
      | none =>
        obtain ⟨h1, h2⟩ := HCe.out.1 rfl
        have h3 : f = 0 := by omega
        subst h1 h2 h3
        have hlD : (st.drop 0).len = 0 := by have := HFd.out.2.2; omega
        obtain ⟨q, cq, w4, hr, hc4, hg4, hle, hcm, hcase⟩ := run_app_full (P := Tryz.prog) (((wr.alloc (.cells #[.int .i64 xo, .int .i64 xn, .string s] 78)).alloc (.cells #[.int .i64 xo, .int .i64 xn, .string s, .slice none 0 0] 28)).drew) 26 26 28 i0 _ 4 56 Tryz.underlying26 hi0 hz0 hz1 hz2 rfl (by decide) none 0 [] rfl (.inl rfl) none 0 0 (xs.drop (4 * 0)) (by have h := HFd.out.1.length; rw [hlD] at h; omega) (.inl (List.eq_nil_of_length_eq_zero (by rw [HFd.out.1.length, hlD]))) HFd.out.1.one (by unfold maxLen; omega) (by omega)
        have E4 := (Ext.refl (S := fun _ => False) _).grown hg4 (fun _ h => by cases h)
        have EU := EX.out.trans E4
        obtain ⟨fq, hq1, hq2⟩ := args_read (w := ((wr.alloc (.cells #[.int .i64 xo, .int .i64 xn, .string s] 78)).alloc (.cells #[.int .i64 xo, .int .i64 xn, .string s, .slice none 0 0] 28)).drew) (q := q) (c := cq) (HFd.out.1.ext EU (fun _ _ => id)) (fun h => by
          rcases hcase with ⟨_, h'⟩ | ⟨h', _⟩
          · rw [hlD]; simpa using h'
          · omega) (fun h => List.eq_nil_of_length_eq_zero (by rw [HFd.out.1.length, h]))
        have HB4 := hid (E4.heap HBe.out id)
        rw [Nat.zero_add] at hr hle
        have HR := hid hr
        have HB5 := hid (set3_heap (a3 := .slice q 0 cq) HB4.out)
        have E5s := (Ext.refl (S := (· = wr.heap.size + 1)) w4).setCell (p := ⟨wr.heap.size + 1, 3, none⟩) (.inl rfl) (.slice q 0 cq)
        have HU := hid (And.intro (EU.setCell (p := ⟨wr.heap.size + 1, 3, none⟩) (.inr (by simp)) (.slice q 0 cq)) (And.intro (hq1.ext E5s (fun b hb e => by
            rcases hq2 b hb with h | h
            · have := HRd.out.lt b (HFd.out.2.1 b h); omega
            · simp at h; omega)) (And.intro hle (And.intro hcm (show ∀ b ∈ fq, b ∈ fp ∨ wr.heap.size ≤ b from fun b hb => (hq2 b hb).imp (HFd.out.2.1 b) (fun h => by simp at h; omega))))))
        clear hc4 hg4 hle hcm hcase hr E4 EU E5s hq1 hq2
        obtain ⟨⟨p0, p1, p2, p3⟩, f0, f1, f2, f3⟩ := blk4 HB4.out
        go_wp2_with fail
        go_region_law (first
          | (refine step_app _ rfl _ _ 26 rfl _ _ _ _ rfl rfl HR.out ?_))
        clear p0 p1 p2 p3 f0 f1 f2 f3 HB4 HR HBe EX
        generalize w4.setCell ⟨wr.heap.size + 1, 3, none⟩ (.slice q 0 cq) = w5 at *
        have E6 := (Ext.refl (S := fun _ => False) w5).alloc (.cells #[.int .i64 xo, .int .i64 xn, .string s, .slice q 0 cq] 28)
        have HN6 := hid (heap_new w5 (.cells #[.int .i64 xo, .int .i64 xn, .string s, .slice q 0 cq] 28))
        obtain ⟨q2, c2', w8, hr2, hc8, hg8, hle2, hcm2, hcase2⟩ := run_app_full (P := Tryz.prog) ((w5.alloc (.cells #[.int .i64 xo, .int .i64 xn, .string s, .slice q 0 cq] 28)).drew) 26 26 28 i0 _ 4 56 Tryz.underlying26 hi0 hz0 hz1 hz2 rfl (by decide) none 0 (xs.take (0 * 4)) (by rw [List.length_take, HRd.out.length, HNn.out]; omega) ((CellsP.own (own_takeN HO.out (k := 0) (by omega))).ext (HU.out.1.trans E6.drew) (fun _ _ => id)) (some ⟨w5.heap.size, 0, none⟩) 1 1 (exV xo xn s q 0 cq) rfl (.inr ⟨_, 0, rfl, fun i v hv => by
            rw [Nat.zero_add]
            show (w5.alloc _).cell? _ = _
            rw [cell_of_row _ _ _ _ _ _ HN6.out, ← Array.getElem?_toList]; exact hv⟩) (fun x hx => by simp [exV] at hx; rcases hx with rfl | rfl | rfl | rfl <;> rfl) (by unfold maxLen; omega) (by omega)
        rcases hcase2 with ⟨_, hown8⟩ | ⟨h', _⟩
        case inr => omega
        obtain ⟨g8, cc8, hv8, hg8b, _, _, _, _⟩ := own_cells hown8 (by omega)
        injection hv8 with e81 _ e83
        subst e81 e83
        have E8 := hid (E6.drew.trans ((Ext.refl (S := fun _ => False) _).grown hg8 (fun _ h => by cases h)))
        have HR2 := hid hr2
        have hz5 : wr.heap.size ≤ w5.heap.size := HU.out.1.size
        have HH := hid (we_next (n := 0) (base := w.heap.size + 1) (v := .slice none 0 0) (w5 := w5) (w6 := w5) (w4 := w8) (q := q) (cq := cq) (cap := c2') (g' := g8) HX2.out HC2.out HF.out HNn.out hsz HFi.out HKx.out HRd.out HFp.out HO.out HB.out hbs (by omega) HU.out.1 HU.out.2.1 (by rw [hlD]; exact ⟨HU.out.2.2.1, by have := HU.out.2.2.2.1; unfold maxLen at this; omega⟩) HU.out.2.2.2.2 (Ext.refl _) (by rw [hlD]; exact ownsRow_le hown8 (by simp; omega)) (E8.out.mono (fun _ _ h => h.elim)) (.inr (by simp at hg8b; omega)))
        have HBn := hid (E8.out.heap (HU.out.1.heap HBox.out id) id)
        have HB8 := hid (E8.out.heap HB5.out id)
        obtain ⟨⟨p0, p1, p2, p3⟩, _⟩ := blk4 HB5.out
        have HQ5 := hid (And.intro p0 (And.intro p1 (And.intro p2 p3)))
        obtain ⟨⟨o0, o1, o2, o3⟩, _⟩ := blk4 HB8.out
        have HQ8 := hid (And.intro o0 (And.intro o1 (And.intro o2 o3)))
        have HE6 := hid E6
        clear hc8 hg8 hle2 hcm2 hown8 hr2 o0 o1 o2 o3 hg8b E6
        go_wp2_with fail
        go_region_held3 (fun w' => w'.cell? ⟨wr.heap.size + 1, 0, none⟩ = some (.int .i64 xo) ∧ w'.cell? ⟨wr.heap.size + 1, 1, none⟩ = some (.int .i64 xn) ∧ w'.cell? ⟨wr.heap.size + 1, 2, none⟩ = some (.string s) ∧ w'.cell? ⟨wr.heap.size + 1, 3, none⟩ = some (.slice q 0 cq))
          (first
            | (with_reducible exact ⟨HQ8.out.1, HQ8.out.2.1, HQ8.out.2.2.1, HQ8.out.2.2.2⟩)
            | exact ⟨HQ5.out.1, HQ5.out.2.1, HQ5.out.2.2.1, HQ5.out.2.2.2⟩
            | exact ⟨HE6.out.cell_some HQ5.out.1 id, HE6.out.cell_some HQ5.out.2.1 id, HE6.out.cell_some HQ5.out.2.2.1 id, HE6.out.cell_some HQ5.out.2.2.2 id⟩
            | (go_keep; done))
          (first
            | (refine step_app _ rfl _ _ 26 rfl _ _ _ _ rfl rfl HR2.out ?_))
        go_wp2_with fail
        go_roundw
        case rel => exact ⟨k + 1, _, by omega, by go_num, rfl, HH.out, HBn.out⟩
        case measure => simp [intOf]; omega
      | some bb =>
        obtain ⟨g, rfl, hgb, hcells⟩ := HCe.out.2 bb rfl
        by_cases hfull : ca = f
        · obtain rfl : f = ca := by omega
          obtain rfl : f = n := by omega
          clear hcells hfull
          have hlD : (st.drop f).len = 0 := by have := HFd.out.2.2; omega
          obtain ⟨q, cq, w4, hr, hc4, hg4, hle, hcm, hcase⟩ := run_app_full (P := Tryz.prog) (((wr.alloc (.cells #[.int .i64 xo, .int .i64 xn, .string s] 78)).alloc (.cells #[.int .i64 xo, .int .i64 xn, .string s, .slice none 0 0] 28)).drew) 26 26 28 i0 _ 4 56 Tryz.underlying26 hi0 hz0 hz1 hz2 rfl (by decide) none 0 [] rfl (.inl rfl) (some ⟨g, 0, none⟩) 0 0 (xs.drop (4 * f)) (by have h := HFd.out.1.length; rw [hlD] at h; omega) (.inl (List.eq_nil_of_length_eq_zero (by rw [HFd.out.1.length, hlD]))) HFd.out.1.one (by unfold maxLen; omega) (by omega)
          have E4 := (Ext.refl (S := fun _ => False) _).grown hg4 (fun _ h => by cases h)
          have EU := EX.out.trans E4
          obtain ⟨fq, hq1, hq2⟩ := args_read (w := ((wr.alloc (.cells #[.int .i64 xo, .int .i64 xn, .string s] 78)).alloc (.cells #[.int .i64 xo, .int .i64 xn, .string s, .slice none 0 0] 28)).drew) (q := q) (c := cq) (HFd.out.1.ext EU (fun _ _ => id)) (fun h => by
            rcases hcase with ⟨_, h'⟩ | ⟨h', _⟩
            · rw [hlD]; simpa using h'
            · omega) (fun h => List.eq_nil_of_length_eq_zero (by rw [HFd.out.1.length, h]))
          have HB4 := hid (E4.heap HBe.out id)
          rw [Nat.zero_add] at hr hle
          have HR := hid hr
          have HB5 := hid (set3_heap (a3 := .slice q 0 cq) HB4.out)
          have E5s := (Ext.refl (S := (· = wr.heap.size + 1)) w4).setCell (p := ⟨wr.heap.size + 1, 3, none⟩) (.inl rfl) (.slice q 0 cq)
          have HU := hid (And.intro (EU.setCell (p := ⟨wr.heap.size + 1, 3, none⟩) (.inr (by simp)) (.slice q 0 cq)) (And.intro (hq1.ext E5s (fun b hb e => by
              rcases hq2 b hb with h | h
              · have := HRd.out.lt b (HFd.out.2.1 b h); omega
              · simp at h; omega)) (And.intro hle (And.intro hcm (show ∀ b ∈ fq, b ∈ fp ∨ wr.heap.size ≤ b from fun b hb => (hq2 b hb).imp (HFd.out.2.1 b) (fun h => by simp at h; omega))))))
          clear hc4 hg4 hle hcm hcase hr E4 EU E5s hq1 hq2
          obtain ⟨⟨p0, p1, p2, p3⟩, f0, f1, f2, f3⟩ := blk4 HB4.out
          go_wp2_with fail
          go_region_law (first
            | (refine step_app _ rfl _ _ 26 rfl _ _ _ _ rfl rfl HR.out ?_))
          clear p0 p1 p2 p3 f0 f1 f2 f3 HB4 HR HBe EX
          generalize w4.setCell ⟨wr.heap.size + 1, 3, none⟩ (.slice q 0 cq) = w5 at *
          have E6 := (Ext.refl (S := fun _ => False) w5).alloc (.cells #[.int .i64 xo, .int .i64 xn, .string s, .slice q 0 cq] 28)
          have HN6 := hid (heap_new w5 (.cells #[.int .i64 xo, .int .i64 xn, .string s, .slice q 0 cq] 28))
          obtain ⟨q2, c2', w8, hr2, hc8, hg8, hle2, hcm2, hcase2⟩ := run_app_full (P := Tryz.prog) ((w5.alloc (.cells #[.int .i64 xo, .int .i64 xn, .string s, .slice q 0 cq] 28)).drew) 26 26 28 i0 _ 4 56 Tryz.underlying26 hi0 hz0 hz1 hz2 rfl (by decide) (some ⟨g, 0, none⟩) f (xs.take (f * 4)) (by rw [List.length_take, HRd.out.length, HNn.out]; omega) ((CellsP.own (own_takeN HO.out (k := f) (by omega))).ext (HU.out.1.trans E6.drew) (fun _ _ => id)) (some ⟨w5.heap.size, 0, none⟩) 1 1 (exV xo xn s q 0 cq) rfl (.inr ⟨_, 0, rfl, fun i v hv => by
              rw [Nat.zero_add]
              show (w5.alloc _).cell? _ = _
              rw [cell_of_row _ _ _ _ _ _ HN6.out, ← Array.getElem?_toList]; exact hv⟩) (fun x hx => by simp [exV] at hx; rcases hx with rfl | rfl | rfl | rfl <;> rfl) (by unfold maxLen; omega) (by omega)
          rcases hcase2 with ⟨_, hown8⟩ | ⟨h', _⟩
          case inr => omega
          obtain ⟨g8, cc8, hv8, hg8b, _, _, _, _⟩ := own_cells hown8 (by omega)
          injection hv8 with e81 _ e83
          subst e81 e83
          have E8 := hid (E6.drew.trans ((Ext.refl (S := fun _ => False) _).grown hg8 (fun _ h => by cases h)))
          have HR2 := hid hr2
          have hz5 : wr.heap.size ≤ w5.heap.size := HU.out.1.size
          have HH := hid (we_next (n := f) (base := w.heap.size + 1) (v := .slice (some ⟨g, 0, none⟩) f f) (w5 := w5) (w6 := w5) (w4 := w8) (q := q) (cq := cq) (cap := c2') (g' := g8) HX2.out HC2.out HF.out HNn.out hsz HFi.out HKx.out HRd.out HFp.out HO.out HB.out hbs (by omega) HU.out.1 HU.out.2.1 (by rw [hlD]; exact ⟨HU.out.2.2.1, by have := HU.out.2.2.2.1; unfold maxLen at this; omega⟩) HU.out.2.2.2.2 (Ext.refl _) (by rw [hlD]; exact ownsRow_le hown8 (by simp; omega)) (E8.out.mono (fun _ _ h => h.elim)) (.inr (by simp at hg8b; omega)))
          have HBn := hid (E8.out.heap (HU.out.1.heap HBox.out id) id)
          have HB8 := hid (E8.out.heap HB5.out id)
          obtain ⟨⟨p0, p1, p2, p3⟩, _⟩ := blk4 HB5.out
          have HQ5 := hid (And.intro p0 (And.intro p1 (And.intro p2 p3)))
          obtain ⟨⟨o0, o1, o2, o3⟩, _⟩ := blk4 HB8.out
          have HQ8 := hid (And.intro o0 (And.intro o1 (And.intro o2 o3)))
          have HE6 := hid E6
          clear hc8 hg8 hle2 hcm2 hown8 hr2 o0 o1 o2 o3 hg8b E6
          go_wp2_with fail
          go_region_held3 (fun w' => w'.cell? ⟨wr.heap.size + 1, 0, none⟩ = some (.int .i64 xo) ∧ w'.cell? ⟨wr.heap.size + 1, 1, none⟩ = some (.int .i64 xn) ∧ w'.cell? ⟨wr.heap.size + 1, 2, none⟩ = some (.string s) ∧ w'.cell? ⟨wr.heap.size + 1, 3, none⟩ = some (.slice q 0 cq))
            (first
              | (with_reducible exact ⟨HQ8.out.1, HQ8.out.2.1, HQ8.out.2.2.1, HQ8.out.2.2.2⟩)
              | exact ⟨HQ5.out.1, HQ5.out.2.1, HQ5.out.2.2.1, HQ5.out.2.2.2⟩
              | exact ⟨HE6.out.cell_some HQ5.out.1 id, HE6.out.cell_some HQ5.out.2.1 id, HE6.out.cell_some HQ5.out.2.2.1 id, HE6.out.cell_some HQ5.out.2.2.2 id⟩
              | (go_keep; done))
            (first
              | (refine step_app _ rfl _ _ 26 rfl _ _ _ _ rfl rfl HR2.out ?_))
          go_wp2_with fail
          go_roundw
          case rel => exact ⟨k + 1, _, by omega, by go_num, rfl, HH.out, HBn.out⟩
          case measure => simp [intOf]; omega
        · have hcl := (own_drop (f := f) hcells rfl).ext EX.out (fun _ _ => id)
          have HCL := hid hcl
          clear hcells hcl
          have hlD : (st.drop f).len = (n - f) := by have := HFd.out.2.2; omega
          obtain ⟨q, cq, w4, hr, hc4, hg4, hle, hcm, hcase⟩ := run_app_full (P := Tryz.prog) (((wr.alloc (.cells #[.int .i64 xo, .int .i64 xn, .string s] 78)).alloc (.cells #[.int .i64 xo, .int .i64 xn, .string s, .slice none 0 0] 28)).drew) 26 26 28 i0 _ 4 56 Tryz.underlying26 hi0 hz0 hz1 hz2 rfl (by decide) none 0 [] rfl (.inl rfl) (some ⟨g, f * 4, none⟩) (n - f) (ca - f) (xs.drop (4 * f)) (by have h := HFd.out.1.length; rw [hlD] at h; omega) (HCL.out) HFd.out.1.one (by unfold maxLen; omega) (by omega)
          have E4 := (Ext.refl (S := fun _ => False) _).grown hg4 (fun _ h => by cases h)
          have EU := EX.out.trans E4
          obtain ⟨fq, hq1, hq2⟩ := args_read (w := ((wr.alloc (.cells #[.int .i64 xo, .int .i64 xn, .string s] 78)).alloc (.cells #[.int .i64 xo, .int .i64 xn, .string s, .slice none 0 0] 28)).drew) (q := q) (c := cq) (HFd.out.1.ext EU (fun _ _ => id)) (fun h => by
            rcases hcase with ⟨_, h'⟩ | ⟨h', _⟩
            · rw [hlD]; simpa using h'
            · omega) (fun h => List.eq_nil_of_length_eq_zero (by rw [HFd.out.1.length, h]))
          have HB4 := hid (E4.heap HBe.out id)
          rw [Nat.zero_add] at hr hle
          have HR := hid hr
          have HB5 := hid (set3_heap (a3 := .slice q (n - f) cq) HB4.out)
          have E5s := (Ext.refl (S := (· = wr.heap.size + 1)) w4).setCell (p := ⟨wr.heap.size + 1, 3, none⟩) (.inl rfl) (.slice q (n - f) cq)
          have HU := hid (And.intro (EU.setCell (p := ⟨wr.heap.size + 1, 3, none⟩) (.inr (by simp)) (.slice q (n - f) cq)) (And.intro (hq1.ext E5s (fun b hb e => by
              rcases hq2 b hb with h | h
              · have := HRd.out.lt b (HFd.out.2.1 b h); omega
              · simp at h; omega)) (And.intro hle (And.intro hcm (show ∀ b ∈ fq, b ∈ fp ∨ wr.heap.size ≤ b from fun b hb => (hq2 b hb).imp (HFd.out.2.1 b) (fun h => by simp at h; omega))))))
          clear hc4 hg4 hle hcm hcase hr E4 EU E5s hq1 hq2
          obtain ⟨⟨p0, p1, p2, p3⟩, f0, f1, f2, f3⟩ := blk4 HB4.out
          go_wp2_with fail
          go_region_law (first
            | (refine step_app _ rfl _ _ 26 rfl _ _ _ _ rfl rfl HR.out ?_))
          clear p0 p1 p2 p3 f0 f1 f2 f3 HB4 HR HBe EX
          generalize w4.setCell ⟨wr.heap.size + 1, 3, none⟩ (.slice q (n - f) cq) = w5 at *
          have E6 := (Ext.refl (S := fun _ => False) w5).alloc (.cells #[.int .i64 xo, .int .i64 xn, .string s, .slice q (n - f) cq] 28)
          have HN6 := hid (heap_new w5 (.cells #[.int .i64 xo, .int .i64 xn, .string s, .slice q (n - f) cq] 28))
          obtain ⟨q2, c2', w8, hr2, hc8, hg8, hle2, hcm2, hcase2⟩ := run_app_full (P := Tryz.prog) ((w5.alloc (.cells #[.int .i64 xo, .int .i64 xn, .string s, .slice q (n - f) cq] 28)).drew) 26 26 28 i0 _ 4 56 Tryz.underlying26 hi0 hz0 hz1 hz2 rfl (by decide) (some ⟨g, 0, none⟩) f (xs.take (f * 4)) (by rw [List.length_take, HRd.out.length, HNn.out]; omega) ((CellsP.own (own_takeN HO.out (k := f) (by omega))).ext (HU.out.1.trans E6.drew) (fun _ _ => id)) (some ⟨w5.heap.size, 0, none⟩) 1 1 (exV xo xn s q (n - f) cq) rfl (.inr ⟨_, 0, rfl, fun i v hv => by
              rw [Nat.zero_add]
              show (w5.alloc _).cell? _ = _
              rw [cell_of_row _ _ _ _ _ _ HN6.out, ← Array.getElem?_toList]; exact hv⟩) (fun x hx => by simp [exV] at hx; rcases hx with rfl | rfl | rfl | rfl <;> rfl) (by unfold maxLen; omega) (by omega)
          rcases hcase2 with ⟨_, hown8⟩ | ⟨h', _⟩
          case inr => omega
          obtain ⟨g8, cc8, hv8, hg8b, _, _, _, _⟩ := own_cells hown8 (by omega)
          injection hv8 with e81 _ e83
          subst e81 e83
          have E8 := hid (E6.drew.trans ((Ext.refl (S := fun _ => False) _).grown hg8 (fun _ h => by cases h)))
          have HR2 := hid hr2
          have hz5 : wr.heap.size ≤ w5.heap.size := HU.out.1.size
          have HH := hid (we_next (n := n) (base := w.heap.size + 1) (v := .slice (some ⟨g, 0, none⟩) n ca) (w5 := w5) (w6 := w5) (w4 := w8) (q := q) (cq := cq) (cap := c2') (g' := g8) HX2.out HC2.out HF.out HNn.out hsz HFi.out HKx.out HRd.out HFp.out HO.out HB.out hbs (by omega) HU.out.1 HU.out.2.1 (by rw [hlD]; exact ⟨HU.out.2.2.1, by have := HU.out.2.2.2.1; unfold maxLen at this; omega⟩) HU.out.2.2.2.2 (Ext.refl _) (by rw [hlD]; exact ownsRow_le hown8 (by simp; omega)) (E8.out.mono (fun _ _ h => h.elim)) (.inr (by simp at hg8b; omega)))
          have HBn := hid (E8.out.heap (HU.out.1.heap HBox.out id) id)
          have HB8 := hid (E8.out.heap HB5.out id)
          obtain ⟨⟨p0, p1, p2, p3⟩, _⟩ := blk4 HB5.out
          have HQ5 := hid (And.intro p0 (And.intro p1 (And.intro p2 p3)))
          obtain ⟨⟨o0, o1, o2, o3⟩, _⟩ := blk4 HB8.out
          have HQ8 := hid (And.intro o0 (And.intro o1 (And.intro o2 o3)))
          have HE6 := hid E6
          clear hc8 hg8 hle2 hcm2 hown8 hr2 o0 o1 o2 o3 hg8b E6
          go_wp2_with fail
          go_region_held3 (fun w' => w'.cell? ⟨wr.heap.size + 1, 0, none⟩ = some (.int .i64 xo) ∧ w'.cell? ⟨wr.heap.size + 1, 1, none⟩ = some (.int .i64 xn) ∧ w'.cell? ⟨wr.heap.size + 1, 2, none⟩ = some (.string s) ∧ w'.cell? ⟨wr.heap.size + 1, 3, none⟩ = some (.slice q (n - f) cq))
            (first
              | (with_reducible exact ⟨HQ8.out.1, HQ8.out.2.1, HQ8.out.2.2.1, HQ8.out.2.2.2⟩)
              | exact ⟨HQ5.out.1, HQ5.out.2.1, HQ5.out.2.2.1, HQ5.out.2.2.2⟩
              | exact ⟨HE6.out.cell_some HQ5.out.1 id, HE6.out.cell_some HQ5.out.2.1 id, HE6.out.cell_some HQ5.out.2.2.1 id, HE6.out.cell_some HQ5.out.2.2.2 id⟩
              | (go_keep; done))
            (first
              | (refine step_app _ rfl _ _ 26 rfl _ _ _ _ rfl rfl HR2.out ?_))
          go_wp2_with fail
          go_roundw
          case rel => exact ⟨k + 1, _, by omega, by go_num, rfl, HH.out, HBn.out⟩
          case measure => simp [intOf]; omega
    · have hf : L.drop k = [] := List.drop_eq_nil_of_le (by omega)
      have hc0 := HC.out
      rw [hf] at hc0
      have hl1 : n = 1 := by
        unfold cErr at hc0
        split at hc0
        · cases hc0
        · rename_i h; simp at h; omega
      subst hl1
      obtain ⟨op, nn, s, a, r, rfl⟩ : ∃ op nn s a r, st = F.cons op nn s a r := by
        cases st with
        | nil => have := HNn.out; simp [F.len] at this
        | cons op nn s a r => exact ⟨op, nn, s, a, r, rfl⟩
      obtain rfl : r = .nil := F.eq_nil_of_len (by have := HNn.out; simp only [F.len] at this; omega)
      obtain ⟨p1, c1, fa, fr, xr, rfl, rfl, hac, hcm, ⟨rfl, rfl⟩, hra⟩ := RdV.cons_iff.1 HRd.out
      have HXE := hid (show bkF L .nil = .cons op nn s a .nil by rw [HX.out, hf]; rfl)
      have HRA := hid (And.intro hra (And.intro hac hcm))
      obtain ⟨ao, ca, hv, ha0, hac, ham, hcells⟩ := own_anyN HO.out
      subst hv
      obtain ⟨g, rfl, hgb, hc⟩ : ∃ g, ao = some ⟨g, 0, none⟩ ∧ w.heap.size + 1 ≤ g ∧ ∀ (i : Nat) u, [Value.int .i64 op, .int .i64 nn, .string s, .slice p1 a.len c1][i]? = some u → wr.cell? ⟨g, i, none⟩ = some u := by
        cases ao with
        | none => have := (ha0 rfl).1; omega
        | some bb => obtain ⟨g, rfl, h1, h2⟩ := hcells bb rfl; exact ⟨g, rfl, h1, h2⟩
      have q0 := hc 0 _ rfl
      have q1 := hc 1 _ rfl
      have q2 := hc 2 _ rfl
      have q3 := hc 3 _ rfl
      have HQ := hid (And.intro q0 (And.intro q1 (And.intro q2 q3)))
      have hnc : ((1 : Nat) : Int) ≤ ca := by omega
      have hca : (ca : Int) ≤ 9223372036854775807 := by unfold maxLen at ham; omega
      clear hc0 hf HX HC hc hcells ha0 hra hac hcm ham
      go_wp2_with fail
      refine (q_ExprFault op nn s a p1 c1 fa _ HRA.out.1 HRA.out.2.1 HRA.out.2.2 HFi.out).mono ?_
      rintro e w2 ⟨rfl, hb2⟩
      have E2 := hid (Ext.of_below (S := fun _ => False) hb2)
      have HB2 := hid (HB.out.trans (hb2.mono hzr))
      have HBx2 := hid (E2.out.heap HBox.out id)
      have HR2 := hid (HRA.out.1.ext E2.out (fun _ _ => id))
      clear hb2 q0 q1 q2 q3
      have q0 := E2.out.cell_some HQ.out.1 id
      have q1 := E2.out.cell_some HQ.out.2.1 id
      have q2 := E2.out.cell_some HQ.out.2.2.1 id
      have q3 := E2.out.cell_some HQ.out.2.2.2 id
      obtain ⟨⟨p0, p1', p2, p3⟩, f0, f1, f2, f3⟩ := blk4 HBx2.out
      generalize hge : errE op nn s a 1 = er
      have GE := hid hge
      clear hge
      by_cases he : er = 0
      case neg =>
        have hne : (er != 0) = true := by simpa using he
        have HA := hid (show bkOf L = (zeroE, er) by
          unfold bkOf; rw [HXE.out]; dsimp only; rw [GE.out, if_pos he])
        clear he
        go_wp2_with fail
        obtain ⟨u0, u1, u2, u3⟩ := set4 (a0 := .int .i64 0) (a1 := .int .i64 0) (a2 := .string ⟨#[]⟩) (a3 := .slice none 0 0) p0 p1' p2 p3
        have e4 : Ext (· = w.heap.size) w2 (((((w2.setCell ⟨w.heap.size, 0, none⟩ (.int .i64 0)).setCell ⟨w.heap.size, 1, none⟩ (.int .i64 0)).setCell ⟨w.heap.size, 2, none⟩ (.string ⟨#[]⟩)).setCell ⟨w.heap.size, 3, none⟩ (.slice none 0 0))) := set4_ext (S := (· = w.heap.size)) (Ext.refl w2) (.inl rfl)
        generalize ((((w2.setCell ⟨w.heap.size, 0, none⟩ (.int .i64 0)).setCell ⟨w.heap.size, 1, none⟩ (.int .i64 0)).setCell ⟨w.heap.size, 2, none⟩ (.string ⟨#[]⟩)).setCell ⟨w.heap.size, 3, none⟩ (.slice none 0 0)) = w4 at *
        exact bodyPost_ret (v := .tuple #[.agg #[.int .i64 0, .int .i64 0, .string ⟨#[]⟩, .slice none 0 0], .int .i64 er]) (by simp [results, Tryz.results44, go_sem, u0, u1, u2, u3]) rfl (zero_got HA.out (e4.below HB2.out (fun i hi e => by omega)))
      subst he
      have HA := hid (show bkOf L = (.cons op nn s a .nil, 0) by
        unfold bkOf; rw [HXE.out]; dsimp only; rw [GE.out, if_neg (by simp)])
      go_wp2_with fail
      obtain ⟨u0, u1, u2, u3⟩ := set4 (a0 := .int .i64 op) (a1 := .int .i64 nn) (a2 := .string s) (a3 := .slice p1 a.len c1) p0 p1' p2 p3
      have e4 : Ext (· = w.heap.size) w2 (((((w2.setCell ⟨w.heap.size, 0, none⟩ (.int .i64 op)).setCell ⟨w.heap.size, 1, none⟩ (.int .i64 nn)).setCell ⟨w.heap.size, 2, none⟩ (.string s)).setCell ⟨w.heap.size, 3, none⟩ (.slice p1 a.len c1))) := set4_ext (S := (· = w.heap.size)) (Ext.refl w2) (.inl rfl)
      generalize ((((w2.setCell ⟨w.heap.size, 0, none⟩ (.int .i64 op)).setCell ⟨w.heap.size, 1, none⟩ (.int .i64 nn)).setCell ⟨w.heap.size, 2, none⟩ (.string s)).setCell ⟨w.heap.size, 3, none⟩ (.slice p1 a.len c1)) = w4 at *
      exact bodyPost_ret (v := .tuple #[.agg #[.int .i64 op, .int .i64 nn, .string s, .slice p1 a.len c1], .int .i64 0]) (by simp [results, Tryz.results44, go_sem, u0, u1, u2, u3]) rfl ⟨⟨op, nn, s, a, p1, c1, fa, by rw [HA.out], by rw [HA.out], HR2.out.ext e4 (fun b hb e => by have := (HFp.out b (List.mem_append_left _ hb)).1; omega), HRA.out.2.1, HRA.out.2.2, HFi.out, fun b hb => by have := (HFp.out b (List.mem_append_left _ hb)).1; omega⟩, e4.below HB2.out (fun i hi e => by omega)⟩
end Go.Proofs.YtckbhlnncokigaaGreat
