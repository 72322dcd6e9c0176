/- Texts joined: VWork1. -/
import Derived.Test.YtckbhlnncokigaaGreatJC36
import Derived.Test.YtckbhlnncokigaaGreatJC23
import Derived.Test.YtckbhlnncokigaaGreatJC26
/- work, the program's, at meanings: code is run on a stack of function values. -/
namespace Go.Proofs.YtckbhlnncokigaaGreat
open Go.RowKit

/-- The stack of meanings behind a word. -/
def stepG (x : Int × Int × ByteArray) (st : List ((ByteArray → Int) → Int)) : List ((ByteArray → Int) → Int) :=
  st.take (st.length - (opsN x.1).toNat) ++ [valO x.1 x.2.1 x.2.2 (st.drop (st.length - (opsN x.1).toNat))]
def exG : List (Int × Int × ByteArray) → List ((ByteArray → Int) → Int) → Int → List ((ByteArray → Int) → Int) × Int
  | [], st, m => (st, m)
  | x :: r, st, m => exG r (stepG x st) (max m ((stepG x st).length : Int))
theorem stepG_length {x : Int × Int × ByteArray} {st : List ((ByteArray → Int) → Int)} (h : opsN x.1 ≤ st.length) : ((stepG x st).length : Int) = st.length + (1 - opsN x.1) := by
  have := opsN_range x.1
  unfold stepG; rw [List.length_append, List.length_take]; simp; omega
/-- At each lookup the meanings are worth what the values are. -/
theorem exG_L (T : List (ByteArray × Int)) : ∀ (L : List (Int × Int × ByteArray)) (st : List ((ByteArray → Int) → Int)) (m : Int),
    (exG L st m).1.map (fun g => g fun s => valL s.data.toList T) = (exL T L (st.map fun g => g fun s => valL s.data.toList T) m).1 ∧ (exG L st m).2 = (exL T L (st.map fun g => g fun s => valL s.data.toList T) m).2
  | [], st, m => ⟨rfl, rfl⟩
  | x :: r, st, m => by
    have hs : (stepG x st).map (fun g => g fun s => valL s.data.toList T) = stepL T x (st.map fun g => g fun s => valL s.data.toList T) := by
      unfold stepG stepL
      rw [List.map_append, List.map_take, List.length_map, List.map_singleton]
      congr 2
      unfold valO wval
      rw [List.map_drop]
    have hl : (stepL T x (st.map fun g => g fun s => valL s.data.toList T)).length = (stepG x st).length := by rw [← hs, List.length_map]
    unfold exG exL
    rw [← hs, List.length_map]
    exact exG_L T r (stepG x st) _

theorem own_take {w : World} {base : Nat} {e : TypeId} {ao : Option Addr} {n c : Nat} {xs : List Value} (h : w.ownsRow base e 1 (.slice ao n c) n xs) {k : Nat} (hk : k ≤ n) : w.ownsRow base e 1 (.slice ao k c) k (xs.take k) := by
  obtain ⟨h1, h2⟩ := h
  refine ⟨by rw [List.length_take]; omega, ?_⟩
  rcases h2 with ⟨h2, h3⟩ | ⟨g, cap, cur, h2, h3, h4, h5, h6, h7, h8⟩
  · injection h2 with e1 e2 e3
    subst e1 e2 e3
    obtain rfl : k = 0 := by omega
    exact .inl ⟨rfl, rfl⟩
  · injection h2 with e1 e2 e3
    subst e1 e3
    refine .inr ⟨g, c, cur, rfl, h3, h4, by omega, h6, h7, ?_⟩
    rw [← h8, List.take_take, show min k (n * 1) = k * 1 by omega]

def WmRel (L : List (Int × Int × ByteArray)) (w : World) (k : Nat) (v : Value) (mm : Int) (wr : World) : Prop :=
  ∃ (st : List ((ByteArray → Int) → Int)) (vs : List Value) (S : Nat → Prop), exG L [] 0 = exG (L.drop k) st mm ∧ cErr (L.drop k) st.length = 0 ∧ st.length ≤ k ∧ (0 ≤ mm ∧ mm ≤ k) ∧
    (∀ (j : Nat) g, st[j]? = some g → ∃ u, vs[j]? = some u ∧ Mean S wr u g) ∧ (∀ b, S b → w.heap.size ≤ b ∧ b < wr.heap.size ∧ v.ownBlock ≠ some b) ∧ wr.ownsRow w.heap.size 91 1 v st.length vs ∧ Below w.heap.size w wr
theorem wm_next {L : List (Int × Int × ByteArray)} {w wr w5 w4 : World} {k n f ca cap g' : Nat} {mm : Int} {ao : Option Addr} {st : List ((ByteArray → Int) → Int)} {vs : List Value} {S : Nat → Prop} {xo xn : Int} {xs : ByteArray} {v5 : Value}
    (hX : exG L [] 0 = exG (L.drop (k + 1)) (stepG (xo, xn, xs) st) (max mm ((stepG (xo, xn, xs) st).length : Int)))
    (hC : wErr (xo, xn, xs) = 0 ∧ opsN xo ≤ n ∧ cErr (L.drop (k + 1)) (n + (1 - opsN xo)) = 0) (hf : (f : Int) = n - opsN xo) (hm0 : 0 ≤ mm) (hm1 : mm ≤ k) (hsk : n ≤ k)
    (hm : ∀ (j : Nat) g, st[j]? = some g → ∃ u, vs[j]? = some u ∧ Mean S wr u g) (hS : ∀ b, S b → w.heap.size ≤ b ∧ b < wr.heap.size ∧ (Value.slice ao n ca).ownBlock ≠ some b) (hown : wr.ownsRow w.heap.size 91 1 (.slice ao n ca) n vs) (hbl : Below w.heap.size w wr)
    (e5 : Ext (fun _ => False) wr w5) (hz5 : wr.heap.size + 1 ≤ w5.heap.size) (h5 : Mean (fun b => S b ∨ ((wr.alloc (.cells #[.int .i64 xo, .int .i64 xn, .string xs] 78)).drew).heap.size ≤ b) w5 v5 (valO xo xn xs (st.drop f)))
    (hown4 : w4.ownsRow w.heap.size 91 1 (.slice (some ⟨g', 0, none⟩) (f + 1) cap) (f + 1) (vs.take f ++ [v5])) (e54 : Ext (fun b => some b = (Value.slice ao 0 0).ownBlock) w5 w4) (hat : (Value.slice ao f ca).ownBlock = some g' ∨ g' = w5.heap.size + 1) (hn : st.length = n) :
    WmRel L w (k + 1) (.slice (some ⟨g', 0, none⟩) (f + 1) cap) (max mm ((f : Int) + 1)) w4 := by
  have hr := opsN_range xo
  have hvl : vs.length = n := by have := hown.1; omega
  have hff : st.length - (opsN xo).toNat = f := by omega
  have hs : stepG (xo, xn, xs) st = st.take f ++ [valO xo xn xs (st.drop f)] := by unfold stepG; rw [hff]
  have hl : (st.take f ++ [valO xo xn xs (st.drop f)]).length = f + 1 := by rw [List.length_append, List.length_take]; simp; omega
  rw [hs, hl] at hX
  have hob : ∀ b, (Value.slice ao n ca).ownBlock = some b → b < wr.heap.size := fun b e => (hown.lt b e).2
  have heq : (Value.slice ao 0 0).ownBlock = (Value.slice ao n ca).ownBlock := by cases ao <;> rfl
  have heq2 : (Value.slice ao f ca).ownBlock = (Value.slice ao n ca).ownBlock := by cases ao <;> rfl
  rw [heq] at e54
  rw [heq2] at hat
  have e4 : Ext (fun b => some b = (Value.slice ao n ca).ownBlock) wr w4 := (e5.mono (fun _ _ h => h.elim)).trans e54
  have hz4 := e54.size
  have hsz1 : ((wr.alloc (.cells #[.int .i64 xo, .int .i64 xn, .string xs] 78)).drew).heap.size = wr.heap.size + 1 := by simp
  rw [hsz1] at h5
  refine ⟨st.take f ++ [valO xo xn xs (st.drop f)], vs.take f ++ [v5], fun b => S b ∨ (wr.heap.size ≤ b ∧ b < w5.heap.size), ?_, ?_, by rw [hl]; omega, ⟨by omega, by omega⟩, ?_, ?_, by rw [hl]; exact hown4, ?_⟩
  · rw [hX]; congr 1
  · rw [hl]
    have h := hC.2.2
    rwa [show (n : Int) + (1 - opsN xo) = ((f + 1 : Nat) : Int) by omega] at h
  · intro j g hj
    by_cases hjf : j < f
    · rw [List.getElem?_append_left (by rw [List.length_take]; omega), List.getElem?_take_of_lt hjf] at hj
      obtain ⟨u, hu, mu⟩ := hm j g hj
      refine ⟨u, by rw [List.getElem?_append_left (by rw [List.length_take]; omega), List.getElem?_take_of_lt hjf]; exact hu, (mu.agree (.of_ext e4 fun b hb e => (hS b hb).2.2 e.symm)).mono fun b hb => .inl hb⟩
    · rw [List.getElem?_append_right (by rw [List.length_take]; omega)] at hj
      have hj0 : j - (st.take f).length = 0 := by
        rcases Nat.eq_zero_or_pos (j - (st.take f).length) with h | h
        · exact h
        · rw [List.getElem?_eq_none (by simp only [List.length_singleton]; exact h)] at hj; cases hj
      rw [hj0] at hj
      simp at hj
      subst hj
      have hj1 : j - (vs.take f).length = 0 := by rw [List.length_take] at hj0 ⊢; omega
      refine ⟨v5, by rw [List.getElem?_append_right (by rw [List.length_take]; omega), hj1]; rfl, ?_⟩
      refine (h5.cut.agree (.of_ext e54 fun b hb e => ?_)).mono fun b hb => ?_
      · rcases hb.1 with h | h
        · exact (hS b h).2.2 e.symm
        · have := hob b e.symm; omega
      · rcases hb.1 with h | h
        · exact .inl h
        · exact .inr ⟨by omega, hb.2⟩
  · intro b hb
    have hz5' := e5.size
    rcases hb with hb | hb
    · obtain ⟨g1, g2, g3⟩ := hS b hb
      refine ⟨g1, by omega, fun e => ?_⟩
      have e' : g' = b := by simpa [Value.ownBlock] using e
      subst e'
      rcases hat with h | h
      · exact g3 h
      · omega
    · have := hbl.size
      refine ⟨by omega, by omega, fun e => ?_⟩
      have e' : g' = b := by simpa [Value.ownBlock] using e
      subst e'
      rcases hat with h | h
      · have := hob _ h; omega
      · omega
  · exact ⟨e4.os.trans hbl.os, e4.tape.trans hbl.tape, e4.output.trans hbl.output, Nat.le_trans hbl.size e4.size, fun i hi => (e4.block i (by have := hbl.size; omega) (fun e => by have := (hown.lt i e.symm).1; omega)).trans (hbl.block i hi)⟩
def GotMean (L : List (Int × Int × ByteArray)) (w : World) (e : Ending) (w' : World) : Prop :=
  (∃ (v : Value) (g : (ByteArray → Int) → Int) (mm : Int), e = .returned (.tuple #[v, .int .i64 mm]) ∧ exG L [] 0 = ([g], mm) ∧ Mean (fun b => w.heap.size ≤ b) w' v g) ∧ Below w.heap.size w w'

set_option maxRecDepth 100000 in
set_option maxHeartbeats 8000000 in
theorem v_workM (L : List (Int × Int × ByteArray)) (p : Option Addr) (c : Nat) (w : World) (hp : WdP w L p) (hl : L.length ≤ 2000) (_hlc : L.length ≤ c) (_hcm : c ≤ maxLen) (hok : ∀ x ∈ L, WdOk x) (he : cErr L 0 = 0) :
    Calls Tryz.prog 93 #[.slice p L.length c, .func (.func 94) #[] #[]] w (GotMean L w) := by
  have HP := hid hp
  have HK := hid hok
  have hl' : (L.length : Int) ≤ 2000 := by omega
  obtain ⟨i0, hi0, hz0, hz1, hz2⟩ := info_parts info_mean
  have HR0 := hid (show WmRel L w 0 (.slice none 0 0) 0 w from ⟨[], [], fun _ => False, rfl, he, by simp, by omega, by simp, fun b h => h.elim, World.ownsRow_nil _ _ _ _, Below.refl _ _⟩)
  clear hp hok he
  go_enter Tryz.func93, Tryz.ntmps93
  go_wp2_with fail
  go_loopw [5, 6, 13] (fun m v i wr => ∃ (k : Nat) (u : Value) (mm : Int), k ≤ L.length ∧ i = .int .i64 k ∧ v = u ∧ m = .int .i64 mm ∧ WmRel L w k u mm wr) (fun _ _ i _ => L.length - (intOf i).toNat)
  case atStart => exact ⟨0, _, 0, by omega, rfl, rfl, rfl, HR0.out⟩
  case round =>
    obtain ⟨k, v, mm, hk, rfl, hgv, rfl, st, vs, S, hex, hce, hsk, ⟨hm0, hm1⟩, hms, hS, hown, hbl⟩ := hrel
    subst hgv
    have hvl : vs.length = st.length := by have := hown.1; omega
    have HX := hid hex
    have HC := hid hce
    have HM := hid hms
    have HS := hid hS
    have HO := hid hown
    have HB := hid hbl
    have hzr : w.heap.size ≤ wr.heap.size := hbl.size
    obtain ⟨ao, ca, hv, ha0, hac, ham, hcells⟩ := own_any hown
    have HCe := hid (And.intro ha0 hcells)
    have hca : (ca : Int) ≤ 9223372036854775807 := by unfold maxLen at ham; omega
    have hnc : (st.length : Int) ≤ ca := by omega
    clear hex hce hms hS hown hbl ha0 hcells
    subst hv
    generalize hnn : st.length = n at *
    have HNn := hid hnn
    clear hnn
    by_cases hlt : k < L.length
    · rcases HP.out with h0 | ⟨b, rfl, hat⟩
      · rw [h0] at hlt; simp at hlt
      have HA := hid (hat.ext (S := fun _ => False) (Ext.of_below HB.out) id)
      obtain ⟨c0, c1, c2⟩ := HA.out k _ (List.getElem?_eq_getElem hlt)
      have HD := hid (List.drop_eq_getElem_cons hlt)
      have HKx := hid (HK.out _ (List.getElem_mem hlt))
      generalize L[k] = x at c0 c1 c2 HD HKx
      obtain ⟨xo, xn, xs⟩ := x
      dsimp only at c0 c1 c2
      have HC2 := hid (cErr_cons (show cErr ((xo, xn, xs) :: L.drop (k + 1)) n = 0 by rw [← HD.out]; exact HC.out))
      have HX2 := hid (show exG L [] 0 = exG (L.drop (k + 1)) (stepG (xo, xn, xs) st) (max mm ((stepG (xo, xn, xs) st).length : Int)) by rw [HX.out, HD.out]; rfl)
      have HW := hid (wErr_zero HC2.out.1)
      clear HX HD
      obtain ⟨⟨v0, v1⟩, v2, v3⟩ := HW.out
      have hsl : (n : Int) ≤ 2000 := by omega
      have hle := HC2.out.2.1
      have hor := opsN_range xo
      dsimp only at hle
      have HAR := hid (opsN_ar v0 v1)
      obtain ⟨f, hf, hfl⟩ : ∃ f : Nat, (f : Int) = n - opsN xo ∧ f ≤ n := ⟨((n : Int) - opsN xo).toNat, by omega, by omega⟩
      have HF := hid hf
      have HQ := hid (show opn xo = (n : Int) - f by rw [opn_opsN]; omega)
      have hfl' : (f : Int) ≤ n := by omega
      have hf0 : (0 : Int) ≤ f := by omega
      have hfn : (f : Int).toNat = f := by omega
      have hfc : (f : Int) ≤ ca := by omega
      have hsub : (n : Int) - ((n : Int) - f) = f := by omega
      have hwr : IntKind.i64.wrap (f : Int) = f := IntWalk.i64_in _ (by omega)
      clear hf hle hor
      have HBx := hid (heap_new wr (.cells #[.int .i64 xo, .int .i64 xn, .string xs] 78))
      have E1 := hid ((Ext.refl (S := fun _ => False) wr).alloc (.cells #[.int .i64 xo, .int .i64 xn, .string xs] 78))
      obtain ⟨⟨q0, q1, q2⟩, _⟩ := blk3 HBx.out
      have HQ3 := hid (And.intro q0 (And.intro q1 q2))
      go_wp2_with fail
      refine (p_operands xo _).mono ?_
      rintro e w2 ⟨rfl, rfl⟩
      rw [HQ.out]
      have hlen : (st.drop f).length = n - f := by rw [List.length_drop, HNn.out]
      have hgl : (((st.drop f).length : Nat) : Int) = ar xo := by rw [hlen, ← HAR.out]; have := HF.out; omega
-- CASES
      cases ao with
      | none =>
        obtain ⟨h1, h2⟩ := HCe.out.1 rfl
        have h3 : f = 0 := by omega
        subst h3
        have h4 : ca = 0 := h2
        subst h4
        have h5 : n = 0 := h1
        subst h5
        have hst : st = [] := List.length_eq_zero_iff.1 HNn.out
        have HCall := hid (v_meaningOf xo xn xs [] none 0 0 0 (wr.alloc (.cells #[.int .i64 xo, .int .i64 xn, .string xs] 78)).drew v0 v1 (by rw [← hgl, hst]; rfl) ⟨v2, v3⟩ (.inl rfl) (S := S) (fun i g h => by simp at h))
        have hdr : valO xo xn xs [] = valO xo xn xs (st.drop 0) := by rw [hst]; rfl
        rw [hdr, show ([] : List ((ByteArray → Int) → Int)).length = 0 from rfl] at HCall
        clear hgl hst hdr h1 h2
        go_wp2_with fail
        go_region_held3 (fun w' => w'.cell? ⟨wr.heap.size, 0, none⟩ = some (.int .i64 xo) ∧ w'.cell? ⟨wr.heap.size, 1, none⟩ = some (.int .i64 xn) ∧ w'.cell? ⟨wr.heap.size, 2, none⟩ = some (.string xs))
          (first
            | (with_reducible exact ⟨E5.out.cell_some HQ3.out.1 id, E5.out.cell_some HQ3.out.2.1 id, E5.out.cell_some HQ3.out.2.2 id⟩)
            | exact ⟨HQ3.out.1, HQ3.out.2.1, HQ3.out.2.2⟩
            | (go_keep; done))
          ((go_at_call 94; (with_reducible refine HCall.out.mono ?_); rintro e w5 ⟨⟨v5, rfl, hm5⟩, hb5⟩; have E5 := hid ((Ext.refl (S := fun _ => False) _).drew.trans (Ext.of_below hb5)); have HM5 := hid hm5; obtain ⟨kv, cv, rfl, _, _⟩ := hm5; clear hb5))
        have HE5 := hid (E1.out.trans E5.out)
        have HOT := hid (own_take (ownsRow_ext (S := fun _ => False) HO.out HE5.out (fun _ _ _ => id)) (k := 0) (by omega))
        have hz5 : wr.heap.size + 1 ≤ w5.heap.size := by have := E5.out.size; simpa using this
        have hf1 : 0 + 1 ≤ maxLen := by unfold maxLen; omega
        go_wp2_with (at_builtin; refine wpList_append_lies _ rfl _ _ 152 rfl w.heap.size 91 i0 _ 1 8 Tryz.underlying152 hi0 hz0 hz1 hz2 rfl (by decide) _ _ _ (by rfl) (HOT.out.alloc _) ⟨w5.heap.size, 0, none⟩ 1 1 _ rfl rfl (World.news_of_block (heap_alloc_new w5 _)) (fun x hx => by simp at hx; rcases hx with rfl; rfl) (by omega) hf1 (by omega) (by simp <;> omega) (w5.heap.size + 1) (by simp) ?_; intro g' cap w4 hown4 hgrow hat4 hlt4)
        have e54 : Ext (fun b => some b = (Value.slice (none) 0 0).ownBlock) w5 w4 := ((Ext.refl w5).alloc _).grown hgrow (fun b hb => .inl hb.symm)
        have HH := hid (wm_next HX2.out HC2.out HF.out hm0 hm1 hsk HM.out HS.out HO.out HB.out HE5.out hz5 HM5.out hown4 e54 hat4 HNn.out)
        go_roundw
        case rel => exact ⟨k + 1, _, max mm (((0 : Nat) : Int) + 1), by omega, by go_num, rfl, rfl, HH.out⟩
        case measure => simp [intOf]; omega
      | some bb =>
        obtain ⟨g, rfl, hgb, hcells⟩ := HCe.out.2 bb rfl
        by_cases hfull : ca = f
        · skip
          have ED := hid (E1.out.drew)
          have HMA := hid (show MeansAt S (wr.alloc (.cells #[.int .i64 xo, .int .i64 xn, .string xs] 78)).drew g f (st.drop f) from fun i gg hg => by
            rw [List.getElem?_drop] at hg
            obtain ⟨u, hu, mu⟩ := HM.out (f + i) gg hg
            exact ⟨u, ED.out.cell_some (hcells _ u hu) id, mu.ext ED.out⟩)
          obtain rfl : f = ca := by omega
          obtain rfl : f = n := by omega
          have HCall := hid (v_meaningOf xo xn xs (st.drop f) (some ⟨g, 0, none⟩) g f 0 _ v0 v1 hgl ⟨v2, v3⟩ (.inl (List.drop_eq_nil_of_le (Nat.le_of_eq HNn.out))) HMA.out)
          rw [hlen, Nat.sub_self] at HCall
          clear hgl hcells hfull hlen
          go_wp2_with fail
          go_region_held3 (fun w' => w'.cell? ⟨wr.heap.size, 0, none⟩ = some (.int .i64 xo) ∧ w'.cell? ⟨wr.heap.size, 1, none⟩ = some (.int .i64 xn) ∧ w'.cell? ⟨wr.heap.size, 2, none⟩ = some (.string xs))
            (first
              | (with_reducible exact ⟨E5.out.cell_some HQ3.out.1 id, E5.out.cell_some HQ3.out.2.1 id, E5.out.cell_some HQ3.out.2.2 id⟩)
              | exact ⟨HQ3.out.1, HQ3.out.2.1, HQ3.out.2.2⟩
              | (go_keep; done))
            ((go_at_call 94; (with_reducible refine HCall.out.mono ?_); rintro e w5 ⟨⟨v5, rfl, hm5⟩, hb5⟩; have E5 := hid ((Ext.refl (S := fun _ => False) _).drew.trans (Ext.of_below hb5)); have HM5 := hid hm5; obtain ⟨kv, cv, rfl, _, _⟩ := hm5; clear hb5))
          have HE5 := hid (E1.out.trans E5.out)
          have HOT := hid (own_take (ownsRow_ext (S := fun _ => False) HO.out HE5.out (fun _ _ _ => id)) (k := f) (by omega))
          have hz5 : wr.heap.size + 1 ≤ w5.heap.size := by have := E5.out.size; simpa using this
          have hf1 : f + 1 ≤ maxLen := by unfold maxLen; omega
          go_wp2_with (at_builtin; refine wpList_append_lies _ rfl _ _ 152 rfl w.heap.size 91 i0 _ 1 8 Tryz.underlying152 hi0 hz0 hz1 hz2 rfl (by decide) _ _ _ (by rfl) (HOT.out.alloc _) ⟨w5.heap.size, 0, none⟩ 1 1 _ rfl rfl (World.news_of_block (heap_alloc_new w5 _)) (fun x hx => by simp at hx; rcases hx with rfl; rfl) (by omega) hf1 (by omega) (by simp <;> omega) (w5.heap.size + 1) (by simp) ?_; intro g' cap w4 hown4 hgrow hat4 hlt4)
          have e54 : Ext (fun b => some b = (Value.slice (some ⟨g, 0, none⟩) 0 0).ownBlock) w5 w4 := ((Ext.refl w5).alloc _).grown hgrow (fun b hb => .inl hb.symm)
          have HH := hid (wm_next HX2.out HC2.out HF.out hm0 hm1 hsk HM.out HS.out HO.out HB.out HE5.out hz5 HM5.out hown4 e54 hat4 HNn.out)
          go_roundw
          case rel => exact ⟨k + 1, _, max mm (((f : Nat) : Int) + 1), by omega, by go_num, rfl, rfl, HH.out⟩
          case measure => simp [intOf]; omega
        · skip
          have ED := hid (E1.out.drew)
          have HMA := hid (show MeansAt S (wr.alloc (.cells #[.int .i64 xo, .int .i64 xn, .string xs] 78)).drew g f (st.drop f) from fun i gg hg => by
            rw [List.getElem?_drop] at hg
            obtain ⟨u, hu, mu⟩ := HM.out (f + i) gg hg
            exact ⟨u, ED.out.cell_some (hcells _ u hu) id, mu.ext ED.out⟩)
          have HCall := hid (v_meaningOf xo xn xs (st.drop f) (some ⟨g, f, none⟩) g f (ca - f) _ v0 v1 hgl ⟨v2, v3⟩ (.inr rfl) HMA.out)
          rw [hlen] at HCall
          clear hgl hcells hlen
          go_wp2_with fail
          go_region_held3 (fun w' => w'.cell? ⟨wr.heap.size, 0, none⟩ = some (.int .i64 xo) ∧ w'.cell? ⟨wr.heap.size, 1, none⟩ = some (.int .i64 xn) ∧ w'.cell? ⟨wr.heap.size, 2, none⟩ = some (.string xs))
            (first
              | (with_reducible exact ⟨E5.out.cell_some HQ3.out.1 id, E5.out.cell_some HQ3.out.2.1 id, E5.out.cell_some HQ3.out.2.2 id⟩)
              | exact ⟨HQ3.out.1, HQ3.out.2.1, HQ3.out.2.2⟩
              | (go_keep; done))
            ((go_at_call 94; (with_reducible refine HCall.out.mono ?_); rintro e w5 ⟨⟨v5, rfl, hm5⟩, hb5⟩; have E5 := hid ((Ext.refl (S := fun _ => False) _).drew.trans (Ext.of_below hb5)); have HM5 := hid hm5; obtain ⟨kv, cv, rfl, _, _⟩ := hm5; clear hb5))
          have HE5 := hid (E1.out.trans E5.out)
          have HOT := hid (own_take (ownsRow_ext (S := fun _ => False) HO.out HE5.out (fun _ _ _ => id)) (k := f) (by omega))
          have hz5 : wr.heap.size + 1 ≤ w5.heap.size := by have := E5.out.size; simpa using this
          have hf1 : f + 1 ≤ maxLen := by unfold maxLen; omega
          go_wp2_with (at_builtin; refine wpList_append_lies _ rfl _ _ 152 rfl w.heap.size 91 i0 _ 1 8 Tryz.underlying152 hi0 hz0 hz1 hz2 rfl (by decide) _ _ _ (by rfl) (HOT.out.alloc _) ⟨w5.heap.size, 0, none⟩ 1 1 _ rfl rfl (World.news_of_block (heap_alloc_new w5 _)) (fun x hx => by simp at hx; rcases hx with rfl; rfl) (by omega) hf1 (by omega) (by simp <;> omega) (w5.heap.size + 1) (by simp) ?_; intro g' cap w4 hown4 hgrow hat4 hlt4)
          have e54 : Ext (fun b => some b = (Value.slice (some ⟨g, 0, none⟩) 0 0).ownBlock) w5 w4 := ((Ext.refl w5).alloc _).grown hgrow (fun b hb => .inl hb.symm)
          have HH := hid (wm_next HX2.out HC2.out HF.out hm0 hm1 hsk HM.out HS.out HO.out HB.out HE5.out hz5 HM5.out hown4 e54 hat4 HNn.out)
          go_roundw
          case rel => exact ⟨k + 1, _, max mm (((f : Nat) : Int) + 1), by omega, by go_num, rfl, rfl, HH.out⟩
          case measure => simp [intOf]; omega
    · have hf : L.drop k = [] := List.drop_eq_nil_of_le (by omega)
      have hc0 := HC.out
      rw [hf] at hc0
      have hl1 : n = 1 := by
        unfold cErr at hc0
        split at hc0
        · cases hc0
        · rename_i h; simp at h; omega
      subst hl1
      obtain ⟨gg, rfl⟩ : ∃ gg, st = [gg] := List.length_eq_one_iff.1 HNn.out
      have HXE := hid (show exG L [] 0 = ([gg], mm) by rw [HX.out, hf]; rfl)
      obtain ⟨u, hu, mu⟩ := HM.out 0 gg rfl
      obtain ⟨g, rfl, hcell⟩ : ∃ g, ao = some ⟨g, 0, none⟩ ∧ wr.cell? ⟨g, 0, none⟩ = some u := by
        cases ao with
        | none => have := (HCe.out.1 rfl).1; omega
        | some bb => obtain ⟨g, rfl, _, h2⟩ := HCe.out.2 bb rfl; exact ⟨g, rfl, h2 0 _ hu⟩
      have MU := hid (mu.mono (T := fun b => w.heap.size ≤ b) fun b hb => (HS.out b hb).1)
      obtain ⟨kv, cv, rfl, _, _⟩ := mu
      clear hc0 hf HX HC hu
      go_wp2_with fail
      go_ret2
      exact ⟨⟨_, gg, mm, rfl, HXE.out, MU.out⟩, HB.out⟩
end Go.Proofs.YtckbhlnncokigaaGreat
