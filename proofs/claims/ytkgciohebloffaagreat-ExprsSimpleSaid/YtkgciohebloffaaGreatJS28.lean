/- Texts joined: Compile, Slots. -/
import Derived.Test.YtkgciohebloffaaGreatJS27
import Derived.Test.YtkgciohebloffaaGreatJS16
import Derived.Test.YtkgciohebloffaaGreatJS15
import Derived.Test.YtkgciohebloffaaGreatJS07
/- compile, the program's: an expression's meaning. -/
namespace Go.Proofs.YtkgciohebloffaaGreat
open Go.RowKit

theorem some_eq {S : Nat → Prop} {g k : (ByteArray → Int) → Int} {e : Ending} {w : World} (h : SomeMean S g e w) (hg : ∀ f, g f = k f) : SomeMean S k e w := by
  obtain rfl : g = k := funext hg
  exact h
theorem v_meaningOf (op n : Int) (s : ByteArray) (gs : List ((ByteArray → Int) → Int)) (p : Option Addr) (b o c : Nat) (w : World) (h1 : 1 ≤ op) (h2 : op ≤ 9) (hl : (gs.length : Int) = ar op) (hn : V999 n) (hp : gs = [] ∨ p = some ⟨b, o, none⟩) {S : Nat → Prop} (hm : MeansAt S w b o gs) :
    Calls Tryz.prog 94 #[.agg #[.int .i64 op, .int .i64 n, .string s], .slice p gs.length c] w fun e w' => SomeMean (fun b => S b ∨ w.heap.size ≤ b) (valO op n s gs) e w' ∧ Below w.heap.size w w' := by
  rcases (show op = 1 ∨ op = 2 ∨ op = 3 ∨ op = 4 ∨ op = 5 ∨ op = 6 ∨ op = 7 ∨ op = 8 ∨ op = 9 by omega) with rfl | rfl | rfl | rfl | rfl | rfl | rfl | rfl | rfl
  · exact (v_mof1 n s p gs.length c w hn).mono fun e w' h => ⟨some_eq h.1 fun f => by simp [valO], h.2⟩
  · exact (v_mof2 n s p gs.length c w).mono fun e w' h => ⟨some_eq h.1 fun f => by simp [valO], h.2⟩
  · obtain ⟨g, k, rfl⟩ := len_two (l := gs) (by simp [ar] at hl; omega)
    obtain rfl := hp.resolve_left (by simp)
    obtain ⟨u, hu, mu⟩ := hm 0 _ rfl
    obtain ⟨v, hv, mv⟩ := hm 1 _ rfl
    exact (v_mof3 n s b o c u v g k w hu hv mu mv).mono fun e w' h => ⟨some_eq h.1 fun f => by simp [valO], h.2⟩
  · obtain ⟨g, k, rfl⟩ := len_two (l := gs) (by simp [ar] at hl; omega)
    obtain rfl := hp.resolve_left (by simp)
    obtain ⟨u, hu, mu⟩ := hm 0 _ rfl
    obtain ⟨v, hv, mv⟩ := hm 1 _ rfl
    exact (v_mof4 n s b o c u v g k w hu hv mu mv).mono fun e w' h => ⟨some_eq h.1 fun f => by simp [valO], h.2⟩
  · obtain ⟨g, k, rfl⟩ := len_two (l := gs) (by simp [ar] at hl; omega)
    obtain rfl := hp.resolve_left (by simp)
    obtain ⟨u, hu, mu⟩ := hm 0 _ rfl
    obtain ⟨v, hv, mv⟩ := hm 1 _ rfl
    exact (v_mof5 n s b o c u v g k w hu hv mu mv).mono fun e w' h => ⟨some_eq h.1 fun f => by simp [valO], h.2⟩
  · obtain ⟨g, k, rfl⟩ := len_two (l := gs) (by simp [ar] at hl; omega)
    obtain rfl := hp.resolve_left (by simp)
    obtain ⟨u, hu, mu⟩ := hm 0 _ rfl
    obtain ⟨v, hv, mv⟩ := hm 1 _ rfl
    exact (v_mof6 n s b o c u v g k w hu hv mu mv).mono fun e w' h => ⟨some_eq h.1 fun f => by simp [valO], h.2⟩
  · obtain ⟨g, k, rfl⟩ := len_two (l := gs) (by simp [ar] at hl; omega)
    obtain rfl := hp.resolve_left (by simp)
    obtain ⟨u, hu, mu⟩ := hm 0 _ rfl
    obtain ⟨v, hv, mv⟩ := hm 1 _ rfl
    exact (v_mof7 n s b o c u v g k w hu hv mu mv).mono fun e w' h => ⟨some_eq h.1 fun f => by simp [valO], h.2⟩
  · obtain ⟨g, rfl⟩ := len_one (l := gs) (by simp [ar] at hl; omega)
    obtain rfl := hp.resolve_left (by simp)
    obtain ⟨u, hu, mu⟩ := hm 0 _ rfl
    exact (v_mof8 n s b o c u g w hu mu).mono fun e w' h => ⟨some_eq h.1 fun f => by simp [valO], h.2⟩
  · obtain ⟨g, k, l, rfl⟩ := len_three (l := gs) (by simp [ar] at hl; omega)
    obtain rfl := hp.resolve_left (by simp)
    obtain ⟨u, hu, mu⟩ := hm 0 _ rfl
    obtain ⟨v, hv, mv⟩ := hm 1 _ rfl
    obtain ⟨t, ht, mt⟩ := hm 2 _ rfl
    exact (v_mof9 n s b o c u v t g k l w hu hv ht mu mv mt).mono fun e w' h => ⟨some_eq h.1 fun f => by simp [valO], h.2⟩

def valEG (f : ByteArray → Int) (op n : Int) (s : ByteArray) (a : F) : Int := if op = 1 then n else if op = 2 then f s else compV op (valG f a)
theorem valG_cons (f : ByteArray → Int) (op n : Int) (s : ByteArray) (a r : F) : valG f (.cons op n s a r) = valEG f op n s a :: valG f r := rfl
/-- The meanings of expressions in a row. -/
def gF : F → List ((ByteArray → Int) → Int)
  | .nil => []
  | .cons op n s a r => (fun f => valEG f op n s a) :: gF r
theorem gF_length : ∀ a : F, (gF a).length = a.len
  | .nil => rfl
  | .cons _ _ _ _ r => by simp [gF, F.len, gF_length r]
theorem gF_map (f : ByteArray → Int) : ∀ a : F, (gF a).map (fun g => g f) = valG f a
  | .nil => rfl
  | .cons op n s a r => by rw [valG_cons, ← gF_map f r]; rfl
theorem gF_at : ∀ (a : F) (k : Nat) {op n s b r}, a.drop k = .cons op n s b r → (gF a)[k]? = some fun f => valEG f op n s b
  | .nil, 0, _, _, _, _, _, h => by simp [F.drop] at h
  | .cons _ _ _ _ _, 0, _, _, _, _, _, h => by simp only [F.drop] at h; cases h; rfl
  | .nil, _ + 1, _, _, _, _, _, h => by simp [F.drop] at h
  | .cons _ _ _ _ r, k + 1, _, _, _, _, _, h => by
    simp only [gF, List.getElem?_cons_succ]
    exact gF_at r k h
theorem valO_gF (op n : Int) (s : ByteArray) (a : F) (f : ByteArray → Int) : valO op n s (gF a) f = valEG f op n s a := by
  unfold valO valEG; rw [gF_map]

theorem Mean.cut {S : Nat → Prop} {w : World} {v : Value} {g : (ByteArray → Int) → Int} (h : Mean S w v g) : Mean (fun b => S b ∧ b < w.heap.size) w v g := by
  obtain ⟨k, caps, h1, h2, h3⟩ := h
  exact ⟨k, caps, h1, h2, fun of f W hW => h3 of f W ⟨hW.1, fun b hb hlt => hW.2 b ⟨hb, hlt⟩ hlt⟩⟩
theorem info_mean : (Tryz.prog.info? 91).map (fun i => (i.zero, i.size, i.bytes)) = some (some .nilFunc, 1, 8) := by kernel_rfl
/-- What holds behind k rounds of compile's loop. -/
def CRel (op n : Int) (s : ByteArray) (a : F) (p : Option Addr) (c : Nat) (w : World) (k : Nat) (v : Value) (wr : World) : Prop :=
  ∃ (vs : List Value) (S : Nat → Prop), vs.length = k ∧ (∀ j g, j < k → (gF a)[j]? = some g → ∃ u, vs[j]? = some u ∧ Mean S wr u g) ∧ (∀ b, S b → w.heap.size + 1 ≤ b ∧ b < wr.heap.size ∧ v.ownBlock ≠ some b) ∧ wr.ownsRow (w.heap.size + 1) 91 1 v k vs ∧
    wr.heap[w.heap.size]? = some (.cells #[.int .i64 op, .int .i64 n, .string s, .slice p a.len c] 28 (0, 0)) ∧ Below w.heap.size w wr ∧ w.heap.size + 1 ≤ wr.heap.size

set_option maxRecDepth 100000 in
set_option maxHeartbeats 4000000 in
theorem v_compile1 (m : Nat) (ih : ∀ (op n : Int) (s : ByteArray) (a : F) (p : Option Addr) (c : Nat) (fa : List Nat) (w : World), a.size < m → RdP w a p fa → a.len ≤ c → c ≤ 9223372036854775807 → (F.cons op n s a .nil).Fits → (F.cons op n s a .nil).Small →
      Calls Tryz.prog 57 #[.agg #[.int .i64 op, .int .i64 n, .string s, .slice p a.len c]] w fun e w' => SomeMean (fun b => w.heap.size ≤ b) (fun f => valEG f op n s a) e w' ∧ Below w.heap.size w w')
    (op n : Int) (s : ByteArray) (a : F) (p : Option Addr) (c : Nat) (fa : List Nat) (w : World) (ham : a.size ≤ m) (hp : RdP w a p fa) (hac : a.len ≤ c) (hc : c ≤ 9223372036854775807) (hfit : (F.cons op n s a .nil).Fits) (hsm : (F.cons op n s a .nil).Small) :
    Calls Tryz.prog 57 #[.agg #[.int .i64 op, .int .i64 n, .string s, .slice p a.len c]] w fun e w' => SomeMean (fun b => w.heap.size ≤ b) (fun f => valEG f op n s a) e w' ∧ Below w.heap.size w w' := by
  obtain ⟨⟨o1, o2⟩, ⟨n1, n2⟩, hs, hfa, _⟩ := hfit
  obtain ⟨⟨⟨k1, k2⟩, ⟨k3, k4⟩, k5⟩, hsa, _⟩ := hsm
  have HP := hid hp
  have IH := hid ih
  have HFA := hid hfa
  have HSA := hid hsa
  have HK := hid k5
  have hR0 : CRel op n s a p c w 0 (.slice none 0 0) (w.alloc (.cells #[.int .i64 op, .int .i64 n, .string s, .slice p a.len c] 28)) :=
    ⟨[], fun _ => False, rfl, fun j g h => by omega, fun b h => h.elim, World.ownsRow_nil _ _ _ _, heap_new w _, alloc_below w _, by simp⟩
  have HR0 := hid hR0
  have hal : (a.len : Int) ≤ 9223372036854775807 := by omega
  have ha3 : a.len ≤ 3 := by have := k5; unfold ar at this; (repeat' split at this) <;> omega
  obtain ⟨i0, hi0, hz0, hz1, hz2⟩ := info_parts info_mean
  clear hp ih hfa hsa k5 hR0
  go_enter Tryz.func57, Tryz.ntmps57
  go_wp2_with fail
  go_loopw [3, 9] (fun v i wr => ∃ (k : Nat) (u : Value), k ≤ a.len ∧ i = .int .i64 k ∧ v = u ∧ CRel op n s a p c w k u wr) (fun _ i _ => a.len - (intOf i).toNat)
  case atStart => exact ⟨0, _, by omega, rfl, rfl, HR0.out⟩
  case round =>
    obtain ⟨k, v, hk, rfl, hgv, vs, HS, hlen, hms, hS, hown, hE, hbl, hz⟩ := hrel
    subst hgv
    have HA := hid (And.intro hlen (And.intro hms hS))
    have HO := hid hown
    have HEb := hid hE
    have HB := hid hbl
    obtain ⟨⟨q0, q1, q2, q3⟩, f0, f1, f2, f3⟩ := blk4 hE
    have hpr : RdP wr a p fa := HP.out.ext (S := fun _ => False) (Ext.of_below hbl) (fun _ _ => id)
    clear hlen hms hS hown hE hbl
    by_cases hlt : k < a.len
    · rcases hpr with ⟨h0, _⟩ | ⟨b, o, xa, fb, rfl, _, _, hcell, _, hx⟩
      · rw [h0] at hlt; simp [F.len] at hlt
      obtain ⟨op', n', s', a', p', c', fa', hdrop, x0, x1, x2, x3, hl', hc', hp', _⟩ := hx.at hlt
      have y0 := hcell _ _ x0
      have y1 := hcell _ _ x1
      have y2 := hcell _ _ x2
      have y3 := hcell _ _ x3
      simp only [← Nat.add_assoc, Nat.mul_comm 4 k] at y0 y1 y2 y3
      have hfit' : (F.cons op' n' s' a' .nil).Fits := by
        have := F.fits_drop k HFA.out; rw [hdrop] at this; exact ⟨this.1, this.2.1, this.2.2.1, this.2.2.2.1, trivial⟩
      have hsm' : (F.cons op' n' s' a' .nil).Small := by
        have := F.small_drop k HSA.out; rw [hdrop] at this; exact ⟨this.1, this.2.1, trivial⟩
      have hsz' : a'.size < m := by
        have := F.size_split k a hdrop; omega
      have HG := hid (gF_at a k hdrop)
      have HP' := hid (And.intro hp' (And.intro hl' (And.intro hc' (And.intro hfit' (And.intro hsm' hsz')))))
      clear hcell hx x0 x1 x2 x3 hp' hl' hc' hfit' hsm' hsz' hdrop
      have hkm : k + 1 ≤ maxLen := by unfold maxLen; omega
      go_wp2_with fail
      refine (IH.out op' n' s' a' p' c' fa' _ HP'.out.2.2.2.2.2 (HP'.out.1.ext (S := fun _ => False) ((Ext.refl _).alloc _) (fun _ _ => id)) HP'.out.2.1 HP'.out.2.2.1 HP'.out.2.2.2.1 HP'.out.2.2.2.2.1).mono ?_
      rintro e w3 ⟨⟨v3, rfl, hm3⟩, hb3⟩
      have hz3 : wr.heap.size + 1 ≤ w3.heap.size := by have := hb3.size; simpa using this
      have HB3 := hid ((alloc_below wr _).trans (hb3.mono (by simp)))
      have HO3 := hid (ownsRow_ext (S := fun _ => False) HO.out (Ext.of_below HB3.out) (fun _ _ _ => id))
      have HM3 := hid hm3
      obtain ⟨kv, cv, rfl, _, _⟩ := hm3
      clear hb3
      go_wp2_with (at_builtin; refine wpList_append_lies _ rfl _ _ 152 rfl (w.heap.size + 1) 91 i0 _ 1 8 Tryz.underlying152 hi0 hz0 hz1 hz2 rfl (by decide) _ _ _ (by rfl) (HO3.out.alloc _) ⟨w3.heap.size, 0, none⟩ 1 1 _ rfl rfl (World.news_of_block (heap_alloc_new w3 _)) (fun x hx => by simp at hx; rcases hx with rfl; rfl) (by omega) hkm (by omega) (by simp <;> omega) _ rfl ?_; intro g cap w4 hown4 hgrow hat4 hlt4)
      have hne : ∀ b, b < w.heap.size + 1 → some b ≠ u3.ownBlock := fun b hb e => by have := (HO.out.lt b e.symm).1; omega
      have hlt3 : ∀ b, u3.ownBlock = some b → b < wr.heap.size := fun b e => (HO.out.lt b e).2
      have e34 : Ext (fun b => some b = u3.ownBlock) w3 w4 := ((Ext.refl w3).alloc _).grown hgrow (fun b hb => .inl hb.symm)
      have e4 : Ext (fun b => some b = u3.ownBlock) wr w4 := ((Ext.of_below HB3.out)).trans e34
      have hz4 := e34.size
      go_roundw
      case rel =>
        refine ⟨k + 1, _, by omega, by go_num, rfl, vs ++ [.func (.func kv) #[] cv], fun b => HS b ∨ (wr.heap.size ≤ b ∧ b < w3.heap.size), by simp [HA.out.1], ?_, ?_, hown4, e4.heap HEb.out (hne _ (by omega)), ?_, Nat.le_trans hz e4.size⟩
        · intro j g' hj hg'
          by_cases hjk : j < k
          · obtain ⟨u, hu, mu⟩ := HA.out.2.1 j g' hjk hg'
            exact ⟨u, by rw [List.getElem?_append_left (by have := HA.out.1; omega)]; exact hu, (mu.agree (.of_ext e4 fun b hb e => (HA.out.2.2 b hb).2.2 e.symm)).mono fun b hb => .inl hb⟩
          · obtain rfl : j = k := by omega
            rw [HG.out] at hg'
            cases hg'
            refine ⟨.func (.func kv) #[] cv, by rw [List.getElem?_append_right (by have := HA.out.1; omega)]; simp [HA.out.1], ?_⟩
            exact (HM3.out.cut.agree (.of_ext e34 fun b hb e => by have := hlt3 b e.symm; have := hb.1; simp at this; omega)).mono fun b hb => .inr ⟨by have := hb.1; simp at this; omega, hb.2⟩
        · intro b hb
          have hs3 : w3.heap.size ≤ w4.heap.size := hz4
          simp only [World.size_alloc] at hat4
          rcases hb with hb | hb
          · obtain ⟨g1, g2, g3⟩ := HA.out.2.2 b hb
            refine ⟨g1, by omega, fun e => ?_⟩
            simp only [Value.ownBlock, Option.some.injEq] at e
            rcases hat4 with h | h
            · exact g3 (by rw [h, e])
            · omega
          · refine ⟨by omega, by omega, fun e => ?_⟩
            simp only [Value.ownBlock, Option.some.injEq] at e
            rcases hat4 with h | h
            · have := hlt3 g h; omega
            · omega
        · exact ⟨e4.os.trans HB.out.os, e4.tape.trans HB.out.tape, e4.output.trans HB.out.output, Nat.le_trans HB.out.size e4.size, fun i hi => (e4.block i (by have := HB.out.size; omega) (hne _ (by omega))).trans (HB.out.block i hi)⟩
      case measure => simp [intOf]; omega
    · have hka : k = a.len := by omega
      clear hpr
      subst hka
      have hrow : ∃ pp cc bb, u3 = .slice pp a.len cc ∧ (gF a = [] ∨ pp = some ⟨bb, 0, none⟩) ∧ MeansAt HS wr bb 0 (gF a) := by
        by_cases h0 : a.len = 0
        · have hg0 : gF a = [] := by have := gF_length a; rw [h0] at this; exact List.length_eq_zero_iff.1 this
          rcases HO.out.2 with ⟨h1, _⟩ | ⟨g, c, cur, h1, _⟩
          · exact ⟨none, 0, 0, by rw [h1, h0], .inl hg0, by rw [hg0]; intro i g hi; simp at hi⟩
          · exact ⟨_, _, 0, h1, .inl hg0, by rw [hg0]; intro i g hi; simp at hi⟩
        · obtain ⟨gg, cc, h1, _, _, _, hcell, _⟩ := own_cells HO.out (by omega)
          refine ⟨_, cc, gg, h1, .inr rfl, fun i g hi => ?_⟩
          have hil : i < a.len := by
            rcases Nat.lt_or_ge i (gF a).length with h | h
            · rwa [gF_length] at h
            · rw [List.getElem?_eq_none h] at hi; cases hi
          obtain ⟨u, hu, mu⟩ := HA.out.2.1 i g hil hi
          exact ⟨u, by rw [Nat.zero_add]; exact hcell i u hu, mu⟩
      obtain ⟨pp, cc, bb, rfl, hpp, hms⟩ := hrow
      have HF := hid (v_meaningOf op n s (gF a) pp bb 0 cc wr k1 k2 (by rw [gF_length]; exact HK.out) ⟨k3, k4⟩ hpp hms)
      rw [gF_length] at HF
      clear hpp hms
      go_wp2_with fail
      refine HF.out.mono ?_
      rintro e w5 ⟨⟨v5, rfl, hm5⟩, hb5⟩
      have HB5 := hid (HB.out.trans (hb5.mono HB.out.size))
      have HM5 := hid (hm5.mono (T := fun b => w.heap.size ≤ b) fun b hb => by
        rcases hb with hb | hb
        · have := (HA.out.2.2 b hb).1; omega
        · omega)
      clear hb5 hm5
      go_wp2_with fail
      go_ret
      exact ⟨⟨_, rfl, by
        obtain ⟨k, c, h1, h2, h3⟩ := HM5.out
        exact ⟨k, c, h1, h2, fun of f W hW ho => by have := h3 of f W hW ho; rw [valO_gF] at this; exact this⟩⟩, HB5.out⟩
theorem v_compile (m : Nat) : ∀ (op n : Int) (s : ByteArray) (a : F) (p : Option Addr) (c : Nat) (fa : List Nat) (w : World), a.size < m → RdP w a p fa → a.len ≤ c → c ≤ 9223372036854775807 → (F.cons op n s a .nil).Fits → (F.cons op n s a .nil).Small →
      Calls Tryz.prog 57 #[.agg #[.int .i64 op, .int .i64 n, .string s, .slice p a.len c]] w fun e w' => SomeMean (fun b => w.heap.size ≤ b) (fun f => valEG f op n s a) e w' ∧ Below w.heap.size w w' := by
  induction m with
  | zero => intro op n s a p c fa w h; omega
  | succ m ih =>
    intro op n s a p c fa w h h1 h2 h3 h4 h5
    exact v_compile1 m ih op n s a p c fa w (by omega) h1 h2 h3 h4 h5
end Go.Proofs.YtkgciohebloffaaGreat
/- SlotsFault, the reference's. -/
namespace Go.Proofs.YtkgciohebloffaaGreat
open Go.RowKit

/-- The error of slots, one after another, behind a name. -/
def slErr : ByteArray → List (ByteArray × Int) → Int
  | _, [] => 0
  | y, x :: r =>
    if nameB x.1.data.toList = false then 5
    else if ¬ (0 ≤ x.2 ∧ x.2 ≤ 999) then 1
    else if (Op.bytesLess x.1.toList y.toList || x.1.toList == y.toList) = true then 7
    else slErr x.1 r

set_option maxRecDepth 100000 in
set_option maxHeartbeats 2000000 in
theorem q_SlotsFault (L : List (ByteArray × Int)) (p : Option Addr) (c : Nat) (w : World) (hp : SlP w L p) (hl : L.length ≤ 4) (_hlc : L.length ≤ c) (_hcm : c ≤ maxLen) (hok : ∀ x ∈ L, SlOk x) :
    Calls Tryz.prog 10 #[.slice p L.length c] w fun e w' => e = .returned (.int .i64 (slErr ⟨#[]⟩ L)) ∧ Below w.heap.size w w' := by
  have HP := hid hp
  have HK := hid hok
  have hl' : (L.length : Int) ≤ 4 := by omega
  clear hp hok
  go_enter Tryz.func10, Tryz.ntmps10
  go_wp2_with fail
  go_loopw [3, 11] (fun v i wr => ∃ (k : Nat) (y : ByteArray), k ≤ L.length ∧ i = .int .i64 k ∧ v = .string y ∧ slErr ⟨#[]⟩ L = slErr y (L.drop k) ∧ Below w.heap.size w wr) (fun _ i _ => L.length - (intOf i).toNat)
  case atStart => exact ⟨0, _, by omega, rfl, rfl, rfl, Below.refl _ _⟩
  case round =>
    obtain ⟨k, y, hk, rfl, rfl, herr, hbl⟩ := hrel
    have HR := hid herr
    have HB := hid hbl
    have hzr : w.heap.size ≤ wr.heap.size := hbl.size
    clear herr hbl
    by_cases hlt : k < L.length
    · rcases HP.out with h0 | ⟨b, rfl, hat⟩
      · rw [h0] at hlt; simp at hlt
      have HA := hid (hat.ext (S := fun _ => False) (Ext.of_below HB.out) id)
      obtain ⟨c0, c1⟩ := HA.out k _ (List.getElem?_eq_getElem hlt)
      have HD := hid (List.drop_eq_getElem_cons hlt)
      have HKx := hid (HK.out _ (List.getElem_mem hlt))
      generalize L[k] = x at c0 c1 HD HKx
      go_wp2_with fail
      have hsz : x.1.size ≤ 9223372036854775807 := by have := HKx.out.1; omega
      have n0 : -1099511627776 ≤ x.2 ∧ x.2 ≤ 1099511627776 := HKx.out.2
      have HR2 := hid (show slErr ⟨#[]⟩ L = slErr y (x :: L.drop (k + 1)) by rw [HR.out, ← HD.out])
      clear HR
      by_cases hnm : nameB x.1.data.toList = true
      case neg =>
        have hnm' : nameB x.1.data.toList = false := by simpa using hnm
        refine (q_Name x.1 false hnm' _ hsz).mono ?_
        rintro e w2 ⟨rfl, hb2⟩
        have HB2 := hid ((HB.out.alloc hzr _).trans (hb2.mono (by simp; omega)))
        go_wp2_with fail
        go_ret
        exact ⟨ret_int (by rw [HR2.out, slErr, if_pos hnm']), HB2.out⟩
      refine (q_Name x.1 true hnm _ hsz).mono ?_
      rintro e w2 ⟨rfl, hb2⟩
      have HB2 := hid ((HB.out.alloc hzr _).trans (hb2.mono (by simp; omega)))
      have hblk := (Ext.of_below (S := fun _ => False) hb2).heap (heap_new wr (.cells #[.string x.1, .int .i64 x.2] 86)) id
      have HN := hid hnm
      clear hb2 hnm
      have d0 : w2.cell? ⟨wr.heap.size, 0, none⟩ = some (.string x.1) := by rw [cell_of_row _ _ _ _ _ _ hblk]; rfl
      have d1 : w2.cell? ⟨wr.heap.size, 1, none⟩ = some (.int .i64 x.2) := by rw [cell_of_row _ _ _ _ _ _ hblk]; rfl
      clear hblk
      by_cases h1 : decide (0 ≤ x.2 ∧ x.2 ≤ 999) = true
      case neg =>
        have h1' : decide (0 ≤ x.2 ∧ x.2 ≤ 999) = false := by simpa using h1
        go_wp2_with fail
        refine (q_in_b _ _ _ false h1' _).mono ?_
        rintro e w3 ⟨rfl, rfl⟩
        go_wp2_with fail
        go_ret
        exact ⟨ret_int (by rw [HR2.out, slErr, if_neg (by simp [HN.out]), if_pos (by simpa using h1)]), HB2.out⟩
      have H1 := hid h1
      go_wp2_with fail
      refine (q_in_b _ _ _ true h1 _).mono ?_
      rintro e w3 ⟨rfl, rfl⟩
      clear h1
      generalize hcv : (Op.bytesLess x.1.toList y.toList || x.1.toList == y.toList) = cc
      have HS : Hid (slErr ⟨#[]⟩ L = if cc = true then 7 else slErr x.1 (L.drop (k + 1))) := hid (by rw [HR2.out, slErr, if_neg (by simp [HN.out]), if_neg (by have a1 := H1.out; simp at a1; omega), hcv])
      cases cc
      · go_wp2_with fail
        go_roundw
        case rel => exact ⟨k + 1, _, by omega, by go_num, rfl, by rw [HS.out]; simp, HB2.out⟩
        case measure => simp [intOf]; omega
      · go_wp2_with fail
        go_ret
        exact ⟨ret_int (by rw [HS.out]; simp), HB2.out⟩
    · go_wp2_with fail
      go_ret
      exact ⟨ret_int (by rw [HR.out, List.drop_eq_nil_of_le (by omega)]; rfl), HB.out⟩
end Go.Proofs.YtkgciohebloffaaGreat
