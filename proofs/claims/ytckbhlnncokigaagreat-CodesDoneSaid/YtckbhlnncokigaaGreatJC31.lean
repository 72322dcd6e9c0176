/- Texts joined: PlSort, Places. -/
import Derived.Test.YtckbhlnncokigaaGreatJC30
import Derived.Test.YtckbhlnncokigaaGreatJC05
import Derived.Test.YtckbhlnncokigaaGreatJC22
import Derived.Lib.OwnBridge
import Derived.Test.YtckbhlnncokigaaGreatJC18
import Derived.Test.YtckbhlnncokigaaGreatJC27
/- The needs, sorted: the greatest first. -/
namespace Go.Proofs.YtckbhlnncokigaaGreat
open Go.RowKit Go.Lib Go.Sort

def encS (x : Fin 100000) : Value := .int .i64 (x.val : Int)
def cfS (x y : Fin 100000) : Int := (y.val : Int) - x.val
theorem ltS (x y : Fin 100000) : ltOf cfS x y = decide (y.val < x.val) := by
  unfold ltOf cfS
  by_cases h : y.val < x.val <;> simp [h] <;> omega
theorem swoS : SWO (ltOf cfS) where
  irrefl x := by rw [ltS]; simp
  trans x y z h1 h2 := by rw [ltS] at *; simp at *; omega
  ntrans x y z h1 h2 := by rw [ltS] at *; simp at *; omega

set_option maxHeartbeats 1000000 in
theorem v_places1 (x y : Nat) (hx : x < 100000) (hy : y < 100000) (W : World) : Calls Tryz.prog 150 #[.int .i64 x, .int .i64 y] W fun e w' => e = .returned (.int .i64 ((y : Int) - x)) ∧ ∃ q, w' = W.drewN q := by
  have h1 : (x : Int) < 100000 := by omega
  have h2 : (y : Int) < 100000 := by omega
  go_enter Tryz.func150, Tryz.ntmps150
  go_wp2
  go_ret
  exact ⟨rfl, 0, rfl⟩

set_option maxHeartbeats 2000000 in
theorem s_insert_none (p : Option Addr) (cap : Nat) (fv : Value) (w : World) :
    Calls Tryz.prog 212 #[.slice p 0 cap, .int .i64 0, .int .i64 0, fv] w fun e w' => e = .returned (.tuple #[]) ∧ w = w' := by
  go_enter Tryz.func212, Tryz.ntmps212
  go_wp2
  refine wp_loop_rounds 1 ?_
  rw [rounds_succ]
  go_wp2
  go_end0
  exact ⟨rfl, rfl⟩
set_option maxHeartbeats 2000000 in
theorem s_pdq_none (p : Option Addr) (cap : Nat) (lim : Int) (fv : Value) (w : World) :
    Calls Tryz.prog 190 #[.slice p 0 cap, .int .i64 0, .int .i64 0, .int .i64 lim, fv] w fun e w' => e = .returned (.tuple #[]) ∧ w = w' := by
  go_enter Tryz.func190, Tryz.ntmps190
  go_wp2
  refine wp_loop_rounds 1 ?_
  rw [rounds_succ]
  go_wp2_with (go_at_call 212; refine (s_insert_none p cap fv _).mono ?_; rintro e w' ⟨rfl, rfl⟩)
  (try simp only [Exit.inBlock, Exit.then]); refine bodyPost_ret (results_none rfl _ _ _) rfl ?_
  exact ⟨rfl, rfl⟩
set_option maxHeartbeats 2000000 in
theorem s_sort_none (p : Option Addr) (cap : Nat) (fv : Value) (w : World) :
    Calls Tryz.prog 149 #[.slice p 0 cap, fv] w fun e w' => e = .returned (.tuple #[]) ∧ w = w' := by
  go_enter Tryz.func149, Tryz.ntmps149
  go_wp2_with (first
    | (go_at_call 114; refine (Tryz.bits_Len 0 _ (by omega) (by omega)).mono ?_; rintro e w' ⟨rfl, rfl⟩)
    | (go_at_call 190; refine (s_pdq_none p cap _ fv _).mono ?_; rintro e w' ⟨rfl, rfl⟩))
  go_end0
  exact ⟨rfl, rfl⟩

theorem ext_putRow {α : Type} [Inhabited α] {enc : α → Value} {w : World} {g q : Nat} {d : Array α} : Ext (· = g) w (putRow enc (Sort.ahead w q) g 0 d) :=
  ⟨rfl, rfl, rfl, by simp [putRow, mapBlock, Sort.ahead], fun k _ hs => by simp [putRow, mapBlock, Sort.ahead, Array.getElem?_modify, show g ≠ k from fun e => hs e.symm]⟩

theorem sort_any (d : List (Fin 100000)) (h12 : d.length ≤ 12) (base g cap : Nat) (w : World) (hown : w.ownsRow base 3 1 (.slice (some ⟨g, 0, none⟩) d.length cap) d.length (d.map encS)) :
    Calls Tryz.prog 149 #[.slice (some ⟨g, 0, none⟩) d.length cap, .func (.func 150) #[] #[]] w fun e w' => e = .returned (.tuple #[]) ∧ ∃ d2 : List (Fin 100000), d2.Perm d ∧ d2.Pairwise (fun x y => y.val ≤ x.val) ∧
      w'.ownsRow base 3 1 (.slice (some ⟨g, 0, none⟩) d.length cap) d.length (d2.map encS) ∧ Ext (· = g) w w' := by
  obtain ⟨g', cap', hv, _, hlt, _, _, _, hH⟩ := holds_of_ownsRow hown (by simp)
  injection hv with e1 _ _
  injection e1 with e1
  injection e1 with e1
  subst e1
  have eg : ∀ args w, (callFunc 150 args).run Tryz.prog w = .ok (.enter 150 args) w := enters_of Tryz.func150 (by kernel_rfl) rfl
  have hcon := Tryz.slices_SortFunc_small_sorted encS (fun _ => rfl) cfS swoS 150 #[] g 0 cap d.toArray w eg (fun _ _ _ _ x y => v_places1 x.val y.val x.isLt y.isLt _) hH (by simpa using h12) (fun n W h => (Tryz.bits_Len n W (by omega) (by omega)).mono fun _ _ ⟨he, hw⟩ => ⟨⟨_, he⟩, hw⟩)
  rw [show d.toArray.size = d.length by simp] at hcon
  refine hcon.mono ?_
  rintro e w' ⟨he, d', n, ⟨hsz, _, hperm⟩, hsort, rfl⟩
  have hl : d'.toList.length = d.length := by simpa using hsz
  have hs' : d'.size = d.length := by simpa using hsz
  refine ⟨he, d'.toList, ?_, ?_, ?_, ?_⟩
  · have h1 : d'.extract 0 d.length = d' := by rw [← hs']; simp
    have h2 : d.toArray.extract 0 d.length = d.toArray := by simp
    rw [h1, h2] at hperm
    simpa using hperm
  · rw [List.pairwise_iff_getElem]
    intro i j hi hj hij
    have h := hsort i j (Nat.zero_le _) hij (by omega)
    rw [ltS, getElem!_pos d' i (by omega), getElem!_pos d' j (by omega)] at h
    simpa using h
  · have h := ownsRow_putRow (q := n) (k := d.length) hown hl (Nat.le_refl _)
    rw [List.take_of_length_le (by omega)] at h
    exact h
  · exact ext_putRow

def toS (x : Int) : Fin 100000 := ⟨x.toNat % 100000, Nat.mod_lt _ (by decide)⟩
theorem toS_val {x : Int} (h0 : 0 ≤ x) (h1 : x < 100000) : ((toS x).val : Int) = x := by
  show ((x.toNat % 100000 : Nat) : Int) = x
  rw [Nat.mod_eq_of_lt (by omega)]; omega
theorem toS_map (l : List Int) (h : ∀ x ∈ l, 0 ≤ x ∧ x < 100000) : (l.map toS).map (fun x => (x.val : Int)) = l := by
  rw [List.map_map]
  conv => rhs; rw [← List.map_id l]
  exact List.map_congr_left fun x hx => toS_val (h x hx).1 (h x hx).2
theorem encS_map (d : List (Fin 100000)) : d.map encS = (d.map fun x => (x.val : Int)).map (Value.int .i64) := by rw [List.map_map]; rfl

theorem sort_needs (l : List Int) (h12 : l.length ≤ 12) (hb : ∀ x ∈ l, 0 ≤ x ∧ x < 100000) (base : Nat) (v : Value) (w : World) (hown : w.ownsRow base 3 1 v l.length (l.map (Value.int .i64))) :
    Calls Tryz.prog 149 #[v, .func (.func 150) #[] #[]] w fun e w' => e = .returned (.tuple #[]) ∧ w'.ownsRow base 3 1 v l.length ((srt l).map (Value.int .i64)) ∧ Ext (fun b => some b = v.ownBlock) w w' := by
  rcases hown.2 with ⟨rfl, h0⟩ | ⟨g, cap, cur, rfl, _⟩
  · have hl : l = [] := List.length_eq_zero_iff.1 h0
    subst hl
    refine (s_sort_none none 0 _ w).mono ?_
    rintro e w' ⟨he, rfl⟩
    exact ⟨he, by simpa [srt] using hown, Ext.refl _⟩
  · have hm : (l.map toS).map encS = l.map (Value.int .i64) := by rw [encS_map, toS_map l hb]
    have hlen : (l.map toS).length = l.length := by simp
    have h := sort_any (l.map toS) (by omega) base g cap w (by rw [hlen, hm]; exact hown)
    rw [hlen] at h
    refine h.mono ?_
    rintro e w' ⟨he, d2, hp, hs, ho, hx⟩
    have hsr : (d2.map fun x => (x.val : Int)) = srt l := by
      refine (srt_eq ?_ ?_).symm
      · have h1 := hp.map (fun x : Fin 100000 => (x.val : Int))
        rwa [toS_map l hb] at h1
      · rw [List.pairwise_map]
        exact hs.imp fun h => by omega
    refine ⟨he, ?_, hx.mono fun b _ h => by subst h; rfl⟩
    rw [encS_map, hsr] at ho
    exact ho
theorem plF_drop : ∀ (k : Nat) (f : F), plF (f.drop k) = (plF f).drop k
  | 0, f => by simp [F.drop]
  | _ + 1, .nil => by simp [F.drop, plF]
  | k + 1, .cons _ _ _ _ r => by simp only [F.drop, plF, List.drop_succ_cons]; exact plF_drop k r
theorem stF_drop : ∀ (k : Nat) (f : F), stF (f.drop k) = (stF f).drop k
  | 0, f => by simp [F.drop]
  | _ + 1, .nil => by simp [F.drop, stF]
  | k + 1, .cons _ _ _ _ r => by simp only [F.drop, stF, List.drop_succ_cons]; exact stF_drop k r
theorem take_of_drop {l : List Int} {k : Nat} {x : Int} {r : List Int} (h : l.drop k = x :: r) : l.take (k + 1) = l.take k ++ [x] := by
  have hk : k < l.length := by
    rcases Nat.lt_or_ge k l.length with h' | h'
    · exact h'
    · rw [List.drop_eq_nil_of_le h'] at h; cases h
  have h2 := List.drop_eq_getElem_cons hk
  rw [h] at h2
  injection h2 with h3 _
  rw [List.take_succ_eq_append_getElem hk, h3]
end Go.Proofs.YtckbhlnncokigaaGreat
/- places, the program's: the places that an expression needs. -/
namespace Go.Proofs.YtckbhlnncokigaaGreat
open Go.RowKit

/-- What holds behind k rounds of the loop that gathers the needs L of the arguments. -/
def NdRel (L : List Int) (op n : Int) (s : ByteArray) (a : F) (p : Option Addr) (c : Nat) (w : World) (k : Nat) (v : Value) (wr : World) : Prop :=
  wr.ownsRow (w.heap.size + 1) 3 1 v k ((L.take k).map (Value.int .i64)) ∧ wr.heap[w.heap.size]? = some (.cells #[.int .i64 op, .int .i64 n, .string s, .slice p a.len c] 28 (0, 0)) ∧ Below w.heap.size w wr ∧ w.heap.size + 1 ≤ wr.heap.size
theorem nd_next {L : List Int} {op n : Int} {s : ByteArray} {a : F} {p : Option Addr} {c : Nat} {w wr w4 : World} {k : Nat} {v v' : Value} {x : Int} {r : List Int} (h : NdRel L op n s a p c w k v wr) (hd : L.drop k = x :: r) (hown : w4.ownsRow (w.heap.size + 1) 3 1 v' (k + 1) ((L.take k).map (Value.int .i64) ++ [.int .i64 x])) (e4 : Ext (fun b => some b = v.ownBlock) wr w4) :
    NdRel L op n s a p c w (k + 1) v' w4 := by
  obtain ⟨h1, h2, h3, h4⟩ := h
  have hne : ∀ b, b < w.heap.size + 1 → some b ≠ v.ownBlock := fun b hb e => by have := (h1.lt b e.symm).1; omega
  refine ⟨by rw [take_of_drop hd, List.map_append]; exact hown, e4.heap h2 (hne _ (by omega)), ?_, Nat.le_trans h4 e4.size⟩
  exact ⟨e4.os.trans h3.os, e4.tape.trans h3.tape, e4.output.trans h3.output, Nat.le_trans h3.size e4.size, fun i hi => (e4.block i (by have := h3.size; omega) (hne _ (by omega))).trans (h3.block i hi)⟩
def plR (l : List Int) (k : Nat) (m : Int) : Prop :=
  plG 0 l 1 = plG k (l.drop k) m ∧ 1 ≤ m

set_option maxRecDepth 100000 in
set_option maxHeartbeats 4000000 in
theorem v_places_one (m : Nat) (hm : m ≤ 1000) (ih : ∀ (op n : Int) (s : ByteArray) (a : F) (p : Option Addr) (c : Nat) (fa : List Nat) (w : World), a.size < m → (F.cons op n s a .nil).Small → RdP w a p fa → a.len ≤ c → c ≤ 9223372036854775807 →
      Calls Tryz.prog 89 #[.agg #[.int .i64 op, .int .i64 n, .string s, .slice p a.len c]] w fun e w' => e = .returned (.int .i64 (plL (plF a))) ∧ Below w.heap.size w w')
    (op n : Int) (s : ByteArray) (a : F) (p : Option Addr) (c : Nat) (fa : List Nat) (w : World) (ham : a.size ≤ m) (hsm : (F.cons op n s a .nil).Small) (hp : RdP w a p fa) (_hac : a.len ≤ c) (_hc : c ≤ 9223372036854775807) :
    Calls Tryz.prog 89 #[.agg #[.int .i64 op, .int .i64 n, .string s, .slice p a.len c]] w fun e w' => e = .returned (.int .i64 (plL (plF a))) ∧ Below w.heap.size w w' := by
  have HP := hid hp
  have IH := hid ih
  have HSm := hid hsm.2.1
  have hal3 : a.len ≤ 3 := by
    have h1 := hsm.1.2.2
    have : ar op ≤ 3 := by unfold ar; (repeat' split) <;> omega
    omega
  have hal : (a.len : Int) ≤ 9223372036854775807 := by omega
  obtain ⟨i0, hi0, hz0, hz1, hz2⟩ := info_parts info_int
  have HR0 := hid (show NdRel (plF a) op n s a p c w 0 (.slice none 0 0) (w.alloc (.cells #[.int .i64 op, .int .i64 n, .string s, .slice p a.len c] 28)) from ⟨World.ownsRow_nil _ _ _ _, heap_new w _, alloc_below w _, by simp⟩)
  clear hp ih hsm
  go_enter Tryz.func89, Tryz.ntmps89
  go_wp2_with fail
  go_loopw [3, 12] (fun v i wr => ∃ (k : Nat) (u : Value), k ≤ a.len ∧ i = .int .i64 k ∧ v = u ∧ NdRel (plF a) op n s a p c w k u wr) (fun _ i _ => a.len - (intOf i).toNat)
  case atStart => exact ⟨0, _, by omega, rfl, rfl, HR0.out⟩
  case round =>
    obtain ⟨k, v, hk, rfl, hgv, hR⟩ := hrel
    subst hgv
    have HR := hid hR
    obtain ⟨hown, hbox, hbl, hz⟩ := hR
    have HO := hid hown
    have HB := hid hbl
    have hpr : RdP wr a p fa := HP.out.ext (S := fun _ => False) (Ext.of_below hbl) (fun _ _ => id)
    clear hown hbox hbl
    by_cases hlt : k < a.len
    · rcases hpr with ⟨h0, _⟩ | ⟨b, o, xa, fb, rfl, _, _, hcell, _, hx⟩
      · rw [h0] at hlt; simp [F.len] at hlt
      obtain ⟨op', n', s', a', p', c', fa', hdrop, x0, x1, x2, x3, hl', hc', hp', _⟩ := hx.at hlt
      have y0 := hcell _ _ x0
      have y1 := hcell _ _ x1
      have y2 := hcell _ _ x2
      have y3 := hcell _ _ x3
      simp only [← Nat.add_assoc, Nat.mul_comm 4 k] at y0 y1 y2 y3
      have hszk := F.size_split k a hdrop
      have hsmk := F.small_drop k HSm.out
      rw [hdrop] at hsmk
      have HD := hid (show (plF a).drop k = plL (plF a') :: plF (a.drop (k + 1)) by rw [← plF_drop, hdrop]; rfl)
      have HP' := hid (And.intro hp' (And.intro hl' (And.intro hc' (And.intro (show a'.size < m by omega) (show (F.cons op' n' s' a' .nil).Small from ⟨hsmk.1, hsmk.2.1, trivial⟩)))))
      have hpb : plL (plF a') ≤ 1001 := by
        have h1 := plL_le (plF_pos a')
        have h2 := plF_sum a'
        omega
      have hp1 := plL_pos (plF a')
      have E1 := hid ((Ext.refl (S := fun _ => False) wr).alloc (.cells #[.int .i64 op', .int .i64 n', .string s', .slice p' a'.len c'] 28))
      clear hcell hx x0 x1 x2 x3 hp' hl' hc' hdrop hsmk hszk
      go_wp2_with fail
      refine (IH.out op' n' s' a' p' c' fa' _ HP'.out.2.2.2.1 HP'.out.2.2.2.2 (HP'.out.1.ext E1.out (fun _ _ => id)) HP'.out.2.1 HP'.out.2.2.1).mono ?_
      rintro e w3 ⟨rfl, hb3⟩
      have E3 := hid (E1.out.trans (Ext.of_below (S := fun _ => False) hb3))
      have HO3 := hid (ownsRow_ext (S := fun _ => False) HO.out E3.out (fun _ _ _ => id))
      have hz3 : w.heap.size + 1 ≤ w3.heap.size := Nat.le_trans hz E3.out.size
      clear hb3
      generalize plL (plF a') = x at *
      go_wp2_with (at_builtin; refine wpList_append_lies _ rfl _ _ 22 rfl (w.heap.size + 1) 3 i0 _ 1 8 Tryz.underlying22 hi0 hz0 hz1 hz2 rfl (by decide) _ _ _ (by rfl) (HO3.out.alloc _) ⟨w3.heap.size, 0, none⟩ 1 1 [.int .i64 x] rfl rfl (World.news_of_block (heap_alloc_new w3 _)) (fun y hy => by simp at hy; subst hy; rfl) (by omega) (by unfold maxLen; omega) (by omega) (by simp; omega) (w3.heap.size + 1) (by simp) ?_; intro g cap w4 hown4 hgrow hat4 hlt4)
      have e4 : Ext (fun b => some b = u3.ownBlock) wr w4 := (E3.out.mono (fun _ _ h => h.elim)).trans (((Ext.refl w3).alloc _).grown hgrow (fun b hb => .inl hb.symm))
      have HH := hid (nd_next HR.out HD.out hown4 e4)
      clear hown4 hgrow hat4 hlt4 e4
      go_wp2_with fail
      go_roundw
      case rel => exact ⟨k + 1, _, by omega, by go_num, rfl, HH.out⟩
      case measure => simp [intOf]; omega
    · have hkl : k = a.len := by omega
      subst hkl
      have hL : (plF a).length = a.len := plF_length a
      have HO2 := hid (show wr.ownsRow (w.heap.size + 1) 3 1 u3 (plF a).length ((plF a).map (Value.int .i64)) by
        have h := HO.out
        rw [List.take_of_length_le (by omega)] at h
        rw [hL]; exact h)
      have hbd : ∀ x ∈ plF a, 0 ≤ x ∧ x < 100000 := fun x hx => ⟨by have := plF_pos a x hx; omega, by have := plF_le a x hx; omega⟩
      have HBd := hid hbd
      have hmost : plL (plF a) ≤ 1001 := by
        have h1 := plL_le (plF_pos a)
        have h2 := plF_sum a
        omega
      obtain ⟨ao, ca, hv, ha0, hac2, ham2, hcells⟩ := own_anyN HO2.out
      subst hv
      have hca : (ca : Int) ≤ 9223372036854775807 := by unfold maxLen at ham2; omega
      have hlen : (plF a).length ≤ 3 := by omega
      have HLe := hid (srt_perm (plF a)).length_eq
      have HMe := hid (fun x hx => HBd.out x ((srt_perm (plF a)).mem_iff.1 hx) : ∀ x ∈ srt (plF a), 0 ≤ x ∧ x < 100000)
      have HPL := hid (show plL (plF a) = plG 0 (srt (plF a)) 1 from rfl)
      have HL := hid hL
      clear hpr hbd ha0 hcells ham2 hL
      generalize hll : plF a = l at *
      generalize hss : srt l = ls at *
      generalize hnn : l.length = n at *
      have HNn := hid hnn
      have HSs := hid hss
      have HLL := hid hll
      clear hll hss hnn
      have hnc : (n : Int) ≤ ca := by omega
      go_wp2_with fail
      refine (sort_needs l (by have := HNn.out; omega) HBd.out (w.heap.size + 1) (.slice ao n ca) _ (by rw [HNn.out]; exact HO2.out)).mono ?_
      rintro e w5 ⟨rfl, hown5, hext5⟩
      rw [HSs.out, HNn.out] at hown5
      have HB5 := hid (show Below w.heap.size w w5 from ⟨hext5.os.trans HB.out.os, hext5.tape.trans HB.out.tape, hext5.output.trans HB.out.output, Nat.le_trans HB.out.size hext5.size, fun i hi => (hext5.block i (by have := HB.out.size; omega) (fun e => by have := (HO2.out.lt i e.symm).1; omega)).trans (HB.out.block i hi)⟩)
      obtain ⟨ao2, ca2, hv2, ha0, _, _, hcells⟩ := own_anyN hown5
      injection hv2 with e1 _ _
      subst e1
      have HCe := hid (And.intro ha0 hcells)
      clear hown5 hext5 ha0 hcells
      go_wp2_with fail
      go_loop [6, 26] (fun m i => ∃ (k : Nat) (mm : Int), k ≤ n ∧ i = .int .i64 k ∧ m = .int .i64 mm ∧ plR ls k mm) (fun _ i => n - (intOf i).toNat)
      case atStart => exact ⟨0, 1, by omega, rfl, rfl, by unfold plR; simp⟩
      case round =>
        obtain ⟨k, mm, hk, rfl, rfl, hpr⟩ := hrel
        have HPR := hid hpr
        have hmm : mm ≤ 1001 := by
          have h1 := plG_ge (ls.drop k) k mm
          have h2 := hpr.1
          have h3 := HPL.out
          omega
        have hm1 := hpr.2
        clear hpr
        by_cases hlt : k < n
        · obtain ⟨g, rfl, hc⟩ : ∃ g, ao = some ⟨g, 0, none⟩ ∧ ∀ (i : Nat) u, (ls.map (Value.int .i64))[i]? = some u → w5.cell? ⟨g, i, none⟩ = some u := by
            cases ao with
            | none => have := (HCe.out.1 rfl).1; omega
            | some bb => obtain ⟨g, rfl, _, h2⟩ := HCe.out.2 bb rfl; exact ⟨g, rfl, h2⟩
          have hkl : k < ls.length := by have h1 := HLe.out; have h2 := HNn.out; omega
          have hck : w5.cell? ⟨g, k, none⟩ = some (.int .i64 ls[k]) := hc k _ (by rw [List.getElem?_map, List.getElem?_eq_getElem hkl]; rfl)
          have hxb := HMe.out _ (List.getElem_mem hkl)
          have HD := hid (List.drop_eq_getElem_cons hkl)
          generalize ls[k] = x at hck hxb HD
          obtain ⟨hx0, hx1⟩ := hxb
          have HN := hid (show plR ls (k + 1) (max mm ((k : Int) + x)) by
            refine ⟨?_, by omega⟩
            rw [HPR.out.1, HD.out]
            show _ = plG (((k + 1 : Nat)) : Int) _ _
            rw [show (((k + 1 : Nat)) : Int) = (k : Int) + 1 by omega]; rfl)
          clear hc hkl
          go_wp2
          go_round
          case rel => exact ⟨k + 1, max mm ((k : Int) + x), by omega, by go_num, rfl, HN.out⟩
          case measure => simp [intOf]; omega
        · have HE := hid (show plL l = mm by
            rw [HPL.out, HPR.out.1, List.drop_eq_nil_of_le (by have h1 := HLe.out; have h2 := HNn.out; omega)]; rfl)
          go_wp2
          go_ret
          exact ⟨ret_int (by rw [HLL.out]; exact HE.out.symm), HB5.out⟩
theorem v_places (m : Nat) : m ≤ 1001 → ∀ (op n : Int) (s : ByteArray) (a : F) (p : Option Addr) (c : Nat) (fa : List Nat) (w : World), a.size < m → (F.cons op n s a .nil).Small → RdP w a p fa → a.len ≤ c → c ≤ 9223372036854775807 →
      Calls Tryz.prog 89 #[.agg #[.int .i64 op, .int .i64 n, .string s, .slice p a.len c]] w fun e w' => e = .returned (.int .i64 (plL (plF a))) ∧ Below w.heap.size w w' := by
  induction m with
  | zero => intro _ op n s a p c fa w h; omega
  | succ m ih => intro hm op n s a p c fa w h h0 h1 h2 h3; exact v_places_one m (by omega) (ih (by omega)) op n s a p c fa w (by omega) h0 h1 h2 h3

/-- What Stack answers. -/
def stAns (op n : Int) (s : ByteArray) (a : F) : Int := if errE op n s a 1 ≠ 0 then 0 else plL (plF a)
end Go.Proofs.YtckbhlnncokigaaGreat
