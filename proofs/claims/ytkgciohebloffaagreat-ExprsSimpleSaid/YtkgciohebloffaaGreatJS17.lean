/- Texts joined: Exec, Right. -/
import Derived.Test.YtkgciohebloffaaGreatJS15
import Derived.Test.YtkgciohebloffaaGreatJS16
import Derived.ArgAppend
import Derived.Deep.RegionWith
import Derived.Test.YtkgciohebloffaaGreatJS06
import Derived.Test.YtkgciohebloffaaGreatJS08
/- ExecOf: code is run on a stack; the reference's. -/
namespace Go.Proofs.YtkgciohebloffaaGreat
open Go.RowKit Go.WideMaps Go.Maps

/-- The value that a word pushes, by those that it takes. -/
def wval (T : List (ByteArray × Int)) (x : Int × Int × ByteArray) (l : List Int) : Int := if x.1 = 1 then x.2.1 else if x.1 = 2 then valL x.2.2.data.toList T else compV x.1 l
/-- The stack behind a word. -/
def stepL (T : List (ByteArray × Int)) (x : Int × Int × ByteArray) (st : List Int) : List Int :=
  st.take (st.length - (opsN x.1).toNat) ++ [wval T x (st.drop (st.length - (opsN x.1).toNat))]
/-- The stack behind words, and the most values that were on it. -/
def exL (T : List (ByteArray × Int)) : List (Int × Int × ByteArray) → List Int → Int → List Int × Int
  | [], st, m => (st, m)
  | x :: r, st, m => exL T r (stepL T x st) (max m ((stepL T x st).length : Int))
theorem cErr_cons {x : Int × Int × ByteArray} {r : List (Int × Int × ByteArray)} {h : Int} (e : cErr (x :: r) h = 0) : wErr x = 0 ∧ opsN x.1 ≤ h ∧ cErr r (h + (1 - opsN x.1)) = 0 := by
  unfold cErr at e
  split at e
  · rename_i h1; simp at h1; exact absurd e h1
  split at e
  · cases e
  rename_i h1 h2
  exact ⟨by simpa using h1, by simpa using h2, e⟩
theorem wErr_zero {op n : Int} {s : ByteArray} (e : wErr (op, n, s) = 0) : (1 ≤ op ∧ op ≤ 9) ∧ (0 ≤ n ∧ n ≤ 999) := by
  unfold wErr at e
  split at e
  · cases e
  split at e
  · cases e
  split at e
  · cases e
  rename_i h1 _ h2
  exact ⟨by simpa using h1, by simpa using h2⟩
theorem opsN_ar {op : Int} (h1 : 1 ≤ op) (h2 : op ≤ 9) : opsN op = ar op := by
  rcases (show op = 1 ∨ op = 2 ∨ op = 3 ∨ op = 4 ∨ op = 5 ∨ op = 6 ∨ op = 7 ∨ op = 8 ∨ op = 9 by omega) with rfl | rfl | rfl | rfl | rfl | rfl | rfl | rfl | rfl <;> rfl
theorem stepL_length {T : List (ByteArray × Int)} {x : Int × Int × ByteArray} {st : List Int} (h : opsN x.1 ≤ st.length) : ((stepL T x st).length : Int) = st.length + (1 - opsN x.1) := by
  have := opsN_range x.1
  unfold stepL; rw [List.length_append, List.length_take]; simp; omega

theorem own_any {w : World} {base : Nat} {e : TypeId} {v : Value} {n : Nat} {xs : List Value} (h : w.ownsRow base e 1 v n xs) :
    ∃ (ao : Option Addr) (cap : Nat), v = .slice ao n cap ∧ (ao = none → n = 0 ∧ cap = 0) ∧ n ≤ cap ∧ cap ≤ maxLen ∧ ∀ bb, ao = some bb → ∃ g, bb = ⟨g, 0, none⟩ ∧ base ≤ g ∧ ∀ (i : Nat) u, xs[i]? = some u → w.cell? ⟨g, i, none⟩ = some u := by
  rcases h.2 with ⟨h1, h2⟩ | ⟨g, cap, cur, h1, h2, hb, h3, h4, h5, h6⟩
  · exact ⟨none, 0, by rw [h1, h2], fun _ => ⟨h2, rfl⟩, by omega, by decide, by simp⟩
  · refine ⟨some ⟨g, 0, none⟩, cap, h1, by simp, h3, h4, fun bb hbb => ?_⟩
    cases hbb
    refine ⟨g, rfl, h2, fun i u hu => ?_⟩
    rw [cell_of_row _ _ _ _ _ _ hb]
    rw [← h6, List.getElem?_take] at hu
    split at hu
    · simpa using hu
    · cases hu

def ExRel (T : List (ByteArray × Int)) (L : List (Int × Int × ByteArray)) (B : Nat) (w : World) (k : Nat) (v : Value) (mm : Int) (wr : World) : Prop :=
  ∃ st : List Int, exL T L [] 0 = exL T (L.drop k) st mm ∧ cErr (L.drop k) st.length = 0 ∧ (∀ x ∈ st, V999 x) ∧ st.length ≤ k ∧ wr.ownsRow w.heap.size 3 1 v st.length (st.map (Value.int .i64)) ∧ Below w.heap.size w wr ∧ TabAt wr B T ∧ B < wr.heap.size ∧ v.ownBlock ≠ some B

theorem ex_next {T : List (ByteArray × Int)} {L : List (Int × Int × ByteArray)} {B : Nat} {w w4 : World} {k : Nat} {st : List Int} {mm : Int} {x : Int × Int × ByteArray} {at_ : Nat} {nv : Int} {v' : Value} {base' : Nat}
    (hX : exL T L [] 0 = exL T (L.drop (k + 1)) (stepL T x st) (max mm ((stepL T x st).length : Int)))
    (hC : wErr x = 0 ∧ opsN x.1 ≤ st.length ∧ cErr (L.drop (k + 1)) (st.length + (1 - opsN x.1)) = 0) (hat : (at_ : Int) = st.length - opsN x.1)
    (hst : ∀ y ∈ st, V999 y) (hsk : st.length ≤ k) (hnv : wval T x (st.drop at_) = nv) (hv : V999 nv)
    (hown : w4.ownsRow base' 3 1 v' (at_ + 1) ((st.take at_).map (Value.int .i64) ++ [.int .i64 nv])) (hb : w.heap.size ≤ base') (hBb : B < base')
    (hbl : Below w.heap.size w w4) (htab : TabAt w4 B T) (hB4 : B < w4.heap.size) :
    ExRel T L B w (k + 1) v' (max mm ((at_ : Int) + 1)) w4 := by
  have hr := opsN_range x.1
  have he : st.length - (opsN x.1).toNat = at_ := by omega
  have hs : stepL T x st = st.take at_ ++ [nv] := by unfold stepL; rw [he, hnv]
  have hl : (st.take at_ ++ [nv]).length = at_ + 1 := by rw [List.length_append, List.length_take]; simp; omega
  rw [hs, hl] at hX
  refine ⟨st.take at_ ++ [nv], by simpa using hX, ?_, ?_, by omega, ?_, hbl, htab, hB4, ?_⟩
  · rw [hl]
    have h := hC.2.2
    rwa [show (st.length : Int) + (1 - opsN x.1) = ((at_ + 1 : Nat) : Int) by omega] at h
  · intro y hy
    rcases List.mem_append.1 hy with hy | hy
    · exact hst y (List.mem_of_mem_take hy)
    · simp at hy; subst hy; exact hv
  · rw [hl, List.map_append]; exact ownsRow_le hown hb
  · intro h
    have := (hown.lt B h).1
    omega

set_option maxRecDepth 100000 in
set_option maxHeartbeats 4000000 in
theorem r_ExecOf (L : List (Int × Int × ByteArray)) (p : Option Addr) (c : Nat) (T : List (ByteArray × Int)) (lp : Option Addr) (lc : Nat) (w : World) (hp : WdP w L p) (hl : L.length ≤ 2000) (_hlc : L.length ≤ c) (_hcm : c ≤ maxLen) (hok : ∀ x ∈ L, WdOk x) (he : cErr L 0 = 0)
    (hT : SlP w T lp) (hT4 : T.length ≤ 4) (hTc : T.length ≤ lc) (hTm : lc ≤ maxLen) (hTok : ∀ x ∈ T, SlOk x) (hg : SlGood T) :
    Calls Tryz.prog 45 #[.slice p L.length c, .slice lp T.length lc] w fun e w' => (∃ r, exL T L [] 0 = ([r], (exL T L [] 0).2) ∧ e = .returned (.tuple #[.int .i64 r, .int .i64 (exL T L [] 0).2])) ∧ Below w.heap.size w w' := by
  have HP := hid hp
  have HK := hid hok
  have HG := hid hg
  have HE0 := hid he
  have hl' : (L.length : Int) ≤ 2000 := by omega
  obtain ⟨i0, hi0, hz0, hz1, hz2⟩ := info_parts info_int
  clear hp hok hg he
  go_enter Tryz.func45, Tryz.ntmps45
  go_wp2_with fail
  refine (r_Table T lp lc _ hT hTc hTm hT4 hTok).mono ?_
  rintro e w1 ⟨rfl, hown, hb1⟩
  have HR0 := hid (show ExRel T L w.heap.size w 0 (.slice none 0 0) 0 w1 from ⟨[], rfl, HE0.out, by simp, by simp, World.ownsRow_nil _ _ _ _, hb1, hown, hown.lt, by simp [Value.ownBlock]⟩)
  clear hown hb1
  go_wp2_with fail
  go_loopw [7, 8, 17] (fun v m i wr => ∃ (k : Nat) (u : Value) (mm : Int), k ≤ L.length ∧ i = .int .i64 k ∧ v = u ∧ m = .int .i64 mm ∧ ExRel T L w.heap.size w k u mm wr) (fun _ _ i _ => L.length - (intOf i).toNat)
  case atStart => exact ⟨0, _, 0, by omega, rfl, rfl, rfl, HR0.out⟩
  case round =>
    obtain ⟨k, v, mm, hk, rfl, hgv, rfl, st, hex, hce, hst, hsk, hown, hbl, htab, hBlt, hno⟩ := hrel
    subst hgv
    have HX := hid hex
    have HC := hid hce
    have HS := hid hst
    have HO := hid hown
    have HB := hid hbl
    have HT := hid htab
    have HN := hid hno
    have hzr : w.heap.size ≤ wr.heap.size := hbl.size
    obtain ⟨ao, ca, hv, ha0, hac, ham, hcells⟩ := own_any hown
    have HCe := hid (And.intro ha0 hcells)
    have hca : (ca : Int) ≤ 9223372036854775807 := by unfold maxLen at ham; omega
    have hnc : (st.length : Int) ≤ ca := by omega
    clear hex hce hst hown hbl htab hno ha0 hcells
    subst hv
    by_cases hlt : k < L.length
    · rcases HP.out with h0 | ⟨b, rfl, hat⟩
      · rw [h0] at hlt; simp at hlt
      have HA := hid (hat.ext (S := fun _ => False) (Ext.of_below HB.out) id)
      obtain ⟨c0, c1, c2⟩ := HA.out k _ (List.getElem?_eq_getElem hlt)
      have HD := hid (List.drop_eq_getElem_cons hlt)
      have HKx := hid (HK.out _ (List.getElem_mem hlt))
      generalize L[k] = x at c0 c1 c2 HD HKx
      obtain ⟨xo, xn, xs⟩ := x
      dsimp only at c0 c1 c2
      have HC2 := hid (cErr_cons (show cErr ((xo, xn, xs) :: L.drop (k + 1)) st.length = 0 by rw [← HD.out]; exact HC.out))
      have HX2 := hid (show exL T L [] 0 = exL T (L.drop (k + 1)) (stepL T (xo, xn, xs) st) (max mm ((stepL T (xo, xn, xs) st).length : Int)) by rw [HX.out, HD.out]; rfl)
      have HL2 := hid (stepL_length (T := T) HC2.out.2.1)
      have HW := hid (wErr_zero HC2.out.1)
      clear HX HD
      obtain ⟨⟨v0, v1⟩, v2, v3⟩ := HW.out
      have hsl : (st.length : Int) ≤ 2000 := by omega
      have hs1 : ((st.length + 1 : Nat) : Int) ≤ 2001 := by omega
      have hno0 := hid (show ao = none → st.length = 0 ∧ st.length = 0 from fun h => ⟨(HCe.out.1 h).1, (HCe.out.1 h).1⟩)
      by_cases h12 : xo = 1 ∨ xo = 2
      · have E1 := hid (show ∀ nv : Int, Ext (fun _ => False) wr ((wr.alloc (.cells #[.int .i64 xo, .int .i64 xn, .string xs] 78)).alloc (.cells #[.int .i64 nv] 3)) from fun nv => ((Ext.refl (S := fun _ => False) wr).alloc (.cells #[.int .i64 xo, .int .i64 xn, .string xs] 78)).alloc (.cells #[.int .i64 nv] 3))
        have HOl := hid (show ∀ nv : Int, ∀ b, ao = some b → ∀ j u, (st.map (Value.int .i64))[j]? = some u → ((wr.alloc (.cells #[.int .i64 xo, .int .i64 xn, .string xs] 78)).alloc (.cells #[.int .i64 nv] 3)).cell? (b.add j) = some u from fun nv bb hbb j u hu => by
          obtain ⟨g, rfl, _, hc⟩ := HCe.out.2 bb hbb
          rw [Addr.add_lit, Nat.zero_add]
          exact (E1.out nv).cell_some (p := ⟨g, j, none⟩) (hc j u hu) id)
        have HN2 := hid (show ∀ nv : Int, ((wr.alloc (.cells #[.int .i64 xo, .int .i64 xn, .string xs] 78)).alloc (.cells #[.int .i64 nv] 3)).heap[wr.heap.size + 1]? = some (.cells #[.int .i64 nv] 3 (0, 0)) from fun nv => (two_new rfl).2.1)
        rcases h12 with rfl | rfl
        · go_wp2_with fail
          refine (r_operands 1 _).mono ?_
          rintro e w2 ⟨rfl, rfl⟩
          rw [show opsN 1 = 0 from rfl]
          go_wp2_with (at_builtin; refine wpList_append_grows _ rfl _ _ 22 rfl 3 i0 (.int .i64 0) 1 8 Tryz.underlying22 hi0 hz0 hz1 hz2 rfl (by decide) ao st.length st.length (st.map (Value.int .i64)) rfl hno0.out (by simp) (HOl.out xn) ⟨wr.heap.size + 1, 0, none⟩ 1 1 [.int .i64 xn] rfl rfl (World.news_of_block (HN2.out xn)) (fun x hx => by simp at hx; subst hx; rfl) (by omega) (by unfold maxLen; omega) (by omega) ?_; intro v4 w4 hown4 hgrow4; obtain ⟨g4, cc4, rfl, hg4, hc4, hm4, _, _⟩ := own_cells hown4 (by omega))
          have HO4 := hid hown4
          have E4 := hid ((E1.out xn).grown (row := none) hgrow4 (fun _ h => by cases h))
          clear hown4 hgrow4 HN2 HOl hno0
          go_roundw
          case rel =>
            exact ⟨k + 1, _, _, by omega, by go_num, rfl, rfl, ex_next HX2.out HC2.out (at_ := st.length) (by rw [show opsN 1 = 0 from rfl]; omega) HS.out hsk (show wval T (1, xn, xs) _ = xn from if_pos rfl) ⟨v2, v3⟩ (by rw [List.take_length]; exact HO4.out) (by simp; omega) (by simp; omega) (below_ext HB.out E4.out hzr) (ownsMap_ext (S := fun _ => False) HT.out E4.out id) (Nat.lt_of_lt_of_le hBlt E4.out.size)⟩
          case measure => simp [intOf]; omega
        · have hkey : keyOf Tryz.prog 9 (.string xs) = some (.string xs.data.toList) := keyOf_string_mk Tryz.underlying9 (by have := HKx.out.2.2; dsimp only at this; unfold maxLen; omega)
          have hnvr := valL_in xs.data.toList T 0 HG.out ⟨by omega, by omega⟩
          have HVR := hid (show V999 (valL xs.data.toList T) from hnvr)
          clear hnvr
          generalize hvl : valL xs.data.toList T = nv at HVR
          have HVL := hid hvl
          clear hvl
          go_wp2_with fail
          refine (r_operands 2 _).mono ?_
          rintro e w2 ⟨rfl, rfl⟩
          rw [show opsN 2 = 0 from rfl]
          go_wp2_with (first
            | (at_lookup; refine wpList_lookup_own_int _ rfl _ _ 43 rfl 9 3 .i64 klaw Tryz.underlying43 Tryz.underlying3 (kzero _) w.heap.size T.length (tabD T) rfl (HT.out.alloc _) _ _ rfl hkey ?_; intro c' hat hwc; obtain rfl : c' = nv := (by rw [tabD_at, HVL.out] at hat; injection hat with h; injection h with _ h; exact h.symm); clear hat)
            | (at_builtin; refine wpList_append_grows _ rfl _ _ 22 rfl 3 i0 (.int .i64 0) 1 8 Tryz.underlying22 hi0 hz0 hz1 hz2 rfl (by decide) ao st.length st.length (st.map (Value.int .i64)) rfl hno0.out (by simp) (HOl.out _) ⟨wr.heap.size + 1, 0, none⟩ 1 1 [.int .i64 _] rfl rfl (World.news_of_block (HN2.out _)) (fun x hx => by simp at hx; subst hx; rfl) (by omega) (by unfold maxLen; omega) (by omega) ?_; intro v4 w4 hown4 hgrow4; obtain ⟨g4, cc4, rfl, hg4, hc4, hm4, _, _⟩ := own_cells hown4 (by omega)))
          have HO4 := hid hown4
          have E4 := hid ((E1.out _).grown (row := none) hgrow4 (fun _ h => by cases h))
          clear hown4 hgrow4 HN2 HOl hno0
          go_roundw
          case rel =>
            exact ⟨k + 1, _, _, by omega, by go_num, rfl, rfl, ex_next HX2.out HC2.out (at_ := st.length) (by rw [show opsN 2 = 0 from rfl]; omega) HS.out hsk (show wval T (2, xn, xs) _ = _ from HVL.out) HVR.out (by rw [List.take_length]; exact HO4.out) (by simp; omega) (by simp; omega) (below_ext HB.out E4.out hzr) (ownsMap_ext (S := fun _ => False) HT.out E4.out id) (Nat.lt_of_lt_of_le hBlt E4.out.size)⟩
          case measure => simp [intOf]; omega
      · have e1 : (xo == 1) = false := by simp; omega
        have e2 : (xo == 2) = false := by simp; omega
        have hoo := opsN_ar v0 v1
        have hoo1 : 1 ≤ opsN xo ∧ opsN xo ≤ 3 := by
          rw [hoo]; unfold ar; (repeat' split) <;> omega
        have HOO := hid (And.intro hoo hoo1)
        have hle := HC2.out.2.1
        dsimp only at hle
        clear hoo h12
        generalize hq : opsN xo = oo at hoo1 hle
        have HQ := hid hq
        clear hq
        obtain ⟨g, rfl, hgb, hcells⟩ : ∃ g, ao = some ⟨g, 0, none⟩ ∧ w.heap.size ≤ g ∧ ∀ (i : Nat) u, (st.map (Value.int .i64))[i]? = some u → wr.cell? ⟨g, i, none⟩ = some u := by
          cases ao with
          | none => have := (HCe.out.1 rfl).1; omega
          | some bb => obtain ⟨g, rfl, h1, h2⟩ := HCe.out.2 bb rfl; exact ⟨g, rfl, h1, h2⟩
        have hAc : ((st.length : Int) - oo).toNat < ca := by omega
        have hAs : ((st.length : Int) - oo).toNat < st.length := by omega
        have hAi : ((((st.length : Int) - oo).toNat : Nat) : Int) = st.length - oo := by omega
        have HAI := hid (And.intro hAi (And.intro hAs hAc))
        have HIA := hid (show IntsAt (wr.alloc (.cells #[.int .i64 xo, .int .i64 xn, .string xs] 78)).drew g ((st.length : Int) - oo).toNat (st.drop ((st.length : Int) - oo).toNat) from fun i x hx => by
          rw [List.getElem?_drop] at hx
          exact (((Ext.refl (S := fun _ => False) wr).alloc _).drew).cell_some (p := ⟨g, _ + i, none⟩) (hcells _ _ (by rw [List.getElem?_map, hx]; rfl)) id)
        have HCl := hid hcells
        have HDV := hid (show ∀ x ∈ st.drop ((st.length : Int) - oo).toNat, V999 x from fun x hx => HS.out x (List.mem_of_mem_drop hx))
        have HLn := hid (show ((st.drop ((st.length : Int) - oo).toNat).length : Int) = ar xo by rw [List.length_drop, ← HOO.out.1, HQ.out]; omega)
        have HNR := hid (show V999 (compV xo (st.drop ((st.length : Int) - oo).toNat)) from comp_in HDV.out)
        clear hcells hAi
        generalize hnv : compV xo (st.drop ((st.length : Int) - oo).toNat) = nv at HNR
        have HNV := hid hnv
        clear hnv
        go_wp2_with fail
        refine (r_operands xo _).mono ?_
        rintro e w2 ⟨rfl, rfl⟩
        rw [HQ.out]
        go_wp2_with fail
        go_region_with (go_at_call 61; refine (r_computed xo (st.drop ((st.length : Int) - oo).toNat) g (((st.length : Int) - oo).toNat) _ _ _ (by simp at e1 e2; omega) v1 HLn.out (by simp) (by omega) (by omega) HIA.out HDV.out).mono ?_; rintro e w5 ⟨rfl, hb5⟩; rw [HNV.out])
        all_goals
          have E5 := (((Ext.refl (S := fun _ => False) wr).alloc (.cells #[.int .i64 xo, .int .i64 xn, .string xs] 78)).drew).trans (Ext.of_below hb5)
          have hz5 : wr.heap.size ≤ w5.heap.size := E5.size
          have E6 := hid (E5.alloc (.cells #[.int .i64 nv] 3))
          have HN2 := hid (heap_new w5 (.cells #[.int .i64 nv] 3))
          have HOl := hid (show ∀ b, some (⟨g, 0, none⟩ : Addr) = some b → ∀ j u, ((st.take ((st.length : Int) - oo).toNat).map (Value.int .i64))[j]? = some u → (w5.alloc (.cells #[.int .i64 nv] 3)).cell? (b.add j) = some u from fun bb hbb j u hu => by
            cases hbb
            rw [Addr.add_lit, Nat.zero_add]
            refine E6.out.cell_some (p := ⟨g, j, none⟩) (HCl.out j u ?_) id
            rw [List.map_take, List.getElem?_take] at hu
            split at hu
            · exact hu
            · cases hu)
          have hs2 : ((((st.length : Int) - oo).toNat + 1 : Nat) : Int) ≤ 2001 := by omega
          have hdr : w5.cell? ⟨wr.heap.size, 0, none⟩ = some (.int .i64 xo) := by
            refine (Ext.of_below (S := fun _ => False) hb5).cell_some ?_ id
            show (wr.alloc _).cell? _ = _
            rw [cell_of_row _ _ _ _ _ _ (heap_new wr _)]; rfl
          clear hb5 E5
          go_wp2_with (at_builtin; refine wpList_append_grows _ rfl _ _ 22 rfl 3 i0 (.int .i64 0) 1 8 Tryz.underlying22 hi0 hz0 hz1 hz2 rfl (by decide) (some ⟨g, 0, none⟩) _ _ ((st.take ((st.length : Int) - oo).toNat).map (Value.int .i64)) rfl (by simp) (by simp; omega) HOl.out ⟨w5.heap.size, 0, none⟩ 1 1 [.int .i64 nv] rfl rfl (World.news_of_block HN2.out) (fun x hx => by simp at hx; subst hx; rfl) (by omega) (by unfold maxLen; omega) (by omega) ?_; intro v4 w4 hown4 hgrow4; obtain ⟨g4, cc4, rfl, hg4, hc4, hm4, _, _⟩ := own_cells hown4 (by omega))
          have HO4 := hid hown4
          have E4 := hid (E6.out.grown (row := none) hgrow4 (fun _ h => by cases h))
          clear hown4 hgrow4 HN2 HOl
          go_roundw
          case rel =>
            exact ⟨k + 1, _, max mm (((((st.length : Int) - oo).toNat : Nat) : Int) + 1), by omega, by go_num, rfl, by rw [show max ((st.length : Int) - oo) 0 = ((((st.length : Int) - oo).toNat : Nat) : Int) by omega], ex_next HX2.out HC2.out (at_ := ((st.length : Int) - oo).toNat) (by rw [HQ.out]; exact HAI.out.1) HS.out hsk (by unfold wval; simp at e1 e2; rw [if_neg e1, if_neg e2]; exact HNV.out) HNR.out HO4.out (by simp; omega) (by simp; omega) (below_ext HB.out E4.out hzr) (ownsMap_ext (S := fun _ => False) HT.out E4.out id) (Nat.lt_of_lt_of_le hBlt E4.out.size)⟩
          case measure => simp [intOf]; omega
    · have hf : L.drop k = [] := List.drop_eq_nil_of_le (by omega)
      have hc0 := HC.out
      rw [hf] at hc0
      have hl1 : st.length = 1 := by
        unfold cErr at hc0
        split at hc0
        · cases hc0
        · rename_i h; simp at h; omega
      obtain ⟨r, rfl⟩ : ∃ r, st = [r] := List.length_eq_one_iff.1 hl1
      have HXE := hid (show exL T L [] 0 = ([r], mm) by rw [HX.out, hf]; rfl)
      clear hc0 hf hl1 HX HC
      obtain ⟨g, rfl, hcell⟩ : ∃ g, ao = some ⟨g, 0, none⟩ ∧ wr.cell? ⟨g, 0, none⟩ = some (.int .i64 r) := by
        cases ao with
        | none => have := (HCe.out.1 rfl).1; simp at this
        | some bb => obtain ⟨g, rfl, _, h2⟩ := HCe.out.2 bb rfl; exact ⟨g, rfl, h2 0 _ rfl⟩
      go_wp2_with fail
      go_ret2
      exact ⟨⟨r, by rw [HXE.out], by rw [HXE.out]; rfl⟩, by first | exact HB.out | exact bdrewN' HB.out _⟩
end Go.Proofs.YtkgciohebloffaaGreat
/- RightExpr: an expression that is right, in new memory. -/
namespace Go.Proofs.YtkgciohebloffaaGreat
open Go.RowKit
section
variable {sb : Nat} {a : Option Addr} {len cap : Nat} {zs : List Int} {at_ : Int}

/-- Four cells of a block are written. -/
theorem set4 {w : World} {b : Nat} {v0 v1 v2 v3 a0 a1 a2 a3 : Value} (h0 : w.cell? ⟨b, 0, none⟩ = some v0) (h1 : w.cell? ⟨b, 1, none⟩ = some v1) (h2 : w.cell? ⟨b, 2, none⟩ = some v2) (h3 : w.cell? ⟨b, 3, none⟩ = some v3) :
    ((((w.setCell ⟨b, 0, none⟩ a0).setCell ⟨b, 1, none⟩ a1).setCell ⟨b, 2, none⟩ a2).setCell ⟨b, 3, none⟩ a3).cell? ⟨b, 0, none⟩ = some a0 ∧
    ((((w.setCell ⟨b, 0, none⟩ a0).setCell ⟨b, 1, none⟩ a1).setCell ⟨b, 2, none⟩ a2).setCell ⟨b, 3, none⟩ a3).cell? ⟨b, 1, none⟩ = some a1 ∧
    ((((w.setCell ⟨b, 0, none⟩ a0).setCell ⟨b, 1, none⟩ a1).setCell ⟨b, 2, none⟩ a2).setCell ⟨b, 3, none⟩ a3).cell? ⟨b, 2, none⟩ = some a2 ∧
    ((((w.setCell ⟨b, 0, none⟩ a0).setCell ⟨b, 1, none⟩ a1).setCell ⟨b, 2, none⟩ a2).setCell ⟨b, 3, none⟩ a3).cell? ⟨b, 3, none⟩ = some a3 := by
  have o : ∀ (w : World) (i j : Nat) (x : Value), i ≠ j → (w.setCell ⟨b, j, none⟩ x).cell? ⟨b, i, none⟩ = w.cell? ⟨b, i, none⟩ := fun w i j x hij => World.cell?_setCell_other _ _ _ _ (by intro e; cases e; exact hij rfl)
  have e0 := World.cell?_setCell_same w ⟨b, 0, none⟩ a0 h0
  have e1 := World.cell?_setCell_same (w.setCell ⟨b, 0, none⟩ a0) ⟨b, 1, none⟩ a1 ((o _ 1 0 _ (by omega)).trans h1)
  have e2 := World.cell?_setCell_same ((w.setCell ⟨b, 0, none⟩ a0).setCell ⟨b, 1, none⟩ a1) ⟨b, 2, none⟩ a2 ((o _ 2 1 _ (by omega)).trans ((o _ 2 0 _ (by omega)).trans h2))
  have e3 := World.cell?_setCell_same (((w.setCell ⟨b, 0, none⟩ a0).setCell ⟨b, 1, none⟩ a1).setCell ⟨b, 2, none⟩ a2) ⟨b, 3, none⟩ a3 ((o _ 3 2 _ (by omega)).trans ((o _ 3 1 _ (by omega)).trans ((o _ 3 0 _ (by omega)).trans h3)))
  exact ⟨(o _ 0 3 _ (by omega)).trans ((o _ 0 2 _ (by omega)).trans ((o _ 0 1 _ (by omega)).trans e0)), (o _ 1 3 _ (by omega)).trans ((o _ 1 2 _ (by omega)).trans e1), (o _ 2 3 _ (by omega)).trans e2, e3⟩

theorem set4_ext {S : Nat → Prop} {a w : World} {b : Nat} {a0 a1 a2 a3 : Value} (h : Ext S a w) (hp : S b ∨ a.heap.size ≤ b) :
    Ext S a ((((w.setCell ⟨b, 0, none⟩ a0).setCell ⟨b, 1, none⟩ a1).setCell ⟨b, 2, none⟩ a2).setCell ⟨b, 3, none⟩ a3) :=
  (((h.setCell (p := ⟨b, 0, none⟩) hp a0).setCell (p := ⟨b, 1, none⟩) hp a1).setCell (p := ⟨b, 2, none⟩) hp a2).setCell (p := ⟨b, 3, none⟩) hp a3

def GotRight (w w' : World) (e : Ending) : Prop :=
  ∃ (op n : Int) (s : ByteArray) (f : F) (p : Option Addr) (c : Nat) (fa : List Nat), e = .returned (.agg #[.int .i64 op, .int .i64 n, .string s, .slice p f.len c]) ∧ RdP w' f p fa ∧ f.len ≤ c ∧ c ≤ 9223372036854775807 ∧ (∀ b ∈ fa, w.heap.size ≤ b) ∧ (F.cons op n s f .nil).Fits ∧ f.size + 1 ≤ 150 ∧ errE op n s f 1 = 0

set_option maxRecDepth 100000 in
set_option maxHeartbeats 4000000 in
theorem right_any (w : World) (h : Str w sb a len cap zs at_) (hat : at_ ≤ 800000000) :
    Calls Tryz.prog 84 #[.pointer (some ⟨sb, 0, none⟩)] w fun e w' => GotRight w w' e ∧ Went sb a len cap zs at_ 12000 w w' := by
  have HS := h.size
  have E0 := hid ((Ext.refl (S := (· = sb)) w).alloc (.cells #[.int .i64 0, .int .i64 0, .string ⟨#[]⟩, .slice none 0 0] 28))
  have HB := hid (heap_new w (.cells #[.int .i64 0, .int .i64 0, .string ⟨#[]⟩, .slice none 0 0] 28))
  have H0 := hid (h.alloc (.cells #[.int .i64 0, .int .i64 0, .string ⟨#[]⟩, .slice none 0 0] 28))
  clear h
  go_enter Tryz.func84, Tryz.ntmps84
  go_wp2_with fail
  go_loopw [4] (fun i wr => ∃ (k : Nat) (at' : Int), k ≤ 6 ∧ i = .int .i64 k ∧ Str wr sb a len cap zs at' ∧ at' ≤ at_ + 2000 * k ∧ Ext (· = sb) w wr ∧ wr.heap[w.heap.size]? = some (.cells #[.int .i64 0, .int .i64 0, .string ⟨#[]⟩, .slice none 0 0] 28 (0, 0))) (fun i _ => 6 - (intOf i).toNat)
  case atStart => exact ⟨0, at_, by omega, rfl, H0.out, by omega, E0.out, HB.out⟩
  case round =>
    obtain ⟨k, at', hk, rfl, hs, hle, hext, hbk⟩ := hrel
    have HSt := hid hs
    have HE := hid hext
    have HBk := hid hbk
    have hzr := hext.size
    have hwr : w.heap.size < wr.heap.size := by
      exact World.block_lt_of_cell? _ _ (show wr.cell? ⟨w.heap.size, 0, none⟩ = some (.int .i64 0) by rw [cell_of_row _ _ _ _ _ _ hbk]; rfl)
    obtain ⟨⟨q0, q1, q2, q3⟩, f0, f1, f2, f3⟩ := blk4 hbk
    clear hs hext hbk
    by_cases hk6 : k < 6
    · have hki : (k : Int) < 6 := by omega
      go_wp2_with fail
      refine (anexpr_any _ HSt.out (by omega)).mono ?_
      rintro e w2 ⟨⟨op, n, s, f, p, c, fa, rfl, h1, h2, h3, h4, h5, h6⟩, hw2⟩
      obtain ⟨at2, hs2, hle2⟩ := hw2.2
      have HX := hid (And.intro h1 (And.intro h2 (And.intro h3 (And.intro h4 (And.intro h5 h6)))))
      have HS2 := hid hs2
      have HE2 := hid hw2.1
      have hz2 := hw2.1.size
      have HB2 := hid (hw2.1.heap HBk.out (by omega))
      have EA := hid ((Ext.refl (S := fun _ => False) w2).alloc (.cells #[.int .i64 op, .int .i64 n, .string s, .slice p f.len c] 28))
      have HN := hid (heap_new w2 (.cells #[.int .i64 op, .int .i64 n, .string s, .slice p f.len c] 28))
      clear h1 h2 h3 h4 h5 h6 hs2 hw2 q0 q1 q2 q3 f0 f1 f2 f3
      go_wp2_with fail
      refine (q_ExprFault op n s f p c fa _ (HX.out.1.ext EA.out (fun _ _ => id)) HX.out.2.1 HX.out.2.2.1 HX.out.2.2.2.2.1).mono ?_
      rintro e w3 ⟨rfl, hb3⟩
      have E3 := hid (Ext.of_below (S := fun _ => False) hb3)
      have HN3 := hid (E3.out.heap HN.out id)
      have HB3 := hid (E3.out.heap (EA.out.heap HB2.out id) id)
      have HS3 := hid ((HS2.out.alloc (.cells #[.int .i64 op, .int .i64 n, .string s, .slice p f.len c] 28)).ext E3.out id (fun _ _ => id))
      have HR3 := hid ((HX.out.1.ext EA.out (fun _ _ => id)).ext E3.out (fun _ _ => id))
      have HE3 := hid ((HE.out.trans HE2.out).trans ((EA.out.mono (S' := (· = sb)) (fun _ _ => False.elim)).trans (E3.out.mono (S' := (· = sb)) (fun _ _ => False.elim))))
      have hz3 : w2.heap.size + 1 ≤ w3.heap.size := by have := hb3.size; simpa using this
      clear hb3 E3 EA HN HB2
      obtain ⟨⟨q0, q1, q2, q3⟩, _⟩ := blk4 HN3.out
      generalize hge : errE op n s f 1 = er
      have GE := hid hge
      clear hge
      by_cases he : (er == 0) = true
      · have HE0 := hid (show errE op n s f 1 = 0 by rw [GE.out]; simpa using he)
        obtain ⟨⟨p0, p1, p2, p3⟩, f0, f1, f2, f3⟩ := blk4 HB3.out
        go_wp2_with fail
        obtain ⟨u0, u1, u2, u3⟩ := set4 (a0 := .int .i64 op) (a1 := .int .i64 n) (a2 := .string s) (a3 := .slice p f.len c) p0 p1 p2 p3
        have e4 : Ext (· = w.heap.size) w3 ((((w3.setCell ⟨w.heap.size, 0, none⟩ (.int .i64 op)).setCell ⟨w.heap.size, 1, none⟩ (.int .i64 n)).setCell ⟨w.heap.size, 2, none⟩ (.string s)).setCell ⟨w.heap.size, 3, none⟩ (.slice p f.len c)) :=
          set4_ext (S := (· = w.heap.size)) (Ext.refl w3) (.inl rfl)
        have e5 : Ext (· = sb) w ((((w3.setCell ⟨w.heap.size, 0, none⟩ (.int .i64 op)).setCell ⟨w.heap.size, 1, none⟩ (.int .i64 n)).setCell ⟨w.heap.size, 2, none⟩ (.string s)).setCell ⟨w.heap.size, 3, none⟩ (.slice p f.len c)) :=
          set4_ext HE3.out (.inr (Nat.le_refl _))
        generalize ((((w3.setCell ⟨w.heap.size, 0, none⟩ (.int .i64 op)).setCell ⟨w.heap.size, 1, none⟩ (.int .i64 n)).setCell ⟨w.heap.size, 2, none⟩ (.string s)).setCell ⟨w.heap.size, 3, none⟩ (.slice p f.len c)) = w4 at *
        refine bodyPost_ret (v := .agg #[.int .i64 op, .int .i64 n, .string s, .slice p f.len c]) (by simp [results, Tryz.results84, go_sem, u0, u1, u2, u3]) rfl ⟨⟨op, n, s, f, p, c, fa, rfl, HR3.out.ext e4 (fun b hb e => by have := HX.out.2.2.2.1 b hb; omega), HX.out.2.1, HX.out.2.2.1, fun b hb => by have := HX.out.2.2.2.1 b hb; omega, HX.out.2.2.2.2.1, HX.out.2.2.2.2.2, HE0.out⟩, e5, at2, HS3.out.ext e4 (by omega) (fun b hb => by omega), by omega⟩
      · have he' : (er == 0) = false := by simpa using he
        clear he
        go_wp2_with fail
        go_roundw
        case rel => exact ⟨k + 1, at2, by omega, by go_num, HS3.out, by omega, HE3.out, HB3.out⟩
        case measure => simp [intOf]; omega
    · go_wp2_with fail
      obtain ⟨u0, u1, u2, u3⟩ := set4 (a0 := .int .i64 2) (a1 := .int .i64 0) (a2 := .string ⟨#[120]⟩) (a3 := .slice none 0 0) q0 q1 q2 q3
      have e4 : Ext (· = w.heap.size) wr ((((wr.setCell ⟨w.heap.size, 0, none⟩ (.int .i64 2)).setCell ⟨w.heap.size, 1, none⟩ (.int .i64 0)).setCell ⟨w.heap.size, 2, none⟩ (.string ⟨#[120]⟩)).setCell ⟨w.heap.size, 3, none⟩ (.slice none 0 0)) :=
        set4_ext (S := (· = w.heap.size)) (Ext.refl wr) (.inl rfl)
      have e5 : Ext (· = sb) w ((((wr.setCell ⟨w.heap.size, 0, none⟩ (.int .i64 2)).setCell ⟨w.heap.size, 1, none⟩ (.int .i64 0)).setCell ⟨w.heap.size, 2, none⟩ (.string ⟨#[120]⟩)).setCell ⟨w.heap.size, 3, none⟩ (.slice none 0 0)) :=
        set4_ext HE.out (.inr (Nat.le_refl _))
      generalize ((((wr.setCell ⟨w.heap.size, 0, none⟩ (.int .i64 2)).setCell ⟨w.heap.size, 1, none⟩ (.int .i64 0)).setCell ⟨w.heap.size, 2, none⟩ (.string ⟨#[120]⟩)).setCell ⟨w.heap.size, 3, none⟩ (.slice none 0 0)) = w4 at *
      refine bodyPost_ret (v := .agg #[.int .i64 2, .int .i64 0, .string ⟨#[120]⟩, .slice none 0 0]) (by simp [results, Tryz.results84, go_sem, u0, u1, u2, u3]) rfl ⟨⟨2, 0, ⟨#[120]⟩, .nil, none, 0, [], rfl, .inl ⟨rfl, rfl⟩, by simp [F.len], by omega, by simp, ⟨by omega, by omega, by decide, trivial, trivial⟩, by simp [F.size], by decide⟩, e5, at', HSt.out.ext e4 (by omega) (fun b hb => by omega), by omega⟩
end
end Go.Proofs.YtkgciohebloffaaGreat
