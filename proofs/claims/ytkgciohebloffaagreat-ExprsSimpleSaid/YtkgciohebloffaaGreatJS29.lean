/- Texts joined: VSpan, VSlot. -/
import Derived.Test.YtkgciohebloffaaGreatJS10
import Derived.Test.YtkgciohebloffaaGreatJS20
import Derived.Test.YtkgciohebloffaaGreatJS19
import Derived.Test.YtkgciohebloffaaGreatJS11
import Derived.Deep.RegionHeld3
import Derived.Test.YtkgciohebloffaaGreatJS28
import Derived.Test.YtkgciohebloffaaGreatJS23
/- checkSpans, the program's: spans in order. -/
namespace Go.Proofs.YtkgciohebloffaaGreat
open Go.RowKit

set_option maxHeartbeats 400000 in
theorem v_isValue (n : Int) (w : World) : Calls Tryz.prog 68 #[.int .i64 n] w fun e w' => e = .returned (.bool (decide (0 ≤ n ∧ n ≤ 999))) ∧ w = w' := by
  by_cases h1 : 0 ≤ n
  · go_enter Tryz.func68, Tryz.ntmps68
    go_wp2
    go_ret
    exact ⟨by simp [h1], rfl⟩
  · have h2 : decide (0 ≤ n) = false := by simpa using h1
    go_enter Tryz.func68, Tryz.ntmps68
    go_wp2
    go_ret
    exact ⟨by simp, rfl⟩
theorem v_isValue_b (n : Int) (b : Bool) (hb : decide (0 ≤ n ∧ n ≤ 999) = b) (w : World) : Calls Tryz.prog 68 #[.int .i64 n] w fun e w' => e = .returned (.bool b) ∧ w = w' := by subst hb; exact v_isValue n w

/-- The numbers of a span are right. -/
def fitB (x : ByteArray × Int × Int) : Bool := decide (0 ≤ x.2.1 ∧ x.2.1 ≤ 999) && decide (0 ≤ x.2.2 ∧ x.2.2 ≤ 999) && decide (x.2.1 ≤ x.2.2)
set_option maxHeartbeats 1000000 in
theorem v_fits (x : ByteArray × Int × Int) (b : Bool) (hb : fitB x = b) (w : World) : Calls Tryz.prog 136 #[.agg #[.string x.1, .int .i64 x.2.1, .int .i64 x.2.2]] w fun e w' => e = .returned (.bool b) ∧ Below w.heap.size w w' := by
  have HB := hid hb
  clear hb
  by_cases h1 : decide (0 ≤ x.2.1 ∧ x.2.1 ≤ 999) = true
  · by_cases h2 : decide (0 ≤ x.2.2 ∧ x.2.2 ≤ 999) = true
    · have H1 := hid h1
      have H2 := hid h2
      clear h1 h2
      go_enter Tryz.func136, Tryz.ntmps136
      go_wp2_with fail
      refine (v_isValue_b _ true H1.out _).mono ?_
      rintro e w2 ⟨rfl, rfl⟩
      go_wp2_with fail
      refine (v_isValue_b _ true H2.out _).mono ?_
      rintro e w2 ⟨rfl, rfl⟩
      go_wp2_with fail
      go_ret
      exact ⟨ret_bool (by rw [← HB.out, fitB, H1.out, H2.out]; simp), alloc_below _ _⟩
    · have H1 := hid h1
      have H2 := hid (show decide (0 ≤ x.2.2 ∧ x.2.2 ≤ 999) = false by simpa using h2)
      clear h1 h2
      go_enter Tryz.func136, Tryz.ntmps136
      go_wp2_with fail
      refine (v_isValue_b _ true H1.out _).mono ?_
      rintro e w2 ⟨rfl, rfl⟩
      go_wp2_with fail
      refine (v_isValue_b _ false H2.out _).mono ?_
      rintro e w2 ⟨rfl, rfl⟩
      go_wp2_with fail
      go_ret
      exact ⟨ret_bool (by rw [← HB.out, fitB, H1.out, H2.out]; simp), alloc_below _ _⟩
  · have H1 := hid (show decide (0 ≤ x.2.1 ∧ x.2.1 ≤ 999) = false by simpa using h1)
    clear h1
    go_enter Tryz.func136, Tryz.ntmps136
    go_wp2_with fail
    refine (v_isValue_b _ false H1.out _).mono ?_
    rintro e w2 ⟨rfl, rfl⟩
    go_wp2_with fail
    go_ret
    exact ⟨ret_bool (by rw [← HB.out, fitB, H1.out]; simp), alloc_below _ _⟩

theorem spErr_cons (p : Option ByteArray) (x : ByteArray × Int × Int) (r : List (ByteArray × Int × Int)) : spErr p (x :: r) = if nameB x.1.data.toList = false then 5 else if fitB x = false then 1 else if (p.elim false fun y => Op.bytesLess x.1.toList y.toList || x.1.toList == y.toList) = true then 7 else spErr (some x.1) r := by
  have h : (¬ (0 ≤ x.2.1 ∧ x.2.1 ≤ 999) ∨ ¬ (x.2.1 ≤ x.2.2 ∧ x.2.2 ≤ 999)) ↔ fitB x = false := by simp [fitB]; omega
  rw [spErr]
  simp only [h]

set_option maxRecDepth 100000 in
set_option maxHeartbeats 4000000 in
theorem v_checkNamed (L : List (ByteArray × Int × Int)) (p : Option Addr) (c : Nat) (w : World) (hp : SpP w L p) (hl : L.length ≤ 3) (_hlc : L.length ≤ c) (_hcm : c ≤ maxLen) (hok : ∀ x ∈ L, SpOk x) :
    Calls Tryz.prog 134 #[.slice p L.length c, .func (.func 135) #[] #[], .func (.func 136) #[] #[]] w fun e w' => e = .returned (.int .i64 (spErr none L)) ∧ Below w.heap.size w w' := by
  have HP := hid hp
  have HK := hid hok
  have hli : (L.length : Int) ≤ 3 := by omega
  clear hp hok
  go_enter Tryz.func134, Tryz.ntmps134
  go_wp2_with fail
  go_loopw [14] (fun i wr => ∃ k : Nat, k ≤ L.length ∧ i = .int .i64 k ∧ spErr none L = spErr (prevS L k) (L.drop k) ∧ Below w.heap.size w wr) (fun i _ => L.length - (intOf i).toNat)
  case atStart => exact ⟨0, by omega, rfl, rfl, Below.refl _ _⟩
  case round =>
    obtain ⟨k, hk, rfl, herr, hbl⟩ := hrel
    have HR := hid herr
    have HB := hid hbl
    have hzr : w.heap.size ≤ wr.heap.size := hbl.size
    clear herr hbl
    by_cases hlt : k < L.length
    · rcases HP.out with h0 | ⟨b, rfl, hat⟩
      · rw [h0] at hlt; simp at hlt
      have HA := hid (hat.ext (S := fun _ => False) (Ext.of_below HB.out) id)
      obtain ⟨c0, c1, c2⟩ := HA.out k _ (List.getElem?_eq_getElem hlt)
      have HD := hid (List.drop_eq_getElem_cons hlt)
      have HKx := hid (HK.out _ (List.getElem_mem hlt))
      have HX := hid (List.getElem?_eq_getElem hlt)
      generalize L[k] = x at c0 c1 c2 HD HKx HX
      have hsz : x.1.size ≤ 9223372036854775807 := by have := HKx.out.1; omega
      have HR2 := hid (show spErr none L = if nameB x.1.data.toList = false then 5 else if fitB x = false then 1 else if ((prevS L k).elim false fun y => Op.bytesLess x.1.toList y.toList || x.1.toList == y.toList) = true then 7 else spErr (some x.1) (L.drop (k + 1)) by rw [HR.out, HD.out, spErr_cons])
      clear HR
      go_wp2_with fail
      refine (v_spanName x _).mono ?_
      rintro e w2 ⟨rfl, hb2⟩
      have HB2 := hid ((HB.out.alloc hzr _).trans (hb2.mono (by simp; omega)))
      have HN2 := hid ((Ext.of_below (S := fun _ => False) hb2).heap (heap_new wr (.cells #[.string x.1, .int .i64 x.2.1, .int .i64 x.2.2] 114)) id)
      clear hb2
      obtain ⟨⟨d0, d1, d2⟩, _⟩ := blk3 HN2.out
      go_wp2_with fail
      by_cases hnm : nameB x.1.data.toList = true
      case neg =>
        have HN := hid (show nameB x.1.data.toList = false by simpa using hnm)
        clear hnm
        refine (p_isName x.1 false HN.out _ hsz).mono ?_
        rintro e w3 ⟨rfl, rfl⟩
        go_wp2_with fail
        go_ret
        exact ⟨ret_int (by rw [HR2.out, if_pos HN.out]), HB2.out⟩
      have HN := hid hnm
      clear hnm
      refine (p_isName x.1 true HN.out _ hsz).mono ?_
      rintro e w3 ⟨rfl, rfl⟩
      go_wp2_with fail
      by_cases hft : fitB x = true
      case neg =>
        have HF := hid (show fitB x = false by simpa using hft)
        clear hft
        refine (v_fits x false HF.out _).mono ?_
        rintro e w3 ⟨rfl, hb3⟩
        have HB3 := hid (HB2.out.trans (hb3.mono (by have := HB2.out.size; omega)))
        clear hb3
        go_wp2_with fail
        go_ret
        exact ⟨ret_int (by rw [HR2.out, if_neg (by simp [HN.out]), if_pos HF.out]), HB3.out⟩
      have HF := hid hft
      clear hft
      refine (v_fits x true HF.out _).mono ?_
      rintro e w3 ⟨rfl, hb3⟩
      have HB3 := hid (HB2.out.trans (hb3.mono (by have := HB2.out.size; omega)))
      have HN3 := hid ((Ext.of_below (S := fun _ => False) hb3).heap HN2.out id)
      clear hb3 d0 d1 d2 HN2
      obtain ⟨⟨d0, d1, d2⟩, _⟩ := blk3 HN3.out
      have HR3 := hid (show spErr none L = if ((prevS L k).elim false fun y => Op.bytesLess x.1.toList y.toList || x.1.toList == y.toList) = true then 7 else spErr (some x.1) (L.drop (k + 1)) by rw [HR2.out, if_neg (by simp [HN.out]), if_neg (by simp [HF.out])])
      clear HR2
      by_cases hk0 : k = 0
      · subst hk0
        go_wp2_with fail
        go_quiet (fail)
        go_wp2_with fail
        go_roundw
        case rel =>
          exact ⟨1, by omega, by go_num, by rw [HR3.out, if_neg (by simp [prevS])]; simp only [prevS]; rw [HX.out]; rfl, bdrewN' HB3.out _⟩
        case measure => simp [intOf]; omega
      · obtain ⟨j, rfl⟩ : ∃ j, k = j + 1 := ⟨k - 1, by omega⟩
        have hj : j < L.length := by omega
        have HA2 := hid (hat.ext (S := fun _ => False) (Ext.of_below HB3.out) id)
        obtain ⟨e0, e1, e2⟩ := HA2.out j _ (List.getElem?_eq_getElem hj)
        have hpj : Hid (prevS L (j + 1) = some L[j].1) := hid (by simp [prevS, List.getElem?_eq_getElem hj])
        generalize L[j] = y at e0 e1 e2 hpj
        have hjw : IntKind.i64.wrap ((j : Int) + 1 - 1) = j := by rw [show (j : Int) + 1 - 1 = j by omega]; exact IntWalk.i64_in _ (by omega)
        go_wp2_with fail
        have hjw2 : IntKind.i64.wrap (j : Int) = j := IntWalk.i64_in _ (by omega)
        have hj0 : (0 : Int) ≤ j := by omega
        have hjl : (j : Int) < L.length := by omega
        have hjn : (j : Int).toNat = j := by omega
        go_region_held3 (fun w' => w'.cell? ⟨wr.heap.size, 0, none⟩ = some (.string x.1) ∧ w'.cell? ⟨wr.heap.size, 1, none⟩ = some (.int .i64 x.2.1) ∧ w'.cell? ⟨wr.heap.size, 2, none⟩ = some (.int .i64 x.2.2) ∧ w'.cell? ⟨b, j * 3, none⟩ = some (.string y.1) ∧ w'.cell? ⟨b, j * 3 + 1, none⟩ = some (.int .i64 y.2.1) ∧ w'.cell? ⟨b, j * 3 + 2, none⟩ = some (.int .i64 y.2.2))
          (first
            | (go_keep; done)
            | exact ⟨E4.cell_some d0 id, E4.cell_some d1 id, E4.cell_some d2 id, E4.cell_some e0 id, E4.cell_some e1 id, E4.cell_some e2 id⟩
            | exact ⟨E5.cell_some d0 id, E5.cell_some d1 id, E5.cell_some d2 id, E5.cell_some e0 id, E5.cell_some e1 id, E5.cell_some e2 id⟩)
          (first
            | (go_at_call 135; refine (v_spanName x _).mono ?_; rintro e w4 ⟨rfl, hb4⟩; have E4 := Ext.of_below (S := fun _ => False) hb4; have HB4 := hid ((bdrew HB3.out).trans (hb4.mono (by have := HB3.out.size; simp; omega))); clear hb4)
            | (go_at_call 135; refine (v_spanName y _).mono ?_; rintro e w5 ⟨rfl, hb5⟩; have E5 := E4.trans (Ext.of_below (S := fun _ => False) hb5); have HB5 := hid (HB4.out.trans (hb5.mono (by have := HB4.out.size; omega))); clear hb5))
        have hc : Hid ((Op.bytesLess x.1.toList y.1.toList || x.1.toList == y.1.toList) = true ∨ (Op.bytesLess x.1.toList y.1.toList || x.1.toList == y.1.toList) = false) := hid (by cases (Op.bytesLess x.1.toList y.1.toList || x.1.toList == y.1.toList) <;> simp)
        generalize hcv : (Op.bytesLess x.1.toList y.1.toList || x.1.toList == y.1.toList) = cc at hc ⊢
        have HCV := hid hcv
        clear hcv
        cases cc
        · go_wp2_with fail
          go_roundw
          case rel =>
            exact ⟨j + 1 + 1, by omega, by go_num, by rw [HR3.out, hpj.out, Option.elim, HCV.out, if_neg (by simp)]; simp only [prevS]; rw [HX.out]; rfl, HB5.out⟩
          case measure => simp [intOf]; omega
        · go_wp2_with fail
          go_ret
          exact ⟨ret_int (by rw [HR3.out, hpj.out, Option.elim, HCV.out, if_pos rfl]), HB5.out⟩
    · go_wp2_with fail
      go_ret
      exact ⟨ret_int (by rw [HR.out, List.drop_eq_nil_of_le (by omega)]; rfl), HB.out⟩
theorem v_checkSpans (L : List (ByteArray × Int × Int)) (p : Option Addr) (c : Nat) (w : World) (hp : SpP w L p) (hl : L.length ≤ 3) (hlc : L.length ≤ c) (hcm : c ≤ maxLen) (hok : ∀ x ∈ L, SpOk x) :
    Calls Tryz.prog 79 #[.slice p L.length c] w fun e w' => e = .returned (.int .i64 (spErr none L)) ∧ Below w.heap.size w w' := by
  have HP := hid hp
  have HK := hid hok
  clear hp hok
  go_enter Tryz.func79, Tryz.ntmps79
  go_wp2_with fail
  refine (v_checkNamed L p c _ HP.out hl hlc hcm HK.out).mono ?_
  rintro e w2 ⟨rfl, hb⟩
  have HB := hid hb
  clear hb
  generalize hge : spErr none L = er
  have GE := hid hge
  clear hge
  go_wp2_with fail
  go_ret
  exact ⟨ret_int GE.out.symm, HB.out⟩
end Go.Proofs.YtkgciohebloffaaGreat
/- CheckSlots, the program's: slots in order (made by tools/gen/slot.py). -/
namespace Go.Proofs.YtkgciohebloffaaGreat
open Go.RowKit

/-- The number of a slot is right. -/
def fitS (x : ByteArray × Int) : Bool := decide (0 ≤ x.2 ∧ x.2 ≤ 999)
set_option maxHeartbeats 1000000 in
theorem s_fits (x : ByteArray × Int) (b : Bool) (hb : fitS x = b) (w : World) : Calls Tryz.prog 67 #[.agg #[.string x.1, .int .i64 x.2]] w fun e w' => e = .returned (.bool b) ∧ Below w.heap.size w w' := by
  have HB := hid hb
  clear hb
  go_enter Tryz.func67, Tryz.ntmps67
  go_wp2_with fail
  refine (v_isValue_b _ b HB.out _).mono ?_
  rintro e w2 ⟨rfl, rfl⟩
  go_wp2_with fail
  go_ret
  exact ⟨rfl, alloc_below _ _⟩
theorem empty_not (x : ByteArray) (h : nameB x.data.toList = true) : (Op.bytesLess x.toList (⟨#[]⟩ : ByteArray).toList || x.toList == (⟨#[]⟩ : ByteArray).toList) = false := by
  rw [Lib.toList_data, Lib.toList_data]
  cases e : x.data.toList with
  | nil => rw [e] at h; simp [nameB] at h
  | cons a r => simp [Op.bytesLess]
/-- The error of slots behind the one before. -/
def slErr' (p : Option ByteArray) (L : List (ByteArray × Int)) : Int := slErr (p.getD ⟨#[]⟩) L
def prevL (L : List (ByteArray × Int)) : Nat → Option ByteArray
  | 0 => none
  | k + 1 => (L[k]?).map (·.1)
theorem slErr_cons (p : Option ByteArray) (x : ByteArray × Int) (r : List (ByteArray × Int)) : slErr' p (x :: r) = if nameB x.1.data.toList = false then 5 else if fitS x = false then 1 else if (p.elim false fun y => Op.bytesLess x.1.toList y.toList || x.1.toList == y.toList) = true then 7 else slErr' (some x.1) r := by
  have h : (¬ (0 ≤ x.2 ∧ x.2 ≤ 999)) ↔ fitS x = false := by simp [fitS]
  show slErr (p.getD ⟨#[]⟩) (x :: r) = _
  rw [slErr]
  simp only [h]
  by_cases hn : nameB x.1.data.toList = true
  · cases p with
    | none => simp only [Option.getD_none, Option.elim, empty_not x.1 hn]; rfl
    | some y => rfl
  · rw [if_pos (by simpa using hn), if_pos (by simpa using hn)]

set_option maxRecDepth 100000 in
set_option maxHeartbeats 4000000 in
theorem s_checkNamed (L : List (ByteArray × Int)) (p : Option Addr) (c : Nat) (w : World) (hp : SlP w L p) (hl : L.length ≤ 4) (_hlc : L.length ≤ c) (_hcm : c ≤ maxLen) (hok : ∀ x ∈ L, SlOk x) :
    Calls Tryz.prog 65 #[.slice p L.length c, .func (.func 66) #[] #[], .func (.func 67) #[] #[]] w fun e w' => e = .returned (.int .i64 (slErr' none L)) ∧ Below w.heap.size w w' := by
  have HP := hid hp
  have HK := hid hok
  have hli : (L.length : Int) ≤ 4 := by omega
  clear hp hok
  go_enter Tryz.func65, Tryz.ntmps65
  go_wp2_with fail
  go_loopw [14] (fun i wr => ∃ k : Nat, k ≤ L.length ∧ i = .int .i64 k ∧ slErr' none L = slErr' (prevL L k) (L.drop k) ∧ Below w.heap.size w wr) (fun i _ => L.length - (intOf i).toNat)
  case atStart => exact ⟨0, by omega, rfl, rfl, Below.refl _ _⟩
  case round =>
    obtain ⟨k, hk, rfl, herr, hbl⟩ := hrel
    have HR := hid herr
    have HB := hid hbl
    have hzr : w.heap.size ≤ wr.heap.size := hbl.size
    clear herr hbl
    by_cases hlt : k < L.length
    · rcases HP.out with h0 | ⟨b, rfl, hat⟩
      · rw [h0] at hlt; simp at hlt
      have HA := hid (hat.ext (S := fun _ => False) (Ext.of_below HB.out) id)
      obtain ⟨c0, c1⟩ := HA.out k _ (List.getElem?_eq_getElem hlt)
      have HD := hid (List.drop_eq_getElem_cons hlt)
      have HKx := hid (HK.out _ (List.getElem_mem hlt))
      have HX := hid (List.getElem?_eq_getElem hlt)
      generalize L[k] = x at c0 c1 HD HKx HX
      have hsz : x.1.size ≤ 9223372036854775807 := by have := HKx.out.1; omega
      have HR2 := hid (show slErr' none L = if nameB x.1.data.toList = false then 5 else if fitS x = false then 1 else if ((prevL L k).elim false fun y => Op.bytesLess x.1.toList y.toList || x.1.toList == y.toList) = true then 7 else slErr' (some x.1) (L.drop (k + 1)) by rw [HR.out, HD.out, slErr_cons])
      clear HR
      go_wp2_with fail
      refine (v_slotName x _).mono ?_
      rintro e w2 ⟨rfl, hb2⟩
      have HB2 := hid ((HB.out.alloc hzr _).trans (hb2.mono (by simp; omega)))
      have HN2 := hid ((Ext.of_below (S := fun _ => False) hb2).heap (heap_new wr (.cells #[.string x.1, .int .i64 x.2] 86)) id)
      clear hb2
      obtain ⟨⟨d0, d1⟩, _⟩ := blk2 HN2.out
      go_wp2_with fail
      by_cases hnm : nameB x.1.data.toList = true
      case neg =>
        have HN := hid (show nameB x.1.data.toList = false by simpa using hnm)
        clear hnm
        refine (p_isName x.1 false HN.out _ hsz).mono ?_
        rintro e w3 ⟨rfl, rfl⟩
        go_wp2_with fail
        go_ret
        exact ⟨ret_int (by rw [HR2.out, if_pos HN.out]), HB2.out⟩
      have HN := hid hnm
      clear hnm
      refine (p_isName x.1 true HN.out _ hsz).mono ?_
      rintro e w3 ⟨rfl, rfl⟩
      go_wp2_with fail
      by_cases hft : fitS x = true
      case neg =>
        have HF := hid (show fitS x = false by simpa using hft)
        clear hft
        refine (s_fits x false HF.out _).mono ?_
        rintro e w3 ⟨rfl, hb3⟩
        have HB3 := hid (HB2.out.trans (hb3.mono (by have := HB2.out.size; omega)))
        clear hb3
        go_wp2_with fail
        go_ret
        exact ⟨ret_int (by rw [HR2.out, if_neg (by simp [HN.out]), if_pos HF.out]), HB3.out⟩
      have HF := hid hft
      clear hft
      refine (s_fits x true HF.out _).mono ?_
      rintro e w3 ⟨rfl, hb3⟩
      have HB3 := hid (HB2.out.trans (hb3.mono (by have := HB2.out.size; omega)))
      have HN3 := hid ((Ext.of_below (S := fun _ => False) hb3).heap HN2.out id)
      clear hb3 d0 d1 HN2
      obtain ⟨⟨d0, d1⟩, _⟩ := blk2 HN3.out
      have HR3 := hid (show slErr' none L = if ((prevL L k).elim false fun y => Op.bytesLess x.1.toList y.toList || x.1.toList == y.toList) = true then 7 else slErr' (some x.1) (L.drop (k + 1)) by rw [HR2.out, if_neg (by simp [HN.out]), if_neg (by simp [HF.out])])
      clear HR2
      by_cases hk0 : k = 0
      · subst hk0
        go_wp2_with fail
        go_quiet (fail)
        go_wp2_with fail
        go_roundw
        case rel =>
          exact ⟨1, by omega, by go_num, by rw [HR3.out, if_neg (by simp [prevL])]; simp only [prevL]; rw [HX.out]; rfl, bdrewN' HB3.out _⟩
        case measure => simp [intOf]; omega
      · obtain ⟨j, rfl⟩ : ∃ j, k = j + 1 := ⟨k - 1, by omega⟩
        have hj : j < L.length := by omega
        have HA2 := hid (hat.ext (S := fun _ => False) (Ext.of_below HB3.out) id)
        obtain ⟨e0, e1⟩ := HA2.out j _ (List.getElem?_eq_getElem hj)
        have hpj : Hid (prevL L (j + 1) = some L[j].1) := hid (by simp [prevL, List.getElem?_eq_getElem hj])
        generalize L[j] = y at e0 e1 hpj
        have hjw : IntKind.i64.wrap ((j : Int) + 1 - 1) = j := by rw [show (j : Int) + 1 - 1 = j by omega]; exact IntWalk.i64_in _ (by omega)
        go_wp2_with fail
        have hjw2 : IntKind.i64.wrap (j : Int) = j := IntWalk.i64_in _ (by omega)
        have hj0 : (0 : Int) ≤ j := by omega
        have hjl : (j : Int) < L.length := by omega
        have hjn : (j : Int).toNat = j := by omega
        go_region_held3 (fun w' => w'.cell? ⟨wr.heap.size, 0, none⟩ = some (.string x.1) ∧ w'.cell? ⟨wr.heap.size, 1, none⟩ = some (.int .i64 x.2) ∧ w'.cell? ⟨b, j * 2, none⟩ = some (.string y.1) ∧ w'.cell? ⟨b, j * 2 + 1, none⟩ = some (.int .i64 y.2))
          (first
            | (go_keep; done)
            | exact ⟨E4.cell_some d0 id, E4.cell_some d1 id, E4.cell_some e0 id, E4.cell_some e1 id⟩
            | exact ⟨E5.cell_some d0 id, E5.cell_some d1 id, E5.cell_some e0 id, E5.cell_some e1 id⟩)
          (first
            | (go_at_call 66; refine (v_slotName x _).mono ?_; rintro e w4 ⟨rfl, hb4⟩; have E4 := Ext.of_below (S := fun _ => False) hb4; have HB4 := hid ((bdrew HB3.out).trans (hb4.mono (by have := HB3.out.size; simp; omega))); clear hb4)
            | (go_at_call 66; refine (v_slotName y _).mono ?_; rintro e w5 ⟨rfl, hb5⟩; have E5 := E4.trans (Ext.of_below (S := fun _ => False) hb5); have HB5 := hid (HB4.out.trans (hb5.mono (by have := HB4.out.size; omega))); clear hb5))
        have hc : Hid ((Op.bytesLess x.1.toList y.1.toList || x.1.toList == y.1.toList) = true ∨ (Op.bytesLess x.1.toList y.1.toList || x.1.toList == y.1.toList) = false) := hid (by cases (Op.bytesLess x.1.toList y.1.toList || x.1.toList == y.1.toList) <;> simp)
        generalize hcv : (Op.bytesLess x.1.toList y.1.toList || x.1.toList == y.1.toList) = cc at hc ⊢
        have HCV := hid hcv
        clear hcv
        cases cc
        · go_wp2_with fail
          go_roundw
          case rel =>
            exact ⟨j + 1 + 1, by omega, by go_num, by rw [HR3.out, hpj.out, Option.elim, HCV.out, if_neg (by simp)]; simp only [prevL]; rw [HX.out]; rfl, HB5.out⟩
          case measure => simp [intOf]; omega
        · go_wp2_with fail
          go_ret
          exact ⟨ret_int (by rw [HR3.out, hpj.out, Option.elim, HCV.out, if_pos rfl]), HB5.out⟩
    · go_wp2_with fail
      go_ret
      exact ⟨ret_int (by rw [HR.out, List.drop_eq_nil_of_le (by omega)]; rfl), HB.out⟩
theorem s_CheckSlots (L : List (ByteArray × Int)) (p : Option Addr) (c : Nat) (w : World) (hp : SlP w L p) (hl : L.length ≤ 4) (hlc : L.length ≤ c) (hcm : c ≤ maxLen) (hok : ∀ x ∈ L, SlOk x) :
    Calls Tryz.prog 19 #[.slice p L.length c] w fun e w' => e = .returned (.int .i64 (slErr' none L)) ∧ Below w.heap.size w w' := by
  have HP := hid hp
  have HK := hid hok
  clear hp hok
  go_enter Tryz.func19, Tryz.ntmps19
  go_wp2_with fail
  refine (s_checkNamed L p c _ HP.out hl hlc hcm HK.out).mono ?_
  rintro e w2 ⟨rfl, hb⟩
  have HB := hid hb
  clear hb
  generalize hge : slErr' none L = er
  have GE := hid hge
  clear hge
  go_wp2_with fail
  go_ret
  exact ⟨ret_int GE.out.symm, HB.out⟩
end Go.Proofs.YtkgciohebloffaaGreat
