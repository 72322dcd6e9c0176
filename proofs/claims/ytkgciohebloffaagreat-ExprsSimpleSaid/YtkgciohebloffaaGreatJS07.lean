/- Texts joined: NameSpec, QName, Fault. -/
import Derived.Lib.Bytealg
import Derived.Test.YtkgciohebloffaaGreatJS01
import Derived.Test.YtkgciohebloffaaGreatJS05
import Derived.Test.YtkgciohebloffaaGreatJS02
/- Which strings are names: plain. -/
namespace Go.Proofs.YtkgciohebloffaaGreat
def isSm (c : UInt8) : Bool := decide (97 ≤ c.toNat) && decide (c.toNat ≤ 122)
def isDg (c : UInt8) : Bool := decide (48 ≤ c.toNat) && decide (c.toNat ≤ 57)
def isWb (c : UInt8) : Bool := isSm c || isDg c || decide (c.toNat = 95)
def reserved (l : List UInt8) : Bool := l == [112, 114, 111, 99] || l == [109, 97, 105, 110] || l == [105, 102] || l == [101, 108, 115, 101]
def nameB (l : List UInt8) : Bool := decide (1 ≤ l.length) && decide (l.length ≤ 40) && isSm (l.headD 0) && !reserved l && l.all isWb

def smalls : List UInt8 := [97, 98, 99, 100, 101, 102, 103, 104, 105, 106, 107, 108, 109, 110, 111, 112, 113, 114, 115, 116, 117, 118, 119, 120, 121, 122]
def wordBytes : List UInt8 := smalls ++ [48, 49, 50, 51, 52, 53, 54, 55, 56, 57, 95]
theorem indexByte_or (l : List UInt8) (c : UInt8) : (Lib.indexByte l c = -1 ∧ l.contains c = false) ∨ (0 ≤ Lib.indexByte l c ∧ l.contains c = true) := by
  induction l with
  | nil => left; exact ⟨rfl, rfl⟩
  | cons b l ih =>
    by_cases e : b = c
    · subst e; right; simp [Lib.indexByte]
    · have e1 : (b == c) = false := by simpa using e
      have e2 : (c == b) = false := by simpa using fun h => e h.symm
      rcases ih with ⟨h, h'⟩ | ⟨h, h'⟩
      · left; exact ⟨by simp [Lib.indexByte, e1, h], by simp only [List.contains_cons, e2, h', Bool.or_false]⟩
      · right
        have hn : (Lib.indexByte l c == -1) = false := by simp; omega
        exact ⟨by simp only [Lib.indexByte, e1, hn]; simp; omega, by simp only [List.contains_cons, h', Bool.or_true]⟩
theorem smalls_contains (c : UInt8) : smalls.contains c = isSm c := by
  have : ∀ n, n < 256 → smalls.contains (UInt8.ofNat n) = isSm (UInt8.ofNat n) := by decide +kernel
  simpa using this c.toNat c.toNat_lt
theorem wordBytes_contains (c : UInt8) : wordBytes.contains c = isWb c := by
  have : ∀ n, n < 256 → wordBytes.contains (UInt8.ofNat n) = isWb (UInt8.ofNat n) := by decide +kernel
  simpa using this c.toNat c.toNat_lt
end Go.Proofs.YtkgciohebloffaaGreat
/- Name (the reference's): says whether a string is a name. -/
namespace Go.Proofs.YtkgciohebloffaaGreat
open Go.RowKit

set_option maxHeartbeats 400000 in
theorem q_in (n lo hi : Int) (w : World) : Calls Tryz.prog 55 #[.int .i64 n, .int .i64 lo, .int .i64 hi] w fun e w' => e = .returned (.bool (decide (lo ≤ n ∧ n ≤ hi))) ∧ w = w' := by
  by_cases h1 : lo ≤ n
  · go_enter Tryz.func55, Tryz.ntmps55
    go_wp2
    go_ret
    exact ⟨by simp [h1], rfl⟩
  · have h2 : decide (lo ≤ n) = false := by simpa using h1
    go_enter Tryz.func55, Tryz.ntmps55
    go_wp2
    go_ret
    exact ⟨by simp, rfl⟩

theorem q_in_b (n lo hi : Int) (b : Bool) (hb : decide (lo ≤ n ∧ n ≤ hi) = b) (w : World) : Calls Tryz.prog 55 #[.int .i64 n, .int .i64 lo, .int .i64 hi] w fun e w' => e = .returned (.bool b) ∧ w = w' := by subst hb; exact q_in n lo hi w

/-- The first byte of a string that has one. -/
theorem head_byte (s : ByteArray) (h : 0 < s.size) : s.data.toList.headD 0 = s[0] := by
  obtain ⟨⟨l⟩⟩ := s
  cases l with
  | nil => simp [ByteArray.size] at h
  | cons a l => rfl

theorem isSm_int (c : UInt8) : decide (97 ≤ (c.toNat : Int) ∧ (c.toNat : Int) ≤ 122) = isSm c := by
  rw [isSm, Bool.eq_iff_iff]; simp; omega
theorem isDg_int (c : UInt8) : decide (48 ≤ (c.toNat : Int) ∧ (c.toNat : Int) ≤ 57) = isDg c := by
  rw [isDg, Bool.eq_iff_iff]; simp; omega
theorem get_data (s : ByteArray) (k : Nat) (h : k < s.size) : s.data.toList[k]? = some s[k] := by
  rw [Array.getElem?_toList]; exact Array.getElem?_eq_getElem h
theorem size_data (s : ByteArray) : s.data.toList.length = s.size := Array.length_toList
theorem all_step (p : UInt8 → Bool) (s : ByteArray) (k : Nat) (h : k < s.size) (ha : (s.data.toList.take k).all p = true) (hp : p s[k] = true) : (s.data.toList.take (k + 1)).all p = true := by
  rw [List.take_add_one, List.all_append, ha, get_data s k h]; simp [hp]
theorem all_stop (p : UInt8 → Bool) (s : ByteArray) (k : Nat) (h : k < s.size) (hp : p s[k] = false) : s.data.toList.all p = false := by
  rw [List.all_eq_false]
  exact ⟨s[k], List.mem_of_getElem? (get_data s k h), by simp [hp]⟩
theorem all_end (p : UInt8 → Bool) (s : ByteArray) (k : Nat) (h : s.size ≤ k) (ha : (s.data.toList.take k).all p = true) : s.data.toList.all p = true := by
  rwa [List.take_of_length_le (by rw [size_data]; exact h)] at ha

set_option maxRecDepth 100000 in
theorem q_alloc_below (w : World) (o : Obj) : Below w.heap.size w (w.alloc o) := (Below.refl _ _).alloc (Nat.le_refl _) o
theorem index_small (c : UInt8) : (Lib.indexByte smalls c < 0 ∧ isSm c = false) ∨ (0 ≤ Lib.indexByte smalls c ∧ isSm c = true) := by
  rcases indexByte_or smalls c with ⟨h, h'⟩ | ⟨h, h'⟩
  · left; exact ⟨by omega, by rw [← smalls_contains]; exact h'⟩
  · right; exact ⟨h, by rw [← smalls_contains]; exact h'⟩
theorem index_word (c : UInt8) : (Lib.indexByte wordBytes c < 0 ∧ isWb c = false) ∨ (0 ≤ Lib.indexByte wordBytes c ∧ isWb c = true) := by
  rcases indexByte_or wordBytes c with ⟨h, h'⟩ | ⟨h, h'⟩
  · left; exact ⟨by omega, by rw [← wordBytes_contains]; exact h'⟩
  · right; exact ⟨h, by rw [← wordBytes_contains]; exact h'⟩

theorem toUInt8_int (c : UInt8) : (c.toNat : Int).toNat.toUInt8 = c := by simp
theorem ib_small (c : UInt8) (w : World) : Calls Tryz.prog 106 #[.string ⟨#[97, 98, 99, 100, 101, 102, 103, 104, 105, 106, 107, 108, 109, 110, 111, 112, 113, 114, 115, 116, 117, 118, 119, 120, 121, 122]⟩, .int .u8 c.toNat] w fun e w' => (∃ r : Int, e = .returned (.int .i64 r) ∧ ((r < 0 ∧ isSm c = false) ∨ (0 ≤ r ∧ isSm c = true))) ∧ w = w' := by
  refine (Tryz.strings_IndexByte _ _ w).mono ?_
  rintro e w' ⟨rfl, rfl⟩
  rw [toUInt8_int]
  exact ⟨⟨_, rfl, index_small c⟩, rfl⟩
theorem ib_word (c : UInt8) (w : World) : Calls Tryz.prog 106 #[.string ⟨#[97, 98, 99, 100, 101, 102, 103, 104, 105, 106, 107, 108, 109, 110, 111, 112, 113, 114, 115, 116, 117, 118, 119, 120, 121, 122, 48, 49, 50, 51, 52, 53, 54, 55, 56, 57, 95]⟩, .int .u8 c.toNat] w fun e w' => (∃ r : Int, e = .returned (.int .i64 r) ∧ ((r < 0 ∧ isWb c = false) ∨ (0 ≤ r ∧ isWb c = true))) ∧ w = w' := by
  refine (Tryz.strings_IndexByte _ _ w).mono ?_
  rintro e w' ⟨rfl, rfl⟩
  rw [toUInt8_int]
  exact ⟨⟨_, rfl, index_word c⟩, rfl⟩
theorem reserved_contains (s : ByteArray) : Lib.containsS ([⟨#[112, 114, 111, 99]⟩, ⟨#[109, 97, 105, 110]⟩, ⟨#[105, 102]⟩, ⟨#[101, 108, 115, 101]⟩].take 4) s = reserved s.data.toList := by
  rw [Bool.eq_iff_iff, Lib.containsS_iff]
  obtain ⟨⟨l⟩⟩ := s
  simp [reserved, or_assoc]
theorem q_reserved (s : ByteArray) (b : Bool) (hb : reserved s.data.toList = b) (T : TypeId) (w : World) : Calls Tryz.prog 107 #[.slice (some ⟨w.heap.size, 0, none⟩) 4 4, .string s] (w.alloc (.cells #[.string ⟨#[112, 114, 111, 99]⟩, .string ⟨#[109, 97, 105, 110]⟩, .string ⟨#[105, 102]⟩, .string ⟨#[101, 108, 115, 101]⟩] T)) fun e w' => e = .returned (.bool b) ∧ Below w.heap.size w w' := by
  refine (Tryz.slices_Contains_string w.heap.size 0 4 4 [⟨#[112, 114, 111, 99]⟩, ⟨#[109, 97, 105, 110]⟩, ⟨#[105, 102]⟩, ⟨#[101, 108, 115, 101]⟩] s _ (by decide) (by omega) ?_).mono ?_
  · intro j hj
    rw [Nat.zero_add]
    refine cell_new_row _ _ _ _ _ ?_
    match j, hj with
    | 0, _ => rfl
    | 1, _ => rfl
    | 2, _ => rfl
    | 3, _ => rfl
    | j + 4, hj => simp at hj; omega
  · rintro e w' ⟨rfl, rfl⟩
    rw [reserved_contains, hb]
    exact ⟨rfl, q_alloc_below _ _⟩

set_option maxRecDepth 100000 in
set_option maxHeartbeats 1000000 in
theorem q_Name (s : ByteArray) (b : Bool) (hb : nameB s.data.toList = b) (w : World) (hs : s.size ≤ 9223372036854775807) : Calls Tryz.prog 54 #[.string s] w fun e w' => e = .returned (.bool b) ∧ Below w.heap.size w w' := by
  have HB := hid hb
  clear hb
  by_cases h0 : 1 ≤ s.size ∧ s.size ≤ 40
  · have hp : 0 < s.size := by omega
    have HN : Hid (nameB s.data.toList = (isSm s[0] && !reserved s.data.toList && s.data.toList.all isWb)) := hid (by
      rw [nameB, size_data, head_byte s hp, decide_eq_true (show 1 ≤ s.size by omega), decide_eq_true (show s.size ≤ 40 by omega)]; simp)
    have H0 := hid (show decide ((1 : Int) ≤ (s.size : Int) ∧ (s.size : Int) ≤ 40) = true by simp; omega)
    clear h0
    go_enter Tryz.func54, Tryz.ntmps54
    go_wp2_with fail
    refine (q_in_b _ _ _ true H0.out _).mono ?_
    rintro e w' ⟨rfl, rfl⟩
    go_wp2_with fail
    refine (ib_small s[0] _).mono ?_
    rintro e w' ⟨⟨r, rfl, hr⟩, rfl⟩
    rcases hr with ⟨hr, h2⟩ | ⟨hr, h2⟩
    · have H2 := hid h2
      clear h2
      go_wp2_with fail
      go_ret
      exact ⟨ret_bool (by rw [← HB.out, HN.out, H2.out]; rfl), Below.refl _ _⟩
    have H2 := hid h2
    clear h2
    by_cases h3 : reserved s.data.toList = true
    · have H3 := hid h3
      clear h3
      go_wp2_with fail
      refine (q_reserved s true H3.out _ _).mono ?_
      rintro e w' ⟨rfl, hb⟩
      have HBl := hid hb
      clear hb
      go_wp2_with fail
      go_ret
      exact ⟨ret_bool (by rw [← HB.out, HN.out, H3.out]; simp), HBl.out⟩
    · have H3 := hid (show reserved s.data.toList = false by simpa using h3)
      clear h3
      go_wp2_with fail
      refine (q_reserved s false H3.out _ _).mono ?_
      rintro e w' ⟨rfl, hb⟩
      have HBl := hid hb
      clear hb
      go_wp2_with fail
      go_loopw [21] (fun i wr => ∃ k : Nat, k ≤ s.size ∧ i = .int .i64 k ∧ (s.data.toList.take k).all isWb = true ∧ Below w.heap.size w wr) (fun i _ => s.size - (intOf i).toNat)
      case atStart => exact ⟨0, by omega, rfl, by simp, HBl.out⟩
      case round =>
        obtain ⟨k, hk, rfl, hall, hbl⟩ := hrel
        have HA := hid hall
        have HB2 := hid hbl
        clear hall hbl
        by_cases hlt : k < s.size
        · go_wp2_with fail
          refine (ib_word s[k] _).mono ?_
          rintro e w' ⟨⟨r, rfl, hr⟩, rfl⟩
          rcases hr with ⟨hr, h2⟩ | ⟨hr, h2⟩
          · have HW := hid h2
            clear h2
            go_wp2_with fail
            go_ret
            exact ⟨ret_bool (by rw [← HB.out, HN.out, all_stop _ s k hlt HW.out]; simp), HB2.out⟩
          · have HW := hid h2
            clear h2
            go_wp2_with fail
            go_roundw
            case rel => exact ⟨k + 1, by omega, by go_num, all_step _ s k hlt HA.out HW.out, HB2.out⟩
            case measure => simp [intOf]; omega
        · go_wp2_with fail
          go_ret
          exact ⟨ret_bool (by rw [← HB.out, HN.out, H2.out, H3.out, all_end _ s k (by omega) HA.out]; rfl), HB2.out⟩
  · have H0 := hid (show decide ((1 : Int) ≤ (s.size : Int) ∧ (s.size : Int) ≤ 40) = false by simp; omega)
    have h1 : Hid (nameB s.data.toList = false) := hid (by
      rw [nameB, size_data]
      by_cases h : 1 ≤ s.size
      · rw [decide_eq_false (show ¬ s.size ≤ 40 by omega)]; simp
      · rw [decide_eq_false h]; simp)
    clear h0
    go_enter Tryz.func54, Tryz.ntmps54
    go_wp2_with fail
    refine (q_in_b _ _ _ false H0.out _).mono ?_
    rintro e w' ⟨rfl, rfl⟩
    go_wp2_with fail
    go_ret
    exact ⟨ret_bool (by rw [← HB.out, h1.out]), Below.refl _ _⟩
end Go.Proofs.YtkgciohebloffaaGreat
/- Which expressions are right: plain, and the reference's walk. -/
namespace Go.Proofs.YtkgciohebloffaaGreat
open Go.RowKit

/-- How many arguments an operator has; -1: there is no such one. -/
def ar (op : Int) : Int := if op < 1 ∨ 9 < op then -1 else if op ≤ 2 then 0 else if op = 8 then 1 else if op = 9 then 3 else 2

/-- The error of expressions in a row, at a depth. -/
def errF : F → Int → Int
  | .nil, _ => 0
  | .cons op n s a r, d =>
    if (if 20 < d then 2 else if op < 1 ∨ 9 < op then 4 else if (a.len : Int) ≠ ar op ∨ (op ≠ 1 ∧ n ≠ 0) ∨ (op ≠ 2 ∧ s.size ≠ 0) then 3 else if n < 0 ∨ 999 < n then 1 else if op = 2 ∧ nameB s.data.toList = false then 5 else errF a (d + 1)) = 0
    then errF r d
    else (if 20 < d then 2 else if op < 1 ∨ 9 < op then 4 else if (a.len : Int) ≠ ar op ∨ (op ≠ 1 ∧ n ≠ 0) ∨ (op ≠ 2 ∧ s.size ≠ 0) then 3 else if n < 0 ∨ 999 < n then 1 else if op = 2 ∧ nameB s.data.toList = false then 5 else errF a (d + 1))
/-- The error of one. -/
def errE (op n : Int) (s : ByteArray) (a : F) (d : Int) : Int :=
  if 20 < d then 2 else if op < 1 ∨ 9 < op then 4 else if (a.len : Int) ≠ ar op ∨ (op ≠ 1 ∧ n ≠ 0) ∨ (op ≠ 2 ∧ s.size ≠ 0) then 3 else if n < 0 ∨ 999 < n then 1 else if op = 2 ∧ nameB s.data.toList = false then 5 else errF a (d + 1)
theorem errF_cons (op n : Int) (s : ByteArray) (a r : F) (d : Int) : errF (.cons op n s a r) d = if errE op n s a d = 0 then errF r d else errE op n s a d := rfl

set_option maxHeartbeats 1000000 in
theorem q_arity (op : Int) (w : World) (h1 : -1099511627776 ≤ op) (h2 : op ≤ 1099511627776) : Calls Tryz.prog 105 #[.int .i64 op] w fun e w' => e = .returned (.int .i64 (ar op)) ∧ Below w.heap.size w w' := by
  by_cases h : 1 ≤ op ∧ op ≤ 9
  · have H := hid (show decide (1 ≤ op ∧ op ≤ 9) = true by simpa using h)
    obtain ⟨k1, k2⟩ := h
    rcases (show op = 1 ∨ op = 2 ∨ op = 3 ∨ op = 4 ∨ op = 5 ∨ op = 6 ∨ op = 7 ∨ op = 8 ∨ op = 9 by omega) with rfl | rfl | rfl | rfl | rfl | rfl | rfl | rfl | rfl
    all_goals
      go_enter Tryz.func105, Tryz.ntmps105
      go_wp2_with fail
      refine (q_in_b _ _ _ true H.out _).mono ?_
      rintro e w' ⟨rfl, rfl⟩
      go_wp2_with fail
      go_ret
      exact ⟨rfl, q_alloc_below _ _⟩
  · have H := hid (show decide (1 ≤ op ∧ op ≤ 9) = false by simpa using h)
    have HA : Hid (ar op = -1) := hid (by rw [ar, if_pos (by omega)])
    clear h
    go_enter Tryz.func105, Tryz.ntmps105
    go_wp2_with fail
    refine (q_in_b _ _ _ false H.out _).mono ?_
    rintro e w' ⟨rfl, rfl⟩
    go_wp2_with fail
    go_ret
    exact ⟨ret_int HA.out.symm, Below.refl _ _⟩
end Go.Proofs.YtkgciohebloffaaGreat
