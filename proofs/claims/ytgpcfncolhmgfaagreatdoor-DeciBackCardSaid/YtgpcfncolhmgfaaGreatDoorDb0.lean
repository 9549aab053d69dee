/-
  Digits as they are written and read again: what is rounded to few digits is written as it was.
  Texts of digits, points, E and the sign above: their characters, and back.
  What a text of digits, with a point and an exponent or without, is read as.
  What is written of a number is a text of digits, with a point and an exponent or without; what it is read as.
  What was written of a number, read: its value, and what is written of that.
-/
import Derived.Test.YtgpcfncolhmgfaaGreatDoorDe6
import Derived.Test.YtgpcfncolhmgfaaGreatDoorDg4
import Derived.Laws.IdiomStrings
namespace Go.Proofs.YtgpcfncolhmgfaaGreatDoor
open Go.RowKit

theorem trimR_back (c : UInt8) : ∀ (n : Nat) (l : List UInt8), l.length = n → ∃ j, l = Go.Lib.trimRightB l c ++ List.replicate j c := by
  intro n
  induction n with
  | zero => intro l h; exact ⟨0, by rw [List.eq_nil_of_length_eq_zero h]; rfl⟩
  | succ n ih =>
    intro l h
    rcases snoc_cases l with rfl | ⟨k, x, rfl⟩
    · simp at h
    · rw [trimR_snoc]
      by_cases hx : x = c
      · rw [if_pos hx]
        obtain ⟨j, hj⟩ := ih k (by simpa using h)
        refine ⟨j + 1, ?_⟩
        rw [List.replicate_succ', ← List.append_assoc, ← hj, hx]
      · rw [if_neg hx]
        exact ⟨0, by simp⟩
theorem numOf_zeros : ∀ j, numOf (List.replicate j 48) = 0
  | 0 => rfl
  | j + 1 => by rw [List.replicate_succ, numOf, numOf_zeros j]; simp
/-- A number's digits without noughts at the end. -/
theorem zd_spec {M : Nat} (h : 0 < M) : ∃ j, M = numOf (zd M) * 10 ^ j ∧ dl M = (zd M).length + j ∧ dl (numOf (zd M)) = (zd M).length ∧ zd (numOf (zd M)) = zd M ∧ 0 < numOf (zd M) := by
  obtain ⟨j, hj⟩ := trimR_back 48 _ (dec M) rfl
  have h1 : dec M = zd M ++ List.replicate j 48 := hj
  have h2 := numOf_dec M
  rw [h1, numOf_append, numOf_zeros, List.length_replicate, Nat.add_zero] at h2
  have hS : 0 < numOf (zd M) := by
    rcases Nat.eq_zero_or_pos (numOf (zd M)) with e | e
    · rw [e, Nat.zero_mul] at h2; omega
    · exact e
  have h3 : dl M = (zd M).length + j := by
    have := congrArg List.length h1
    rw [List.length_append, List.length_replicate] at this
    rw [← this]
    exact (sdig_length _ _).symm
  have h4 : dl M = dl (numOf (zd M)) + j := by rw [← h2, dl_times hS]; rw [h2]
  have h5 : zd (numOf (zd M)) = zd M := by
    have := zd_times hS j
    rw [h2] at this
    exact this.symm
  exact ⟨j, h2.symm, h3, by omega, h5, hS⟩

/-- A number that is so many digits times a power of ten: its scale, and its digits, rounded. -/
theorem sc_uniq {P Q S u v : Nat} (hP : 0 < P) (hQ : 0 < Q) (hS : 0 < S) (h : P * 10 ^ v = S * 10 ^ u * Q) : sE P Q = dl S + ((u : Int) - v) - 1 ∧ ∀ N, dl S ≤ N → mM (sT P Q) (sB P Q) N = S * 10 ^ (N - dl S) := by
  obtain ⟨t0, b0, t1, t2⟩ := s_spec hP hQ
  have hs := s_same P Q (sE P Q + 1).toNat (-(sE P Q + 1)).toNat (by omega)
  have hE : ((sE P Q + 1).toNat : Int) - ((-(sE P Q + 1)).toNat : Int) = sE P Q + 1 := by omega
  generalize sT P Q = T at *
  generalize sB P Q = B at *
  generalize (sE P Q + 1).toNat = u' at *
  generalize (-(sE P Q + 1)).toNat = v' at *
  have l1 := dl_low hS
  have l2 := dl_lt S
  have hd := dl_pos S
  have key : S * B * 10 ^ (u + v') = T * 10 ^ (u' + v) := by
    refine Nat.eq_of_mul_eq_mul_right hQ ?_
    rw [Nat.pow_add, Nat.pow_add]
    calc S * B * (10 ^ u * 10 ^ v') * Q = (S * 10 ^ u * Q) * (B * 10 ^ v') := by grind
      _ = P * 10 ^ v * (B * 10 ^ v') := by rw [h]
      _ = P * B * 10 ^ v' * 10 ^ v := by grind
      _ = T * Q * 10 ^ u' * 10 ^ v := by rw [hs]
      _ = T * (10 ^ u' * 10 ^ v) * Q := by grind
  have tens : ∀ {i k : Nat}, (10 : Nat) ^ i < 10 ^ k → i < k := fun {i k} hlt => (Nat.pow_lt_pow_iff_right (by omega)).1 hlt
  have e1 : dl S + (u + v') ≤ u' + v := by
    have : S * 10 ^ (u + v') < 10 ^ (u' + v) := by
      refine Nat.lt_of_mul_lt_mul_left (a := B) ?_
      calc B * (S * 10 ^ (u + v')) = S * B * 10 ^ (u + v') := by grind
        _ = T * 10 ^ (u' + v) := key
        _ < B * 10 ^ (u' + v) := Nat.mul_lt_mul_of_pos_right t1 (Nat.pow_pos (by omega))
    have h2 : 10 ^ (dl S - 1) * 10 ^ (u + v') ≤ S * 10 ^ (u + v') := Nat.mul_le_mul_right _ l1
    rw [← Nat.pow_add] at h2
    have := tens (Nat.lt_of_le_of_lt h2 this)
    omega
  have e2 : u' + v ≤ dl S + (u + v') := by
    have h2 : 10 ^ (u' + v) ≤ 10 * S * 10 ^ (u + v') := by
      refine Nat.le_of_mul_le_mul_left (c := T) ?_ t0
      calc T * 10 ^ (u' + v) = S * B * 10 ^ (u + v') := key.symm
        _ ≤ S * (10 * T) * 10 ^ (u + v') := Nat.mul_le_mul_right _ (Nat.mul_le_mul_left _ t2)
        _ = T * (10 * S * 10 ^ (u + v')) := by grind
    have h3 : 10 * S * 10 ^ (u + v') < 10 ^ (1 + dl S + (u + v')) := by
      rw [Nat.pow_add 10 (1 + dl S), Nat.pow_add 10 1, Nat.pow_one]
      exact Nat.mul_lt_mul_of_pos_right (by omega) (Nat.pow_pos (by omega))
    have := tens (Nat.lt_of_le_of_lt h2 h3)
    omega
  refine ⟨by omega, fun N hN => ?_⟩
  have e3 : u' + v = dl S + (u + v') := by omega
  have k2 : S * B = T * 10 ^ dl S := by
    refine Nat.eq_of_mul_eq_mul_right (show 0 < 10 ^ (u + v') from Nat.pow_pos (by omega)) ?_
    rw [key, e3, Nat.pow_add, Nat.mul_assoc]
  have k3 : T * 10 ^ N = S * 10 ^ (N - dl S) * B := by
    have : (10 : Nat) ^ N = 10 ^ dl S * 10 ^ (N - dl S) := by rw [← Nat.pow_add]; congr 1; omega
    rw [this]
    calc T * (10 ^ dl S * 10 ^ (N - dl S)) = T * 10 ^ dl S * 10 ^ (N - dl S) := by grind
      _ = S * B * 10 ^ (N - dl S) := by rw [k2]
      _ = S * 10 ^ (N - dl S) * B := by grind
  unfold mM
  rw [k3]
  generalize S * 10 ^ (N - dl S) = K at *
  rw [show 2 * (K * B) + B = B + 2 * B * K by grind, Nat.add_mul_div_left _ _ (by omega), Nat.div_eq_of_lt (by omega), Nat.zero_add]

/-- The text of such a number. -/
theorem shA_val {P Q S u v : Nat} (many : Int) (hP : 0 < P) (hQ : 0 < Q) (hS : 0 < S) (h : P * 10 ^ v = S * 10 ^ u * Q) (hN : dl S ≤ shN many) : shA P Q many = wrS (zd S) (dl S + ((u : Int) - v) - 1) (shN many) := by
  obtain ⟨h1, h2⟩ := sc_uniq hP hQ hS h
  have h3 := h2 _ hN
  unfold shA shM
  rw [h3, zd_times hS, dl_times hS, h1]
  congr 1
  omega

/-- What is written of a number: its digits, how many, and the power of ten that they stand for. -/
def shD (P Q : Nat) (many : Int) : List UInt8 := zd (shM P Q many)
def shX (P Q : Nat) (many : Int) : Int := sE P Q + (dl (shM P Q many) : Int) - (shN many : Int) + 1 - ((shD P Q many).length : Int)
theorem shM_pos {P Q : Nat} (many : Int) (hP : 0 < P) (hQ : 0 < Q) : 0 < shM P Q many ∧ dl (numOf (shD P Q many)) ≤ shN many := by
  obtain ⟨t0, b0, t1, t2⟩ := s_spec hP hQ
  have hn : 0 < shN many := by unfold shN; omega
  have hge := g_ge b0 t2 hn
  have hlt := g_lt t1 (shN many)
  have hf := mM_full (T := sT P Q) b0 (shN many)
  have hpos : 0 < shM P Q many := by
    unfold shM
    rw [hf]
    have : 0 < 10 ^ (shN many - 1) := Nat.pow_pos (by omega)
    omega
  refine ⟨hpos, ?_⟩
  have hle : shM P Q many ≤ 10 ^ shN many := by
    unfold shM
    rw [hf]
    split <;> omega
  obtain ⟨j, h1, h2, h3, h4, h5⟩ := zd_spec hpos
  unfold shD
  rw [h3]
  rcases Nat.lt_or_ge (shM P Q many) (10 ^ shN many) with h | h
  · have := dl_le _ _ hn h
    omega
  · have e : shM P Q many = 10 ^ shN many := by omega
    rw [e, zd_ten]
    exact hn
/-- What was written, read, is written so again. -/
theorem shA_again {P Q P' Q' : Nat} (many : Int) (hP : 0 < P) (hQ : 0 < Q) (hP' : 0 < P') (hQ' : 0 < Q') (h : P' * 10 ^ (-(shX P Q many)).toNat = numOf (shD P Q many) * 10 ^ (shX P Q many).toNat * Q') : shA P' Q' many = shA P Q many := by
  obtain ⟨hpos, hdl⟩ := shM_pos many hP hQ
  obtain ⟨j, h1, h2, h3, h4, h5⟩ := zd_spec hpos
  have := shA_val many hP' hQ' (show 0 < numOf (shD P Q many) from h5) h hdl
  rw [this]
  unfold shA
  rw [show zd (numOf (shD P Q many)) = zd (shM P Q many) from h4, show dl (numOf (shD P Q many)) = (shD P Q many).length from h3]
  congr 1
  have : (((shX P Q many).toNat : Nat) : Int) - ((-(shX P Q many)).toNat : Nat) = shX P Q many := by omega
  rw [this]
  unfold shX
  omega
/-- What has few digits enough is what was written. -/
theorem shA_exact {P Q : Nat} (many : Int) {K u v : Nat} (hP : 0 < P) (hQ : 0 < Q) (h : P * 10 ^ u = K * Q * 10 ^ v) (huv : (u : Int) - v = (shN many : Int) - 1 - sE P Q) : P * 10 ^ (-(shX P Q many)).toNat = numOf (shD P Q many) * 10 ^ (shX P Q many).toNat * Q := by
  obtain ⟨t0, b0, t1, t2⟩ := s_spec hP hQ
  obtain ⟨hpos, hdl⟩ := shM_pos many hP hQ
  obtain ⟨j, h1, h2, h3, h4, h5⟩ := zd_spec hpos
  have hs := s_same P Q (sE P Q + 1).toNat (-(sE P Q + 1)).toNat (by omega)
  have hE : ((sE P Q + 1).toNat : Int) - ((-(sE P Q + 1)).toNat : Int) = sE P Q + 1 := by omega
  have hX : shX P Q many = sE P Q + 1 - shN many + j := by unfold shX shD; omega
  have hM : shM P Q many = K := by
    unfold shM mM
    have k1 : sT P Q * 10 ^ shN many = K * sB P Q := by
      generalize sT P Q = T at *
      generalize sB P Q = B at *
      generalize (sE P Q + 1).toNat = u' at *
      generalize (-(sE P Q + 1)).toNat = v' at *
      generalize shN many = N at *
      have e2 : u' + u = N + v + v' := by omega
      refine Nat.eq_of_mul_eq_mul_right (show 0 < Q * 10 ^ (v + v') from Nat.mul_pos hQ (Nat.pow_pos (by omega))) ?_
      calc T * 10 ^ N * (Q * 10 ^ (v + v')) = T * Q * 10 ^ (N + v + v') := by rw [Nat.add_assoc N, Nat.pow_add 10 N]; grind
        _ = T * Q * (10 ^ u' * 10 ^ u) := by rw [← e2, Nat.pow_add]
        _ = T * Q * 10 ^ u' * 10 ^ u := by grind
        _ = P * B * 10 ^ v' * 10 ^ u := by rw [hs]
        _ = P * 10 ^ u * (B * 10 ^ v') := by grind
        _ = K * Q * 10 ^ v * (B * 10 ^ v') := by rw [h]
        _ = K * B * (Q * 10 ^ (v + v')) := by rw [Nat.pow_add]; grind
    rw [k1]
    generalize sB P Q = B at *
    rw [show 2 * (K * B) + B = B + 2 * B * K by grind, Nat.add_mul_div_left _ _ (by omega), Nat.div_eq_of_lt (by omega), Nat.zero_add]
  have hS : K = numOf (shD P Q many) * 10 ^ j := by rw [← hM]; exact h1
  rw [hX]
  have hx : ((sE P Q + 1 - (shN many : Int) + j).toNat : Int) - ((-(sE P Q + 1 - (shN many : Int) + j)).toNat : Int) = sE P Q + 1 - shN many + j := by omega
  generalize (sE P Q + 1 - (shN many : Int) + j).toNat = a at *
  generalize (-(sE P Q + 1 - (shN many : Int) + j)).toNat = b at *
  have e4 : b + v + j = a + u := by omega
  refine Nat.eq_of_mul_eq_mul_right (show 0 < 10 ^ u from Nat.pow_pos (by omega)) ?_
  calc P * 10 ^ b * 10 ^ u = P * 10 ^ u * 10 ^ b := by grind
    _ = K * Q * 10 ^ v * 10 ^ b := by rw [h]
    _ = numOf (shD P Q many) * 10 ^ j * Q * 10 ^ v * 10 ^ b := by rw [← hS]
    _ = numOf (shD P Q many) * Q * 10 ^ (b + v + j) := by rw [Nat.pow_add, Nat.pow_add]; grind
    _ = numOf (shD P Q many) * Q * (10 ^ a * 10 ^ u) := by rw [e4, Nat.pow_add]
    _ = numOf (shD P Q many) * 10 ^ a * Q * 10 ^ u := by grind

end Go.Proofs.YtgpcfncolhmgfaaGreatDoor

namespace Go.Proofs.YtgpcfncolhmgfaaGreatDoor
open Go.RowKit

/-- The characters of which numbers are written. -/
def okR (r : Nat) : Prop := r < 128 ∨ r = 175
/-- The bytes of a character. -/
def enc1 (r : Nat) : List UInt8 := if r = 175 then [194, 175] else [UInt8.ofNat r]
def encL : List Nat → List UInt8
  | [] => []
  | r :: l => enc1 r ++ encL l
theorem encL_app (l : List Nat) : ∀ k, encL (k ++ l) = encL k ++ encL l
  | [] => rfl
  | r :: k => by show enc1 r ++ encL (k ++ l) = enc1 r ++ encL k ++ encL l; rw [encL_app l k, List.append_assoc]
theorem encode_one {r : Nat} (h : okR r) : Utf8.encode (r : Int) = str (enc1 r) := by
  rcases h with h | h
  · unfold enc1
    rw [if_neg (by omega)]
    unfold Utf8.encode
    have hv : Utf8.valid (r : Int) = true := by unfold Utf8.valid; simp; omega
    simp only [hv, if_true, Int.toNat_natCast]
    rw [if_pos (by omega)]
    rfl
  · subst h
    decide +kernel
theorem runes_enc : ∀ (l : List Nat), (∀ r ∈ l, okR r) → runesBytes (l.map fun (r : Nat) => (r : Int)) = str (encL l) := by
  intro l
  have gen : ∀ (l : List Nat) (a : ByteArray), (∀ r ∈ l, okR r) → (l.map fun (r : Nat) => (r : Int)).foldl (fun r n => r ++ Utf8.encode n) a = a ++ str (encL l) := by
    intro l
    induction l with
    | nil => intro a _; apply ByteArray.ext; rw [ByteArray.data_append]; apply Array.toList_inj.1; rw [Array.toList_append, str_toList]; simp [encL]
    | cons r l ih =>
      intro a h
      rw [List.map_cons, List.foldl_cons, ih _ (fun x hx => h x (List.mem_cons_of_mem _ hx)), encode_one (h r List.mem_cons_self)]
      show a ++ str (enc1 r) ++ str (encL l) = a ++ str (enc1 r ++ encL l)
      rw [← str_append, ByteArray.append_assoc]
  intro h
  unfold runesBytes
  rw [gen l _ h]
  apply ByteArray.ext
  rw [ByteArray.data_append]
  apply Array.toList_inj.1
  rw [Array.toList_append, str_toList]
  rfl

theorem get_str (p q : List UInt8) (x : UInt8) : (str (p ++ x :: q)).get! p.length = x := by
  have : (str (p ++ x :: q)).get! p.length = (p ++ x :: q).toArray[p.length]! := rfl
  rw [this]
  simp
/-- The characters of such a text. -/
theorem runes_dec : ∀ (l : List Nat) (p : List UInt8) (bound : Nat) (acc : Array Value), (∀ r ∈ l, okR r) → (encL l).length ≤ bound →
    Conv.runesFrom (str (p ++ encL l)) bound p.length acc = acc ++ (l.map fun r => Value.int .i32 (r : Nat)).toArray := by
  intro l
  induction l with
  | nil =>
    intro p bound acc _ _
    have hs : (str (p ++ encL [])).size = p.length := by rw [str_size]; simp [encL]
    cases bound with
    | zero => simp [Conv.runesFrom]
    | succ b => unfold Conv.runesFrom; rw [if_neg (by omega)]; simp
  | cons r l ih =>
    intro p bound acc h hb
    have hr := h r List.mem_cons_self
    have he : encL (r :: l) = enc1 r ++ encL l := rfl
    have hpos : 0 < (enc1 r).length := by unfold enc1; split <;> simp
    rw [he, List.length_append] at hb
    obtain ⟨b, rfl⟩ : ∃ b, bound = b + 1 := ⟨bound - 1, by omega⟩
    have hs : (str (p ++ encL (r :: l))).size = p.length + ((enc1 r).length + (encL l).length) := by rw [str_size, he, List.length_append, List.length_append]
    unfold Conv.runesFrom
    rw [if_pos (by omega)]
    have hd : Utf8.decode (str (p ++ encL (r :: l))) p.length = (r, (enc1 r).length) := by
      rcases hr with hr | hr
      · have e1 : enc1 r = [UInt8.ofNat r] := by unfold enc1; rw [if_neg (by omega)]
        have g0 : ((str (p ++ encL (r :: l))).get! (p.length + 0)).toNat = r := by
          rw [he, e1, Nat.add_zero]
          show ((str (p ++ (UInt8.ofNat r :: encL l))).get! p.length).toNat = r
          rw [get_str, UInt8.toNat_ofNat']
          omega
        unfold Utf8.decode
        simp only [g0]
        rw [if_pos (by omega), e1]
        rfl
      · subst hr
        have e1 : enc1 175 = [194, 175] := rfl
        have g0 : ((str (p ++ encL (175 :: l))).get! (p.length + 0)).toNat = 194 := by
          rw [he, e1, Nat.add_zero]
          show ((str (p ++ (194 :: (175 :: encL l)))).get! p.length).toNat = 194
          rw [get_str]
          rfl
        have g1 : ((str (p ++ encL (175 :: l))).get! (p.length + 1)).toNat = 175 := by
          have t : p ++ (194 :: 175 :: encL l) = (p ++ [194]) ++ 175 :: encL l := by simp
          have t2 : p.length + 1 = (p ++ [194]).length := by simp
          rw [he, e1]
          show ((str (p ++ (194 :: 175 :: encL l))).get! (p.length + 1)).toNat = 175
          rw [t, t2, get_str]
          rfl
        have hz : p.length + 1 < (str (p ++ encL (175 :: l))).size := by rw [hs, e1]; simp; omega
        unfold Utf8.decode
        simp only [g0, g1, hz, decide_true]
        rfl
    rw [hd]
    show Conv.runesFrom (str (p ++ (enc1 r ++ encL l))) b (p.length + (enc1 r).length) (acc.push (.int .i32 (Int.ofNat r))) = _
    rw [← List.append_assoc, ← List.length_append, ih (p ++ enc1 r) b _ (fun x hx => h x (List.mem_cons_of_mem _ hx)) (by omega)]
    apply Array.toList_inj.1
    simp

end Go.Proofs.YtgpcfncolhmgfaaGreatDoor

namespace Go.Proofs.YtgpcfncolhmgfaaGreatDoor
open Go.RowKit

/-- A row of characters as a function on places. -/
def rowF (l : List Nat) : Nat → Int := fun j => ((l.getD j 0 : Nat) : Int)
def ru (l : List UInt8) : List Nat := l.map UInt8.toNat
def digL (l : List UInt8) : Prop := ∀ x ∈ l, 48 ≤ x.toNat ∧ x.toNat ≤ 57
theorem ru_length (l : List UInt8) : (ru l).length = l.length := by simp [ru]
theorem rowF_at (p q : List Nat) (x : Nat) : rowF (p ++ x :: q) p.length = (x : Int) := by unfold rowF; simp
theorem rowF_mid (p m q : List Nat) {j : Nat} (h : j < m.length) : rowF (p ++ (m ++ q)) (p.length + j) = ((m.getD j 0 : Nat) : Int) := by
  unfold rowF
  rw [List.getD_eq_getElem?_getD, List.getD_eq_getElem?_getD, List.getElem?_append_right (by omega), Nat.add_sub_cancel_left, List.getElem?_append_left h]
theorem dgc_ge {f : Nat → Int} {m p : Nat} : ∀ k, k ≤ m → (∀ j, j < k → isD (f (p + j)) = true) → k ≤ dgc f p m
  | 0, _, _ => Nat.zero_le _
  | k + 1, hk, h => dgc_more (dgc_ge k (by omega) (fun j hj => h j (by omega))) (by omega) (h k (by omega))
theorem isD_dig {x : Nat} (h : 48 ≤ x ∧ x ≤ 57) : isD (x : Int) = true := by
  unfold isD
  rw [decide_eq_true (show (48 : Int) ≤ x by omega), decide_eq_true (show (x : Int) ≤ 57 by omega)]
  rfl
theorem ru_get {A : List UInt8} {j : Nat} (h : j < A.length) : (ru A).getD j 0 = (A.getD j 0).toNat := by
  unfold ru
  rw [List.getD_eq_getElem?_getD, List.getD_eq_getElem?_getD, List.getElem?_map, List.getElem?_eq_getElem h]
  rfl
theorem dig_get {A : List UInt8} (hA : digL A) {j : Nat} (h : j < A.length) : 48 ≤ (A.getD j 0).toNat ∧ (A.getD j 0).toNat ≤ 57 := by
  refine hA _ ?_
  rw [List.getD_eq_getElem?_getD, List.getElem?_eq_getElem h]
  exact List.getElem_mem _
/-- A run of digits, counted and read. -/
theorem seg_run (p : List Nat) (A : List UInt8) (q : List Nat) (hA : digL A) (hq : ∀ x r, q = x :: r → isD (x : Int) = false) :
    dgc (rowF (p ++ (ru A ++ q))) p.length ((p ++ (ru A ++ q)).length - p.length) = A.length ∧ dtx (rowF (p ++ (ru A ++ q))) p.length A.length = A := by
  have hl := ru_length A
  have hd : ∀ j, j < A.length → rowF (p ++ (ru A ++ q)) (p.length + j) = ((A.getD j 0).toNat : Nat) := fun j hj => by
    rw [rowF_mid p (ru A) q (by omega), ru_get hj]
  constructor
  · refine dgc_end (dgc_ge _ (by simp only [List.length_append]; omega) (fun j hj => by rw [hd j hj]; exact isD_dig (dig_get hA hj))) ?_
    cases q with
    | nil => left; simp [ru]
    | cons x r =>
      right
      have := rowF_at (p ++ ru A) r x
      rw [List.length_append, hl, List.append_assoc] at this
      rw [this]
      exact hq x r rfl
  · unfold dtx
    apply List.ext_getElem
    · simp
    · intro i h1 h2
      rw [List.getElem_map, List.getElem_range, hd i h2, Int.toNat_natCast]
      rw [List.getD_eq_getElem?_getD, List.getElem?_eq_getElem h2, Option.getD_some]
      exact UInt8.ofNat_toNat
theorem sk_at (p q : List Nat) (y : Nat) (x : Int) : skB (rowF (p ++ y :: q)) (p ++ y :: q).length p.length x = decide ((y : Int) = x) := by
  unfold skB
  rw [rowF_at, decide_eq_true (show p.length < (p ++ y :: q).length by simp), Bool.true_and]
theorem sk_end (p : List Nat) (x : Int) : skB (rowF p) p.length p.length x = false := by
  unfold skB
  rw [decide_eq_false (Nat.lt_irrefl _), Bool.false_and]

/-- The characters of an exponent. -/
def exR (ex ng : Bool) (X : List UInt8) : List Nat := if ex then 69 :: (if ng then 175 :: ru X else ru X) else []
/-- The characters behind the digits in front. -/
def ptR (pt : Bool) (B : List UInt8) : List Nat := if pt then 46 :: ru B else []
def exV (ex ng : Bool) (X : List UInt8) : Int := if ex then (if ng then -(numOf X : Int) else numOf X) else 0

theorem rd_exp (p : List Nat) (ex ng : Bool) (X : List UInt8) (hX : digL X) (hx : ex = true → 0 < X.length ∧ X.length ≤ 3) :
    eK (rowF (p ++ exR ex ng X)) (p ++ exR ex ng X).length p.length = true ∧ eV (rowF (p ++ exR ex ng X)) (p ++ exR ex ng X).length p.length = exV ex ng X ∧ eE (rowF (p ++ exR ex ng X)) (p ++ exR ex ng X).length p.length = (p ++ exR ex ng X).length := by
  cases ex with
  | false =>
    have e : p ++ exR false ng X = p := by simp [exR]
    rw [e]
    have hy : eY (rowF p) p.length p.length = false := sk_end p 69
    unfold eK eV eE
    rw [hy]
    exact ⟨rfl, rfl, rfl⟩
  | true =>
    obtain ⟨h1, h2⟩ := hx rfl
    have hy : eY (rowF (p ++ exR true ng X)) (p ++ exR true ng X).length p.length = true := by
      show skB (rowF (p ++ 69 :: _)) (p ++ 69 :: _).length p.length 69 = true
      rw [sk_at]; rfl
    have key : eN (rowF (p ++ exR true ng X)) (p ++ exR true ng X).length p.length = ng ∧ eM (rowF (p ++ exR true ng X)) (p ++ exR true ng X).length p.length = X.length ∧ dtx (rowF (p ++ exR true ng X)) (eS (rowF (p ++ exR true ng X)) (p ++ exR true ng X).length p.length) X.length = X ∧ eS (rowF (p ++ exR true ng X)) (p ++ exR true ng X).length p.length + X.length = (p ++ exR true ng X).length := by
      cases ng with
      | true =>
        have e1 : p ++ exR true true X = (p ++ [69]) ++ 175 :: ru X := by simp [exR]
        have e2 : p ++ exR true true X = (p ++ [69, 175]) ++ (ru X ++ []) := by simp [exR]
        have l1 : p.length + 1 = (p ++ [69]).length := by simp
        have l2 : p.length + 1 + 1 = (p ++ [69, 175]).length := by simp
        have hn : eN (rowF (p ++ exR true true X)) (p ++ exR true true X).length p.length = true := by
          unfold eN
          rw [e1, l1, sk_at]; rfl
        have hs : eS (rowF (p ++ exR true true X)) (p ++ exR true true X).length p.length = p.length + 1 + 1 := by unfold eS; rw [hn, if_pos rfl]
        obtain ⟨r1, r2⟩ := seg_run (p ++ [69, 175]) X [] hX (fun x r e => by cases e)
        refine ⟨hn, ?_, ?_, ?_⟩
        · unfold eM; rw [hs, l2, e2]; exact r1
        · rw [hs, l2, e2]; exact r2
        · rw [hs, e2]; simp [ru]; omega
      | false =>
        have e2 : p ++ exR true false X = (p ++ [69]) ++ (ru X ++ []) := by simp [exR]
        have l1 : p.length + 1 = (p ++ [69]).length := by simp
        have hn : eN (rowF (p ++ exR true false X)) (p ++ exR true false X).length p.length = false := by
          obtain ⟨x, X', rfl⟩ : ∃ x X', X = x :: X' := by cases X with
            | nil => simp at h1
            | cons x X' => exact ⟨x, X', rfl⟩
          have e3 : p ++ exR true false (x :: X') = (p ++ [69]) ++ x.toNat :: ru X' := by simp [exR, ru]
          have := hX x List.mem_cons_self
          unfold eN
          rw [e3, l1, sk_at, decide_eq_false (by omega)]
        have hs : eS (rowF (p ++ exR true false X)) (p ++ exR true false X).length p.length = p.length + 1 := by unfold eS; rw [hn, if_neg (by decide)]
        obtain ⟨r1, r2⟩ := seg_run (p ++ [69]) X [] hX (fun x r e => by cases e)
        refine ⟨hn, ?_, ?_, ?_⟩
        · unfold eM; rw [hs, l1, e2]; exact r1
        · rw [hs, l1, e2]; exact r2
        · rw [hs, e2]; simp [ru]; omega
    obtain ⟨k1, k2, k3, k4⟩ := key
    unfold eK eV eE
    rw [hy, k1, k2, k3, k4, decide_eq_true h1, decide_eq_true h2]
    exact ⟨rfl, rfl, rfl⟩

/-- The characters of a number as it is written. -/
def txR (sg : Bool) (A : List UInt8) (pt : Bool) (B : List UInt8) (ex ng : Bool) (X : List UInt8) : List Nat := (if sg then [175] else []) ++ (ru A ++ (ptR pt B ++ exR ex ng X))
theorem exR_head (ex ng : Bool) (X : List UInt8) : ∀ x r, exR ex ng X = x :: r → isD (x : Int) = false ∧ (x : Int) ≠ 46 := by
  intro x r h
  unfold exR at h
  cases ex with
  | false => simp at h
  | true => simp at h; obtain ⟨rfl, _⟩ := h; exact ⟨by decide, by decide⟩
theorem rd_text (sg : Bool) (A : List UInt8) (pt : Bool) (B : List UInt8) (ex ng : Bool) (X : List UInt8) (hA : digL A) (hA0 : 0 < A.length) (hB : digL B) (hB0 : pt = true → 0 < B.length) (hB1 : pt = false → B = []) (h200 : A.length + B.length ≤ 200) (hX : digL X) (hx : ex = true → 0 < X.length ∧ X.length ≤ 3) :
    bgB (rowF (txR sg A pt B ex ng X)) (txR sg A pt B ex ng X).length (0 : Nat) = true ∧ gK (rowF (txR sg A pt B ex ng X)) (txR sg A pt B ex ng X).length 0 = true ∧ gS (rowF (txR sg A pt B ex ng X)) (txR sg A pt B ex ng X).length 0 = sg ∧
    mL (rowF (txR sg A pt B ex ng X)) (txR sg A pt B ex ng X).length (gP (rowF (txR sg A pt B ex ng X)) (txR sg A pt B ex ng X).length 0) = A ++ B ∧
    gX (rowF (txR sg A pt B ex ng X)) (txR sg A pt B ex ng X).length 0 = exV ex ng X - (B.length : Nat) ∧ gE (rowF (txR sg A pt B ex ng X)) (txR sg A pt B ex ng X).length 0 = (txR sg A pt B ex ng X).length := by
  obtain ⟨a0, A', rfl⟩ : ∃ x X', A = x :: X' := by cases A with
    | nil => simp at hA0
    | cons x X' => exact ⟨x, X', rfl⟩
  have ha0 := hA a0 List.mem_cons_self
  obtain ⟨p, hp⟩ : ∃ p : List Nat, (if sg then [175] else []) = p := ⟨_, rfl⟩
  have hS : gS (rowF (txR sg (a0 :: A') pt B ex ng X)) (txR sg (a0 :: A') pt B ex ng X).length 0 = sg ∧ gP (rowF (txR sg (a0 :: A') pt B ex ng X)) (txR sg (a0 :: A') pt B ex ng X).length 0 = p.length ∧ bgB (rowF (txR sg (a0 :: A') pt B ex ng X)) (txR sg (a0 :: A') pt B ex ng X).length (0 : Nat) = true := by
    cases sg with
    | true =>
      have hs : gS (rowF (txR true (a0 :: A') pt B ex ng X)) (txR true (a0 :: A') pt B ex ng X).length 0 = true := by
        unfold gS
        have := sk_at [] (ru (a0 :: A') ++ (ptR pt B ++ exR ex ng X)) 175 175
        exact this
      refine ⟨hs, by unfold gP; rw [hs, ← hp]; rfl, ?_⟩
      unfold bgB
      have h0 : rowF (txR true (a0 :: A') pt B ex ng X) 0 = 175 := rfl
      rw [if_pos ⟨by omega, by simp [txR]; omega⟩, show (((0 : Nat) : Int)).toNat = 0 from rfl, h0]
      rfl
    | false =>
      have h0 : rowF (txR false (a0 :: A') pt B ex ng X) 0 = (a0.toNat : Nat) := rfl
      have hs : gS (rowF (txR false (a0 :: A') pt B ex ng X)) (txR false (a0 :: A') pt B ex ng X).length 0 = false := by
        unfold gS skB
        rw [h0, decide_eq_false (show ¬ ((a0.toNat : Nat) : Int) = 175 by omega), Bool.and_false]
      refine ⟨hs, by unfold gP; rw [hs, ← hp]; rfl, ?_⟩
      unfold bgB
      rw [if_pos ⟨by omega, by simp [txR, ru]; omega⟩, show (((0 : Nat) : Int)).toNat = 0 from rfl, h0, if_neg (by omega), isD_dig ha0, Bool.or_true]
  obtain ⟨hs1, hs2, hs3⟩ := hS
  have eT : txR sg (a0 :: A') pt B ex ng X = p ++ (ru (a0 :: A') ++ (ptR pt B ++ exR ex ng X)) := by unfold txR; rw [hp]
  generalize a0 :: A' = A at *
  obtain ⟨T, hT⟩ : ∃ T, txR sg A pt B ex ng X = T := ⟨_, rfl⟩
  rw [hT] at hs1 hs2 hs3 eT ⊢
  have hlen := ru_length A
  have key : mA (rowF T) T.length p.length = A.length ∧ mD (rowF T) T.length p.length = pt ∧ mB (rowF T) T.length p.length = B.length ∧ dtx (rowF T) p.length A.length = A ∧ (pt = true → dtx (rowF T) (p.length + A.length + 1) B.length = B) ∧ ∃ q, T = q ++ exR ex ng X ∧ mE (rowF T) T.length p.length = q.length := by
    cases pt with
    | true =>
      have e1 : T = p ++ (ru A ++ 46 :: (ru B ++ exR ex ng X)) := by rw [eT]; simp [ptR]
      obtain ⟨r1, r2⟩ := seg_run p A (46 :: (ru B ++ exR ex ng X)) hA (fun x r e => by injection e with e _; subst e; decide)
      rw [← e1] at r1 r2
      have hmA : mA (rowF T) T.length p.length = A.length := r1
      have e2 : T = (p ++ ru A) ++ 46 :: (ru B ++ exR ex ng X) := by rw [e1, List.append_assoc]
      have l2 : p.length + A.length = (p ++ ru A).length := by rw [List.length_append, hlen]
      have hmD : mD (rowF T) T.length p.length = true := by
        unfold mD
        rw [hmA, l2, e2, sk_at]; rfl
      have e3 : T = (p ++ ru A ++ [46]) ++ (ru B ++ exR ex ng X) := by rw [e2]; simp
      have l3 : p.length + A.length + 1 = (p ++ ru A ++ [46]).length := by simp [ru]; omega
      obtain ⟨q1, q2⟩ := seg_run (p ++ ru A ++ [46]) B (exR ex ng X) hB (fun x r e => (exR_head ex ng X x r e).1)
      rw [← e3, ← l3] at q1 q2
      have hmB : mB (rowF T) T.length p.length = B.length := by
        unfold mB
        rw [hmD, if_pos rfl, hmA]
        exact q1
      refine ⟨hmA, hmD, hmB, r2, fun _ => q2, (p ++ ru A ++ [46]) ++ ru B, by rw [e3]; simp, ?_⟩
      unfold mE
      rw [hmD, if_pos rfl, hmA, hmB]
      simp [ru]; omega
    | false =>
      have e1 : T = p ++ (ru A ++ exR ex ng X) := by rw [eT]; simp [ptR]
      obtain ⟨r1, r2⟩ := seg_run p A (exR ex ng X) hA (fun x r e => (exR_head ex ng X x r e).1)
      rw [← e1] at r1 r2
      have hmA : mA (rowF T) T.length p.length = A.length := r1
      have e2 : T = (p ++ ru A) ++ exR ex ng X := by rw [e1, List.append_assoc]
      have l2 : p.length + A.length = (p ++ ru A).length := by rw [List.length_append, hlen]
      have hmD : mD (rowF T) T.length p.length = false := by
        unfold mD
        rw [hmA, l2, e2]
        cases hq : exR ex ng X with
        | nil => rw [List.append_nil]; exact sk_end _ _
        | cons x r =>
          rw [sk_at]
          exact decide_eq_false (exR_head ex ng X x r hq).2
      have hmB : mB (rowF T) T.length p.length = B.length := by
        unfold mB
        rw [hmD, if_neg (by decide), hB1 rfl]; rfl
      refine ⟨hmA, hmD, hmB, r2, (fun h => by cases h), p ++ ru A, e2, ?_⟩
      unfold mE
      rw [hmD, if_neg (by decide), hmA, l2]
  obtain ⟨k1, k2, k3, k4, k5, q, hq, k6⟩ := key
  have hlA : 0 < A.length := hA0
  have hmK : mK (rowF T) T.length p.length = true := by
    unfold mK
    rw [k1, k2, k3, decide_eq_true (show 0 < A.length + B.length by omega), decide_eq_true h200]
    cases pt with
    | true => rw [decide_eq_false (show ¬ B.length = 0 by have := hB0 rfl; omega)]; rfl
    | false => rfl
  have hmL : mL (rowF T) T.length p.length = A ++ B := by
    unfold mL
    rw [k1, k3, k4]
    congr 1
    cases pt with
    | true => exact k5 rfl
    | false => rw [hB1 rfl]; rfl
  obtain ⟨x1, x2, x3⟩ := rd_exp q ex ng X hX hx
  rw [← hq, ← k6] at x1 x2 x3
  refine ⟨hs3, ?_, hs1, ?_, ?_, ?_⟩
  · unfold gK; rw [hs2, hmK, x1]; rfl
  · rw [hs2]; exact hmL
  · unfold gX; rw [hs2, x2, k3]
  · unfold gE; rw [hs2]; exact x3

end Go.Proofs.YtgpcfncolhmgfaaGreatDoor

namespace Go.Proofs.YtgpcfncolhmgfaaGreatDoor
open Go.RowKit

theorem encL_ru : ∀ {A : List UInt8}, digL A → encL (ru A) = A
  | [], _ => rfl
  | x :: A, h => by
    have hx := h x List.mem_cons_self
    show enc1 x.toNat ++ encL (ru A) = x :: A
    rw [encL_ru (fun y hy => h y (List.mem_cons_of_mem _ hy))]
    unfold enc1
    rw [if_neg (by omega), UInt8.ofNat_toNat]
    rfl
theorem digL_app {A B : List UInt8} (hA : digL A) (hB : digL B) : digL (A ++ B) := fun x hx => by
  rcases List.mem_append.1 hx with h | h
  · exact hA x h
  · exact hB x h
theorem digL_take {A : List UInt8} (hA : digL A) (k : Nat) : digL (A.take k) := fun x hx => hA x (List.mem_of_mem_take hx)
theorem digL_drop {A : List UInt8} (hA : digL A) (k : Nat) : digL (A.drop k) := fun x hx => hA x (List.mem_of_mem_drop hx)
theorem digL_zeros (k : Nat) : digL (List.replicate k 48) := fun x hx => by
  obtain ⟨_, rfl⟩ := List.mem_replicate.1 hx
  decide
theorem digL_sdig (N : Nat) : ∀ n, digL (sdig N n)
  | 0 => fun x hx => by cases hx
  | n + 1 => fun x hx => by
    rcases List.mem_cons.1 hx with rfl | h
    · rw [dgt_toNat]
      have := Nat.mod_lt (N / 10 ^ n) (show 0 < 10 by omega)
      omega
    · exact digL_sdig N n x h
theorem digL_dec (N : Nat) : digL (dec N) := digL_sdig N _

/-- The parts of a written number. -/
def WrForm (D : List UInt8) (e N : Int) (A : List UInt8) (pt' : Bool) (B : List UInt8) (ex ng : Bool) (X : List UInt8) : Prop :=
  (wrS D e N = str (A ++ (if pt' then [46] ++ B else []) ++ (if ex then [69] ++ ((if ng then [194, 175] else []) ++ X) else [])) ∧
  digL A ∧ 0 < A.length ∧ digL B ∧ (pt' = true → 0 < B.length) ∧ (pt' = false → B = []) ∧ A.length + B.length ≤ 200 ∧ digL X ∧ (ex = true → 0 < X.length ∧ X.length ≤ 3)) ∧
  numOf (A ++ B) * 10 ^ (exV ex ng X - (B.length : Nat)).toNat = numOf D * 10 ^ (e + 1 - (D.length : Nat)).toNat ∧ (-(exV ex ng X - (B.length : Nat))).toNat = (-(e + 1 - (D.length : Nat))).toNat

theorem wr_form {D : List UInt8} {e N : Int} (hD : digL D) (h0 : 0 < D.length) (h1 : D.length ≤ 41) (he : e ≤ 900 ∧ -900 ≤ e) (hN : N ≤ 41) : ∃ A pt' B ex ng X, WrForm D e N A pt' B ex ng X := by
  have hdl : dl e.natAbs ≤ 3 := dl_le _ 3 (by omega) (by omega)
  have hdl0 := dl_pos e.natAbs
  have hX : (dec e.natAbs).length = dl e.natAbs := sdig_length _ _
  have hnum : numOf (dec e.natAbs) = e.natAbs := numOf_dec _
  by_cases ha : N ≤ e ∨ e < -6
  · by_cases h2 : 1 < D.length
    · refine ⟨D.take 1, true, D.drop 1, true, decide (e < 0), dec e.natAbs, ⟨?_, digL_take hD 1, by rw [List.length_take]; omega, digL_drop hD 1, fun _ => by rw [List.length_drop]; omega, (fun h => by cases h), by rw [List.length_take, List.length_drop]; omega, digL_dec _, fun _ => by omega⟩, ?_⟩
      · unfold wrS pt digS hi
        rw [if_pos ha, if_pos h2]
        by_cases hn : e < 0
        · rw [if_pos hn, decide_eq_true hn]; rw [show (⟨#[69]⟩ : ByteArray) = str [69] from rfl, show (⟨#[194, 175]⟩ : ByteArray) = str [194, 175] from rfl]; simp only [str_append]; congr 1; simp
        · rw [if_neg hn, decide_eq_false hn]; rw [show (⟨#[69]⟩ : ByteArray) = str [69] from rfl]; simp only [str_append]; congr 1; simp
      · have hv : exV true (decide (e < 0)) (dec e.natAbs) = e := by
          unfold exV
          rw [hnum, if_pos rfl]
          by_cases hn : e < 0
          · rw [decide_eq_true hn, if_pos rfl]; omega
          · rw [decide_eq_false hn, if_neg (by decide)]; omega
        rw [hv, List.length_drop, List.take_append_drop, show e - ((D.length - 1 : Nat) : Int) = e + 1 - (D.length : Nat) by omega]
        exact ⟨rfl, rfl⟩
    · refine ⟨D, false, [], true, decide (e < 0), dec e.natAbs, ⟨?_, hD, h0, (fun x hx => by cases hx), (fun h => by cases h), fun _ => rfl, by simp; omega, digL_dec _, fun _ => by omega⟩, ?_⟩
      · unfold wrS pt digS hi
        rw [if_pos ha, if_neg h2, show 1 - D.length = 0 by omega]
        by_cases hn : e < 0
        · rw [if_pos hn, decide_eq_true hn]; rw [show (⟨#[69]⟩ : ByteArray) = str [69] from rfl, show (⟨#[194, 175]⟩ : ByteArray) = str [194, 175] from rfl]; simp only [str_append]; congr 1; simp
        · rw [if_neg hn, decide_eq_false hn]; rw [show (⟨#[69]⟩ : ByteArray) = str [69] from rfl]; simp only [str_append]; congr 1; simp
      · have hv : exV true (decide (e < 0)) (dec e.natAbs) = e := by
          unfold exV
          rw [hnum, if_pos rfl]
          by_cases hn : e < 0
          · rw [decide_eq_true hn, if_pos rfl]; omega
          · rw [decide_eq_false hn, if_neg (by decide)]; omega
        rw [hv, List.append_nil, show e - (([] : List UInt8).length : Int) = e + 1 - (D.length : Nat) by simp; omega]
        exact ⟨rfl, rfl⟩
  · by_cases hb : e < 0
    · refine ⟨[48], true, List.replicate (-e - 1).toNat 48 ++ D, false, false, [], ⟨?_, (fun x hx => by simp at hx; subst hx; decide), by simp, digL_app (digL_zeros _) hD, fun _ => by rw [List.length_append]; omega, (fun h => by cases h), by simp; omega, (fun x hx => by cases hx), (fun h => by cases h)⟩, ?_⟩
      · unfold wrS
        rw [if_neg ha, if_pos hb, show (⟨#[48, 46]⟩ : ByteArray) = str [48, 46] from rfl]
        simp only [str_append]
        congr 1
        simp
      · have hz : numOf ([48] ++ (List.replicate (-e - 1).toNat 48 ++ D)) = numOf D := by
          rw [← List.append_assoc, numOf_append, show [48] ++ List.replicate (-e - 1).toNat (48 : UInt8) = List.replicate ((-e - 1).toNat + 1) 48 from by rw [List.replicate_succ]; rfl, numOf_zeros, Nat.zero_mul, Nat.zero_add]
        have hy : exV false false [] - ((List.replicate (-e - 1).toNat (48 : UInt8) ++ D).length : Nat) = e + 1 - (D.length : Nat) := by
          unfold exV
          rw [if_neg (by decide), List.length_append, List.length_replicate]
          omega
        rw [hz, hy]
        exact ⟨rfl, rfl⟩
    · obtain ⟨k, hk⟩ : ∃ k : Nat, e = k := ⟨e.toNat, by omega⟩
      subst hk
      have hkk : ((k : Int) + 1).toNat = k + 1 := by omega
      by_cases h2 : k + 1 < D.length
      · refine ⟨D.take (k + 1), true, D.drop (k + 1), false, false, [], ⟨?_, digL_take hD _, by rw [List.length_take]; omega, digL_drop hD _, fun _ => by rw [List.length_drop]; omega, (fun h => by cases h), by rw [List.length_take, List.length_drop]; omega, (fun x hx => by cases hx), (fun h => by cases h)⟩, ?_⟩
        · unfold wrS pt
          rw [if_neg ha, if_neg hb, hkk, if_pos h2]
          simp
        · have hy : exV false false [] - ((D.drop (k + 1)).length : Nat) = (k : Int) + 1 - (D.length : Nat) := by
            unfold exV
            rw [if_neg (by decide), List.length_drop]
            omega
          rw [hy, List.take_append_drop]
          exact ⟨rfl, rfl⟩
      · refine ⟨D ++ List.replicate (k + 1 - D.length) 48, false, [], false, false, [], ⟨?_, digL_app hD (digL_zeros _), by rw [List.length_append]; omega, (fun x hx => by cases hx), (fun h => by cases h), fun _ => rfl, by simp; omega, (fun x hx => by cases hx), (fun h => by cases h)⟩, ?_⟩
        · unfold wrS pt
          rw [if_neg ha, if_neg hb, hkk, if_neg h2]
          simp
        · have hy : exV false false [] - (([] : List UInt8).length : Nat) = 0 := by unfold exV; rfl
          rw [hy, List.append_nil, numOf_append, numOf_zeros, Nat.add_zero, List.length_replicate, show ((k : Int) + 1 - (D.length : Nat)).toNat = k + 1 - D.length by omega, show (-((k : Int) + 1 - (D.length : Nat))).toNat = 0 by omega]
          exact ⟨by simp, rfl⟩

end Go.Proofs.YtgpcfncolhmgfaaGreatDoor

namespace Go.Proofs.YtgpcfncolhmgfaaGreatDoor
open Go.RowKit

theorem enc_tx (sg : Bool) {A : List UInt8} (pt' : Bool) {B : List UInt8} (ex ng : Bool) {X : List UInt8} (hA : digL A) (hB : digL B) (hX : digL X) :
    encL (txR sg A pt' B ex ng X) = (if sg then [194, 175] else []) ++ (A ++ (if pt' then [46] ++ B else []) ++ (if ex then [69] ++ ((if ng then [194, 175] else []) ++ X) else [])) := by
  have eX := encL_ru hX
  have e1 : encL (exR ex ng X) = if ex then [69] ++ ((if ng then [194, 175] else []) ++ X) else [] := by
    cases ex with
    | false => rfl
    | true =>
      cases ng with
      | false => show enc1 69 ++ encL (ru X) = _; rw [eX]; rfl
      | true => show enc1 69 ++ (enc1 175 ++ encL (ru X)) = _; rw [eX]; rfl
  have e2 : encL (ptR pt' B) = if pt' then [46] ++ B else [] := by
    cases pt' with
    | false => rfl
    | true => show enc1 46 ++ encL (ru B) = _; rw [encL_ru hB]; rfl
  unfold txR
  rw [encL_app, encL_app, encL_app, encL_ru hA, e1, e2]
  cases sg with
  | false => simp [encL]
  | true => simp [encL, enc1]
theorem ok_ru {A : List UInt8} (hA : digL A) : ∀ r ∈ ru A, okR r := fun r hr => by
  obtain ⟨x, hx, rfl⟩ := List.mem_map.1 hr
  exact .inl (by have := hA x hx; omega)
theorem ok_tx (sg : Bool) {A : List UInt8} (pt' : Bool) {B : List UInt8} (ex ng : Bool) {X : List UInt8} (hA : digL A) (hB : digL B) (hX : digL X) : ∀ r ∈ txR sg A pt' B ex ng X, okR r := by
  intro r hr
  unfold txR ptR exR at hr
  have o46 : okR 46 := .inl (by omega)
  have o69 : okR 69 := .inl (by omega)
  have o175 : okR 175 := .inr rfl
  rcases List.mem_append.1 hr with h | h
  · cases sg with
    | false => simp at h
    | true => simp at h; subst h; exact o175
  · rcases List.mem_append.1 h with h | h
    · exact ok_ru hA r h
    · rcases List.mem_append.1 h with h | h
      · cases pt' with
        | false => simp at h
        | true =>
          rcases List.mem_cons.1 h with h | h
          · subst h; exact o46
          · exact ok_ru hB r h
      · cases ex with
        | false => simp at h
        | true =>
          rcases List.mem_cons.1 h with h | h
          · subst h; exact o69
          · cases ng with
            | false => exact ok_ru hX r h
            | true =>
              rcases List.mem_cons.1 h with h | h
              · subst h; exact o175
              · exact ok_ru hX r h

theorem nw_vl (sg : Bool) (L : List UInt8) (y : Int) (h : 0 < numOf L) :
    0 < nwQ (vlT sg L y) (vlB y) ∧ Nat.gcd (nwP (vlT sg L y) (vlB y)).natAbs (nwQ (vlT sg L y) (vlB y)) = 1 ∧ (nwP (vlT sg L y) (vlB y)).natAbs * 10 ^ (-y).toNat = numOf L * 10 ^ y.toNat * nwQ (vlT sg L y) (vlB y) ∧ nwP (vlT sg L y) (vlB y) ≠ 0 ∧ decide (nwP (vlT sg L y) (vlB y) < 0) = sg := by
  have hp : 0 < 10 ^ (-y).toNat := Nat.pow_pos (by omega)
  have hp2 : 0 < 10 ^ y.toNat := Nat.pow_pos (by omega)
  have hB : (vlB y).natAbs = 10 ^ (-y).toNat := by unfold vlB; rfl
  have hU : upZ (vlT sg L y) (vlB y) = vlT sg L y := by unfold upZ vlB; rw [if_neg (by omega)]
  have hm : 0 < numOf L * 10 ^ y.toNat := Nat.mul_pos h hp2
  have hT : (vlT sg L y).natAbs = numOf L * 10 ^ y.toNat := by unfold vlT; exact sgn_abs _ _
  have hne : vlT sg L y ≠ 0 := by intro e; rw [e] at hT; simp at hT; omega
  have hsg : decide (vlT sg L y < 0) = sg := by
    unfold vlT sgn
    cases sg with
    | false => rw [if_neg (by decide)]; exact decide_eq_false (by omega)
    | true => rw [if_pos rfl]; exact decide_eq_true (by omega)
  unfold nwP nwQ
  rw [hU, hB]
  have h1 := loP_mulA (vlT sg L y) (10 ^ (-y).toNat)
  have h2 := loQ_mul (vlT sg L y) (10 ^ (-y).toNat)
  refine ⟨loQ_pos _ hp, lo_cop _ hp, ?_, fun e => hne (loP_zero.1 e), ?_⟩
  · have hr : 0 < rg (vlT sg L y) (10 ^ (-y).toNat) := by
      rcases Nat.eq_zero_or_pos (rg (vlT sg L y) (10 ^ (-y).toNat)) with e | e
      · rw [e, Nat.zero_mul] at h2; omega
      · exact e
    rw [hT] at h1
    generalize rg (vlT sg L y) (10 ^ (-y).toNat) = r at *
    refine Nat.eq_of_mul_eq_mul_left hr ?_
    calc r * ((loP (vlT sg L y) (10 ^ (-y).toNat)).natAbs * 10 ^ (-y).toNat) = (r * (loP (vlT sg L y) (10 ^ (-y).toNat)).natAbs) * 10 ^ (-y).toNat := by rw [Nat.mul_assoc]
      _ = numOf L * 10 ^ y.toNat * (r * loQ (vlT sg L y) (10 ^ (-y).toNat)) := by rw [h1, h2]
      _ = r * (numOf L * 10 ^ y.toNat * loQ (vlT sg L y) (10 ^ (-y).toNat)) := by rw [Nat.mul_left_comm]
  · rw [loP_neg]; exact hsg

/-- What is written of a number, as characters, and what they are read as. -/
theorem show_read {P : Int} {Q : Nat} {many : Int} (hP : P ≠ 0) (hQ : 0 < Q) (hd1 : dl P.natAbs ≤ 40) (hd2 : dl Q ≤ 40) (hm : 1 ≤ many ∧ many ≤ 40) :
    ∃ T : List Nat, (∀ r ∈ T, okR r) ∧ T.length ≤ 1000 ∧ shS P Q many = str (encL T) ∧ bgB (rowF T) T.length (0 : Nat) = true ∧ gK (rowF T) T.length 0 = true ∧ gE (rowF T) T.length 0 = T.length ∧
      ∃ P' Q', nwP (gT (rowF T) T.length 0) (gB (rowF T) T.length 0) = P' ∧ nwQ (gT (rowF T) T.length 0) (gB (rowF T) T.length 0) = Q' ∧ 0 < Q' ∧ Nat.gcd P'.natAbs Q' = 1 ∧ P' ≠ 0 ∧ decide (P' < 0) = decide (P < 0) ∧
        P'.natAbs * 10 ^ (-(shX P.natAbs Q many)).toNat = numOf (shD P.natAbs Q many) * 10 ^ (shX P.natAbs Q many).toNat * Q' := by
  have hPn : 0 < P.natAbs := by omega
  obtain ⟨hpos, hdl⟩ := shM_pos many hPn hQ
  obtain ⟨j, h1, h2, h3, h4, h5⟩ := zd_spec hpos
  obtain ⟨t0, b0, t1, t2⟩ := s_spec hPn hQ
  have hMd : dl (shM P.natAbs Q many) ≤ shN many + 1 := mM_dl b0 t1
  have hMp := dl_pos (shM P.natAbs Q many)
  have hN : (shN many : Int) = many := by unfold shN; omega
  have hD : digL (shD P.natAbs Q many) := by
    intro x hx
    obtain ⟨i, hi⟩ := trimR_back 48 _ (dec (shM P.natAbs Q many)) rfl
    refine digL_dec (shM P.natAbs Q many) x ?_
    rw [hi]
    exact List.mem_append_left _ hx
  have hSp : 0 < numOf (shD P.natAbs Q many) := h5
  have hl0 : 0 < (shD P.natAbs Q many).length := by
    have := dl_pos (numOf (shD P.natAbs Q many))
    unfold shD at *
    omega
  have hl1 : (shD P.natAbs Q many).length ≤ shN many := by
    have : dl (numOf (shD P.natAbs Q many)) = (shD P.natAbs Q many).length := h3
    omega
  obtain ⟨e, he⟩ : ∃ e, sE P.natAbs Q + (dl (shM P.natAbs Q many) : Int) - (shN many : Int) = e := ⟨_, rfl⟩
  have hX : shX P.natAbs Q many = e + 1 - ((shD P.natAbs Q many).length : Nat) := by unfold shX; rw [he]
  have hsE : sE P.natAbs Q ≤ 40 ∧ -41 ≤ sE P.natAbs Q := by
    have := dl_pos P.natAbs
    have := dl_pos Q
    unfold sE e0
    split <;> omega
  have hA : shA P.natAbs Q many = wrS (shD P.natAbs Q many) e (shN many) := by unfold shA; rw [he]; rfl
  obtain ⟨A, pt', B, ex, ng, X, ⟨w1, w2, w3, w4, w5, w6, w7, w8, w9⟩, w10, w11⟩ := wr_form (N := (shN many : Nat)) (e := e) hD hl0 (by omega) (by omega) (by omega)
  obtain ⟨r1, r2, r3, r4, r5, r6⟩ := rd_text (decide (P < 0)) A pt' B ex ng X w2 w3 w4 w5 w6 w7 w8 w9
  have hlenX : ex = true → X.length ≤ 3 := fun h => (w9 h).2
  refine ⟨txR (decide (P < 0)) A pt' B ex ng X, ok_tx _ _ _ _ w2 w4 w8, ?_, ?_, r1, r2, r6, _, _, rfl, rfl, ?_⟩
  · unfold txR ptR exR
    simp only [List.length_append, ru_length]
    have a1 : (if decide (P < 0) = true then [175] else [] : List Nat).length ≤ 1 := by split <;> simp
    have a2 : (if pt' = true then 46 :: ru B else [] : List Nat).length ≤ B.length + 1 := by split <;> simp [ru]
    have a3 : (if ex = true then 69 :: (if ng = true then 175 :: ru X else ru X) else [] : List Nat).length ≤ 5 := by
      cases ex with
      | false => simp
      | true => have := hlenX rfl; cases ng <;> simp [ru] <;> omega
    omega
  · rw [enc_tx _ _ _ _ w2 w4 w8]
    unfold shS
    rw [if_neg hP, hA, w1]
    by_cases hn : P < 0
    · rw [if_pos hn, decide_eq_true hn, if_pos rfl]
      show str [194, 175] ++ _ = _
      rw [str_append]
    · rw [if_neg hn, decide_eq_false hn]
      simp only [Bool.false_eq_true, if_false, List.nil_append]
  · have hgT : gT (rowF (txR (decide (P < 0)) A pt' B ex ng X)) (txR (decide (P < 0)) A pt' B ex ng X).length 0 = vlT (decide (P < 0)) (A ++ B) (exV ex ng X - (B.length : Nat)) := by unfold gT; rw [r3, r4, r5]
    have hgB : gB (rowF (txR (decide (P < 0)) A pt' B ex ng X)) (txR (decide (P < 0)) A pt' B ex ng X).length 0 = vlB (exV ex ng X - (B.length : Nat)) := by unfold gB; rw [r5]
    rw [hgT, hgB]
    have hL : 0 < numOf (A ++ B) := by
      rcases Nat.eq_zero_or_pos (numOf (A ++ B)) with e0 | e0
      · rw [e0, Nat.zero_mul] at w10
        have := Nat.mul_pos hSp (show 0 < 10 ^ (e + 1 - ((shD P.natAbs Q many).length : Nat)).toNat from Nat.pow_pos (by omega))
        omega
      · exact e0
    obtain ⟨n1, n2, n3, n4, n5⟩ := nw_vl (decide (P < 0)) (A ++ B) (exV ex ng X - (B.length : Nat)) hL
    refine ⟨n1, n2, n4, n5, ?_⟩
    rw [hX, ← w11, ← w10]
    exact n3

end Go.Proofs.YtgpcfncolhmgfaaGreatDoor

