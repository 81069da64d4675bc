/- Plain mathematics of a log's records: digits, bodies, sums, and what is read from the beginning. Nothing of Go's memory. -/
import Derived.Test.YtplfnblpmagbjabGreatDoorLabCutGroup
import Derived.Lib.ItoaNum
import Derived.Lib.AtoiAll
namespace WalMath
open Go.Lib LabMath

/-! Digits 0 to 9 and a to f. -/
def hexd (d : Nat) : UInt8 := UInt8.ofNat (if d < 10 then 48 + d else 87 + d)
def hexN : Nat → Nat → List UInt8
  | 0, _ => []
  | k + 1, u => hexN k (u / 16) ++ [hexd (u % 16)]
def hexDigits (u : Nat) : List UInt8 := if _h : u < 16 then [hexd u] else hexDigits (u / 16) ++ [hexd (u % 16)]
termination_by u
decreasing_by omega
theorem hexN_length : ∀ k u, (hexN k u).length = k
  | 0, _ => rfl
  | k + 1, u => by rw [hexN, List.length_append, hexN_length k]; rfl
theorem hexDigits_pad : ∀ (k u : Nat), u < 16 ^ (k + 1) → 1 ≤ (hexDigits u).length ∧ (hexDigits u).length ≤ k + 1 ∧ List.replicate (k + 1 - (hexDigits u).length) 48 ++ hexDigits u = hexN (k + 1) u
  | 0, u, h => by
    have hu : u < 16 := by simpa using h
    rw [hexDigits, dif_pos hu]
    refine ⟨by simp, by simp, ?_⟩
    simp [hexN, Nat.mod_eq_of_lt hu]
  | k + 1, u, h => by
    by_cases hu : u < 16
    · rw [hexDigits, dif_pos hu]
      refine ⟨by simp, by simp, ?_⟩
      have h0 : ∀ j, hexN j 0 = List.replicate j 48 := fun j => by
        induction j with
        | zero => rfl
        | succ j ih => rw [hexN, Nat.zero_div, ih, List.replicate_succ']; rfl
      rw [hexN, Nat.div_eq_of_lt hu, h0, Nat.mod_eq_of_lt hu]
      simp
    · have hd : u / 16 < 16 ^ (k + 1) := by
        rw [Nat.pow_succ] at h
        omega
      obtain ⟨h1, h2, h3⟩ := hexDigits_pad k (u / 16) hd
      rw [hexDigits, dif_neg hu, hexN, ← h3]
      refine ⟨by simp, by simp; omega, ?_⟩
      have e : k + 1 + 1 - (hexDigits (u / 16) ++ [hexd (u % 16)]).length = k + 1 - (hexDigits (u / 16)).length := by simp
      rw [e, List.append_assoc]
/-- What a sign stands for. -/
def hexV (c : Nat) : Option Nat := if 48 ≤ c ∧ c ≤ 57 then some (c - 48) else if 97 ≤ c ||| 32 ∧ c ||| 32 ≤ 102 then some ((c ||| 32) - 87) else none
def parse16 : Nat → List UInt8 → Option Nat
  | acc, [] => some acc
  | acc, c :: r => match hexV c.toNat with
    | none => none
    | some d => if 1152921504606846976 ≤ acc then none else parse16 (acc * 16 + d) r
theorem hexd_val : ∀ d, d < 16 → hexV (hexd d).toNat = some d := by decide
theorem hexV_lt {c d : Nat} (h : hexV c = some d) : d < 16 := by
  unfold hexV at h
  split at h
  · cases h; omega
  · split at h
    · cases h; omega
    · cases h
theorem parse16_app : ∀ (l r : List UInt8) (acc v : Nat), parse16 acc l = some v → parse16 acc (l ++ r) = parse16 v r
  | [], r, acc, v, h => by simp [parse16] at h; subst h; rfl
  | c :: l, r, acc, v, h => by
    rw [List.cons_append, parse16]
    rw [parse16] at h
    cases hc : hexV c.toNat with
    | none => rw [hc] at h; cases h
    | some d =>
      rw [hc] at h
      dsimp only at h ⊢
      split
      · rw [if_pos ‹_›] at h; cases h
      · rw [if_neg ‹_›] at h; exact parse16_app l r _ v h
theorem parse16_hexN : ∀ (k u : Nat), k ≤ 16 → u < 16 ^ k → parse16 0 (hexN k u) = some u
  | 0, u, _, h => by
    have : u = 0 := by simpa using h
    subst this
    rfl
  | k + 1, u, hk, h => by
    have hd : u / 16 < 16 ^ k := by
      rw [Nat.pow_succ] at h
      omega
    have hp : 16 ^ k ≤ 16 ^ 15 := Nat.pow_le_pow_right (by decide) (by omega)
    have e15 : (16 : Nat) ^ 15 = 1152921504606846976 := by decide
    rw [hexN, parse16_app _ _ _ _ (parse16_hexN k (u / 16) (by omega) hd), parse16, hexd_val _ (Nat.mod_lt _ (by decide))]
    dsimp only
    rw [if_neg (by omega), parse16]
    congr 1
    omega
theorem parse16_lt : ∀ (l : List UInt8) (acc v : Nat), acc < 18446744073709551616 → parse16 acc l = some v → v < 18446744073709551616
  | [], acc, v, ha, h => by simp [parse16] at h; omega
  | c :: l, acc, v, ha, h => by
    unfold parse16 at h
    cases hc : hexV c.toNat with
    | none => rw [hc] at h; cases h
    | some d =>
      have := hexV_lt hc
      rw [hc] at h
      dsimp only at h
      split at h
      · cases h
      · exact parse16_lt l _ v (by omega) h

/-! Decimal digits. -/
theorem pu_app : ∀ (l r : List UInt8) (acc v : Nat), parseUint10 acc l = .ok v → parseUint10 acc (l ++ r) = parseUint10 v r
  | [], r, acc, v, h => by simp [parseUint10] at h; subst h; rfl
  | c :: l, r, acc, v, h => by
    rw [List.cons_append, parseUint10]
    rw [parseUint10] at h
    split
    · rw [if_pos ‹_›] at h
      split
      · rw [if_pos ‹_›] at h; cases h
      · rw [if_neg ‹_›] at h
        split
        · rw [if_pos ‹_›] at h; cases h
        · rw [if_neg ‹_›] at h
          exact pu_app l r _ v h
    · rw [if_neg ‹_›] at h; cases h
def isDig (c : UInt8) : Prop := 48 ≤ c.toNat ∧ c.toNat ≤ 57
theorem dig_of (d : Nat) (h : d < 10) : (UInt8.ofNat (48 + d)).toNat = 48 + d := by
  simp
  omega
theorem decDigits_dig (u : Nat) : ∀ c, c ∈ decDigits u → isDig c := by
  induction u using Nat.strongRecOn with
  | _ u ih =>
    rw [decDigits]
    split
    · intro c hc
      rw [List.mem_singleton] at hc
      subst hc
      rw [isDig, dig_of _ ‹_›]
      omega
    · intro c hc
      rcases List.mem_append.1 hc with hc | hc
      · exact ih _ (by omega) c hc
      · simp only [List.mem_singleton] at hc
        subst hc
        rw [isDig, dig_of _ (Nat.mod_lt _ (by decide))]
        omega
theorem decDigits_ne (u : Nat) : decDigits u ≠ [] := by
  rw [decDigits]
  split <;> simp
theorem decDigits_len : ∀ (k u : Nat), u < 10 ^ (k + 1) → (decDigits u).length ≤ k + 1
  | 0, u, h => by
    rw [decDigits, dif_pos (by simpa using h)]
    simp
  | k + 1, u, h => by
    rw [decDigits]
    split
    · simp
    · have := decDigits_len k (u / 10) (by rw [Nat.pow_succ] at h; omega)
      simp
      omega
theorem pu_dec (u : Nat) (h : u < 1000000000000000000) : parseUint10 0 (decDigits u) = .ok u := by
  induction u using Nat.strongRecOn with
  | _ u ih =>
    rw [decDigits]
    split
    · have := dig_of u ‹_›
      rw [parseUint10, if_pos (by omega), if_neg (by omega), if_neg (by omega), parseUint10, this]
      congr 1
      omega
    · have := dig_of (u % 10) (Nat.mod_lt _ (by decide))
      rw [pu_app _ _ _ _ (ih (u / 10) (by omega) (by omega)), parseUint10, if_pos (by omega), if_neg (by omega), if_neg (by omega), parseUint10, this]
      congr 1
      omega
theorem head_dig {l : List UInt8} (h : ∀ c, c ∈ l → isDig c) (hne : l ≠ []) : ∃ c r, l = c :: r ∧ c.toNat ≠ 43 ∧ c.toNat ≠ 45 := by
  cases l with
  | nil => exact absurd rfl hne
  | cons c r =>
    have := h c (by simp)
    unfold isDig at this
    exact ⟨c, r, rfl, by omega, by omega⟩
theorem atoi_itoa (t : Int) (h0 : -1099511627776 ≤ t) (h1 : t ≤ 1099511627776) : atoiAll (itoa t) = .ok t := by
  unfold itoa
  split
  · have hp : parseMag (decDigits t.natAbs) = .ok t.natAbs := by
      unfold parseMag
      rw [if_neg (decDigits_ne _), pu_dec _ (by omega)]
    unfold atoiAll
    simp only [show (45 : UInt8).toNat = 45 from rfl, or_true, if_true, hp, not_true, false_and, if_false, true_and]
    rw [if_neg (by omega)]
    congr 1
    omega
  · obtain ⟨c, r, hl, hc1, hc2⟩ := head_dig (decDigits_dig t.toNat) (decDigits_ne _)
    have hp : parseMag (c :: r) = .ok t.toNat := by
      unfold parseMag
      rw [if_neg (by simp), ← hl, pu_dec _ (by omega)]
    rw [hl]
    unfold atoiAll
    simp only [hc1, hc2, or_self, if_false, hp, not_false_iff, true_and, false_and]
    rw [if_neg (by omega)]
    congr 1
    omega
theorem itoa_signs (t : Int) : ∀ c, c ∈ itoa t → isDig c ∨ c = 45 := by
  unfold itoa
  split
  · intro c hc
    rcases List.mem_cons.1 hc with rfl | hc
    · exact .inr rfl
    · exact .inl (decDigits_dig _ c hc)
  · intro c hc
    exact .inl (decDigits_dig _ c hc)
theorem itoa_len (t : Int) (h0 : -1099511627776 ≤ t) (h1 : t ≤ 1099511627776) : (itoa t).length ≤ 14 := by
  have e13 : (10 : Nat) ^ (12 + 1) = 10000000000000 := by decide
  unfold itoa
  split
  · have := decDigits_len 12 t.natAbs (by omega)
    simp
    omega
  · have := decDigits_len 12 t.toNat (by omega)
    omega

/-! Records. -/
abbrev E := List UInt8 × Int × Nat
def bodyL (e : E) : List UInt8 := e.1 ++ 64 :: (itoa e.2.1 ++ 61 :: hexN 16 e.2.2)
def crc4 (c : Nat) : List UInt8 := [UInt8.ofNat (c % 256), UInt8.ofNat (c / 256 % 256), UInt8.ofNat (c / 65536 % 256), UInt8.ofNat (c / 16777216 % 256)]
def recOf (b : List UInt8) : List UInt8 := UInt8.ofNat (b.length / 256) :: UInt8.ofNat (b.length % 256) :: (b ++ crc4 (BitMath.crcOf b))
def recL (e : E) : List UInt8 := recOf (bodyL e)
theorem recL_length (e : E) : (recL e).length = (bodyL e).length + 6 := by simp [recL, recOf, crc4]
/-- An entry whose series is right (ok), whose tick is one and whose value is one. -/
structure OkE (ok : List UInt8 → Prop) (e : E) : Prop where
  lab : ok e.1
  lo : -1099511627776 ≤ e.2.1
  hi : e.2.1 ≤ 1099511627776
  val : e.2.2 < 18446744073709551616
theorem cutL_at (c : UInt8) : ∀ (a r : List UInt8), (∀ x, x ∈ a → x ≠ c) → cutL c (a ++ c :: r) = (a, r, true)
  | [], r, _ => by simp [cutL]
  | b :: a, r, h => by
    have hb : (b == c) = false := by simpa using h b (by simp)
    rw [List.cons_append, cutL, hb, cutL_at c a r fun x hx => h x (by simp [hx])]
    simp
/-- What a body tells. -/
def parseB (b : List UInt8) : Option E :=
  match atoiAll (cutL 61 (cutL 64 b).2.1).1 with
  | .ok t => if (cutL 61 (cutL 64 b).2.1).2.1 = [] then none else match parse16 0 (cutL 61 (cutL 64 b).2.1).2.1 with
    | some u => some ((cutL 64 b).1, t, u)
    | none => none
  | _ => none
variable {ok : List UInt8 → Prop} (hok : ∀ s, ok s → (∀ c, c ∈ s → c ≠ 64) ∧ s.length ≤ 1000)
include hok
theorem body_length {e : E} (h : OkE ok e) : (bodyL e).length ≤ 1032 ∧ (bodyL e).length = e.1.length + (itoa e.2.1).length + 18 := by
  have h1 := (hok _ h.lab).2
  have h2 := itoa_len e.2.1 h.lo h.hi
  have h3 : (bodyL e).length = e.1.length + (itoa e.2.1).length + 18 := by
    simp [bodyL, hexN_length]
    omega
  omega
theorem parse_body {e : E} (h : OkE ok e) : parseB (bodyL e) = some e := by
  have h1 : cutL 64 (bodyL e) = (e.1, itoa e.2.1 ++ 61 :: hexN 16 e.2.2, true) := cutL_at 64 _ _ (hok _ h.lab).1
  have h2 : cutL 61 (itoa e.2.1 ++ 61 :: hexN 16 e.2.2) = (itoa e.2.1, hexN 16 e.2.2, true) := cutL_at 61 _ _ fun x hx => by
    rcases itoa_signs _ x hx with hd | rfl
    · rintro rfl
      revert hd
      unfold isDig
      decide
    · decide
  have h3 : parse16 0 (hexN 16 e.2.2) = some e.2.2 := by
    have hv := h.val
    have e16 : (16 : Nat) ^ 16 = 18446744073709551616 := by decide
    exact parse16_hexN 16 _ (by decide) (by omega)
  unfold parseB
  rw [h1]
  dsimp only
  rw [h2, atoi_itoa _ h.lo h.hi]
  dsimp only
  rw [if_neg (by intro hn; have := congrArg List.length hn; rw [hexN_length] at this; simp at this), h3]
omit hok in
theorem rec_ne {e : E} : recL e ≠ [] := by simp [recL, recOf]
omit hok in
theorem byte_two {a b : Nat} (ha : a < 65536) (hb : b < 65536) (h1 : UInt8.ofNat (a / 256) = UInt8.ofNat (b / 256)) (h2 : UInt8.ofNat (a % 256) = UInt8.ofNat (b % 256)) : a = b := by
  have e1 := congrArg UInt8.toNat h1
  have e2 := congrArg UInt8.toNat h2
  simp at e1 e2
  omega
/-- What stands at the beginning: how long the first body is, and the body. -/
def lenOf (b : List UInt8) : Nat := (b.getD 0 0).toNat * 256 + (b.getD 1 0).toNat
omit hok in
theorem lenOf_rec {d r : List UInt8} (h : d.length < 65536) : lenOf (recOf d ++ r) = d.length ∧ ((recOf d ++ r).drop 2).take d.length = d := by
  refine ⟨?_, ?_⟩
  · simp [lenOf, recOf]
    omega
  · simp [recOf]
theorem rec_inj {b : List UInt8} {e e' : E} (h : OkE ok e) (h' : OkE ok e') (hp : recL e <+: b) (hp' : recL e' <+: b) : e = e' := by
  obtain ⟨r, rfl⟩ := hp
  obtain ⟨r', hr'⟩ := hp'
  have l1 := lenOf_rec (d := bodyL e) (r := r) (by have := (body_length hok h).1; omega)
  have l2 := lenOf_rec (d := bodyL e') (r := r') (by have := (body_length hok h').1; omega)
  unfold recL at hr'
  rw [hr'] at l2
  change lenOf (recL e ++ r) = _ ∧ _ at l1
  change lenOf (recL e ++ r) = _ ∧ List.take _ (List.drop 2 (recL e ++ r)) = _ at l2
  have hb : bodyL e = bodyL e' := by
    rw [← l1.2, ← l2.2, ← l1.1, ← l2.1]
    rfl
  have p1 := parse_body hok h
  rw [hb, parse_body hok h'] at p1
  exact (Option.some.inj p1).symm
omit hok
/-- A log's first record. -/
def FirstIs (ok : List UInt8 → Prop) (b : List UInt8) (e : E) : Prop := OkE ok e ∧ recL e <+: b
theorem first_parse (hok : ∀ s, ok s → (∀ c, c ∈ s → c ≠ 64) ∧ s.length ≤ 1000) {b : List UInt8} {e : E} (h : FirstIs ok b e) : 2 + lenOf b + 4 ≤ b.length ∧ parseB ((b.drop 2).take (lenOf b)) = some e ∧ lenOf b = (bodyL e).length ∧ (b.drop 2).take (lenOf b) = bodyL e := by
  obtain ⟨h1, r, rfl⟩ := h
  have l1 := lenOf_rec (d := bodyL e) (r := r) (by have := (body_length hok h1).1; omega)
  change lenOf (recL e ++ r) = _ ∧ List.take _ (List.drop 2 (recL e ++ r)) = _ at l1
  rw [l1.1, l1.2]
  refine ⟨?_, parse_body hok h1, rfl, rfl⟩
  rw [List.length_append, recL_length]
  omega
def recs : List E → List UInt8
  | [] => []
  | e :: l => recL e ++ recs l
theorem recs_app : ∀ a b, recs (a ++ b) = recs a ++ recs b
  | [], b => rfl
  | e :: a, b => by rw [List.cons_append, recs, recs_app a b, recs, List.append_assoc]
/-- b is read as the entries L, and no more. -/
structure Reads (ok : List UInt8 → Prop) (b : List UInt8) (L : List E) : Prop where
  all : ∀ e, e ∈ L → OkE ok e
  pre : recs L <+: b
  no : ∀ e, ¬ FirstIs ok (b.drop (recs L).length) e
theorem reads_unique (hok : ∀ s, ok s → (∀ c, c ∈ s → c ≠ 64) ∧ s.length ≤ 1000) : ∀ (L L' : List E) (b : List UInt8), Reads ok b L → Reads ok b L' → L = L'
  | [], [], _, _, _ => rfl
  | [], e :: L', b, h, h' => by
    refine absurd ⟨h'.all e (by simp), ?_⟩ (h.no e)
    have := h'.pre
    rw [recs] at this
    exact (List.prefix_append _ _).trans this
  | e :: L, [], b, h, h' => by
    refine absurd ⟨h.all e (by simp), ?_⟩ (h'.no e)
    have := h.pre
    rw [recs] at this
    exact (List.prefix_append _ _).trans this
  | e :: L, e' :: L', b, h, h' => by
    have p := h.pre
    have p' := h'.pre
    rw [recs] at p p'
    have he : e = e' := rec_inj hok (h.all e (by simp)) (h'.all e' (by simp)) ((List.prefix_append _ _).trans p) ((List.prefix_append _ _).trans p')
    subst he
    obtain ⟨r, rfl⟩ := p
    obtain ⟨r', hr'⟩ := p'
    rw [List.append_assoc, List.append_assoc] at hr'
    have hr2 := List.append_cancel_left hr'
    have n1 := h.no
    have n2 := h'.no
    rw [recs, List.append_assoc, List.length_append, ← List.drop_drop, List.drop_left] at n1 n2
    rw [reads_unique hok L L' (recs L ++ r) ⟨fun x hx => h.all x (by simp [hx]), List.prefix_append _ _, n1⟩ ⟨fun x hx => h'.all x (by simp [hx]), ⟨r', hr2⟩, n2⟩]
/-- Records, and behind them a part of one: just these are read. -/
theorem reads_of (hok : ∀ s, ok s → (∀ c, c ∈ s → c ≠ 64) ∧ s.length ≤ 1000) (L : List E) (x : List UInt8) (hL : ∀ e, e ∈ L → OkE ok e) (hx : x = [] ∨ ∃ e, OkE ok e ∧ x <+: recL e ∧ x.length < (recL e).length) : Reads ok (recs L ++ x) L := by
  refine ⟨hL, List.prefix_append _ _, fun e he => ?_⟩
  rw [List.drop_left] at he
  obtain ⟨h1, h2⟩ := he
  rcases hx with rfl | ⟨e', h3, h4, h5⟩
  · exact rec_ne (List.prefix_nil.1 h2)
  · have := rec_inj hok h1 h3 (h2.trans h4) (List.prefix_refl _)
    subst this
    have := h2.length_le
    omega
end WalMath
/- Plain mathematics of a record's body, as the document reads it. -/
namespace WalMath
open Go.Lib LabMath

def decV : Nat → List UInt8 → Option Nat
  | acc, [] => some acc
  | acc, c :: r => if 48 ≤ c.toNat ∧ c.toNat ≤ 57 then decV (acc * 10 + (c.toNat - 48)) r else none
theorem decV_app : ∀ (l r : List UInt8) (acc v : Nat), decV acc l = some v → decV acc (l ++ r) = decV v r
  | [], r, acc, v, h => by simp [decV] at h; subst h; rfl
  | c :: l, r, acc, v, h => by
    rw [List.cons_append, decV]
    rw [decV] at h
    split
    · rw [if_pos ‹_›] at h
      exact decV_app l r _ v h
    · rw [if_neg ‹_›] at h; cases h
theorem decV_dec (u : Nat) : decV 0 (decDigits u) = some u := by
  induction u using Nat.strongRecOn with
  | _ u ih =>
    rw [decDigits]
    split
    · have := dig_of u ‹_›
      rw [decV, if_pos (by omega), decV, this]
      congr 1
      omega
    · have := dig_of (u % 10) (Nat.mod_lt _ (by decide))
      rw [decV_app _ _ _ _ (ih (u / 10) (by omega)), decV, if_pos (by omega), decV, this]
      congr 1
      omega
/-- What a lower digit stands for. -/
def hexW (c : Nat) : Option Nat := if 48 ≤ c ∧ c ≤ 57 then some (c - 48) else if 97 ≤ c ∧ c ≤ 102 then some (c - 87) else none
def hexVL : Nat → List UInt8 → Option Nat
  | acc, [] => some acc
  | acc, c :: r => match hexW c.toNat with
    | none => none
    | some d => hexVL (acc * 16 + d) r
theorem hexW_lt {c d : Nat} (h : hexW c = some d) : d < 16 := by
  unfold hexW at h
  split at h
  · cases h; omega
  · split at h
    · cases h; omega
    · cases h
theorem hexd_low : ∀ d, d < 16 → hexW (hexd d).toNat = some d := by decide
theorem hexVL_app : ∀ (l r : List UInt8) (acc v : Nat), hexVL acc l = some v → hexVL acc (l ++ r) = hexVL v r
  | [], r, acc, v, h => by simp [hexVL] at h; subst h; rfl
  | c :: l, r, acc, v, h => by
    rw [List.cons_append, hexVL]
    rw [hexVL] at h
    cases hc : hexW c.toNat with
    | none => rw [hc] at h; cases h
    | some d =>
      rw [hc] at h
      exact hexVL_app l r _ v h
theorem hexVL_N : ∀ (k u : Nat), u < 16 ^ k → hexVL 0 (hexN k u) = some u
  | 0, u, h => by
    have : u = 0 := by simpa using h
    subst this
    rfl
  | k + 1, u, h => by
    have hd : u / 16 < 16 ^ k := by
      rw [Nat.pow_succ] at h
      omega
    rw [hexN, hexVL_app _ _ _ _ (hexVL_N k (u / 16) hd), hexVL, hexd_low _ (Nat.mod_lt _ (by decide))]
    dsimp only
    rw [hexVL]
    congr 1
    omega
/-- The digits behind a sign. -/
def unsign (l : List UInt8) : List UInt8 := if l.head? = some 45 then l.drop 1 else l
theorem unsign_itoa (t : Int) : unsign (itoa t) = decDigits t.natAbs ∧ ((itoa t).head? = some 45 ↔ t < 0) := by
  unfold unsign itoa
  split
  · rename_i h
    simp
    exact h
  · rename_i h
    have hd := decDigits_dig t.toNat
    have hn : (decDigits t.toNat).head? ≠ some 45 := fun e => by
      cases hl : decDigits t.toNat with
      | nil => rw [hl] at e; cases e
      | cons c r =>
        rw [hl] at e
        have hc := hd c (by rw [hl]; simp)
        simp at e
        rw [e] at hc
        revert hc
        unfold isDig
        decide
    rw [if_neg hn]
    refine ⟨by congr 1; omega, fun e => absurd e hn, fun e => absurd e h⟩
/-- A body's parts, by its first '@'. -/
theorem body_parts {ok : List UInt8 → Prop} (hok : ∀ s, ok s → (∀ c, c ∈ s → c ≠ 64) ∧ s.length ≤ 1000) {l : List UInt8} {y : E} (hy : OkE ok y) (hl : l = bodyL y) (k : Nat) (hk : k < l.length) (h1 : ∀ j (hj : j < k), l[j]'(by omega) ≠ 64) (h2 : l[k] = 64) :
    l.take k = y.1 ∧ k + 19 ≤ l.length ∧ l[l.length - 17]? = some 61 ∧ (l.drop (k + 1)).take (l.length - 17 - (k + 1)) = itoa y.2.1 ∧ l.drop (l.length - 16) = hexN 16 y.2.2 := by
  have hs := (hok _ hy.lab).1
  have hbl : l.length = y.1.length + (itoa y.2.1).length + 18 := by rw [hl]; exact (body_length hok hy).2
  have hne : 1 ≤ (itoa y.2.1).length := by
    unfold itoa
    split
    · simp
    · cases h : decDigits y.2.1.toNat with
      | nil => exact absurd h (decDigits_ne _)
      | cons => simp
  have hky : k = y.1.length := by
    rcases Nat.lt_trichotomy k y.1.length with h | h | h
    · have e : l[k] = y.1[k] := by
        simp only [hl, bodyL]
        rw [List.getElem_append_left h]
      rw [e] at h2
      exact absurd h2 (hs _ (List.getElem_mem h))
    · exact h
    · have e : l[y.1.length]'(by omega) = 64 := by
        simp only [hl, bodyL]
        rw [List.getElem_append_right (Nat.le_refl _)]
        simp
      exact absurd e (h1 _ h)
  subst hky
  refine ⟨by rw [hl]; simp [bodyL], by omega, ?_, ?_, ?_⟩
  · have e : l.length - 17 = (y.1 ++ 64 :: itoa y.2.1).length := by
      rw [hbl]
      simp
      omega
    have e2 : l = (y.1 ++ 64 :: itoa y.2.1) ++ 61 :: hexN 16 y.2.2 := by rw [hl]; simp [bodyL]
    rw [e, e2, List.getElem?_append_right (Nat.le_refl _)]
    simp
  · have e : l.length - 17 - (y.1.length + 1) = (itoa y.2.1).length := by omega
    have e2 : l = (y.1 ++ [64]) ++ (itoa y.2.1 ++ 61 :: hexN 16 y.2.2) := by rw [hl]; simp [bodyL]
    rw [e, e2, show y.1.length + 1 = (y.1 ++ [64]).length by simp, List.drop_left, List.take_left]
  · have e : l.length - 16 = (y.1 ++ 64 :: itoa y.2.1 ++ [61]).length := by
      rw [hbl]
      simp
      omega
    have e2 : l = (y.1 ++ 64 :: itoa y.2.1 ++ [61]) ++ hexN 16 y.2.2 := by rw [hl]; simp [bodyL]
    rw [e]
    conv => lhs; rw [e2]
    rw [List.drop_left]
theorem body_has {y : E} : (64 : UInt8) ∈ bodyL y := by simp [bodyL]
end WalMath
