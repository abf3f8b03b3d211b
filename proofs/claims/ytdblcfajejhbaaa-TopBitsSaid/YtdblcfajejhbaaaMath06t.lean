/- Numbers of 32 bits behind each other: their bits, and their bytes. No Go here. -/
import Derived.Test.YtdblcfajejhbaaaMath06b
import Derived.Test.YtdblcfajejhbaaaMath05
namespace Go.Proofs.Ytdblcfajejhbaaa.M06
open Go.Proofs.Ytdblcfajejhbaaa.M01 Go.Proofs.Ytdblcfajejhbaaa.M02
set_option linter.unusedVariables false

def catB (l : List Int) : List Int := l.flatMap fun n => digs n 4
def u32s (l : List Int) : Prop := ∀ n ∈ l, 0 ≤ n ∧ n < 4294967296

theorem pw_4 : pw 4 = 4294967296 := by decide +kernel
theorem p2_32 : p2 32 = 4294967296 := by decide +kernel
theorem p2_bits (k : Nat) : p2 (32 * (k : Int)) = pw (4 * k) := by rw [← p2_pw]; congr 1; omega

theorem catB_cons (n : Int) (l : List Int) : catB (n :: l) = digs n 4 ++ catB l := by simp [catB]
theorem catB_append (l m : List Int) : catB (l ++ m) = catB l ++ catB m := by simp [catB]
theorem catB_snoc (l : List Int) (n : Int) : catB (l ++ [n]) = catB l ++ digs n 4 := by simp [catB]
theorem catB_len (l : List Int) : (catB l).length = 4 * l.length := by
  induction l with
  | nil => rfl
  | cons n l ih => rw [catB_cons, List.length_append, digs_length, ih, List.length_cons]; omega
theorem catB_byte (l : List Int) : isByte (catB l) := by
  induction l with
  | nil => intro x hx; simp [catB] at hx
  | cons n l ih =>
    intro x hx
    rw [catB_cons] at hx
    rcases List.mem_append.1 hx with hx | hx
    · exact digs_byte _ _ x hx
    · exact ih x hx

theorem val_append (xs ys : List Int) : val (xs ++ ys) = val xs + pw xs.length * val ys := by
  induction xs with
  | nil => simp [val, pw_zero]
  | cons x xs ih =>
    rw [List.cons_append, val, val, ih, List.length_cons, pw_succ, Int.mul_assoc]; omega

theorem catB_ok {l : List Int} (h : l.length ≤ 100) : okB (catB l) (32 * l.length) = true :=
  okB_iff.2 ⟨by omega, by omega, by rw [catB_len]; omega, by rw [p2_bits]; have := val_lt (catB_byte l); rw [catB_len] at this; exact this⟩

theorem catB_put {l : List Int} (h : l.length ≤ 100) {n : Int} (h0 : 0 ≤ n) (h1 : n < 4294967296) :
    putE (catB l) (32 * l.length) n 32 = 0 ∧ putL (catB l) (32 * l.length) n 32 = catB (l ++ [n]) ∧ putN (catB l) (32 * l.length) n 32 = 32 * ((l ++ [n]).length : Int) := by
  have hok := catB_ok h
  have e : putE (catB l) (32 * l.length) n 32 = 0 := by rw [putE, if_pos hok, if_neg (by omega), if_neg (by rw [p2_32]; omega), if_neg (by omega)]
  refine ⟨e, ?_, by rw [putN, if_pos e, List.length_append, List.length_singleton]; omega⟩
  have hv := val_lt (catB_byte l)
  have hd := digs_val (catB l) (catB_byte l)
  rw [catB_len] at hv hd
  rw [putL, if_pos e, p2_bits]
  unfold bl
  rw [show sz (32 * (l.length : Int) + 32) = 4 * l.length + 4 by unfold sz; omega, digs_split _ _ _ _ (val_nonneg (catB_byte l)) hv, hd, catB_snoc]

theorem take_drop_at {l : List Int} {i : Nat} (h : i < l.length) : l = l.take i ++ l.getD i 0 :: l.drop (i + 1) := by
  have e : l.getD i 0 = l[i] := by rw [List.getD_eq_getElem?_getD, List.getElem?_eq_getElem h]; rfl
  rw [e, ← List.drop_eq_getElem_cons h, List.take_append_drop]

theorem catB_parts {l : List Int} {i : Nat} (h : i < l.length) : catB l = catB (l.take i) ++ (digs (l.getD i 0) 4 ++ catB (l.drop (i + 1))) := by
  conv => lhs; rw [take_drop_at h]
  rw [catB_append, catB_cons]

theorem catB_get {l : List Int} (hu : u32s l) (hlen : l.length ≤ 100) {i : Nat} (h : i < l.length) :
    getE (catB l) (32 * l.length) (32 * i) 32 = 0 ∧ getN (catB l) (32 * l.length) (32 * i) 32 = l.getD i 0 ∧ atE (catB l) (4 * i) 4 = 0 ∧ atN (catB l) (4 * i) 4 = l.getD i 0 := by
  have hok := catB_ok hlen
  have hm : 0 ≤ l.getD i 0 ∧ l.getD i 0 < 4294967296 := hu _ (by rw [List.getD_eq_getElem?_getD, List.getElem?_eq_getElem h]; exact List.getElem_mem h)
  have hp := catB_parts h
  have e : getE (catB l) (32 * l.length) (32 * i) 32 = 0 := by rw [getE, if_pos hok, if_neg (by omega), if_neg (by omega)]
  have hw : isW 4 = true := by decide
  have ea : atE (catB l) (4 * i) 4 = 0 := by rw [atE, hw, if_neg (by decide), if_neg (by omega), if_neg (by rw [catB_len]; omega)]
  have hl : (catB (l.take i)).length = 4 * i := by rw [catB_len, List.length_take]; omega
  have hpw := pw_pos (4 * i)
  have hp4 := pw_4
  refine ⟨e, ?_, ea, ?_⟩
  · rw [getN, if_pos e, p2_bits, p2_32, hp, val_append, val_append, hl, digs_length, val_digs_fit _ 4 hm.1 (by omega)]
    have hv := val_lt (catB_byte (l.take i))
    rw [hl] at hv
    rw [Int.add_mul_ediv_left _ _ (by omega), Int.ediv_eq_zero_of_lt (val_nonneg (catB_byte _)) hv, Int.zero_add, hp4]
    generalize l.getD i 0 = m at *
    rw [Int.add_mul_emod_self_left, Int.emod_eq_of_lt hm.1 hm.2]
  · rw [atN, hw, if_neg (by decide), if_neg (by omega), if_neg (by rw [catB_len]; omega), show (4 * (i : Int)).toNat = 4 * i by omega, show (4 : Int).toNat = 4 from rfl]
    conv => lhs; rw [hp]
    rw [List.drop_left' hl, List.take_left' (digs_length _ _), val_digs_fit _ 4 hm.1 (by omega)]

theorem bytes4 {n : Int} (h0 : 0 ≤ n) (h1 : n < 4294967296) : bytesE n 4 = 0 ∧ bytesL n 4 = digs n 4 := by
  have hw : isW 4 = true := by decide
  have hp := pw_4
  refine ⟨?_, ?_⟩
  · rw [bytesE, hw, if_neg (by decide), if_pos (by show n < pw 4; omega)]
  · rw [bytesL, hw, if_neg (by decide), if_pos (by show n < pw 4; omega)]; rfl

/-- The numbers as runs: the greatest is 48. -/
def m48 (n : Int) : Int := if 48 < n then 48 else n
theorem m48_ok {l : List Int} (h : u32s l) : runOK (l.map m48) := by
  intro x hx
  rw [List.mem_map] at hx
  obtain ⟨n, hn, rfl⟩ := hx
  have := h n hn
  unfold m48; split <;> omega
end Go.Proofs.Ytdblcfajejhbaaa.M06
