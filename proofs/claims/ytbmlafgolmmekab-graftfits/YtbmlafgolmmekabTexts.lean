/- Texts as bytes: a number in two bytes, the check sum, what a call of each gives back, the program's and the document's. -/
import Derived.Test.YtbmlafgolmmekabRows
import Derived.Test.YtbmlafgolmmekabView
import Derived.Test.YtbmlafgolmmekabOwn
import Derived.WalkKit
import Derived.ProofKit
import Derived.OpenShut
import Derived.Below
import Derived.WalkLawsBesides
namespace Go.Proofs.Ytbmlafgolmmekab
open Go.ChangeShapes Go.WideShapes Go.ChangeAt Go.RowKit
set_option linter.unusedVariables false

/-- the byte at a place, 0 behind the end -/
def byteZ (s : ByteArray) (k : Nat) : Nat := if h : k < s.size then (s[k]'h).toNat else 0
/-- the bytes of whole numbers -/
def bytesOf (zs : List Int) : ByteArray := ⟨(zs.map fun z => UInt8.ofNat z.toNat).toArray⟩
/-- a number in two bytes -/
def two (n : Int) : ByteArray := bytesOf [n % 256, n / 256 % 256]
/-- the two parts of the check sum of the first k bytes -/
def aTo (s : ByteArray) : Nat → Int
  | 0 => 0
  | k + 1 => (aTo s k + byteZ s k) % 255
def bTo (s : ByteArray) : Nat → Int
  | 0 => 0
  | k + 1 => (bTo s k + aTo s (k + 1)) % 255
def sumZ (s : ByteArray) : Int := 256 * bTo s s.size + aTo s s.size

theorem byteZ_lt (s : ByteArray) (k : Nat) : byteZ s k < 256 := by
  unfold byteZ
  split
  · exact UInt8.toNat_lt _
  · omega
theorem byteZ_at (s : ByteArray) (k : Nat) (h : k < s.size) : (s[k]'h).toNat = byteZ s k := by
  unfold byteZ
  rw [dif_pos h]
theorem aTo_bounds (s : ByteArray) (k : Nat) : 0 ≤ aTo s k ∧ aTo s k < 255 := by
  cases k with
  | zero => simp [aTo]
  | succ k => simp only [aTo]; omega
theorem bTo_bounds (s : ByteArray) (k : Nat) : 0 ≤ bTo s k ∧ bTo s k < 255 := by
  cases k with
  | zero => simp [bTo]
  | succ k => simp only [bTo]; omega
theorem sumZ_bounds (s : ByteArray) : 0 ≤ sumZ s ∧ sumZ s < 65536 := by
  have := aTo_bounds s s.size
  have := bTo_bounds s s.size
  unfold sumZ
  omega
theorem bytesOf_size (zs : List Int) : (bytesOf zs).size = zs.length := by
  show (zs.map fun z => UInt8.ofNat z.toNat).toArray.size = _
  simp
theorem two_size (n : Int) : (two n).size = 2 := bytesOf_size _

/-- a row of bytes as a text -/
theorem conv_row {w : World} {a : Option Addr} {n : Nat} (c : Nat) {zs : List Int} (h : Reads .u8 w a n zs) : (convert 65 9 (.slice a n c)).run Try.prog w = .ok (.string (bytesOf zs)) w := by
  rw [run_convert_bytes_string w 65 9 5 a n c Try.underlying65 Try.underlying5 Try.underlying9]
  cases a with
  | none =>
    have e : n = 0 := by
      rcases Nat.eq_zero_or_pos n with e | e
      · exact e
      · obtain ⟨x, hx⟩ := h.some_ e; cases hx
    subst e
    obtain rfl := List.eq_nil_of_length_eq_zero h.len
    simp [Conv.bytesToString, Sem.run_pure, bytesOf]
    rfl
  | some x =>
    have hn := h.len
    subst hn
    have hl := run_loadCells_list (P := Try.prog) w x (zs.map (Value.int .u8)) (fun j v hj => by
      have hj' : j < zs.length := by have := (List.getElem?_eq_some_iff.1 hj).1; simpa using this
      rw [h.cell x rfl j hj']
      simp [List.getElem?_eq_getElem hj'] at hj
      rw [← hj]
      simp [List.getD, hj'])
    simp only [List.length_map] at hl
    rw [run_bytesToString w x zs.length c _ hl]
    congr 2
    have : ∀ (l : List Int) (r : ByteArray), l.foldl (fun r n => r.push (UInt8.ofNat n.toNat)) r = ⟨r.data ++ (l.map fun z => UInt8.ofNat z.toNat).toArray⟩ := by
      intro l
      induction l with
      | nil => intro r; simp
      | cons z l ih => intro r; rw [List.foldl_cons, ih]; simp [ByteArray.push]
    rw [this]
    have he0 : ByteArray.empty.data = #[] := rfl
    rw [he0]
    simp [bytesOf]

end Go.Proofs.Ytbmlafgolmmekab
