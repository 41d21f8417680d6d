/-
  SHA-256 and its codes as functions on numbers and lists: nothing of the program stands here but the given tables' numbers.
-/
import Derived.Test.YthlopecllhdmhaaDoorMem
import Derived.Test.YthlopecllhdmhaaDoorNum
import Derived.Test.YthlopecllhdmhaaDoorPutA
namespace Go.Proofs.YthlopecllhdmhaaDoor
open Go.RowKit
set_option linter.unusedVariables false

/-- The constants, and the start. -/
def shaK : List Nat := [1116352408, 1899447441, 3049323471, 3921009573, 961987163, 1508970993, 2453635748, 2870763221, 3624381080, 310598401, 607225278, 1426881987, 1925078388, 2162078206, 2614888103, 3248222580, 3835390401, 4022224774, 264347078, 604807628, 770255983, 1249150122, 1555081692, 1996064986, 2554220882, 2821834349, 2952996808, 3210313671, 3336571891, 3584528711, 113926993, 338241895, 666307205, 773529912, 1294757372, 1396182291, 1695183700, 1986661051, 2177026350, 2456956037, 2730485921, 2820302411, 3259730800, 3345764771, 3516065817, 3600352804, 4094571909, 275423344, 430227734, 506948616, 659060556, 883997877, 958139571, 1322822218, 1537002063, 1747873779, 1955562222, 2024104815, 2227730452, 2361852424, 2428436474, 2756734187, 3204031479, 3329325298]
def kAt (i : Nat) : Nat := shaK.getD i 0
theorem kAt_lt (i : Nat) : kAt i < 4294967296 := by
  unfold kAt
  rw [List.getD_eq_getElem?_getD]
  rcases h : shaK[i]? with _ | x
  · decide
  · have hm := List.mem_of_getElem? h
    have : ∀ y ∈ shaK, y < 4294967296 := by decide
    exact this x hm

/-- The number that bytes say, the highest first. -/
def rorN (x n : Nat) : Nat := (x * 2 ^ (32 - n) % 4294967296) ||| (x / 2 ^ n)
def addN (x y : Nat) : Nat := (x + y) % 4294967296
theorem addN_lt (x y : Nat) : addN x y < 4294967296 := Nat.mod_lt _ (by decide)
theorem rorN_lt (x n : Nat) (h : x < 4294967296) : rorN x n < 4294967296 :=
  Nat.or_lt_two_pow (n := 32) (Nat.mod_lt _ (by decide)) (Nat.lt_of_le_of_lt (Nat.div_le_self _ _) h)
/-- What is rotated by several numbers, and xored. -/
def rots (x : Nat) (ns : List Nat) : Nat := ns.foldl (fun s n => s ^^^ rorN x n) 0
theorem xor_lt {a b : Nat} (ha : a < 4294967296) (hb : b < 4294967296) : a ^^^ b < 4294967296 := Nat.xor_lt_two_pow (n := 32) ha hb
theorem and_lt {a b : Nat} (ha : a < 4294967296) : a &&& b < 4294967296 := Nat.lt_of_le_of_lt Nat.and_le_left ha
theorem rots_lt (x : Nat) (ns : List Nat) (h : x < 4294967296) : rots x ns < 4294967296 := by
  unfold rots
  suffices ∀ s, s < 4294967296 → ns.foldl (fun s n => s ^^^ rorN x n) s < 4294967296 from this 0 (by decide)
  induction ns with
  | nil => intro s hs; exact hs
  | cons n ns ih => intro s hs; exact ih _ (xor_lt hs (rorN_lt x n h))

structure St where
  a : Nat
  b : Nat
  c : Nat
  d : Nat
  e : Nat
  f : Nat
  g : Nat
  h : Nat
/-- All eight are words. -/
def St.ok (s : St) : Prop := s.a < 4294967296 ∧ s.b < 4294967296 ∧ s.c < 4294967296 ∧ s.d < 4294967296 ∧ s.e < 4294967296 ∧ s.f < 4294967296 ∧ s.g < 4294967296 ∧ s.h < 4294967296
def tN (e f g h k w : Nat) : Nat := addN (addN (addN (addN h (rots e [6, 11, 25])) ((e &&& f) ^^^ ((4294967295 - e) &&& g))) k) w
def uN (a b c : Nat) : Nat := addN (rots a [2, 13, 22]) (((a &&& b) ^^^ (a &&& c)) ^^^ (b &&& c))
def roundN (k w : Nat) (s : St) : St :=
  ⟨addN (tN s.e s.f s.g s.h k w) (uN s.a s.b s.c), s.a, s.b, s.c, addN s.d (tN s.e s.f s.g s.h k w), s.e, s.f, s.g⟩
theorem roundN_ok {k w : Nat} {s : St} (h : s.ok) : (roundN k w s).ok := by
  obtain ⟨h1, h2, h3, h4, h5, h6, h7, h8⟩ := h
  exact ⟨addN_lt _ _, h1, h2, h3, addN_lt _ _, h5, h6, h7⟩
def rounds (w : List Nat) (s : St) : Nat → St
  | 0 => s
  | k + 1 => roundN (kAt k) (w.getD k 0) (rounds w s k)
theorem rounds_ok {w : List Nat} {s : St} (h : s.ok) : ∀ k, (rounds w s k).ok
  | 0 => h
  | k + 1 => roundN_ok (rounds_ok h k)
def St.add (s t : St) : St := ⟨addN s.a t.a, addN s.b t.b, addN s.c t.c, addN s.d t.d, addN s.e t.e, addN s.f t.f, addN s.g t.g, addN s.h t.h⟩
theorem St.add_ok (s t : St) : (s.add t).ok := ⟨addN_lt _ _, addN_lt _ _, addN_lt _ _, addN_lt _ _, addN_lt _ _, addN_lt _ _, addN_lt _ _, addN_lt _ _⟩

/-- One word more. -/
def s0N (x : Nat) : Nat := rots x [7, 18] ^^^ (x / 8)
def s1N (x : Nat) : Nat := rots x [17, 19] ^^^ (x / 1024)
def nextW (l : List Nat) (i : Nat) : Nat := addN (addN (addN (l.getD (i - 16) 0) (s0N (l.getD (i - 15) 0))) (l.getD (i - 7) 0)) (s1N (l.getD (i - 2) 0))
def sched (ws : List Nat) : Nat → List Nat
  | 0 => ws
  | k + 1 => sched ws k ++ [nextW (sched ws k) (16 + k)]
theorem sched_length (ws : List Nat) (h : ws.length = 16) : ∀ k, (sched ws k).length = 16 + k
  | 0 => h
  | k + 1 => by simp [sched, sched_length ws h k]; omega
theorem sched_ok (ws : List Nat) (h : ∀ x ∈ ws, x < 4294967296) : ∀ k, ∀ x ∈ sched ws k, x < 4294967296
  | 0 => h
  | k + 1 => by
    intro x hx
    rcases List.mem_append.1 hx with hx | hx
    · exact sched_ok ws h k x hx
    · rw [List.mem_singleton.1 hx]; exact addN_lt _ _
theorem getD_lt {l : List Nat} (h : ∀ x ∈ l, x < 4294967296) (i : Nat) : l.getD i 0 < 4294967296 := by
  rw [List.getD_eq_getElem?_getD]
  rcases e : l[i]? with _ | x
  · decide
  · exact h x (List.mem_of_getElem? e)

def beW (l : List UInt8) : Nat := l.foldl (fun n c => n * 256 + c.toNat) 0
/-- The 16 words of a block. -/
def wordsN (b : List UInt8) : List Nat := (List.range 16).map fun j => beW ((b.drop (4 * j)).take 4)
def pressN (s : St) (b : List UInt8) : St := s.add (rounds (sched (wordsN b) 48) s 64)
def shaS : St := ⟨1779033703, 3144134277, 1013904242, 2773480762, 1359893119, 2600822924, 528734635, 1541459225⟩
/-- As many noughts as it takes. -/
def zerosN (n : Nat) : Nat := (119 - n % 64) % 64
def padN (b : List UInt8) : List UInt8 := b ++ [128] ++ List.replicate (zerosN b.length) 0 ++ beB 8 (8 * b.length)
theorem padN_length (b : List UInt8) : (padN b).length % 64 = 0 := by
  simp only [padN, List.length_append, List.length_replicate, List.length_singleton, beB_length, zerosN]
  omega
/-- The blocks, one behind the other. -/
def pressAll (s : St) (b : List UInt8) : Nat → St
  | 0 => s
  | k + 1 => pressN (pressAll s b k) ((b.drop (64 * k)).take 64)
def word4 (n : Nat) : List UInt8 := [UInt8.ofNat (n / 16777216), UInt8.ofNat (n / 65536), UInt8.ofNat (n / 256), UInt8.ofNat n]
def St.bytes (s : St) : List UInt8 := word4 s.a ++ word4 s.b ++ word4 s.c ++ word4 s.d ++ word4 s.e ++ word4 s.f ++ word4 s.g ++ word4 s.h
theorem St.bytes_length (s : St) : s.bytes.length = 32 := rfl
def sumS (b : List UInt8) : St := pressAll shaS (padN b) ((padN b).length / 64)
/-- The hash of a message. -/
def shaN (b : List UInt8) : List UInt8 := (sumS b).bytes
theorem shaN_length (b : List UInt8) : (shaN b).length = 32 := St.bytes_length _
theorem pressN_ok (s : St) (b : List UInt8) : (pressN s b).ok := St.add_ok _ _
theorem shaS_ok : shaS.ok := by unfold St.ok; decide
theorem pressAll_ok {s : St} (h : s.ok) (b : List UInt8) : ∀ k, (pressAll s b k).ok
  | 0 => h
  | k + 1 => pressN_ok _ _
/-- The key of a secret. -/
def keyN (s : List UInt8) : List UInt8 := (if s.length > 64 then shaN s else s) ++ List.replicate (64 - (if s.length > 64 then 32 else s.length)) 0
def maskN (m : UInt8) (k : List UInt8) : List UInt8 := k.map fun c => c ^^^ m
/-- The code of a message by a secret. -/
def codeN (s b : List UInt8) : List UInt8 := shaN (maskN 92 (keyN s) ++ shaN (maskN 54 (keyN s) ++ b))
theorem codeN_length (s b : List UInt8) : (codeN s b).length = 32 := shaN_length _
theorem keyN_length (s : List UInt8) : (keyN s).length = 64 := by
  unfold keyN
  split
  · simp [shaN_length]
  · simp; omega

end Go.Proofs.YthlopecllhdmhaaDoor
