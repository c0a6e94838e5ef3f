/- The walk of wire.Hex. -/
import Derived.Test.YtlgdmfbpkmokaaaDoorWa
import Derived.Test.YtlgdmfbpkmokaaaDoorBy
import Derived.Deep.AppendLies
namespace Go.Proofs.YtlgdmfbpkmokaaaDoor
open Go.RowKit
attribute [local go_sem ↓] Go.wp_at_zero Go.wp_at_succ

/-- A digit of sixteen. -/
def hexd (n : Nat) : UInt8 := if n < 10 then UInt8.ofNat (48 + n) else UInt8.ofNat (87 + n)
def hexL : List UInt8 → List UInt8
  | [] => []
  | b :: l => hexd (b.toNat / 16) :: hexd (b.toNat % 16) :: hexL l
theorem hexL_append : ∀ a b : List UInt8, hexL (a ++ b) = hexL a ++ hexL b
  | [], _ => rfl
  | x :: a, b => by simp [hexL, hexL_append a b]
theorem hexL_length : ∀ l : List UInt8, (hexL l).length = 2 * l.length
  | [] => rfl
  | x :: l => by simp [hexL, hexL_length l]; omega
theorem hexL_take (l : List UInt8) (k : Nat) (h : k < l.length) : hexL (l.take (k + 1)) = hexL (l.take k) ++ [hexd (l[k].toNat / 16), hexd (l[k].toNat % 16)] := by
  rw [List.take_succ_eq_append_getElem h, hexL_append]; rfl

theorem and15 {x : Nat} (h : x < 256) : bits BinOp.and IntKind.u8 (x : Int) 15 = (x : Int) % 16 := by
  have := u8_and_nat x 15 h (by omega)
  rw [show ((15 : Nat) : Int) = 15 from rfl] at this
  rw [this, Nat.and_two_pow_sub_one_eq_mod x 4]; omega

def digA : ByteArray := ⟨#[48, 49, 50, 51, 52, 53, 54, 55, 56, 57, 97, 98, 99, 100, 101, 102]⟩
theorem digA_fin : ∀ n : Fin 16, digA.data[n.val]'(by have := n.2; exact this) = hexd n.val := by decide
theorem digA_at (i n : Nat) (hi : i = n) (h : n < 16) (p : i < digA.size) : digA[i]'p = hexd n := by
  subst hi
  exact digA_fin ⟨i, h⟩
theorem digs {x : Nat} (h : x < 256) {p : ((x : Int) / 16).toNat < digA.size} {q : ((x : Int) % 16).toNat < digA.size} :
    (#[Value.int .u8 ((digA[((x : Int) / 16).toNat]'p).toNat : Int), Value.int .u8 ((digA[((x : Int) % 16).toNat]'q).toNat : Int)] : Array Value).toList = bv [hexd (x / 16), hexd (x % 16)] := by
  rw [digA_at _ (x / 16) (by omega) (by omega) p, digA_at _ (x % 16) (by omega) (by omega) q]
  rfl
end Go.Proofs.YtlgdmfbpkmokaaaDoor
