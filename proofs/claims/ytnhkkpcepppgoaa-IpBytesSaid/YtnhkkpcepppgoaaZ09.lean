/- The walk of ip.Parse where something is wrong.
   The walk of ip.Bytes where it refuses.
   ip.Same and ref03.Same of any two headers. -/
import Derived.Test.YtnhkkpcepppgoaaZ02
import Derived.Test.YtnhkkpcepppgoaaZ03

namespace Go.Proofs.Ytnhkkpcepppgoaa
open Go.RowKit
attribute [local go_sem ↓] Go.wp_at_zero Go.wp_at_succ

/-- Are two headers the same? -/
def sameB (h o : Hd) (O R : List UInt8) : Bool :=
  h.tos == o.tos && (h.id == o.id && (h.ev == o.ev && (h.df == o.df && (h.mf == o.mf && (h.off == o.off && (h.ttl == o.ttl && (h.pr == o.pr && (h.src == o.src && (h.dst == o.dst && O == R)))))))))
theorem natb_t {a b : Nat} (h : a = b) : ((a : Int) == (b : Int)) = true := by rw [h]; simp
theorem natb_f {a b : Nat} (h : a ≠ b) : ((a : Int) == (b : Int)) = false := by rw [beq_eq_false_iff_ne]; omega
/-- bytes.Equal of what reads as bytes. -/
theorem equal_any (u v : Value) (l m : List UInt8) (w : World) (hu : Bytes w u l) (hv : Bytes w v m) :
    Calls Try.prog 59 #[u, v] w fun e w' => e = .returned (.bool (l == m)) ∧ w' = w := by
  refine (Try.bytes_Equal_strs u v _ _ w (hu.str Try.underlying22 Try.underlying5 Try.underlying9) (hv.str Try.underlying22 Try.underlying5 Try.underlying9)).mono ?_
  rintro e w' ⟨rfl, rfl⟩
  exact ⟨ret_b (by simp), rfl⟩
set_option maxHeartbeats 4000000 in
set_option maxRecDepth 100000 in
theorem sw0 (h o : Hd) (a a' : Option Addr) (c c' m n : Nat) (w : World) (n0 : h.tos ≠ o.tos) :
    Calls Try.prog 21 #[.agg #[.int .u8 (h.tos : Nat), .int .u16 (h.id : Nat), .bool h.ev, .bool h.df, .bool h.mf, .int .i64 h.off, .int .u8 (h.ttl : Nat), .int .u8 (h.pr : Nat), .int .u32 (h.src : Nat), .int .u32 (h.dst : Nat), .slice a m c], .agg #[.int .u8 (o.tos : Nat), .int .u16 (o.id : Nat), .bool o.ev, .bool o.df, .bool o.mf, .int .i64 o.off, .int .u8 (o.ttl : Nat), .int .u8 (o.pr : Nat), .int .u32 (o.src : Nat), .int .u32 (o.dst : Nat), .slice a' n c']] w fun e w' => e = .returned (.bool (false)) ∧ Below w.heap.size w w' := by
  have t0 := natb_f n0
  clear n0
  go_enter Try.func21, Try.ntmps21
  go_wp2_with fail
  go_ret
  exact ⟨rfl, by go_grown⟩
set_option maxHeartbeats 4000000 in
set_option maxRecDepth 100000 in
theorem sw1 (h o : Hd) (a a' : Option Addr) (c c' m n : Nat) (w : World) (e0 : h.tos = o.tos) (n1 : h.id ≠ o.id) :
    Calls Try.prog 21 #[.agg #[.int .u8 (h.tos : Nat), .int .u16 (h.id : Nat), .bool h.ev, .bool h.df, .bool h.mf, .int .i64 h.off, .int .u8 (h.ttl : Nat), .int .u8 (h.pr : Nat), .int .u32 (h.src : Nat), .int .u32 (h.dst : Nat), .slice a m c], .agg #[.int .u8 (o.tos : Nat), .int .u16 (o.id : Nat), .bool o.ev, .bool o.df, .bool o.mf, .int .i64 o.off, .int .u8 (o.ttl : Nat), .int .u8 (o.pr : Nat), .int .u32 (o.src : Nat), .int .u32 (o.dst : Nat), .slice a' n c']] w fun e w' => e = .returned (.bool (false)) ∧ Below w.heap.size w w' := by
  have t0 := natb_t e0
  have t1 := natb_f n1
  clear e0 n1
  go_enter Try.func21, Try.ntmps21
  go_wp2_with fail
  go_ret
  exact ⟨rfl, by go_grown⟩
set_option maxHeartbeats 4000000 in
set_option maxRecDepth 100000 in
theorem sw2 (h o : Hd) (a a' : Option Addr) (c c' m n : Nat) (w : World) (e0 : h.tos = o.tos) (e1 : h.id = o.id) (n2 : h.ev ≠ o.ev) :
    Calls Try.prog 21 #[.agg #[.int .u8 (h.tos : Nat), .int .u16 (h.id : Nat), .bool h.ev, .bool h.df, .bool h.mf, .int .i64 h.off, .int .u8 (h.ttl : Nat), .int .u8 (h.pr : Nat), .int .u32 (h.src : Nat), .int .u32 (h.dst : Nat), .slice a m c], .agg #[.int .u8 (o.tos : Nat), .int .u16 (o.id : Nat), .bool o.ev, .bool o.df, .bool o.mf, .int .i64 o.off, .int .u8 (o.ttl : Nat), .int .u8 (o.pr : Nat), .int .u32 (o.src : Nat), .int .u32 (o.dst : Nat), .slice a' n c']] w fun e w' => e = .returned (.bool (false)) ∧ Below w.heap.size w w' := by
  have t0 := natb_t e0
  have t1 := natb_t e1
  have t2 : (h.ev == o.ev) = false := by rw [beq_eq_false_iff_ne]; exact n2
  clear e0 e1 n2
  go_enter Try.func21, Try.ntmps21
  go_wp2_with fail
  go_ret
  exact ⟨rfl, by go_grown⟩
set_option maxHeartbeats 4000000 in
set_option maxRecDepth 100000 in
theorem sw3 (h o : Hd) (a a' : Option Addr) (c c' m n : Nat) (w : World) (e0 : h.tos = o.tos) (e1 : h.id = o.id) (e2 : h.ev = o.ev) (n3 : h.df ≠ o.df) :
    Calls Try.prog 21 #[.agg #[.int .u8 (h.tos : Nat), .int .u16 (h.id : Nat), .bool h.ev, .bool h.df, .bool h.mf, .int .i64 h.off, .int .u8 (h.ttl : Nat), .int .u8 (h.pr : Nat), .int .u32 (h.src : Nat), .int .u32 (h.dst : Nat), .slice a m c], .agg #[.int .u8 (o.tos : Nat), .int .u16 (o.id : Nat), .bool o.ev, .bool o.df, .bool o.mf, .int .i64 o.off, .int .u8 (o.ttl : Nat), .int .u8 (o.pr : Nat), .int .u32 (o.src : Nat), .int .u32 (o.dst : Nat), .slice a' n c']] w fun e w' => e = .returned (.bool (false)) ∧ Below w.heap.size w w' := by
  have t0 := natb_t e0
  have t1 := natb_t e1
  have t2 : (h.ev == o.ev) = true := by rw [e2]; simp
  have t3 : (h.df == o.df) = false := by rw [beq_eq_false_iff_ne]; exact n3
  clear e0 e1 e2 n3
  go_enter Try.func21, Try.ntmps21
  go_wp2_with fail
  go_ret
  exact ⟨rfl, by go_grown⟩
set_option maxHeartbeats 4000000 in
set_option maxRecDepth 100000 in
theorem sw4 (h o : Hd) (a a' : Option Addr) (c c' m n : Nat) (w : World) (e0 : h.tos = o.tos) (e1 : h.id = o.id) (e2 : h.ev = o.ev) (e3 : h.df = o.df) (n4 : h.mf ≠ o.mf) :
    Calls Try.prog 21 #[.agg #[.int .u8 (h.tos : Nat), .int .u16 (h.id : Nat), .bool h.ev, .bool h.df, .bool h.mf, .int .i64 h.off, .int .u8 (h.ttl : Nat), .int .u8 (h.pr : Nat), .int .u32 (h.src : Nat), .int .u32 (h.dst : Nat), .slice a m c], .agg #[.int .u8 (o.tos : Nat), .int .u16 (o.id : Nat), .bool o.ev, .bool o.df, .bool o.mf, .int .i64 o.off, .int .u8 (o.ttl : Nat), .int .u8 (o.pr : Nat), .int .u32 (o.src : Nat), .int .u32 (o.dst : Nat), .slice a' n c']] w fun e w' => e = .returned (.bool (false)) ∧ Below w.heap.size w w' := by
  have t0 := natb_t e0
  have t1 := natb_t e1
  have t2 : (h.ev == o.ev) = true := by rw [e2]; simp
  have t3 : (h.df == o.df) = true := by rw [e3]; simp
  have t4 : (h.mf == o.mf) = false := by rw [beq_eq_false_iff_ne]; exact n4
  clear e0 e1 e2 e3 n4
  go_enter Try.func21, Try.ntmps21
  go_wp2_with fail
  go_ret
  exact ⟨rfl, by go_grown⟩
set_option maxHeartbeats 4000000 in
set_option maxRecDepth 100000 in
theorem sw5 (h o : Hd) (a a' : Option Addr) (c c' m n : Nat) (w : World) (e0 : h.tos = o.tos) (e1 : h.id = o.id) (e2 : h.ev = o.ev) (e3 : h.df = o.df) (e4 : h.mf = o.mf) (n5 : h.off ≠ o.off) :
    Calls Try.prog 21 #[.agg #[.int .u8 (h.tos : Nat), .int .u16 (h.id : Nat), .bool h.ev, .bool h.df, .bool h.mf, .int .i64 h.off, .int .u8 (h.ttl : Nat), .int .u8 (h.pr : Nat), .int .u32 (h.src : Nat), .int .u32 (h.dst : Nat), .slice a m c], .agg #[.int .u8 (o.tos : Nat), .int .u16 (o.id : Nat), .bool o.ev, .bool o.df, .bool o.mf, .int .i64 o.off, .int .u8 (o.ttl : Nat), .int .u8 (o.pr : Nat), .int .u32 (o.src : Nat), .int .u32 (o.dst : Nat), .slice a' n c']] w fun e w' => e = .returned (.bool (false)) ∧ Below w.heap.size w w' := by
  have t0 := natb_t e0
  have t1 := natb_t e1
  have t2 : (h.ev == o.ev) = true := by rw [e2]; simp
  have t3 : (h.df == o.df) = true := by rw [e3]; simp
  have t4 : (h.mf == o.mf) = true := by rw [e4]; simp
  have t5 : (h.off == o.off) = false := by rw [beq_eq_false_iff_ne]; exact n5
  clear e0 e1 e2 e3 e4 n5
  go_enter Try.func21, Try.ntmps21
  go_wp2_with fail
  go_ret
  exact ⟨rfl, by go_grown⟩
set_option maxHeartbeats 4000000 in
set_option maxRecDepth 100000 in
theorem sw6 (h o : Hd) (a a' : Option Addr) (c c' m n : Nat) (w : World) (e0 : h.tos = o.tos) (e1 : h.id = o.id) (e2 : h.ev = o.ev) (e3 : h.df = o.df) (e4 : h.mf = o.mf) (e5 : h.off = o.off) (n6 : h.ttl ≠ o.ttl) :
    Calls Try.prog 21 #[.agg #[.int .u8 (h.tos : Nat), .int .u16 (h.id : Nat), .bool h.ev, .bool h.df, .bool h.mf, .int .i64 h.off, .int .u8 (h.ttl : Nat), .int .u8 (h.pr : Nat), .int .u32 (h.src : Nat), .int .u32 (h.dst : Nat), .slice a m c], .agg #[.int .u8 (o.tos : Nat), .int .u16 (o.id : Nat), .bool o.ev, .bool o.df, .bool o.mf, .int .i64 o.off, .int .u8 (o.ttl : Nat), .int .u8 (o.pr : Nat), .int .u32 (o.src : Nat), .int .u32 (o.dst : Nat), .slice a' n c']] w fun e w' => e = .returned (.bool (false)) ∧ Below w.heap.size w w' := by
  have t0 := natb_t e0
  have t1 := natb_t e1
  have t2 : (h.ev == o.ev) = true := by rw [e2]; simp
  have t3 : (h.df == o.df) = true := by rw [e3]; simp
  have t4 : (h.mf == o.mf) = true := by rw [e4]; simp
  have t5 : (h.off == o.off) = true := by rw [e5]; simp
  have t6 := natb_f n6
  clear e0 e1 e2 e3 e4 e5 n6
  go_enter Try.func21, Try.ntmps21
  go_wp2_with fail
  go_ret
  exact ⟨rfl, by go_grown⟩
set_option maxHeartbeats 4000000 in
set_option maxRecDepth 100000 in
theorem sw7 (h o : Hd) (a a' : Option Addr) (c c' m n : Nat) (w : World) (e0 : h.tos = o.tos) (e1 : h.id = o.id) (e2 : h.ev = o.ev) (e3 : h.df = o.df) (e4 : h.mf = o.mf) (e5 : h.off = o.off) (e6 : h.ttl = o.ttl) (n7 : h.pr ≠ o.pr) :
    Calls Try.prog 21 #[.agg #[.int .u8 (h.tos : Nat), .int .u16 (h.id : Nat), .bool h.ev, .bool h.df, .bool h.mf, .int .i64 h.off, .int .u8 (h.ttl : Nat), .int .u8 (h.pr : Nat), .int .u32 (h.src : Nat), .int .u32 (h.dst : Nat), .slice a m c], .agg #[.int .u8 (o.tos : Nat), .int .u16 (o.id : Nat), .bool o.ev, .bool o.df, .bool o.mf, .int .i64 o.off, .int .u8 (o.ttl : Nat), .int .u8 (o.pr : Nat), .int .u32 (o.src : Nat), .int .u32 (o.dst : Nat), .slice a' n c']] w fun e w' => e = .returned (.bool (false)) ∧ Below w.heap.size w w' := by
  have t0 := natb_t e0
  have t1 := natb_t e1
  have t2 : (h.ev == o.ev) = true := by rw [e2]; simp
  have t3 : (h.df == o.df) = true := by rw [e3]; simp
  have t4 : (h.mf == o.mf) = true := by rw [e4]; simp
  have t5 : (h.off == o.off) = true := by rw [e5]; simp
  have t6 := natb_t e6
  have t7 := natb_f n7
  clear e0 e1 e2 e3 e4 e5 e6 n7
  go_enter Try.func21, Try.ntmps21
  go_wp2_with fail
  go_ret
  exact ⟨rfl, by go_grown⟩
set_option maxHeartbeats 4000000 in
set_option maxRecDepth 100000 in
theorem sw8 (h o : Hd) (a a' : Option Addr) (c c' m n : Nat) (w : World) (e0 : h.tos = o.tos) (e1 : h.id = o.id) (e2 : h.ev = o.ev) (e3 : h.df = o.df) (e4 : h.mf = o.mf) (e5 : h.off = o.off) (e6 : h.ttl = o.ttl) (e7 : h.pr = o.pr) (n8 : h.src ≠ o.src) :
    Calls Try.prog 21 #[.agg #[.int .u8 (h.tos : Nat), .int .u16 (h.id : Nat), .bool h.ev, .bool h.df, .bool h.mf, .int .i64 h.off, .int .u8 (h.ttl : Nat), .int .u8 (h.pr : Nat), .int .u32 (h.src : Nat), .int .u32 (h.dst : Nat), .slice a m c], .agg #[.int .u8 (o.tos : Nat), .int .u16 (o.id : Nat), .bool o.ev, .bool o.df, .bool o.mf, .int .i64 o.off, .int .u8 (o.ttl : Nat), .int .u8 (o.pr : Nat), .int .u32 (o.src : Nat), .int .u32 (o.dst : Nat), .slice a' n c']] w fun e w' => e = .returned (.bool (false)) ∧ Below w.heap.size w w' := by
  have t0 := natb_t e0
  have t1 := natb_t e1
  have t2 : (h.ev == o.ev) = true := by rw [e2]; simp
  have t3 : (h.df == o.df) = true := by rw [e3]; simp
  have t4 : (h.mf == o.mf) = true := by rw [e4]; simp
  have t5 : (h.off == o.off) = true := by rw [e5]; simp
  have t6 := natb_t e6
  have t7 := natb_t e7
  have t8 := natb_f n8
  clear e0 e1 e2 e3 e4 e5 e6 e7 n8
  go_enter Try.func21, Try.ntmps21
  go_wp2_with fail
  go_ret
  exact ⟨rfl, by go_grown⟩
set_option maxHeartbeats 4000000 in
set_option maxRecDepth 100000 in
theorem sw9 (h o : Hd) (a a' : Option Addr) (c c' m n : Nat) (w : World) (e0 : h.tos = o.tos) (e1 : h.id = o.id) (e2 : h.ev = o.ev) (e3 : h.df = o.df) (e4 : h.mf = o.mf) (e5 : h.off = o.off) (e6 : h.ttl = o.ttl) (e7 : h.pr = o.pr) (e8 : h.src = o.src) (n9 : h.dst ≠ o.dst) :
    Calls Try.prog 21 #[.agg #[.int .u8 (h.tos : Nat), .int .u16 (h.id : Nat), .bool h.ev, .bool h.df, .bool h.mf, .int .i64 h.off, .int .u8 (h.ttl : Nat), .int .u8 (h.pr : Nat), .int .u32 (h.src : Nat), .int .u32 (h.dst : Nat), .slice a m c], .agg #[.int .u8 (o.tos : Nat), .int .u16 (o.id : Nat), .bool o.ev, .bool o.df, .bool o.mf, .int .i64 o.off, .int .u8 (o.ttl : Nat), .int .u8 (o.pr : Nat), .int .u32 (o.src : Nat), .int .u32 (o.dst : Nat), .slice a' n c']] w fun e w' => e = .returned (.bool (false)) ∧ Below w.heap.size w w' := by
  have t0 := natb_t e0
  have t1 := natb_t e1
  have t2 : (h.ev == o.ev) = true := by rw [e2]; simp
  have t3 : (h.df == o.df) = true := by rw [e3]; simp
  have t4 : (h.mf == o.mf) = true := by rw [e4]; simp
  have t5 : (h.off == o.off) = true := by rw [e5]; simp
  have t6 := natb_t e6
  have t7 := natb_t e7
  have t8 := natb_t e8
  have t9 := natb_f n9
  clear e0 e1 e2 e3 e4 e5 e6 e7 e8 n9
  go_enter Try.func21, Try.ntmps21
  go_wp2_with fail
  go_ret
  exact ⟨rfl, by go_grown⟩
set_option maxHeartbeats 4000000 in
set_option maxRecDepth 100000 in
theorem sw10 (h o : Hd) (a a' : Option Addr) (c c' m n : Nat) (O R : List UInt8) (w : World) (e0 : h.tos = o.tos) (e1 : h.id = o.id) (e2 : h.ev = o.ev) (e3 : h.df = o.df) (e4 : h.mf = o.mf) (e5 : h.off = o.off) (e6 : h.ttl = o.ttl) (e7 : h.pr = o.pr) (e8 : h.src = o.src) (e9 : h.dst = o.dst) (hu : Bytes w (.slice a m c) O) (hv : Bytes w (.slice a' n c') R) :
    Calls Try.prog 21 #[.agg #[.int .u8 (h.tos : Nat), .int .u16 (h.id : Nat), .bool h.ev, .bool h.df, .bool h.mf, .int .i64 h.off, .int .u8 (h.ttl : Nat), .int .u8 (h.pr : Nat), .int .u32 (h.src : Nat), .int .u32 (h.dst : Nat), .slice a m c], .agg #[.int .u8 (o.tos : Nat), .int .u16 (o.id : Nat), .bool o.ev, .bool o.df, .bool o.mf, .int .i64 o.off, .int .u8 (o.ttl : Nat), .int .u8 (o.pr : Nat), .int .u32 (o.src : Nat), .int .u32 (o.dst : Nat), .slice a' n c']] w fun e w' => e = .returned (.bool (O == R)) ∧ Below w.heap.size w w' := by
  have t0 := natb_t e0
  have t1 := natb_t e1
  have t2 : (h.ev == o.ev) = true := by rw [e2]; simp
  have t3 : (h.df == o.df) = true := by rw [e3]; simp
  have t4 : (h.mf == o.mf) = true := by rw [e4]; simp
  have t5 : (h.off == o.off) = true := by rw [e5]; simp
  have t6 := natb_t e6
  have t7 := natb_t e7
  have t8 := natb_t e8
  have t9 := natb_t e9
  clear e0 e1 e2 e3 e4 e5 e6 e7 e8 e9
  have hb : Below w.heap.size w ((w.alloc (.cells #[.int .u8 (h.tos : Nat), .int .u16 (h.id : Nat), .bool h.ev, .bool h.df, .bool h.mf, .int .i64 h.off, .int .u8 (h.ttl : Nat), .int .u8 (h.pr : Nat), .int .u32 (h.src : Nat), .int .u32 (h.dst : Nat), .slice a m c] 28)).alloc (.cells #[.int .u8 (o.tos : Nat), .int .u16 (o.id : Nat), .bool o.ev, .bool o.df, .bool o.mf, .int .i64 o.off, .int .u8 (o.ttl : Nat), .int .u8 (o.pr : Nat), .int .u32 (o.src : Nat), .int .u32 (o.dst : Nat), .slice a' n c'] 28)) := by go_grown
  have hq := equal_any _ _ O R _ (hu.later hb) (hv.later hb)
  have HB := Lib.hid hb
  clear hu hv hb
  have HQ := Lib.hid hq
  clear hq
  go_enter Try.func21, Try.ntmps21
  go_wp2_with fail
  refine HQ.out.mono ?_
  rintro e w1 ⟨rfl, rfl⟩
  go_wp2_with fail
  go_ret
  exact ⟨rfl, HB.out⟩
theorem sameW_any (h o : Hd) (a a' : Option Addr) (c c' m n : Nat) (O R : List UInt8) (w : World) (hu : Bytes w (.slice a m c) O) (hv : Bytes w (.slice a' n c') R) :
    Calls Try.prog 21 #[.agg #[.int .u8 (h.tos : Nat), .int .u16 (h.id : Nat), .bool h.ev, .bool h.df, .bool h.mf, .int .i64 h.off, .int .u8 (h.ttl : Nat), .int .u8 (h.pr : Nat), .int .u32 (h.src : Nat), .int .u32 (h.dst : Nat), .slice a m c], .agg #[.int .u8 (o.tos : Nat), .int .u16 (o.id : Nat), .bool o.ev, .bool o.df, .bool o.mf, .int .i64 o.off, .int .u8 (o.ttl : Nat), .int .u8 (o.pr : Nat), .int .u32 (o.src : Nat), .int .u32 (o.dst : Nat), .slice a' n c']] w fun e w' => e = .returned (.bool (sameB h o O R)) ∧ Below w.heap.size w w' := by
  by_cases e0 : h.tos = o.tos
  rotate_left
  · refine (sw0 h o a a' c c' m n w e0).mono ?_
    rintro e w' ⟨rfl, hb⟩
    exact ⟨ret_b (by unfold sameB; simp [e0]), hb⟩
  by_cases e1 : h.id = o.id
  rotate_left
  · refine (sw1 h o a a' c c' m n w e0 e1).mono ?_
    rintro e w' ⟨rfl, hb⟩
    exact ⟨ret_b (by unfold sameB; simp [e0, e1]), hb⟩
  by_cases e2 : h.ev = o.ev
  rotate_left
  · refine (sw2 h o a a' c c' m n w e0 e1 e2).mono ?_
    rintro e w' ⟨rfl, hb⟩
    exact ⟨ret_b (by unfold sameB; simp [e0, e1, e2]), hb⟩
  by_cases e3 : h.df = o.df
  rotate_left
  · refine (sw3 h o a a' c c' m n w e0 e1 e2 e3).mono ?_
    rintro e w' ⟨rfl, hb⟩
    exact ⟨ret_b (by unfold sameB; simp [e0, e1, e2, e3]), hb⟩
  by_cases e4 : h.mf = o.mf
  rotate_left
  · refine (sw4 h o a a' c c' m n w e0 e1 e2 e3 e4).mono ?_
    rintro e w' ⟨rfl, hb⟩
    exact ⟨ret_b (by unfold sameB; simp [e0, e1, e2, e3, e4]), hb⟩
  by_cases e5 : h.off = o.off
  rotate_left
  · refine (sw5 h o a a' c c' m n w e0 e1 e2 e3 e4 e5).mono ?_
    rintro e w' ⟨rfl, hb⟩
    exact ⟨ret_b (by unfold sameB; simp [e0, e1, e2, e3, e4, e5]), hb⟩
  by_cases e6 : h.ttl = o.ttl
  rotate_left
  · refine (sw6 h o a a' c c' m n w e0 e1 e2 e3 e4 e5 e6).mono ?_
    rintro e w' ⟨rfl, hb⟩
    exact ⟨ret_b (by unfold sameB; simp [e0, e1, e2, e3, e4, e5, e6]), hb⟩
  by_cases e7 : h.pr = o.pr
  rotate_left
  · refine (sw7 h o a a' c c' m n w e0 e1 e2 e3 e4 e5 e6 e7).mono ?_
    rintro e w' ⟨rfl, hb⟩
    exact ⟨ret_b (by unfold sameB; simp [e0, e1, e2, e3, e4, e5, e6, e7]), hb⟩
  by_cases e8 : h.src = o.src
  rotate_left
  · refine (sw8 h o a a' c c' m n w e0 e1 e2 e3 e4 e5 e6 e7 e8).mono ?_
    rintro e w' ⟨rfl, hb⟩
    exact ⟨ret_b (by unfold sameB; simp [e0, e1, e2, e3, e4, e5, e6, e7, e8]), hb⟩
  by_cases e9 : h.dst = o.dst
  rotate_left
  · refine (sw9 h o a a' c c' m n w e0 e1 e2 e3 e4 e5 e6 e7 e8 e9).mono ?_
    rintro e w' ⟨rfl, hb⟩
    exact ⟨ret_b (by unfold sameB; simp [e0, e1, e2, e3, e4, e5, e6, e7, e8, e9]), hb⟩
  refine (sw10 h o a a' c c' m n O R w e0 e1 e2 e3 e4 e5 e6 e7 e8 e9 hu hv).mono ?_
  rintro e w' ⟨rfl, hb⟩
  exact ⟨ret_b (by unfold sameB; simp [e0, e1, e2, e3, e4, e5, e6, e7, e8, e9]), hb⟩
set_option maxHeartbeats 4000000 in
set_option maxRecDepth 100000 in
theorem sr0 (h o : Hd) (a a' : Option Addr) (c c' m n : Nat) (w : World) (n0 : h.tos ≠ o.tos) :
    Calls Try.prog 13 #[.agg #[.int .u8 (h.tos : Nat), .int .u16 (h.id : Nat), .bool h.ev, .bool h.df, .bool h.mf, .int .i64 h.off, .int .u8 (h.ttl : Nat), .int .u8 (h.pr : Nat), .int .u32 (h.src : Nat), .int .u32 (h.dst : Nat), .slice a m c], .agg #[.int .u8 (o.tos : Nat), .int .u16 (o.id : Nat), .bool o.ev, .bool o.df, .bool o.mf, .int .i64 o.off, .int .u8 (o.ttl : Nat), .int .u8 (o.pr : Nat), .int .u32 (o.src : Nat), .int .u32 (o.dst : Nat), .slice a' n c']] w fun e w' => e = .returned (.bool (false)) ∧ Below w.heap.size w w' := by
  have t0 := natb_f n0
  clear n0
  go_enter Try.func13, Try.ntmps13
  go_wp2_with fail
  go_ret
  exact ⟨rfl, by go_grown⟩
set_option maxHeartbeats 4000000 in
set_option maxRecDepth 100000 in
theorem sr1 (h o : Hd) (a a' : Option Addr) (c c' m n : Nat) (w : World) (e0 : h.tos = o.tos) (n1 : h.id ≠ o.id) :
    Calls Try.prog 13 #[.agg #[.int .u8 (h.tos : Nat), .int .u16 (h.id : Nat), .bool h.ev, .bool h.df, .bool h.mf, .int .i64 h.off, .int .u8 (h.ttl : Nat), .int .u8 (h.pr : Nat), .int .u32 (h.src : Nat), .int .u32 (h.dst : Nat), .slice a m c], .agg #[.int .u8 (o.tos : Nat), .int .u16 (o.id : Nat), .bool o.ev, .bool o.df, .bool o.mf, .int .i64 o.off, .int .u8 (o.ttl : Nat), .int .u8 (o.pr : Nat), .int .u32 (o.src : Nat), .int .u32 (o.dst : Nat), .slice a' n c']] w fun e w' => e = .returned (.bool (false)) ∧ Below w.heap.size w w' := by
  have t0 := natb_t e0
  have t1 := natb_f n1
  clear e0 n1
  go_enter Try.func13, Try.ntmps13
  go_wp2_with fail
  go_ret
  exact ⟨rfl, by go_grown⟩
set_option maxHeartbeats 4000000 in
set_option maxRecDepth 100000 in
theorem sr2 (h o : Hd) (a a' : Option Addr) (c c' m n : Nat) (w : World) (e0 : h.tos = o.tos) (e1 : h.id = o.id) (n2 : h.ev ≠ o.ev) :
    Calls Try.prog 13 #[.agg #[.int .u8 (h.tos : Nat), .int .u16 (h.id : Nat), .bool h.ev, .bool h.df, .bool h.mf, .int .i64 h.off, .int .u8 (h.ttl : Nat), .int .u8 (h.pr : Nat), .int .u32 (h.src : Nat), .int .u32 (h.dst : Nat), .slice a m c], .agg #[.int .u8 (o.tos : Nat), .int .u16 (o.id : Nat), .bool o.ev, .bool o.df, .bool o.mf, .int .i64 o.off, .int .u8 (o.ttl : Nat), .int .u8 (o.pr : Nat), .int .u32 (o.src : Nat), .int .u32 (o.dst : Nat), .slice a' n c']] w fun e w' => e = .returned (.bool (false)) ∧ Below w.heap.size w w' := by
  have t0 := natb_t e0
  have t1 := natb_t e1
  have t2 : (h.ev == o.ev) = false := by rw [beq_eq_false_iff_ne]; exact n2
  clear e0 e1 n2
  go_enter Try.func13, Try.ntmps13
  go_wp2_with fail
  go_ret
  exact ⟨rfl, by go_grown⟩
set_option maxHeartbeats 4000000 in
set_option maxRecDepth 100000 in
theorem sr3 (h o : Hd) (a a' : Option Addr) (c c' m n : Nat) (w : World) (e0 : h.tos = o.tos) (e1 : h.id = o.id) (e2 : h.ev = o.ev) (n3 : h.df ≠ o.df) :
    Calls Try.prog 13 #[.agg #[.int .u8 (h.tos : Nat), .int .u16 (h.id : Nat), .bool h.ev, .bool h.df, .bool h.mf, .int .i64 h.off, .int .u8 (h.ttl : Nat), .int .u8 (h.pr : Nat), .int .u32 (h.src : Nat), .int .u32 (h.dst : Nat), .slice a m c], .agg #[.int .u8 (o.tos : Nat), .int .u16 (o.id : Nat), .bool o.ev, .bool o.df, .bool o.mf, .int .i64 o.off, .int .u8 (o.ttl : Nat), .int .u8 (o.pr : Nat), .int .u32 (o.src : Nat), .int .u32 (o.dst : Nat), .slice a' n c']] w fun e w' => e = .returned (.bool (false)) ∧ Below w.heap.size w w' := by
  have t0 := natb_t e0
  have t1 := natb_t e1
  have t2 : (h.ev == o.ev) = true := by rw [e2]; simp
  have t3 : (h.df == o.df) = false := by rw [beq_eq_false_iff_ne]; exact n3
  clear e0 e1 e2 n3
  go_enter Try.func13, Try.ntmps13
  go_wp2_with fail
  go_ret
  exact ⟨rfl, by go_grown⟩
set_option maxHeartbeats 4000000 in
set_option maxRecDepth 100000 in
theorem sr4 (h o : Hd) (a a' : Option Addr) (c c' m n : Nat) (w : World) (e0 : h.tos = o.tos) (e1 : h.id = o.id) (e2 : h.ev = o.ev) (e3 : h.df = o.df) (n4 : h.mf ≠ o.mf) :
    Calls Try.prog 13 #[.agg #[.int .u8 (h.tos : Nat), .int .u16 (h.id : Nat), .bool h.ev, .bool h.df, .bool h.mf, .int .i64 h.off, .int .u8 (h.ttl : Nat), .int .u8 (h.pr : Nat), .int .u32 (h.src : Nat), .int .u32 (h.dst : Nat), .slice a m c], .agg #[.int .u8 (o.tos : Nat), .int .u16 (o.id : Nat), .bool o.ev, .bool o.df, .bool o.mf, .int .i64 o.off, .int .u8 (o.ttl : Nat), .int .u8 (o.pr : Nat), .int .u32 (o.src : Nat), .int .u32 (o.dst : Nat), .slice a' n c']] w fun e w' => e = .returned (.bool (false)) ∧ Below w.heap.size w w' := by
  have t0 := natb_t e0
  have t1 := natb_t e1
  have t2 : (h.ev == o.ev) = true := by rw [e2]; simp
  have t3 : (h.df == o.df) = true := by rw [e3]; simp
  have t4 : (h.mf == o.mf) = false := by rw [beq_eq_false_iff_ne]; exact n4
  clear e0 e1 e2 e3 n4
  go_enter Try.func13, Try.ntmps13
  go_wp2_with fail
  go_ret
  exact ⟨rfl, by go_grown⟩
set_option maxHeartbeats 4000000 in
set_option maxRecDepth 100000 in
theorem sr5 (h o : Hd) (a a' : Option Addr) (c c' m n : Nat) (w : World) (e0 : h.tos = o.tos) (e1 : h.id = o.id) (e2 : h.ev = o.ev) (e3 : h.df = o.df) (e4 : h.mf = o.mf) (n5 : h.off ≠ o.off) :
    Calls Try.prog 13 #[.agg #[.int .u8 (h.tos : Nat), .int .u16 (h.id : Nat), .bool h.ev, .bool h.df, .bool h.mf, .int .i64 h.off, .int .u8 (h.ttl : Nat), .int .u8 (h.pr : Nat), .int .u32 (h.src : Nat), .int .u32 (h.dst : Nat), .slice a m c], .agg #[.int .u8 (o.tos : Nat), .int .u16 (o.id : Nat), .bool o.ev, .bool o.df, .bool o.mf, .int .i64 o.off, .int .u8 (o.ttl : Nat), .int .u8 (o.pr : Nat), .int .u32 (o.src : Nat), .int .u32 (o.dst : Nat), .slice a' n c']] w fun e w' => e = .returned (.bool (false)) ∧ Below w.heap.size w w' := by
  have t0 := natb_t e0
  have t1 := natb_t e1
  have t2 : (h.ev == o.ev) = true := by rw [e2]; simp
  have t3 : (h.df == o.df) = true := by rw [e3]; simp
  have t4 : (h.mf == o.mf) = true := by rw [e4]; simp
  have t5 : (h.off == o.off) = false := by rw [beq_eq_false_iff_ne]; exact n5
  clear e0 e1 e2 e3 e4 n5
  go_enter Try.func13, Try.ntmps13
  go_wp2_with fail
  go_ret
  exact ⟨rfl, by go_grown⟩
set_option maxHeartbeats 4000000 in
set_option maxRecDepth 100000 in
theorem sr6 (h o : Hd) (a a' : Option Addr) (c c' m n : Nat) (w : World) (e0 : h.tos = o.tos) (e1 : h.id = o.id) (e2 : h.ev = o.ev) (e3 : h.df = o.df) (e4 : h.mf = o.mf) (e5 : h.off = o.off) (n6 : h.ttl ≠ o.ttl) :
    Calls Try.prog 13 #[.agg #[.int .u8 (h.tos : Nat), .int .u16 (h.id : Nat), .bool h.ev, .bool h.df, .bool h.mf, .int .i64 h.off, .int .u8 (h.ttl : Nat), .int .u8 (h.pr : Nat), .int .u32 (h.src : Nat), .int .u32 (h.dst : Nat), .slice a m c], .agg #[.int .u8 (o.tos : Nat), .int .u16 (o.id : Nat), .bool o.ev, .bool o.df, .bool o.mf, .int .i64 o.off, .int .u8 (o.ttl : Nat), .int .u8 (o.pr : Nat), .int .u32 (o.src : Nat), .int .u32 (o.dst : Nat), .slice a' n c']] w fun e w' => e = .returned (.bool (false)) ∧ Below w.heap.size w w' := by
  have t0 := natb_t e0
  have t1 := natb_t e1
  have t2 : (h.ev == o.ev) = true := by rw [e2]; simp
  have t3 : (h.df == o.df) = true := by rw [e3]; simp
  have t4 : (h.mf == o.mf) = true := by rw [e4]; simp
  have t5 : (h.off == o.off) = true := by rw [e5]; simp
  have t6 := natb_f n6
  clear e0 e1 e2 e3 e4 e5 n6
  go_enter Try.func13, Try.ntmps13
  go_wp2_with fail
  go_ret
  exact ⟨rfl, by go_grown⟩
set_option maxHeartbeats 4000000 in
set_option maxRecDepth 100000 in
theorem sr7 (h o : Hd) (a a' : Option Addr) (c c' m n : Nat) (w : World) (e0 : h.tos = o.tos) (e1 : h.id = o.id) (e2 : h.ev = o.ev) (e3 : h.df = o.df) (e4 : h.mf = o.mf) (e5 : h.off = o.off) (e6 : h.ttl = o.ttl) (n7 : h.pr ≠ o.pr) :
    Calls Try.prog 13 #[.agg #[.int .u8 (h.tos : Nat), .int .u16 (h.id : Nat), .bool h.ev, .bool h.df, .bool h.mf, .int .i64 h.off, .int .u8 (h.ttl : Nat), .int .u8 (h.pr : Nat), .int .u32 (h.src : Nat), .int .u32 (h.dst : Nat), .slice a m c], .agg #[.int .u8 (o.tos : Nat), .int .u16 (o.id : Nat), .bool o.ev, .bool o.df, .bool o.mf, .int .i64 o.off, .int .u8 (o.ttl : Nat), .int .u8 (o.pr : Nat), .int .u32 (o.src : Nat), .int .u32 (o.dst : Nat), .slice a' n c']] w fun e w' => e = .returned (.bool (false)) ∧ Below w.heap.size w w' := by
  have t0 := natb_t e0
  have t1 := natb_t e1
  have t2 : (h.ev == o.ev) = true := by rw [e2]; simp
  have t3 : (h.df == o.df) = true := by rw [e3]; simp
  have t4 : (h.mf == o.mf) = true := by rw [e4]; simp
  have t5 : (h.off == o.off) = true := by rw [e5]; simp
  have t6 := natb_t e6
  have t7 := natb_f n7
  clear e0 e1 e2 e3 e4 e5 e6 n7
  go_enter Try.func13, Try.ntmps13
  go_wp2_with fail
  go_ret
  exact ⟨rfl, by go_grown⟩
set_option maxHeartbeats 4000000 in
set_option maxRecDepth 100000 in
theorem sr8 (h o : Hd) (a a' : Option Addr) (c c' m n : Nat) (w : World) (e0 : h.tos = o.tos) (e1 : h.id = o.id) (e2 : h.ev = o.ev) (e3 : h.df = o.df) (e4 : h.mf = o.mf) (e5 : h.off = o.off) (e6 : h.ttl = o.ttl) (e7 : h.pr = o.pr) (n8 : h.src ≠ o.src) :
    Calls Try.prog 13 #[.agg #[.int .u8 (h.tos : Nat), .int .u16 (h.id : Nat), .bool h.ev, .bool h.df, .bool h.mf, .int .i64 h.off, .int .u8 (h.ttl : Nat), .int .u8 (h.pr : Nat), .int .u32 (h.src : Nat), .int .u32 (h.dst : Nat), .slice a m c], .agg #[.int .u8 (o.tos : Nat), .int .u16 (o.id : Nat), .bool o.ev, .bool o.df, .bool o.mf, .int .i64 o.off, .int .u8 (o.ttl : Nat), .int .u8 (o.pr : Nat), .int .u32 (o.src : Nat), .int .u32 (o.dst : Nat), .slice a' n c']] w fun e w' => e = .returned (.bool (false)) ∧ Below w.heap.size w w' := by
  have t0 := natb_t e0
  have t1 := natb_t e1
  have t2 : (h.ev == o.ev) = true := by rw [e2]; simp
  have t3 : (h.df == o.df) = true := by rw [e3]; simp
  have t4 : (h.mf == o.mf) = true := by rw [e4]; simp
  have t5 : (h.off == o.off) = true := by rw [e5]; simp
  have t6 := natb_t e6
  have t7 := natb_t e7
  have t8 := natb_f n8
  clear e0 e1 e2 e3 e4 e5 e6 e7 n8
  go_enter Try.func13, Try.ntmps13
  go_wp2_with fail
  go_ret
  exact ⟨rfl, by go_grown⟩
set_option maxHeartbeats 4000000 in
set_option maxRecDepth 100000 in
theorem sr9 (h o : Hd) (a a' : Option Addr) (c c' m n : Nat) (w : World) (e0 : h.tos = o.tos) (e1 : h.id = o.id) (e2 : h.ev = o.ev) (e3 : h.df = o.df) (e4 : h.mf = o.mf) (e5 : h.off = o.off) (e6 : h.ttl = o.ttl) (e7 : h.pr = o.pr) (e8 : h.src = o.src) (n9 : h.dst ≠ o.dst) :
    Calls Try.prog 13 #[.agg #[.int .u8 (h.tos : Nat), .int .u16 (h.id : Nat), .bool h.ev, .bool h.df, .bool h.mf, .int .i64 h.off, .int .u8 (h.ttl : Nat), .int .u8 (h.pr : Nat), .int .u32 (h.src : Nat), .int .u32 (h.dst : Nat), .slice a m c], .agg #[.int .u8 (o.tos : Nat), .int .u16 (o.id : Nat), .bool o.ev, .bool o.df, .bool o.mf, .int .i64 o.off, .int .u8 (o.ttl : Nat), .int .u8 (o.pr : Nat), .int .u32 (o.src : Nat), .int .u32 (o.dst : Nat), .slice a' n c']] w fun e w' => e = .returned (.bool (false)) ∧ Below w.heap.size w w' := by
  have t0 := natb_t e0
  have t1 := natb_t e1
  have t2 : (h.ev == o.ev) = true := by rw [e2]; simp
  have t3 : (h.df == o.df) = true := by rw [e3]; simp
  have t4 : (h.mf == o.mf) = true := by rw [e4]; simp
  have t5 : (h.off == o.off) = true := by rw [e5]; simp
  have t6 := natb_t e6
  have t7 := natb_t e7
  have t8 := natb_t e8
  have t9 := natb_f n9
  clear e0 e1 e2 e3 e4 e5 e6 e7 e8 n9
  go_enter Try.func13, Try.ntmps13
  go_wp2_with fail
  go_ret
  exact ⟨rfl, by go_grown⟩
set_option maxHeartbeats 4000000 in
set_option maxRecDepth 100000 in
theorem sr10 (h o : Hd) (a a' : Option Addr) (c c' m n : Nat) (O R : List UInt8) (w : World) (e0 : h.tos = o.tos) (e1 : h.id = o.id) (e2 : h.ev = o.ev) (e3 : h.df = o.df) (e4 : h.mf = o.mf) (e5 : h.off = o.off) (e6 : h.ttl = o.ttl) (e7 : h.pr = o.pr) (e8 : h.src = o.src) (e9 : h.dst = o.dst) (hu : Bytes w (.slice a m c) O) (hv : Bytes w (.slice a' n c') R) :
    Calls Try.prog 13 #[.agg #[.int .u8 (h.tos : Nat), .int .u16 (h.id : Nat), .bool h.ev, .bool h.df, .bool h.mf, .int .i64 h.off, .int .u8 (h.ttl : Nat), .int .u8 (h.pr : Nat), .int .u32 (h.src : Nat), .int .u32 (h.dst : Nat), .slice a m c], .agg #[.int .u8 (o.tos : Nat), .int .u16 (o.id : Nat), .bool o.ev, .bool o.df, .bool o.mf, .int .i64 o.off, .int .u8 (o.ttl : Nat), .int .u8 (o.pr : Nat), .int .u32 (o.src : Nat), .int .u32 (o.dst : Nat), .slice a' n c']] w fun e w' => e = .returned (.bool (O == R)) ∧ Below w.heap.size w w' := by
  have t0 := natb_t e0
  have t1 := natb_t e1
  have t2 : (h.ev == o.ev) = true := by rw [e2]; simp
  have t3 : (h.df == o.df) = true := by rw [e3]; simp
  have t4 : (h.mf == o.mf) = true := by rw [e4]; simp
  have t5 : (h.off == o.off) = true := by rw [e5]; simp
  have t6 := natb_t e6
  have t7 := natb_t e7
  have t8 := natb_t e8
  have t9 := natb_t e9
  clear e0 e1 e2 e3 e4 e5 e6 e7 e8 e9
  have hb : Below w.heap.size w ((w.alloc (.cells #[.int .u8 (h.tos : Nat), .int .u16 (h.id : Nat), .bool h.ev, .bool h.df, .bool h.mf, .int .i64 h.off, .int .u8 (h.ttl : Nat), .int .u8 (h.pr : Nat), .int .u32 (h.src : Nat), .int .u32 (h.dst : Nat), .slice a m c] 28)).alloc (.cells #[.int .u8 (o.tos : Nat), .int .u16 (o.id : Nat), .bool o.ev, .bool o.df, .bool o.mf, .int .i64 o.off, .int .u8 (o.ttl : Nat), .int .u8 (o.pr : Nat), .int .u32 (o.src : Nat), .int .u32 (o.dst : Nat), .slice a' n c'] 28)) := by go_grown
  have hq1 := (hu.later hb).str (P := Try.prog) (src := 22) (dst := 9) Try.underlying22 Try.underlying5 Try.underlying9
  have hq2 := (hv.later hb).str (P := Try.prog) (src := 22) (dst := 9) Try.underlying22 Try.underlying5 Try.underlying9
  have HB := Lib.hid hb
  clear hu hv hb
  go_enter Try.func13, Try.ntmps13
  go_wp2_with fail
  go_ret
  exact ⟨ret_b (by simp), HB.out⟩
theorem sameR_any (h o : Hd) (a a' : Option Addr) (c c' m n : Nat) (O R : List UInt8) (w : World) (hu : Bytes w (.slice a m c) O) (hv : Bytes w (.slice a' n c') R) :
    Calls Try.prog 13 #[.agg #[.int .u8 (h.tos : Nat), .int .u16 (h.id : Nat), .bool h.ev, .bool h.df, .bool h.mf, .int .i64 h.off, .int .u8 (h.ttl : Nat), .int .u8 (h.pr : Nat), .int .u32 (h.src : Nat), .int .u32 (h.dst : Nat), .slice a m c], .agg #[.int .u8 (o.tos : Nat), .int .u16 (o.id : Nat), .bool o.ev, .bool o.df, .bool o.mf, .int .i64 o.off, .int .u8 (o.ttl : Nat), .int .u8 (o.pr : Nat), .int .u32 (o.src : Nat), .int .u32 (o.dst : Nat), .slice a' n c']] w fun e w' => e = .returned (.bool (sameB h o O R)) ∧ Below w.heap.size w w' := by
  by_cases e0 : h.tos = o.tos
  rotate_left
  · refine (sr0 h o a a' c c' m n w e0).mono ?_
    rintro e w' ⟨rfl, hb⟩
    exact ⟨ret_b (by unfold sameB; simp [e0]), hb⟩
  by_cases e1 : h.id = o.id
  rotate_left
  · refine (sr1 h o a a' c c' m n w e0 e1).mono ?_
    rintro e w' ⟨rfl, hb⟩
    exact ⟨ret_b (by unfold sameB; simp [e0, e1]), hb⟩
  by_cases e2 : h.ev = o.ev
  rotate_left
  · refine (sr2 h o a a' c c' m n w e0 e1 e2).mono ?_
    rintro e w' ⟨rfl, hb⟩
    exact ⟨ret_b (by unfold sameB; simp [e0, e1, e2]), hb⟩
  by_cases e3 : h.df = o.df
  rotate_left
  · refine (sr3 h o a a' c c' m n w e0 e1 e2 e3).mono ?_
    rintro e w' ⟨rfl, hb⟩
    exact ⟨ret_b (by unfold sameB; simp [e0, e1, e2, e3]), hb⟩
  by_cases e4 : h.mf = o.mf
  rotate_left
  · refine (sr4 h o a a' c c' m n w e0 e1 e2 e3 e4).mono ?_
    rintro e w' ⟨rfl, hb⟩
    exact ⟨ret_b (by unfold sameB; simp [e0, e1, e2, e3, e4]), hb⟩
  by_cases e5 : h.off = o.off
  rotate_left
  · refine (sr5 h o a a' c c' m n w e0 e1 e2 e3 e4 e5).mono ?_
    rintro e w' ⟨rfl, hb⟩
    exact ⟨ret_b (by unfold sameB; simp [e0, e1, e2, e3, e4, e5]), hb⟩
  by_cases e6 : h.ttl = o.ttl
  rotate_left
  · refine (sr6 h o a a' c c' m n w e0 e1 e2 e3 e4 e5 e6).mono ?_
    rintro e w' ⟨rfl, hb⟩
    exact ⟨ret_b (by unfold sameB; simp [e0, e1, e2, e3, e4, e5, e6]), hb⟩
  by_cases e7 : h.pr = o.pr
  rotate_left
  · refine (sr7 h o a a' c c' m n w e0 e1 e2 e3 e4 e5 e6 e7).mono ?_
    rintro e w' ⟨rfl, hb⟩
    exact ⟨ret_b (by unfold sameB; simp [e0, e1, e2, e3, e4, e5, e6, e7]), hb⟩
  by_cases e8 : h.src = o.src
  rotate_left
  · refine (sr8 h o a a' c c' m n w e0 e1 e2 e3 e4 e5 e6 e7 e8).mono ?_
    rintro e w' ⟨rfl, hb⟩
    exact ⟨ret_b (by unfold sameB; simp [e0, e1, e2, e3, e4, e5, e6, e7, e8]), hb⟩
  by_cases e9 : h.dst = o.dst
  rotate_left
  · refine (sr9 h o a a' c c' m n w e0 e1 e2 e3 e4 e5 e6 e7 e8 e9).mono ?_
    rintro e w' ⟨rfl, hb⟩
    exact ⟨ret_b (by unfold sameB; simp [e0, e1, e2, e3, e4, e5, e6, e7, e8, e9]), hb⟩
  refine (sr10 h o a a' c c' m n O R w e0 e1 e2 e3 e4 e5 e6 e7 e8 e9 hu hv).mono ?_
  rintro e w' ⟨rfl, hb⟩
  exact ⟨ret_b (by unfold sameB; simp [e0, e1, e2, e3, e4, e5, e6, e7, e8, e9]), hb⟩
end Go.Proofs.Ytnhkkpcepppgoaa

namespace Go.Proofs.Ytnhkkpcepppgoaa
open Go.RowKit
attribute [local go_sem ↓] Go.wp_at_zero Go.wp_at_succ
set_option maxHeartbeats 8000000 in
set_option maxRecDepth 100000 in
theorem bytes_no (h : Hd) (oa : Option Addr) (oc : Nat) (O : List UInt8) (pa : Option Addr) (n pc : Nat) (wm : World) (hO : Bytes wm (.slice oa O.length oc) O) (hl : O.length ≤ 9223372036854775807) (hn : n ≤ 9223372036854775807)
    (hm : mayB h.off O = false ∨ 65535 - 20 - O.length < n) :
    Calls Try.prog 22 #[.agg #[.int .u8 (h.tos : Nat), .int .u16 (h.id : Nat), .bool h.ev, .bool h.df, .bool h.mf, .int .i64 h.off, .int .u8 (h.ttl : Nat), .int .u8 (h.pr : Nat), .int .u32 (h.src : Nat), .int .u32 (h.dst : Nat), .slice oa O.length oc], .slice pa n pc] wm fun e w' => e = .returned (.tuple #[.slice none 0 0, .int .i64 2]) ∧ Below wm.heap.size wm w' := by
  have hA : Below wm.heap.size wm (wm.alloc (.cells #[.int .u8 (h.tos : Nat), .int .u16 (h.id : Nat), .bool h.ev, .bool h.df, .bool h.mf, .int .i64 h.off, .int .u8 (h.ttl : Nat), .int .u8 (h.pr : Nat), .int .u32 (h.src : Nat), .int .u32 (h.dst : Nat), .slice oa O.length oc] 28)) := (Below.refl _ _).alloc (Nat.le_refl _) _
  have hsz := size_any h oa oc O _ (hO.later hA) hl
  have g0 : (n : Int) ≤ 9223372036854775807 := by omega
  cases hm2 : mayB h.off O with
  | false =>
    rw [show sizeN h.off O = 0 from by unfold sizeN; rw [hm2]; rfl] at hsz
    have HSZ := Lib.hid hsz
    have HA := Lib.hid hA
    clear hsz hO hm hm2 hl hn hA
    go_enter Try.func22, Try.ntmps22
    go_wp2_with fail
    refine HSZ.out.mono ?_
    rintro e w1 ⟨rfl, hb1⟩
    have HB1 := Lib.hid (HA.out.trans (hb1.mono HA.out.size))
    clear hb1
    go_wp2_with fail
    go_ret2
    exact ⟨rfl, HB1.out⟩
  | true =>
    obtain ⟨hl40, hl4, ho0, ho1, _⟩ := mayB_len hm2
    have hlt : 65535 - 20 - O.length < n := by rw [hm2] at hm; simpa using hm
    obtain ⟨S, hS⟩ : ∃ S, S = 20 + O.length := ⟨_, rfl⟩
    rw [show sizeN h.off O = S from by unfold sizeN; rw [hm2, hS]; rfl] at hsz
    have k1 : (S : Int) ≤ 60 := by omega
    have k2 : (20 : Int) ≤ S := by omega
    have k5 : ((S : Int) == 0) = false := by rw [beq_eq_false_iff_ne]; omega
    have k6 : (65535 - (S : Int) < n) = True := by simp; omega
    have k7 : 65535 - (S : Int) < n := by omega
    have HSZ := Lib.hid hsz
    have HA := Lib.hid hA
    clear hsz hO hm hm2 hl hn hA hS hl40 hl4 ho0 ho1 hlt
    go_enter Try.func22, Try.ntmps22
    go_wp2_with fail
    refine HSZ.out.mono ?_
    rintro e w1 ⟨rfl, hb1⟩
    have HB1 := Lib.hid (HA.out.trans (hb1.mono HA.out.size))
    clear hb1
    go_wp2_with fail
    go_ret2
    exact ⟨rfl, HB1.out⟩
end Go.Proofs.Ytnhkkpcepppgoaa

namespace Go.Proofs.Ytnhkkpcepppgoaa
open Go.RowKit
attribute [local go_sem ↓] Go.wp_at_zero Go.wp_at_succ

set_option maxRecDepth 100000 in
set_option maxHeartbeats 4000000 in
theorem parse_no (v : Value) (l : List UInt8) (hl : l.length ≤ 1000000) (wm : World) (hv : Bytes wm v l) (hf : flt l ≠ 0) :
    Calls Try.prog 11 #[v] wm fun e w' => e = .returned (.tuple #[.agg #[.int .u8 0, .int .u16 0, .bool false, .bool false, .bool false, .int .i64 0, .int .u8 0, .int .u8 0, .int .u32 0, .int .u32 0, .slice none 0 0], .slice none 0 0, .int .i64 (flt l : Nat)]) ∧ Below wm.heap.size wm w' := by
  have HV := Lib.hid hv
  obtain ⟨f, hfe⟩ : ∃ f, f = flt l := ⟨_, rfl⟩
  have hfl := fault_any v l hl
  rw [← hfe] at hf ⊢
  have HF := Lib.hid hfe
  have hA : Below wm.heap.size wm (wm.alloc (.cells #[.int .u8 0, .int .u16 0, .bool false, .bool false, .bool false, .int .i64 0, .int .u8 0, .int .u8 0, .int .u32 0, .int .u32 0, .slice none 0 0] 28)) := (Below.refl _ _).alloc (Nat.le_refl _) _
  have hfa := hfl _ (hv.later hA)
  rw [← hfe] at hfa
  have HFA := Lib.hid hfa
  have g1 : ((f : Int) != 0) = true := by rw [bne_iff_ne]; omega
  clear hfl hfe hv hf hfa
  go_enter Try.func11, Try.ntmps11
  go_wp2_with fail
  refine HFA.out.mono ?_
  rintro e w1 ⟨rfl, hb1⟩
  have hc : ∀ j x, [Value.int .u8 0, .int .u16 0, .bool false, .bool false, .bool false, .int .i64 0, .int .u8 0, .int .u8 0, .int .u32 0, .int .u32 0, .slice none 0 0][j]? = some x → w1.cell? ⟨wm.heap.size, j, none⟩ = some x := fun j x hx => cell_later hb1 (by simp; exact hx)
  have hfz : ∀ j, w1.frozen? ⟨wm.heap.size, j, none⟩ = false := fun j => by rw [hb1.frozen (p := ⟨wm.heap.size, j, none⟩) (by simp)]; simp
  have k0 := hc 0 _ rfl
  have k1 := hc 1 _ rfl
  have k2 := hc 2 _ rfl
  have k3 := hc 3 _ rfl
  have k4 := hc 4 _ rfl
  have k5 := hc 5 _ rfl
  have k6 := hc 6 _ rfl
  have k7 := hc 7 _ rfl
  have k8 := hc 8 _ rfl
  have k9 := hc 9 _ rfl
  have k10 := hc 10 _ rfl
  have hr1 : HdAt wm.heap.size hz w1 := HdAt.later (HdAt.new wm hz) hb1
  obtain ⟨s1, s2, s3, _⟩ := HdAt.set11 (show HdAt wm.heap.size hz w1 from hr1) (.int .u8 0) (.int .u16 0) (.bool false) (.bool false) (.bool false) (.int .i64 0) (.int .u8 0) (.int .u8 0) (.int .u32 0) (.int .u32 0) (.slice none 0 0)
  have Q1 := Lib.hid s1
  have Q4 := Lib.hid ((hA.trans (hb1.mono hA.size)).trans (s3 _ (Nat.le_refl _)))
  clear hc s1 s2 s3 hr1 hA hb1
  go_wp2_with fail
  have d0 := HdAt.cell Q1.out (j := 0) rfl
  have d1 := HdAt.cell Q1.out (j := 1) rfl
  have d2 := HdAt.cell Q1.out (j := 2) rfl
  have d3 := HdAt.cell Q1.out (j := 3) rfl
  have d4 := HdAt.cell Q1.out (j := 4) rfl
  have d5 := HdAt.cell Q1.out (j := 5) rfl
  have d6 := HdAt.cell Q1.out (j := 6) rfl
  have d7 := HdAt.cell Q1.out (j := 7) rfl
  have d8 := HdAt.cell Q1.out (j := 8) rfl
  have d9 := HdAt.cell Q1.out (j := 9) rfl
  have d10 := HdAt.cell Q1.out (j := 10) rfl
  exact bodyPost_ret (v := .tuple #[.agg #[.int .u8 0, .int .u16 0, .bool false, .bool false, .bool false, .int .i64 0, .int .u8 0, .int .u8 0, .int .u32 0, .int .u32 0, .slice none 0 0], .slice none 0 0, .int .i64 (f : Nat)]) (by simp [results, Try.results11, go_sem, d0, d1, d2, d3, d4, d5, d6, d7, d8, d9, d10]) rfl ⟨rfl, Q4.out⟩
end Go.Proofs.Ytnhkkpcepppgoaa
