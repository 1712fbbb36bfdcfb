/- Sets of numbers: the walks of With and Without. -/
import Derived.Test.YtbnelaoeblhndaaGreatDoorThSet
import Derived.Deep.RegionWith
import Derived.Laws.Bits64
namespace Go.Proofs.YtbnelaoeblhndaaGreatDoor
open Go.RowKit
set_option maxRecDepth 100000

theorem wpList_store_row {P : Program} {ops : Array Oper} {rest : List Oper} {op : Oper} {a : Act} {w : World} {Q : Exit → Act → World → Prop} (hgd : op.guard = none) (ty : TypeId) (x y : Operand) (ho : op.op = .store ty x y)
    (g : Nat) (hx : a.eval x = .pointer (some ⟨g, 0, none⟩)) (cs : Array Value) (hy : a.eval y = .agg cs) (t : TypeId) (cur : Array Value) (hg : w.heap[g]? = some (.cells cur t (0, 0)))
    (hi : (P.info? ty).map (·.size) = some cs.size) (hl : cur.size = cs.size) (h1 : cs.all (·.oneCell') = true)
    (h : wpList P ops Q rest (a.put op.dst undef) (w.setRow g cs)) : wpList P ops Q (op :: rest) a w :=
  wpList_plain hgd fun _ hK => wp_store_row ty x y ho g cs hx hy t cur hg hi hl h1 (hK _ _ h)

theorem Below.setRow {B : Nat} {a w : World} (h : Below B a w) {g : Nat} (hg : B ≤ g) (cs : Array Value) : Below B a (w.setRow g cs) :=
  h.trans ⟨rfl, rfl, rfl, by simp, fun k hk => setRow_other _ _ _ _ (by omega)⟩

theorem bits_bv (op : BinOp) (f : BitVec 64 → BitVec 64 → BitVec 64) (hf : ∀ a b : Int, bits op .u64 a b = IntKind.u64.wrap ((f (BitVec.ofInt 64 a) (BitVec.ofInt 64 b)).toNat : Int)) (a b : BitVec 64) :
    bits op .u64 (a.toNat : Int) (b.toNat : Int) = ((f a b).toNat : Int) := by
  have h : ∀ a : BitVec 64, BitVec.ofInt 64 (a.toNat : Int) = a := fun a => by rw [BitVec.ofInt_natCast]; simp
  rw [hf, h, h, IntKind.wrap_u64]
  have := (f a b).isLt
  omega
theorem bits_or_bv (a b : BitVec 64) : bits .or .u64 (a.toNat : Int) (b.toNat : Int) = ((a ||| b).toNat : Int) := bits_bv .or (· ||| ·) (fun _ _ => rfl) a b
theorem bits_and_bv (a b : BitVec 64) : bits .and .u64 (a.toNat : Int) (b.toNat : Int) = ((a &&& b).toNat : Int) := bits_bv .and (· &&& ·) (fun _ _ => rfl) a b
theorem bits_andNot_bv (a b : BitVec 64) : bits .andNot .u64 (a.toNat : Int) (b.toNat : Int) = ((a &&& ~~~b).toNat : Int) := bits_bv .andNot (fun a b => a &&& ~~~b) (fun _ _ => rfl) a b

theorem setC_info (ws : Bits) : (Tryz.prog.info? 107).map (·.size) = some (setC ws).size := by rw [setC_size]; exact (zero_of_info Tryz.infoSet).2
theorem zero_set : ∀ w, (zeroValue 107).run Tryz.prog w = .ok (.agg (setC zeroB)) w := (zero_of_info Tryz.infoSet).1

set_option maxHeartbeats 1000000 in
theorem with_any (ws : Bits) (id : Nat) (h : id < 4096) (w : World) :
    Calls Tryz.prog 69 #[.agg (setC ws), .int .i64 id] w fun e w' => e = .returned (.agg (setC (withB ws id))) ∧ Below w.heap.size w w' := by
  obtain ⟨Z, hz, HZ⟩ : ∃ Z, (∀ w, (zeroValue 107).run Tryz.prog w = .ok (.agg Z) w) ∧ Hid (Z = setC zeroB) := ⟨_, zero_set, rfl⟩
  have hq : (id : Int) / 64 = ((id / 64 : Nat) : Int) := by omega
  obtain ⟨k, hk⟩ : ∃ k, k = id / 64 := ⟨_, rfl⟩
  have hi : k < 64 := by omega
  have hi0 : (0 : Int) ≤ (k : Int) := by omega
  have hi1 : (k : Int) < 64 := by omega
  rw [← hk] at hq
  obtain ⟨C, hC⟩ : ∃ C, C = setC ws := ⟨_, rfl⟩
  obtain ⟨R, hR⟩ : ∃ R, R = setC (withB ws id) := ⟨_, rfl⟩
  have hC1 : C[k]? = some (.int .u64 ((ws k).toNat : Int)) := by rw [hC]; exact setC_get ws hi
  rw [← hC, ← hR]
  obtain ⟨x, hx⟩ : ∃ x, x = ((ws k).toNat : Int) := ⟨_, rfl⟩
  rw [← hx] at hC1
  have c0 : ((w.alloc (.cells C 107)).alloc (.cells Z 107)).cell? ⟨w.heap.size, k, none⟩ = some (.int .u64 x) := by
    rw [cell_of_row _ _ k C _ _ (heap_alloc2_old w _ _)]; exact hC1
  have hwk : IntKind.i64.wrap (k : Int) = (k : Int) := by rw [IntKind.wrap_i64]; omega
  obtain ⟨y, hy⟩ : ∃ y, y = ((bitB id).toNat : Int) := ⟨_, rfl⟩
  have HB : Hid (∀ w : World, Calls Tryz.prog 111 #[.int .i64 id] w fun e w' => e = .returned (.int .u64 y) ∧ w' = w) := by rw [hy]; exact bit_any id
  have HV : Hid (C.setIfInBounds k (.int .u64 (bits .or .u64 x y)) = R) := by
    show _ = _
    rw [hC, hR, hx, hy, bits_or_bv, setC_set ws hi]
    congr 1
    funext j
    unfold withB
    rw [← hk]
    by_cases e : j = k
    · subst e; simp
    · simp [e]
  have HRI : Hid _ := setC_info (withB ws id)
  have HZS : Hid (Z.size = R.size) := by show _ = _; rw [HZ.out, hR, setC_size, setC_size]
  have HR1 : Hid _ := setC_one (withB ws id)
  rw [← hR] at HRI HR1
  clear hx hy hC hR hk HZ
  go_enter Tryz.func69, Tryz.ntmps69
  go_wp2_with fail
  first | go_region_with (go_at_call 111; refine (HB.out _).mono ?_; rintro r w2 ⟨rfl, rfl⟩) | fail "stands"
  all_goals
    rw [HV.out]
    go_wp2_with (first | (refine wpList_load_row rfl 107 _ rfl w.heap.size rfl 107 R (0, 0) _ ?g1 Tryz.underlying107 rfl ?g2 ?_) | (refine wpList_store_row rfl 107 _ _ rfl (w.heap.size + 1) rfl R rfl 107 Z ?g3 ?g4 ?g5 ?g6 ?_))
    case g1 => exact heap_alloc2_old w _ _
    case g2 => exact HRI.out
    case g3 => exact heap_alloc2_new w _ _
    case g4 => exact HRI.out
    case g5 => exact HZS.out
    case g6 => exact HR1.out
    refine bodyPost_ret (v := .agg R) (results_cell_row rfl _ _ (w.heap.size + 1) 107 R (0, 0) _ rfl ?_ Tryz.underlying107 rfl HRI.out) rfl ⟨rfl, ?_⟩
    · exact setRow_heap _ _ Z _ _ _ (heap_alloc2_new w _ _)
    · exact Below.setRow ((((Below.refl _ _).alloc (Nat.le_refl _) _).alloc (by simp) _).drew) (by omega) _
set_option maxHeartbeats 1000000 in
theorem without_any (ws : Bits) (id : Nat) (h : id < 4096) (w : World) :
    Calls Tryz.prog 108 #[.agg (setC ws), .int .i64 id] w fun e w' => e = .returned (.agg (setC (withoutB ws id))) ∧ Below w.heap.size w w' := by
  obtain ⟨Z, hz, HZ⟩ : ∃ Z, (∀ w, (zeroValue 107).run Tryz.prog w = .ok (.agg Z) w) ∧ Hid (Z = setC zeroB) := ⟨_, zero_set, rfl⟩
  have hq : (id : Int) / 64 = ((id / 64 : Nat) : Int) := by omega
  obtain ⟨k, hk⟩ : ∃ k, k = id / 64 := ⟨_, rfl⟩
  have hi : k < 64 := by omega
  have hi0 : (0 : Int) ≤ (k : Int) := by omega
  have hi1 : (k : Int) < 64 := by omega
  rw [← hk] at hq
  obtain ⟨C, hC⟩ : ∃ C, C = setC ws := ⟨_, rfl⟩
  obtain ⟨R, hR⟩ : ∃ R, R = setC (withoutB ws id) := ⟨_, rfl⟩
  have hC1 : C[k]? = some (.int .u64 ((ws k).toNat : Int)) := by rw [hC]; exact setC_get ws hi
  rw [← hC, ← hR]
  obtain ⟨x, hx⟩ : ∃ x, x = ((ws k).toNat : Int) := ⟨_, rfl⟩
  rw [← hx] at hC1
  have c0 : ((w.alloc (.cells C 107)).alloc (.cells Z 107)).cell? ⟨w.heap.size, k, none⟩ = some (.int .u64 x) := by
    rw [cell_of_row _ _ k C _ _ (heap_alloc2_old w _ _)]; exact hC1
  have hwk : IntKind.i64.wrap (k : Int) = (k : Int) := by rw [IntKind.wrap_i64]; omega
  obtain ⟨y, hy⟩ : ∃ y, y = ((bitB id).toNat : Int) := ⟨_, rfl⟩
  have HB : Hid (∀ w : World, Calls Tryz.prog 111 #[.int .i64 id] w fun e w' => e = .returned (.int .u64 y) ∧ w' = w) := by rw [hy]; exact bit_any id
  have HV : Hid (C.setIfInBounds k (.int .u64 (bits .andNot .u64 x y)) = R) := by
    show _ = _
    rw [hC, hR, hx, hy, bits_andNot_bv, setC_set ws hi]
    congr 1
    funext j
    unfold withoutB
    rw [← hk]
    by_cases e : j = k
    · subst e; simp
    · simp [e]
  have HRI : Hid _ := setC_info (withoutB ws id)
  have HZS : Hid (Z.size = R.size) := by show _ = _; rw [HZ.out, hR, setC_size, setC_size]
  have HR1 : Hid _ := setC_one (withoutB ws id)
  rw [← hR] at HRI HR1
  clear hx hy hC hR hk HZ
  go_enter Tryz.func108, Tryz.ntmps108
  go_wp2_with fail
  first | go_region_with (go_at_call 111; refine (HB.out _).mono ?_; rintro r w2 ⟨rfl, rfl⟩) | fail "stands"
  all_goals
    rw [HV.out]
    go_wp2_with (first | (refine wpList_load_row rfl 107 _ rfl w.heap.size rfl 107 R (0, 0) _ ?g1 Tryz.underlying107 rfl ?g2 ?_) | (refine wpList_store_row rfl 107 _ _ rfl (w.heap.size + 1) rfl R rfl 107 Z ?g3 ?g4 ?g5 ?g6 ?_))
    case g1 => exact heap_alloc2_old w _ _
    case g2 => exact HRI.out
    case g3 => exact heap_alloc2_new w _ _
    case g4 => exact HRI.out
    case g5 => exact HZS.out
    case g6 => exact HR1.out
    refine bodyPost_ret (v := .agg R) (results_cell_row rfl _ _ (w.heap.size + 1) 107 R (0, 0) _ rfl ?_ Tryz.underlying107 rfl HRI.out) rfl ⟨rfl, ?_⟩
    · exact setRow_heap _ _ Z _ _ _ (heap_alloc2_new w _ _)
    · exact Below.setRow ((((Below.refl _ _).alloc (Nat.le_refl _) _).alloc (by simp) _).drew) (by omega) _
end Go.Proofs.YtbnelaoeblhndaaGreatDoor
