/- The chapter's example; no statement is proved here. -/
import Derived.Test.YtpkggjfaefkiiaaGlass
namespace Go.Proofs.Ytpkggjfaefkiiaa
open Go.RowKit Go.PlainAid
set_option linter.unusedVariables false

def exSi : ByteArray := ⟨#[115, 105]⟩
def exNa : ByteArray := ⟨#[110, 97]⟩
def exSand : ByteArray := ⟨#[115, 97, 110, 100]⟩
def exSoda : ByteArray := ⟨#[115, 111, 100, 97]⟩
def exB : Bat := ⟨[exSi, exNa], [⟨exSand, 1, 0, 0, 200, 20, [⟨980, 1000⟩, ⟨0, 0⟩]⟩, ⟨exSoda, 4, 0, 0, 100, 20, [⟨0, 0⟩, ⟨570, 580⟩]⟩], [⟨700, 800⟩, ⟨200, 300⟩], [], ⟨-9999, 9999⟩, 100⟩

def RetBat (w : World) (b : Bat) (e : Ending) (w' : World) : Prop := ∃ v, e = .returned v ∧ RBat (vis (w.heap.size ≤ ·) w') v b ∧ Below w.heap.size w w'

theorem Blk.vis {S : Nat → Prop} {w : World} {k : Nat} {cs : Array Value} {t : TypeId} (h : Blk w k cs t) (hS : S k) : Blk (vis S w) k cs t := by
  unfold Blk at *; rw [vis_block hS]; exact h

theorem six (w : World) (c0 c1 c2 c3 c4 c5 : Array Value) (t0 t1 t2 t3 t4 t5 : TypeId) :
    Blk ((((((w.alloc (.cells c0 t0)).alloc (.cells c1 t1)).alloc (.cells c2 t2)).alloc (.cells c3 t3)).alloc (.cells c4 t4)).alloc (.cells c5 t5)) w.heap.size c0 t0 ∧
    Blk ((((((w.alloc (.cells c0 t0)).alloc (.cells c1 t1)).alloc (.cells c2 t2)).alloc (.cells c3 t3)).alloc (.cells c4 t4)).alloc (.cells c5 t5)) (w.heap.size + 1) c1 t1 ∧
    Blk ((((((w.alloc (.cells c0 t0)).alloc (.cells c1 t1)).alloc (.cells c2 t2)).alloc (.cells c3 t3)).alloc (.cells c4 t4)).alloc (.cells c5 t5)) (w.heap.size + 1 + 1) c2 t2 ∧
    Blk ((((((w.alloc (.cells c0 t0)).alloc (.cells c1 t1)).alloc (.cells c2 t2)).alloc (.cells c3 t3)).alloc (.cells c4 t4)).alloc (.cells c5 t5)) (w.heap.size + 1 + 1 + 1) c3 t3 ∧
    Blk ((((((w.alloc (.cells c0 t0)).alloc (.cells c1 t1)).alloc (.cells c2 t2)).alloc (.cells c3 t3)).alloc (.cells c4 t4)).alloc (.cells c5 t5)) (w.heap.size + 1 + 1 + 1 + 1) c4 t4 ∧
    Blk ((((((w.alloc (.cells c0 t0)).alloc (.cells c1 t1)).alloc (.cells c2 t2)).alloc (.cells c3 t3)).alloc (.cells c4 t4)).alloc (.cells c5 t5)) (w.heap.size + 1 + 1 + 1 + 1 + 1) c5 t5 := by
  refine ⟨((((((Blk.new w c0 t0).alloc _).alloc _).alloc _).alloc _).alloc _), ?_, ?_, ?_, ?_, ?_⟩
  · have := (((((Blk.new (w.alloc (.cells c0 t0)) c1 t1).alloc (.cells c2 t2)).alloc (.cells c3 t3)).alloc (.cells c4 t4)).alloc (.cells c5 t5))
    simpa only [World.size_alloc] using this
  · have := ((((Blk.new ((w.alloc (.cells c0 t0)).alloc (.cells c1 t1)) c2 t2).alloc (.cells c3 t3)).alloc (.cells c4 t4)).alloc (.cells c5 t5))
    simpa only [World.size_alloc] using this
  · have := (((Blk.new (((w.alloc (.cells c0 t0)).alloc (.cells c1 t1)).alloc (.cells c2 t2)) c3 t3).alloc (.cells c4 t4)).alloc (.cells c5 t5))
    simpa only [World.size_alloc] using this
  · have := ((Blk.new ((((w.alloc (.cells c0 t0)).alloc (.cells c1 t1)).alloc (.cells c2 t2)).alloc (.cells c3 t3)) c4 t4).alloc (.cells c5 t5))
    simpa only [World.size_alloc] using this
  · have := Blk.new (((((w.alloc (.cells c0 t0)).alloc (.cells c1 t1)).alloc (.cells c2 t2)).alloc (.cells c3 t3)).alloc (.cells c4 t4)) c5 t5
    simpa only [World.size_alloc] using this

theorem two_at {α : Type} {R : World → Addr → α → Prop} {sz : Nat} {w : World} {k : Nat} {x y : α} (h0 : R w ⟨k, 0, none⟩ x) (h1 : R w ⟨k, sz, none⟩ y) : RSl sz R w (.slice (some ⟨k, 0, none⟩) 2 2) [x, y] := by
  refine ⟨some ⟨k, 0, none⟩, 2, rfl, Nat.le_refl _, ⟨by omega, by simp⟩, fun i hi => ⟨k, 0, rfl, ?_⟩⟩
  have hi2 : i < 2 := hi
  match i, hi2 with
  | 0, _ => simpa using h0
  | 1, _ => simpa using h1

theorem sp_at {w : World} {k : Nat} {cs : Array Value} {t : TypeId} (h : Blk w k cs t) (o : Nat) (a b : Int) (ha : cs[o]? = some (.int .i64 a)) (hb : cs[o + 1]? = some (.int .i64 b)) (ia : I64 a) (ib : I64 b) : RSp w ⟨k, o, none⟩ ⟨a, b⟩ :=
  ⟨h.cell o _ ha, h.cell (o + 1) _ hb, ia, ib⟩

theorem i64_lit {n : Int} (h : -9223372036854775808 ≤ n ∧ n ≤ 9223372036854775807) : I64 n := h

set_option maxRecDepth 100000 in
theorem example_any (w : World) : Calls Try.prog 47 #[] w (RetBat w exB) := by
  go_enter Try.func47, Try.ntmps47
  go_wp2
  obtain ⟨B0, B1, B2, B3, B4, B5⟩ := six w
    #[.slice (some ⟨w.heap.size + 1, 0, none⟩) 2 2, .slice (some ⟨w.heap.size + 1 + 1 + 1 + 1 + 1, 0, none⟩) 2 2, .slice (some ⟨w.heap.size + 1 + 1, 0, none⟩) 2 2, .slice none 0 0, .int .i64 (-9999), .int .i64 9999, .int .i64 100]
    #[.string exSi, .string exNa] #[.int .i64 700, .int .i64 800, .int .i64 200, .int .i64 300] #[.int .i64 980, .int .i64 1000, .int .i64 0, .int .i64 0] #[.int .i64 0, .int .i64 0, .int .i64 570, .int .i64 580]
    #[.string exSand, .int .i64 1, .int .i64 0, .int .i64 0, .int .i64 200, .int .i64 20, .slice (some ⟨w.heap.size + 1 + 1 + 1, 0, none⟩) 2 2, .string exSoda, .int .i64 4, .int .i64 0, .int .i64 0, .int .i64 100, .int .i64 20, .slice (some ⟨w.heap.size + 1 + 1 + 1 + 1, 0, none⟩) 2 2]
    29 9 27 27 27 68
  have hA : Below w.heap.size w ((((((w.alloc (.cells #[.slice (some ⟨w.heap.size + 1, 0, none⟩) 2 2, .slice (some ⟨w.heap.size + 1 + 1 + 1 + 1 + 1, 0, none⟩) 2 2, .slice (some ⟨w.heap.size + 1 + 1, 0, none⟩) 2 2, .slice none 0 0, .int .i64 (-9999), .int .i64 9999, .int .i64 100] 29)).alloc (.cells #[.string exSi, .string exNa] 9)).alloc (.cells #[.int .i64 700, .int .i64 800, .int .i64 200, .int .i64 300] 27)).alloc (.cells #[.int .i64 980, .int .i64 1000, .int .i64 0, .int .i64 0] 27)).alloc (.cells #[.int .i64 0, .int .i64 0, .int .i64 570, .int .i64 580] 27)).alloc (.cells #[.string exSand, .int .i64 1, .int .i64 0, .int .i64 0, .int .i64 200, .int .i64 20, .slice (some ⟨w.heap.size + 1 + 1 + 1, 0, none⟩) 2 2, .string exSoda, .int .i64 4, .int .i64 0, .int .i64 0, .int .i64 100, .int .i64 20, .slice (some ⟨w.heap.size + 1 + 1 + 1 + 1, 0, none⟩) 2 2] 68)) := by go_grown
  refine bodyPost_ret (v := .agg #[.slice (some ⟨w.heap.size + 1, 0, none⟩) 2 2, .slice (some ⟨w.heap.size + 1 + 1 + 1 + 1 + 1, 0, none⟩) 2 2, .slice (some ⟨w.heap.size + 1 + 1, 0, none⟩) 2 2, .slice none 0 0, .int .i64 (-9999), .int .i64 9999, .int .i64 100]) (by simp only [results, Try.results47]; simp [go_sem]) rfl ⟨_, rfl, ?_, hA⟩
  have V1 := B1.vis (S := (w.heap.size ≤ ·)) (by omega)
  have V2 := B2.vis (S := (w.heap.size ≤ ·)) (by omega)
  have V3 := B3.vis (S := (w.heap.size ≤ ·)) (by omega)
  have V4 := B4.vis (S := (w.heap.size ≤ ·)) (by omega)
  have V5 := B5.vis (S := (w.heap.size ≤ ·)) (by omega)
  have c3 : RSps _ (.slice (some ⟨w.heap.size + 1 + 1 + 1, 0, none⟩) 2 2) [⟨980, 1000⟩, ⟨0, 0⟩] := two_at (sp_at V3 0 _ _ rfl rfl (i64_lit (by omega)) (i64_lit (by omega))) (sp_at V3 2 _ _ rfl rfl (i64_lit (by omega)) (i64_lit (by omega)))
  have c4 : RSps _ (.slice (some ⟨w.heap.size + 1 + 1 + 1 + 1, 0, none⟩) 2 2) [⟨0, 0⟩, ⟨570, 580⟩] := two_at (sp_at V4 0 _ _ rfl rfl (i64_lit (by omega)) (i64_lit (by omega))) (sp_at V4 2 _ _ rfl rfl (i64_lit (by omega)) (i64_lit (by omega)))
  refine ⟨_, _, _, _, rfl, two_at ⟨V1.cell 0 _ rfl, by decide⟩ ⟨V1.cell 1 _ rfl, by decide⟩, two_at ?_ ?_, two_at (sp_at V2 0 _ _ rfl rfl (i64_lit (by omega)) (i64_lit (by omega))) (sp_at V2 2 _ _ rfl rfl (i64_lit (by omega)) (i64_lit (by omega))), ?_, i64_lit (by decide), i64_lit (by decide), i64_lit (by decide)⟩
  · exact ⟨_, ⟨V5.cell 0 _ rfl, V5.cell 1 _ rfl, V5.cell 2 _ rfl, V5.cell 3 _ rfl, V5.cell 4 _ rfl, V5.cell 5 _ rfl, V5.cell 6 _ rfl⟩, c3, by decide, i64_lit (by decide), i64_lit (by decide), i64_lit (by decide), i64_lit (by decide), i64_lit (by decide)⟩
  · exact ⟨_, ⟨V5.cell 7 _ rfl, V5.cell 8 _ rfl, V5.cell 9 _ rfl, V5.cell 10 _ rfl, V5.cell 11 _ rfl, V5.cell 12 _ rfl, V5.cell 13 _ rfl⟩, c4, by decide, i64_lit (by decide), i64_lit (by decide), i64_lit (by decide), i64_lit (by decide), i64_lit (by decide)⟩
  · exact ⟨none, 0, rfl, Nat.le_refl _, ⟨by omega, by simp [exB]⟩, fun i h => by simp [exB] at h⟩

end Go.Proofs.Ytpkggjfaefkiiaa
