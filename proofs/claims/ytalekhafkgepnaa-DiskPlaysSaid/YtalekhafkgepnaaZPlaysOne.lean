/-
  The law's one: an operation on both disks.
-/
import Derived.Test.YtalekhafkgepnaaZDuo
namespace Go.Proofs.Ytalekhafkgepnaa
set_option linter.unusedSimpArgs false
set_option linter.unusedVariables false
open Go.RowKit
namespace Dsk
set_option linter.unusedSimpArgs false
set_option linter.unusedVariables false
/-- What an operation makes of a disk. -/
def opDo (o : OpD) (d : DiskD) : DiskD :=
  if o.kind = 0 then appD d o.file o.b else if o.kind = 1 then syncD d o.file else if o.kind = 2 then cutD d o.file o.n else if o.kind = 3 then removeD d o.file else if o.kind = 4 then armD d o.n else if o.kind = 5 then crashD d o.keep else d
abbrev BoxOp (b : Nat) (kind file nn : Int) (vb vk : Value) (W : World) : Prop := W.cell? ⟨b, 0, none⟩ = some (.int .i64 kind) ∧ W.cell? ⟨b, 1, none⟩ = some (.int .i64 file) ∧ W.cell? ⟨b, 2, none⟩ = some (.int .i64 nn) ∧ W.cell? ⟨b, 3, none⟩ = some vb ∧ W.cell? ⟨b, 4, none⟩ = some vk
theorem boxOp_drew {b : Nat} {kind file nn : Int} {vb vk : Value} {W : World} (h : BoxOp b kind file nn vb vk W) : BoxOp b kind file nn vb vk W.drew := h
theorem box_of {P : Nat → Prop} {wa W : World} {g r b : Nat} {dl dr : DiskD} {kind file nn : Int} {vb vk : Value} (h : BoxOp b kind file nn vb vk wa) (d : Duo P wa W g r dl dr) (hb : P b) : BoxOp b kind file nn vb vk W :=
  ⟨(d.cell hb 0).trans h.1, (d.cell hb 1).trans h.2.1, (d.cell hb 2).trans h.2.2.1, (d.cell hb 3).trans h.2.2.2.1, (d.cell hb 4).trans h.2.2.2.2⟩
def OnePost (P : Nat → Prop) (wa : World) (g r : Nat) (o : OpD) (d : DiskD) (e : Ending) (w' : World) : Prop := e = .returned (.bool true) ∧ Duo P wa w' g r (opDo o d) (opDo o d)
theorem onePost_mk {P : Nat → Prop} {wa : World} {g r : Nat} {o : OpD} {d : DiskD} {w' : World} (h : Duo P wa w' g r (opDo o d) (opDo o d)) : OnePost P wa g r o d (.returned (.bool true)) w' := ⟨rfl, h⟩
set_option maxRecDepth 100000 in
set_option maxHeartbeats 4000000 in
theorem one_0 (P : Nat → Prop) (wa w : World) (g r : Nat) (d : DiskD) (file nn : Int) (Ab : Option Addr) (nb cb : Nat) (bs : List UInt8) (Ak : Option Addr) (nk ck : Nat) (keep : List Int) (h : Duo P wa w g r d d)
    (hs : Sl wa Ab nb cb bs) (hP : ∀ a, Ab = some a → bs ≠ [] → P a.block) (hk : Row wa Ak nk ck (intVals keep)) (hkP : ∀ a, Ak = some a → intVals keep ≠ [] → P a.block) (hkb : nb ≤ 140737488355328) (f1 : -9223372036854775808 ≤ file) (f2 : file ≤ 9223372036854775807) (n1 : -9223372036854775808 ≤ nn) (n2 : nn ≤ 9223372036854775807) :
    Calls Try.prog 23 #[.pointer (some ⟨g, 0, none⟩), .pointer (some ⟨r, 0, none⟩), .agg #[.int .i64 0, .int .i64 file, .int .i64 nn, .slice Ab nb cb, .slice Ak nk ck]] w (OnePost P wa g r ⟨0, file, nn, bs, keep⟩ d) := by
  obtain ⟨P', hD, hPP, hbox, hleave⟩ := h.enter_box (.cells #[.int .i64 0, .int .i64 file, .int .i64 nn, .slice Ab nb cb, .slice Ak nk ck] 78)
  have hWB := whole_new w 78 #[.int .i64 0, .int .i64 file, .int .i64 nn, .slice Ab nb cb, .slice Ak nk ck]
  have hs1 : Sl (w.alloc (.cells #[.int .i64 0, .int .i64 file, .int .i64 nn, .slice Ab nb cb, .slice Ak nk ck] 78)) Ab nb cb bs := (h.sl hs hP).below ((Below.refl _ _).alloc (Nat.le_refl _) _)
  have hk1 : Row (w.alloc (.cells #[.int .i64 0, .int .i64 file, .int .i64 nn, .slice Ab nb cb, .slice Ak nk ck] 78)) Ak nk ck (intVals keep) := (h.row hk hkP).below ((Below.refl _ _).alloc (Nat.le_refl _) _)
  obtain ⟨kind, hkind⟩ : ∃ kind : Int, kind = 0 := ⟨_, rfl⟩
  have HB : Hid (BoxOp w.heap.size kind file nn (.slice Ab nb cb) (.slice Ak nk ck) (w.alloc (.cells #[.int .i64 0, .int .i64 file, .int .i64 nn, .slice Ab nb cb, .slice Ak nk ck] 78))) := hid_ (by rw [hkind]; exact ⟨hWB.cell 0 _ rfl, hWB.cell 1 _ rfl, hWB.cell 2 _ rfl, hWB.cell 3 _ rfl, hWB.cell 4 _ rfl⟩)
  have HSb := hid_ hs1
  have HSbP : Hid (∀ a, Ab = some a → bs ≠ [] → P' a.block) := hid_ (fun a e hne => hPP _ (hP a e hne))
  have HSk := hid_ hk1
  have HSkP : Hid (∀ a, Ak = some a → intVals keep ≠ [] → P' a.block) := hid_ (fun a e hne => hPP _ (hkP a e hne))
  have HPb := hid_ hbox
  have D := hid_ hD
  have HEnd := hid_ (fun (w' : World) => hleave w' (opDo ⟨0, file, nn, bs, keep⟩ d) (opDo ⟨0, file, nn, bs, keep⟩ d))
  have hneq : ∀ x : Int, (x != x) = false := fun x => by simp
  have heq : ∀ x : Int, (x == x) = true := fun x => by simp
  obtain ⟨b, hb⟩ : ∃ b, b = w.heap.size := ⟨_, rfl⟩
  obtain ⟨vb, hvb⟩ : ∃ vb, vb = Value.slice Ab nb cb := ⟨_, rfl⟩
  obtain ⟨vk, hvk⟩ : ∃ vk, vk = Value.slice Ak nk ck := ⟨_, rfl⟩
  subst hkind hb hvb hvk
  clear h hs hk hP hkP hD hPP hbox hleave hWB hs1 hk1
  have HW1 := hid_ (rfl : w.alloc (.cells #[.int .i64 0, .int .i64 file, .int .i64 nn, .slice Ab nb cb, .slice Ak nk ck] 78) = w.alloc (.cells #[.int .i64 0, .int .i64 file, .int .i64 nn, .slice Ab nb cb, .slice Ak nk ck] 78))
  go_enter Try.func23, Try.ntmps23
  have C0 := hid_ ((D.out).app_l file Ab nb cb bs HSb.out HSbP.out hkb)
  have C0d := hid_ ((D.out.drew).app_l file Ab nb cb bs HSb.out HSbP.out hkb)
  have S0 : BoxOp w.heap.size 0 file nn (.slice Ab nb cb) (.slice Ak nk ck) _ := box_of HB.out D.out HPb.out
  go_wp2_with fail
  go_region_held3 (BoxOp w.heap.size 0 file nn (.slice Ab nb cb) (.slice Ak nk ck)) (first | assumption | (refine boxOp_drew (by assumption)))
    (first
    | (go_at_call 55; (with_reducible refine Calls.mono C0.out ?_); rintro e w5 ⟨rfl, hp⟩; have D5 := hid_ hp; have S5 : BoxOp w.heap.size 0 file nn (.slice Ab nb cb) (.slice Ak nk ck) w5 := box_of HB.out hp HPb.out; have C5 := hid_ ((hp).app_r file Ab nb cb bs HSb.out HSbP.out hkb); have C5d := hid_ ((hp.drew).app_r file Ab nb cb bs HSb.out HSbP.out hkb); clear hp)
    | (go_at_call 55; (with_reducible refine Calls.mono C0d.out ?_); rintro e w5 ⟨rfl, hp⟩; have D5 := hid_ hp; have S5 : BoxOp w.heap.size 0 file nn (.slice Ab nb cb) (.slice Ak nk ck) w5 := box_of HB.out hp HPb.out; have C5 := hid_ ((hp).app_r file Ab nb cb bs HSb.out HSbP.out hkb); have C5d := hid_ ((hp.drew).app_r file Ab nb cb bs HSb.out HSbP.out hkb); clear hp)
    | (go_at_call 57; (with_reducible refine Calls.mono C5.out ?_); rintro e w6 ⟨rfl, hp⟩; have D6 := hid_ hp; have S6 : BoxOp w.heap.size 0 file nn (.slice Ab nb cb) (.slice Ak nk ck) w6 := box_of HB.out hp HPb.out; clear hp)
    | (go_at_call 57; (with_reducible refine Calls.mono C5d.out ?_); rintro e w6 ⟨rfl, hp⟩; have D6 := hid_ hp; have S6 : BoxOp w.heap.size 0 file nn (.slice Ab nb cb) (.slice Ak nk ck) w6 := box_of HB.out hp HPb.out; clear hp)
    | fail)
  go_wp2_with fail
  go_ret
  exact onePost_mk (HEnd.out _ D6.out)
set_option maxRecDepth 100000 in
set_option maxHeartbeats 4000000 in
theorem one_1 (P : Nat → Prop) (wa w : World) (g r : Nat) (d : DiskD) (file nn : Int) (Ab : Option Addr) (nb cb : Nat) (bs : List UInt8) (Ak : Option Addr) (nk ck : Nat) (keep : List Int) (h : Duo P wa w g r d d)
    (hs : Sl wa Ab nb cb bs) (hP : ∀ a, Ab = some a → bs ≠ [] → P a.block) (hk : Row wa Ak nk ck (intVals keep)) (hkP : ∀ a, Ak = some a → intVals keep ≠ [] → P a.block) (hkb : nb ≤ 140737488355328) (f1 : -9223372036854775808 ≤ file) (f2 : file ≤ 9223372036854775807) (n1 : -9223372036854775808 ≤ nn) (n2 : nn ≤ 9223372036854775807) :
    Calls Try.prog 23 #[.pointer (some ⟨g, 0, none⟩), .pointer (some ⟨r, 0, none⟩), .agg #[.int .i64 1, .int .i64 file, .int .i64 nn, .slice Ab nb cb, .slice Ak nk ck]] w (OnePost P wa g r ⟨1, file, nn, bs, keep⟩ d) := by
  obtain ⟨P', hD, hPP, hbox, hleave⟩ := h.enter_box (.cells #[.int .i64 1, .int .i64 file, .int .i64 nn, .slice Ab nb cb, .slice Ak nk ck] 78)
  have hWB := whole_new w 78 #[.int .i64 1, .int .i64 file, .int .i64 nn, .slice Ab nb cb, .slice Ak nk ck]
  have hs1 : Sl (w.alloc (.cells #[.int .i64 1, .int .i64 file, .int .i64 nn, .slice Ab nb cb, .slice Ak nk ck] 78)) Ab nb cb bs := (h.sl hs hP).below ((Below.refl _ _).alloc (Nat.le_refl _) _)
  have hk1 : Row (w.alloc (.cells #[.int .i64 1, .int .i64 file, .int .i64 nn, .slice Ab nb cb, .slice Ak nk ck] 78)) Ak nk ck (intVals keep) := (h.row hk hkP).below ((Below.refl _ _).alloc (Nat.le_refl _) _)
  obtain ⟨kind, hkind⟩ : ∃ kind : Int, kind = 1 := ⟨_, rfl⟩
  have HB : Hid (BoxOp w.heap.size kind file nn (.slice Ab nb cb) (.slice Ak nk ck) (w.alloc (.cells #[.int .i64 1, .int .i64 file, .int .i64 nn, .slice Ab nb cb, .slice Ak nk ck] 78))) := hid_ (by rw [hkind]; exact ⟨hWB.cell 0 _ rfl, hWB.cell 1 _ rfl, hWB.cell 2 _ rfl, hWB.cell 3 _ rfl, hWB.cell 4 _ rfl⟩)
  have HSb := hid_ hs1
  have HSbP : Hid (∀ a, Ab = some a → bs ≠ [] → P' a.block) := hid_ (fun a e hne => hPP _ (hP a e hne))
  have HSk := hid_ hk1
  have HSkP : Hid (∀ a, Ak = some a → intVals keep ≠ [] → P' a.block) := hid_ (fun a e hne => hPP _ (hkP a e hne))
  have HPb := hid_ hbox
  have D := hid_ hD
  have HEnd := hid_ (fun (w' : World) => hleave w' (opDo ⟨1, file, nn, bs, keep⟩ d) (opDo ⟨1, file, nn, bs, keep⟩ d))
  have hneq : ∀ x : Int, (x != x) = false := fun x => by simp
  have heq : ∀ x : Int, (x == x) = true := fun x => by simp
  obtain ⟨b, hb⟩ : ∃ b, b = w.heap.size := ⟨_, rfl⟩
  obtain ⟨vb, hvb⟩ : ∃ vb, vb = Value.slice Ab nb cb := ⟨_, rfl⟩
  obtain ⟨vk, hvk⟩ : ∃ vk, vk = Value.slice Ak nk ck := ⟨_, rfl⟩
  subst hkind hb hvb hvk
  clear h hs hk hP hkP hD hPP hbox hleave hWB hs1 hk1
  have HW1 := hid_ (rfl : w.alloc (.cells #[.int .i64 1, .int .i64 file, .int .i64 nn, .slice Ab nb cb, .slice Ak nk ck] 78) = w.alloc (.cells #[.int .i64 1, .int .i64 file, .int .i64 nn, .slice Ab nb cb, .slice Ak nk ck] 78))
  go_enter Try.func23, Try.ntmps23
  have C0 := hid_ ((D.out).sync_l file f1 f2)
  have C0d := hid_ ((D.out.drew).sync_l file f1 f2)
  have S0 : BoxOp w.heap.size 1 file nn (.slice Ab nb cb) (.slice Ak nk ck) _ := box_of HB.out D.out HPb.out
  go_wp2_with fail
  go_region_held3 (BoxOp w.heap.size 1 file nn (.slice Ab nb cb) (.slice Ak nk ck)) (first | assumption | (refine boxOp_drew (by assumption)))
    (first
    | (go_at_call 56; (with_reducible refine Calls.mono C0.out ?_); rintro e w5 ⟨rfl, hp⟩; have D5 := hid_ hp; have S5 : BoxOp w.heap.size 1 file nn (.slice Ab nb cb) (.slice Ak nk ck) w5 := box_of HB.out hp HPb.out; have C5 := hid_ ((hp).sync_r file); have C5d := hid_ ((hp.drew).sync_r file); clear hp)
    | (go_at_call 56; (with_reducible refine Calls.mono C0d.out ?_); rintro e w5 ⟨rfl, hp⟩; have D5 := hid_ hp; have S5 : BoxOp w.heap.size 1 file nn (.slice Ab nb cb) (.slice Ak nk ck) w5 := box_of HB.out hp HPb.out; have C5 := hid_ ((hp).sync_r file); have C5d := hid_ ((hp.drew).sync_r file); clear hp)
    | (go_at_call 58; (with_reducible refine Calls.mono C5.out ?_); rintro e w6 ⟨rfl, hp⟩; have D6 := hid_ hp; have S6 : BoxOp w.heap.size 1 file nn (.slice Ab nb cb) (.slice Ak nk ck) w6 := box_of HB.out hp HPb.out; clear hp)
    | (go_at_call 58; (with_reducible refine Calls.mono C5d.out ?_); rintro e w6 ⟨rfl, hp⟩; have D6 := hid_ hp; have S6 : BoxOp w.heap.size 1 file nn (.slice Ab nb cb) (.slice Ak nk ck) w6 := box_of HB.out hp HPb.out; clear hp)
    | fail)
  go_wp2_with fail
  go_ret
  exact onePost_mk (HEnd.out _ D6.out)
set_option maxRecDepth 100000 in
set_option maxHeartbeats 4000000 in
theorem one_2 (P : Nat → Prop) (wa w : World) (g r : Nat) (d : DiskD) (file nn : Int) (Ab : Option Addr) (nb cb : Nat) (bs : List UInt8) (Ak : Option Addr) (nk ck : Nat) (keep : List Int) (h : Duo P wa w g r d d)
    (hs : Sl wa Ab nb cb bs) (hP : ∀ a, Ab = some a → bs ≠ [] → P a.block) (hk : Row wa Ak nk ck (intVals keep)) (hkP : ∀ a, Ak = some a → intVals keep ≠ [] → P a.block) (hkb : nb ≤ 140737488355328) (f1 : -9223372036854775808 ≤ file) (f2 : file ≤ 9223372036854775807) (n1 : -9223372036854775808 ≤ nn) (n2 : nn ≤ 9223372036854775807) :
    Calls Try.prog 23 #[.pointer (some ⟨g, 0, none⟩), .pointer (some ⟨r, 0, none⟩), .agg #[.int .i64 2, .int .i64 file, .int .i64 nn, .slice Ab nb cb, .slice Ak nk ck]] w (OnePost P wa g r ⟨2, file, nn, bs, keep⟩ d) := by
  obtain ⟨P', hD, hPP, hbox, hleave⟩ := h.enter_box (.cells #[.int .i64 2, .int .i64 file, .int .i64 nn, .slice Ab nb cb, .slice Ak nk ck] 78)
  have hWB := whole_new w 78 #[.int .i64 2, .int .i64 file, .int .i64 nn, .slice Ab nb cb, .slice Ak nk ck]
  have hs1 : Sl (w.alloc (.cells #[.int .i64 2, .int .i64 file, .int .i64 nn, .slice Ab nb cb, .slice Ak nk ck] 78)) Ab nb cb bs := (h.sl hs hP).below ((Below.refl _ _).alloc (Nat.le_refl _) _)
  have hk1 : Row (w.alloc (.cells #[.int .i64 2, .int .i64 file, .int .i64 nn, .slice Ab nb cb, .slice Ak nk ck] 78)) Ak nk ck (intVals keep) := (h.row hk hkP).below ((Below.refl _ _).alloc (Nat.le_refl _) _)
  obtain ⟨kind, hkind⟩ : ∃ kind : Int, kind = 2 := ⟨_, rfl⟩
  have HB : Hid (BoxOp w.heap.size kind file nn (.slice Ab nb cb) (.slice Ak nk ck) (w.alloc (.cells #[.int .i64 2, .int .i64 file, .int .i64 nn, .slice Ab nb cb, .slice Ak nk ck] 78))) := hid_ (by rw [hkind]; exact ⟨hWB.cell 0 _ rfl, hWB.cell 1 _ rfl, hWB.cell 2 _ rfl, hWB.cell 3 _ rfl, hWB.cell 4 _ rfl⟩)
  have HSb := hid_ hs1
  have HSbP : Hid (∀ a, Ab = some a → bs ≠ [] → P' a.block) := hid_ (fun a e hne => hPP _ (hP a e hne))
  have HSk := hid_ hk1
  have HSkP : Hid (∀ a, Ak = some a → intVals keep ≠ [] → P' a.block) := hid_ (fun a e hne => hPP _ (hkP a e hne))
  have HPb := hid_ hbox
  have D := hid_ hD
  have HEnd := hid_ (fun (w' : World) => hleave w' (opDo ⟨2, file, nn, bs, keep⟩ d) (opDo ⟨2, file, nn, bs, keep⟩ d))
  have hneq : ∀ x : Int, (x != x) = false := fun x => by simp
  have heq : ∀ x : Int, (x == x) = true := fun x => by simp
  obtain ⟨b, hb⟩ : ∃ b, b = w.heap.size := ⟨_, rfl⟩
  obtain ⟨vb, hvb⟩ : ∃ vb, vb = Value.slice Ab nb cb := ⟨_, rfl⟩
  obtain ⟨vk, hvk⟩ : ∃ vk, vk = Value.slice Ak nk ck := ⟨_, rfl⟩
  subst hkind hb hvb hvk
  clear h hs hk hP hkP hD hPP hbox hleave hWB hs1 hk1
  have HW1 := hid_ (rfl : w.alloc (.cells #[.int .i64 2, .int .i64 file, .int .i64 nn, .slice Ab nb cb, .slice Ak nk ck] 78) = w.alloc (.cells #[.int .i64 2, .int .i64 file, .int .i64 nn, .slice Ab nb cb, .slice Ak nk ck] 78))
  go_enter Try.func23, Try.ntmps23
  have C0 := hid_ ((D.out).cut_l file nn f1 f2)
  have C0d := hid_ ((D.out.drew).cut_l file nn f1 f2)
  have S0 : BoxOp w.heap.size 2 file nn (.slice Ab nb cb) (.slice Ak nk ck) _ := box_of HB.out D.out HPb.out
  go_wp2_with fail
  go_region_held3 (BoxOp w.heap.size 2 file nn (.slice Ab nb cb) (.slice Ak nk ck)) (first | assumption | (refine boxOp_drew (by assumption)))
    (first
    | (go_at_call 38; (with_reducible refine Calls.mono C0.out ?_); rintro e w5 ⟨rfl, hp⟩; have D5 := hid_ hp; have S5 : BoxOp w.heap.size 2 file nn (.slice Ab nb cb) (.slice Ak nk ck) w5 := box_of HB.out hp HPb.out; have C5 := hid_ ((hp).cut_r file nn); have C5d := hid_ ((hp.drew).cut_r file nn); clear hp)
    | (go_at_call 38; (with_reducible refine Calls.mono C0d.out ?_); rintro e w5 ⟨rfl, hp⟩; have D5 := hid_ hp; have S5 : BoxOp w.heap.size 2 file nn (.slice Ab nb cb) (.slice Ak nk ck) w5 := box_of HB.out hp HPb.out; have C5 := hid_ ((hp).cut_r file nn); have C5d := hid_ ((hp.drew).cut_r file nn); clear hp)
    | (go_at_call 59; (with_reducible refine Calls.mono C5.out ?_); rintro e w6 ⟨rfl, hp⟩; have D6 := hid_ hp; have S6 : BoxOp w.heap.size 2 file nn (.slice Ab nb cb) (.slice Ak nk ck) w6 := box_of HB.out hp HPb.out; clear hp)
    | (go_at_call 59; (with_reducible refine Calls.mono C5d.out ?_); rintro e w6 ⟨rfl, hp⟩; have D6 := hid_ hp; have S6 : BoxOp w.heap.size 2 file nn (.slice Ab nb cb) (.slice Ak nk ck) w6 := box_of HB.out hp HPb.out; clear hp)
    | fail)
  go_wp2_with fail
  go_ret
  exact onePost_mk (HEnd.out _ D6.out)
set_option maxRecDepth 100000 in
set_option maxHeartbeats 4000000 in
theorem one_3 (P : Nat → Prop) (wa w : World) (g r : Nat) (d : DiskD) (file nn : Int) (Ab : Option Addr) (nb cb : Nat) (bs : List UInt8) (Ak : Option Addr) (nk ck : Nat) (keep : List Int) (h : Duo P wa w g r d d)
    (hs : Sl wa Ab nb cb bs) (hP : ∀ a, Ab = some a → bs ≠ [] → P a.block) (hk : Row wa Ak nk ck (intVals keep)) (hkP : ∀ a, Ak = some a → intVals keep ≠ [] → P a.block) (hkb : nb ≤ 140737488355328) (f1 : -9223372036854775808 ≤ file) (f2 : file ≤ 9223372036854775807) (n1 : -9223372036854775808 ≤ nn) (n2 : nn ≤ 9223372036854775807) :
    Calls Try.prog 23 #[.pointer (some ⟨g, 0, none⟩), .pointer (some ⟨r, 0, none⟩), .agg #[.int .i64 3, .int .i64 file, .int .i64 nn, .slice Ab nb cb, .slice Ak nk ck]] w (OnePost P wa g r ⟨3, file, nn, bs, keep⟩ d) := by
  obtain ⟨P', hD, hPP, hbox, hleave⟩ := h.enter_box (.cells #[.int .i64 3, .int .i64 file, .int .i64 nn, .slice Ab nb cb, .slice Ak nk ck] 78)
  have hWB := whole_new w 78 #[.int .i64 3, .int .i64 file, .int .i64 nn, .slice Ab nb cb, .slice Ak nk ck]
  have hs1 : Sl (w.alloc (.cells #[.int .i64 3, .int .i64 file, .int .i64 nn, .slice Ab nb cb, .slice Ak nk ck] 78)) Ab nb cb bs := (h.sl hs hP).below ((Below.refl _ _).alloc (Nat.le_refl _) _)
  have hk1 : Row (w.alloc (.cells #[.int .i64 3, .int .i64 file, .int .i64 nn, .slice Ab nb cb, .slice Ak nk ck] 78)) Ak nk ck (intVals keep) := (h.row hk hkP).below ((Below.refl _ _).alloc (Nat.le_refl _) _)
  obtain ⟨kind, hkind⟩ : ∃ kind : Int, kind = 3 := ⟨_, rfl⟩
  have HB : Hid (BoxOp w.heap.size kind file nn (.slice Ab nb cb) (.slice Ak nk ck) (w.alloc (.cells #[.int .i64 3, .int .i64 file, .int .i64 nn, .slice Ab nb cb, .slice Ak nk ck] 78))) := hid_ (by rw [hkind]; exact ⟨hWB.cell 0 _ rfl, hWB.cell 1 _ rfl, hWB.cell 2 _ rfl, hWB.cell 3 _ rfl, hWB.cell 4 _ rfl⟩)
  have HSb := hid_ hs1
  have HSbP : Hid (∀ a, Ab = some a → bs ≠ [] → P' a.block) := hid_ (fun a e hne => hPP _ (hP a e hne))
  have HSk := hid_ hk1
  have HSkP : Hid (∀ a, Ak = some a → intVals keep ≠ [] → P' a.block) := hid_ (fun a e hne => hPP _ (hkP a e hne))
  have HPb := hid_ hbox
  have D := hid_ hD
  have HEnd := hid_ (fun (w' : World) => hleave w' (opDo ⟨3, file, nn, bs, keep⟩ d) (opDo ⟨3, file, nn, bs, keep⟩ d))
  have hneq : ∀ x : Int, (x != x) = false := fun x => by simp
  have heq : ∀ x : Int, (x == x) = true := fun x => by simp
  obtain ⟨b, hb⟩ : ∃ b, b = w.heap.size := ⟨_, rfl⟩
  obtain ⟨vb, hvb⟩ : ∃ vb, vb = Value.slice Ab nb cb := ⟨_, rfl⟩
  obtain ⟨vk, hvk⟩ : ∃ vk, vk = Value.slice Ak nk ck := ⟨_, rfl⟩
  subst hkind hb hvb hvk
  clear h hs hk hP hkP hD hPP hbox hleave hWB hs1 hk1
  have HW1 := hid_ (rfl : w.alloc (.cells #[.int .i64 3, .int .i64 file, .int .i64 nn, .slice Ab nb cb, .slice Ak nk ck] 78) = w.alloc (.cells #[.int .i64 3, .int .i64 file, .int .i64 nn, .slice Ab nb cb, .slice Ak nk ck] 78))
  go_enter Try.func23, Try.ntmps23
  have C0 := hid_ ((D.out).rem_l file f1 f2)
  have C0d := hid_ ((D.out.drew).rem_l file f1 f2)
  have S0 : BoxOp w.heap.size 3 file nn (.slice Ab nb cb) (.slice Ak nk ck) _ := box_of HB.out D.out HPb.out
  go_wp2_with fail
  go_region_held3 (BoxOp w.heap.size 3 file nn (.slice Ab nb cb) (.slice Ak nk ck)) (first | assumption | (refine boxOp_drew (by assumption)))
    (first
    | (go_at_call 60; (with_reducible refine Calls.mono C0.out ?_); rintro e w5 ⟨rfl, hp⟩; have D5 := hid_ hp; have S5 : BoxOp w.heap.size 3 file nn (.slice Ab nb cb) (.slice Ak nk ck) w5 := box_of HB.out hp HPb.out; have C5 := hid_ ((hp).rem_r file); have C5d := hid_ ((hp.drew).rem_r file); clear hp)
    | (go_at_call 60; (with_reducible refine Calls.mono C0d.out ?_); rintro e w5 ⟨rfl, hp⟩; have D5 := hid_ hp; have S5 : BoxOp w.heap.size 3 file nn (.slice Ab nb cb) (.slice Ak nk ck) w5 := box_of HB.out hp HPb.out; have C5 := hid_ ((hp).rem_r file); have C5d := hid_ ((hp.drew).rem_r file); clear hp)
    | (go_at_call 61; (with_reducible refine Calls.mono C5.out ?_); rintro e w6 ⟨rfl, hp⟩; have D6 := hid_ hp; have S6 : BoxOp w.heap.size 3 file nn (.slice Ab nb cb) (.slice Ak nk ck) w6 := box_of HB.out hp HPb.out; clear hp)
    | (go_at_call 61; (with_reducible refine Calls.mono C5d.out ?_); rintro e w6 ⟨rfl, hp⟩; have D6 := hid_ hp; have S6 : BoxOp w.heap.size 3 file nn (.slice Ab nb cb) (.slice Ak nk ck) w6 := box_of HB.out hp HPb.out; clear hp)
    | fail)
  go_wp2_with fail
  go_ret
  exact onePost_mk (HEnd.out _ D6.out)
set_option maxRecDepth 100000 in
set_option maxHeartbeats 4000000 in
theorem one_4 (P : Nat → Prop) (wa w : World) (g r : Nat) (d : DiskD) (file nn : Int) (Ab : Option Addr) (nb cb : Nat) (bs : List UInt8) (Ak : Option Addr) (nk ck : Nat) (keep : List Int) (h : Duo P wa w g r d d)
    (hs : Sl wa Ab nb cb bs) (hP : ∀ a, Ab = some a → bs ≠ [] → P a.block) (hk : Row wa Ak nk ck (intVals keep)) (hkP : ∀ a, Ak = some a → intVals keep ≠ [] → P a.block) (hkb : nb ≤ 140737488355328) (f1 : -9223372036854775808 ≤ file) (f2 : file ≤ 9223372036854775807) (n1 : -9223372036854775808 ≤ nn) (n2 : nn ≤ 9223372036854775807) :
    Calls Try.prog 23 #[.pointer (some ⟨g, 0, none⟩), .pointer (some ⟨r, 0, none⟩), .agg #[.int .i64 4, .int .i64 file, .int .i64 nn, .slice Ab nb cb, .slice Ak nk ck]] w (OnePost P wa g r ⟨4, file, nn, bs, keep⟩ d) := by
  obtain ⟨P', hD, hPP, hbox, hleave⟩ := h.enter_box (.cells #[.int .i64 4, .int .i64 file, .int .i64 nn, .slice Ab nb cb, .slice Ak nk ck] 78)
  have hWB := whole_new w 78 #[.int .i64 4, .int .i64 file, .int .i64 nn, .slice Ab nb cb, .slice Ak nk ck]
  have hs1 : Sl (w.alloc (.cells #[.int .i64 4, .int .i64 file, .int .i64 nn, .slice Ab nb cb, .slice Ak nk ck] 78)) Ab nb cb bs := (h.sl hs hP).below ((Below.refl _ _).alloc (Nat.le_refl _) _)
  have hk1 : Row (w.alloc (.cells #[.int .i64 4, .int .i64 file, .int .i64 nn, .slice Ab nb cb, .slice Ak nk ck] 78)) Ak nk ck (intVals keep) := (h.row hk hkP).below ((Below.refl _ _).alloc (Nat.le_refl _) _)
  obtain ⟨kind, hkind⟩ : ∃ kind : Int, kind = 4 := ⟨_, rfl⟩
  have HB : Hid (BoxOp w.heap.size kind file nn (.slice Ab nb cb) (.slice Ak nk ck) (w.alloc (.cells #[.int .i64 4, .int .i64 file, .int .i64 nn, .slice Ab nb cb, .slice Ak nk ck] 78))) := hid_ (by rw [hkind]; exact ⟨hWB.cell 0 _ rfl, hWB.cell 1 _ rfl, hWB.cell 2 _ rfl, hWB.cell 3 _ rfl, hWB.cell 4 _ rfl⟩)
  have HSb := hid_ hs1
  have HSbP : Hid (∀ a, Ab = some a → bs ≠ [] → P' a.block) := hid_ (fun a e hne => hPP _ (hP a e hne))
  have HSk := hid_ hk1
  have HSkP : Hid (∀ a, Ak = some a → intVals keep ≠ [] → P' a.block) := hid_ (fun a e hne => hPP _ (hkP a e hne))
  have HPb := hid_ hbox
  have D := hid_ hD
  have HEnd := hid_ (fun (w' : World) => hleave w' (opDo ⟨4, file, nn, bs, keep⟩ d) (opDo ⟨4, file, nn, bs, keep⟩ d))
  have hneq : ∀ x : Int, (x != x) = false := fun x => by simp
  have heq : ∀ x : Int, (x == x) = true := fun x => by simp
  obtain ⟨b, hb⟩ : ∃ b, b = w.heap.size := ⟨_, rfl⟩
  obtain ⟨vb, hvb⟩ : ∃ vb, vb = Value.slice Ab nb cb := ⟨_, rfl⟩
  obtain ⟨vk, hvk⟩ : ∃ vk, vk = Value.slice Ak nk ck := ⟨_, rfl⟩
  subst hkind hb hvb hvk
  clear h hs hk hP hkP hD hPP hbox hleave hWB hs1 hk1
  have HW1 := hid_ (rfl : w.alloc (.cells #[.int .i64 4, .int .i64 file, .int .i64 nn, .slice Ab nb cb, .slice Ak nk ck] 78) = w.alloc (.cells #[.int .i64 4, .int .i64 file, .int .i64 nn, .slice Ab nb cb, .slice Ak nk ck] 78))
  go_enter Try.func23, Try.ntmps23
  have C0 := hid_ ((D.out).arm_l nn n2)
  have q0 := box_of HB.out D.out HPb.out
  obtain ⟨b0, b1, b2, b3, b4⟩ := q0
  go_wp2_with fail
  refine Calls.mono C0.out ?_
  rintro e w5 ⟨rfl, hp⟩
  have D5 := hid_ hp
  have C5 := hid_ ((hp).arm_r nn n2)
  clear b0 b1 b2 b3 b4
  have q0 := box_of HB.out hp HPb.out
  obtain ⟨b0, b1, b2, b3, b4⟩ := q0
  clear hp
  go_wp2_with fail
  refine Calls.mono C5.out ?_
  rintro e w6 ⟨rfl, hp⟩
  have D6 := hid_ hp
  clear hp
  go_wp2_with fail
  go_ret
  exact onePost_mk (HEnd.out _ D6.out)
set_option maxRecDepth 100000 in
set_option maxHeartbeats 4000000 in
theorem one_5 (P : Nat → Prop) (wa w : World) (g r : Nat) (d : DiskD) (file nn : Int) (Ab : Option Addr) (nb cb : Nat) (bs : List UInt8) (Ak : Option Addr) (nk ck : Nat) (keep : List Int) (h : Duo P wa w g r d d)
    (hs : Sl wa Ab nb cb bs) (hP : ∀ a, Ab = some a → bs ≠ [] → P a.block) (hk : Row wa Ak nk ck (intVals keep)) (hkP : ∀ a, Ak = some a → intVals keep ≠ [] → P a.block) (hkb : nb ≤ 140737488355328) (f1 : -9223372036854775808 ≤ file) (f2 : file ≤ 9223372036854775807) (n1 : -9223372036854775808 ≤ nn) (n2 : nn ≤ 9223372036854775807) :
    Calls Try.prog 23 #[.pointer (some ⟨g, 0, none⟩), .pointer (some ⟨r, 0, none⟩), .agg #[.int .i64 5, .int .i64 file, .int .i64 nn, .slice Ab nb cb, .slice Ak nk ck]] w (OnePost P wa g r ⟨5, file, nn, bs, keep⟩ d) := by
  obtain ⟨P', hD, hPP, hbox, hleave⟩ := h.enter_box (.cells #[.int .i64 5, .int .i64 file, .int .i64 nn, .slice Ab nb cb, .slice Ak nk ck] 78)
  have hWB := whole_new w 78 #[.int .i64 5, .int .i64 file, .int .i64 nn, .slice Ab nb cb, .slice Ak nk ck]
  have hs1 : Sl (w.alloc (.cells #[.int .i64 5, .int .i64 file, .int .i64 nn, .slice Ab nb cb, .slice Ak nk ck] 78)) Ab nb cb bs := (h.sl hs hP).below ((Below.refl _ _).alloc (Nat.le_refl _) _)
  have hk1 : Row (w.alloc (.cells #[.int .i64 5, .int .i64 file, .int .i64 nn, .slice Ab nb cb, .slice Ak nk ck] 78)) Ak nk ck (intVals keep) := (h.row hk hkP).below ((Below.refl _ _).alloc (Nat.le_refl _) _)
  obtain ⟨kind, hkind⟩ : ∃ kind : Int, kind = 5 := ⟨_, rfl⟩
  have HB : Hid (BoxOp w.heap.size kind file nn (.slice Ab nb cb) (.slice Ak nk ck) (w.alloc (.cells #[.int .i64 5, .int .i64 file, .int .i64 nn, .slice Ab nb cb, .slice Ak nk ck] 78))) := hid_ (by rw [hkind]; exact ⟨hWB.cell 0 _ rfl, hWB.cell 1 _ rfl, hWB.cell 2 _ rfl, hWB.cell 3 _ rfl, hWB.cell 4 _ rfl⟩)
  have HSb := hid_ hs1
  have HSbP : Hid (∀ a, Ab = some a → bs ≠ [] → P' a.block) := hid_ (fun a e hne => hPP _ (hP a e hne))
  have HSk := hid_ hk1
  have HSkP : Hid (∀ a, Ak = some a → intVals keep ≠ [] → P' a.block) := hid_ (fun a e hne => hPP _ (hkP a e hne))
  have HPb := hid_ hbox
  have D := hid_ hD
  have HEnd := hid_ (fun (w' : World) => hleave w' (opDo ⟨5, file, nn, bs, keep⟩ d) (opDo ⟨5, file, nn, bs, keep⟩ d))
  have hneq : ∀ x : Int, (x != x) = false := fun x => by simp
  have heq : ∀ x : Int, (x == x) = true := fun x => by simp
  obtain ⟨b, hb⟩ : ∃ b, b = w.heap.size := ⟨_, rfl⟩
  obtain ⟨vb, hvb⟩ : ∃ vb, vb = Value.slice Ab nb cb := ⟨_, rfl⟩
  obtain ⟨vk, hvk⟩ : ∃ vk, vk = Value.slice Ak nk ck := ⟨_, rfl⟩
  subst hkind hb hvb hvk
  clear h hs hk hP hkP hD hPP hbox hleave hWB hs1 hk1
  have HW1 := hid_ (rfl : w.alloc (.cells #[.int .i64 5, .int .i64 file, .int .i64 nn, .slice Ab nb cb, .slice Ak nk ck] 78) = w.alloc (.cells #[.int .i64 5, .int .i64 file, .int .i64 nn, .slice Ab nb cb, .slice Ak nk ck] 78))
  go_enter Try.func23, Try.ntmps23
  have C0 := hid_ ((D.out).crash_l Ak nk ck keep HSk.out HSkP.out)
  have q0 := box_of HB.out D.out HPb.out
  obtain ⟨b0, b1, b2, b3, b4⟩ := q0
  go_wp2_with fail
  refine Calls.mono C0.out ?_
  rintro e w5 ⟨rfl, hp⟩
  have D5 := hid_ hp
  have C5 := hid_ ((hp).crash_r Ak nk ck keep HSk.out HSkP.out)
  clear b0 b1 b2 b3 b4
  have q0 := box_of HB.out hp HPb.out
  obtain ⟨b0, b1, b2, b3, b4⟩ := q0
  clear hp
  go_wp2_with fail
  refine Calls.mono C5.out ?_
  rintro e w6 ⟨rfl, hp⟩
  have D6 := hid_ hp
  clear hp
  go_wp2_with fail
  go_ret
  exact onePost_mk (HEnd.out _ D6.out)
end Dsk
end Go.Proofs.Ytalekhafkgepnaa
