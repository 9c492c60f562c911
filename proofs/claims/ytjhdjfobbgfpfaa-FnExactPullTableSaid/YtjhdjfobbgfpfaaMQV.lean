/- Texts on the program and its reference, put together (PiG). -/
import Derived.Test.YtjhdjfobbgfpfaaMQR
import Derived.Test.YtjhdjfobbgfpfaaMQS
import Derived.Test.YtjhdjfobbgfpfaaMQT
import Derived.Test.YtjhdjfobbgfpfaaMQU
import Derived.Test.YtjhdjfobbgfpfaaMQP
/- Contracts: pulls by the program: the makers of pulls. -/
namespace Go.Proofs.Ytjhdjfobbgfpfaa
open Go.RowKit

/-- A call gives a function value that pulls as G says, and writes nothing that was there. -/
def Gives (n0 rb cb N cc : Nat) (l : List Nd) (src : List (List Int)) (G : PF) (w : World) (e : Ending) (w' : World) : Prop :=
  ∃ fv, e = .returned fv ∧ Below w.heap.size w w' ∧ Puller n0 rb cb N cc l src G fv w'
theorem Bx.new {rb cb b : Nat} {w : World} {t : TypeId} {v : Value} (hb : b = w.heap.size) (hr : rb < w.heap.size) (hc : cb < w.heap.size) : Bx rb cb (w.alloc (.cells #[v] t)) b t v := by subst hb; exact ⟨Bk.new w t [v], by omega, by omega⟩
theorem Bx.allc {rb cb b : Nat} {w : World} {t : TypeId} {v : Value} (h : Bx rb cb w b t v) (o : Obj) : Bx rb cb (w.alloc o) b t v := ⟨h.bk.alloc o, h.nr, h.nc⟩
theorem below1 (w : World) (o1 : Obj) : Below w.heap.size w (w.alloc o1) := (Below.refl _ _).alloc (Nat.le_refl _) _
theorem below2 (w : World) (o1 o2 : Obj) : Below w.heap.size w ((w.alloc o1).alloc o2) := (below1 w o1).alloc (by simp) _
theorem below3 (w : World) (o1 o2 o3 : Obj) : Below w.heap.size w (((w.alloc o1).alloc o2).alloc o3) := (below2 w o1 o2).alloc (by simp; omega) _
theorem below4 (w : World) (o1 o2 o3 o4 : Obj) : Below w.heap.size w ((((w.alloc o1).alloc o2).alloc o3).alloc o4) := (below3 w o1 o2 o3).alloc (by simp; omega) _
theorem Changes.fr {n0 rb cb N cc : Nat} {l : List Nd} {src : List (List Int)} {i : Nat} {g : Int → Cl → Cl × Int} {gv : Value} {w w' : World} (h : Changes n0 rb cb N cc l src i g gv w) (hf : Fr n0 rb cb w w') : Changes n0 rb cb N cc l src i g gv w' := by
  obtain ⟨k, lb, e, hg, hp⟩ := h
  exact ⟨k, lb, e, hg, fun fe s W v h1 => hp fe s W v (hf.tfi h1)⟩
theorem Lets.fr {n0 rb cb N cc : Nat} {l : List Nd} {src : List (List Int)} {i : Nat} {g : Int → Cl → Cl × Bool} {gv : Value} {w w' : World} (h : Lets n0 rb cb N cc l src i g gv w) (hf : Fr n0 rb cb w w') : Lets n0 rb cb N cc l src i g gv w' := by
  obtain ⟨k, lb, e, hg, hp⟩ := h
  exact ⟨k, lb, e, hg, fun fe s W v h1 => hp fe s W v (hf.tfi h1)⟩

set_option maxRecDepth 100000 in
set_option maxHeartbeats 3200000 in
theorem c_chain {n0 rb cb N cc : Nat} {l : List Nd} {src : List (List Int)} {i : Nat} {w : World} (hr : rb < w.heap.size) (hc : cb < w.heap.size) {va : Value} {fa : PF} {ja : Nat} (hja : ja < i) (hFa : Fine l src ja fa) (hPa : Puller n0 rb cb N cc l src fa va w) {vb : Value} {fb : PF} {jb : Nat} (hjb : jb < i) (hFb : Fine l src jb fb) (hPb : Puller n0 rb cb N cc l src fb vb w) :
    Calls Try.prog 135 #[va, vb] w (Gives n0 rb cb N cc l src (chainP fa fb) w) := by
  obtain ⟨ka, lba, rfl, ega, hpa⟩ := hPa
  have Pua : Hid (Puller n0 rb cb N cc l src fa (.func (.func ka) #[] lba) w) := Lib.hid ⟨ka, lba, rfl, ega, hpa⟩
  clear ega hpa
  obtain ⟨kb, lbb, rfl, egb, hpb⟩ := hPb
  have Pub : Hid (Puller n0 rb cb N cc l src fb (.func (.func kb) #[] lbb) w) := Lib.hid ⟨kb, lbb, rfl, egb, hpb⟩
  clear egb hpb
  have Hr := Lib.hid hr
  have Hc := Lib.hid hc
  clear hr hc
  go_enter Try.func135, Try.ntmps135
  go_wp2_with fail
  refine bodyPost_ret (v := .func (.func 146) #[] #[.pointer (some ⟨w.heap.size, 0, none⟩), .pointer (some ⟨w.heap.size + 1, 0, none⟩)]) (by simp [results, Try.results135, go_sem]) rfl ?_
  have hf : Fr n0 rb cb w ((w.alloc (.cells #[.func (.func ka) #[] lba] 111)).alloc (.cells #[.func (.func kb) #[] lbb] 111)) := Fr.of_below (below2 w _ _)
  have bxa : Bx rb cb (w.alloc (.cells #[.func (.func ka) #[] lba] 111)) (w.heap.size) 111 (.func (.func ka) #[] lba) := Bx.new (by simp) (by have := Hr.out; simp; omega) (by have := Hc.out; simp; omega)
  have bxb : Bx rb cb ((w.alloc (.cells #[.func (.func ka) #[] lba] 111)).alloc (.cells #[.func (.func kb) #[] lbb] 111)) (w.heap.size + 1) 111 (.func (.func kb) #[] lbb) := Bx.new (by simp) (by have := Hr.out; simp; omega) (by have := Hc.out; simp; omega)
  exact ⟨_, rfl, below2 w _ _, _, _, rfl, enters_of Try.func146 (by kernel_rfl) rfl, i_chain hja hFa (Pua.out.fr hf) hjb hFb (Pub.out.fr hf) (bxa.allc _) bxb⟩

set_option maxRecDepth 100000 in
set_option maxHeartbeats 3200000 in
theorem c_zip {n0 rb cb N cc : Nat} {l : List Nd} {src : List (List Int)} {i : Nat} {w : World} (hr : rb < w.heap.size) (hc : cb < w.heap.size) {va : Value} {fa : PF} {ja : Nat} (hja : ja < i) (hFa : Fine l src ja fa) (hPa : Puller n0 rb cb N cc l src fa va w) {vb : Value} {fb : PF} {jb : Nat} (hjb : jb < i) (hFb : Fine l src jb fb) (hPb : Puller n0 rb cb N cc l src fb vb w) :
    Calls Try.prog 136 #[va, vb] w (Gives n0 rb cb N cc l src (zipP fa fb) w) := by
  obtain ⟨ka, lba, rfl, ega, hpa⟩ := hPa
  have Pua : Hid (Puller n0 rb cb N cc l src fa (.func (.func ka) #[] lba) w) := Lib.hid ⟨ka, lba, rfl, ega, hpa⟩
  clear ega hpa
  obtain ⟨kb, lbb, rfl, egb, hpb⟩ := hPb
  have Pub : Hid (Puller n0 rb cb N cc l src fb (.func (.func kb) #[] lbb) w) := Lib.hid ⟨kb, lbb, rfl, egb, hpb⟩
  clear egb hpb
  have Hr := Lib.hid hr
  have Hc := Lib.hid hc
  clear hr hc
  go_enter Try.func136, Try.ntmps136
  go_wp2_with fail
  refine bodyPost_ret (v := .func (.func 147) #[] #[.pointer (some ⟨w.heap.size, 0, none⟩), .pointer (some ⟨w.heap.size + 1, 0, none⟩)]) (by simp [results, Try.results136, go_sem]) rfl ?_
  have hf : Fr n0 rb cb w ((w.alloc (.cells #[.func (.func ka) #[] lba] 111)).alloc (.cells #[.func (.func kb) #[] lbb] 111)) := Fr.of_below (below2 w _ _)
  have bxa : Bx rb cb (w.alloc (.cells #[.func (.func ka) #[] lba] 111)) (w.heap.size) 111 (.func (.func ka) #[] lba) := Bx.new (by simp) (by have := Hr.out; simp; omega) (by have := Hc.out; simp; omega)
  have bxb : Bx rb cb ((w.alloc (.cells #[.func (.func ka) #[] lba] 111)).alloc (.cells #[.func (.func kb) #[] lbb] 111)) (w.heap.size + 1) 111 (.func (.func kb) #[] lbb) := Bx.new (by simp) (by have := Hr.out; simp; omega) (by have := Hc.out; simp; omega)
  exact ⟨_, rfl, below2 w _ _, _, _, rfl, enters_of Try.func147 (by kernel_rfl) rfl, i_zip hja hFa (Pua.out.fr hf) hjb hFb (Pub.out.fr hf) (bxa.allc _) bxb⟩

set_option maxRecDepth 100000 in
set_option maxHeartbeats 3200000 in
theorem c_merge {n0 rb cb N cc : Nat} {l : List Nd} {src : List (List Int)} {i : Nat} {w : World} (hr : rb < w.heap.size) (hc : cb < w.heap.size) {va : Value} {fa : PF} {ja : Nat} (hja : ja < i) (hFa : Fine l src ja fa) (hPa : Puller n0 rb cb N cc l src fa va w) {vb : Value} {fb : PF} {jb : Nat} (hjb : jb < i) (hFb : Fine l src jb fb) (hPb : Puller n0 rb cb N cc l src fb vb w) {x : Nd} (hx : l[i]? = some x) (hk9 : x.k = 9) :
    Calls Try.prog 137 #[.pointer (some ⟨cb, i * 6, none⟩), va, vb] w (Gives n0 rb cb N cc l src (mergeP i fa fb) w) := by
  obtain ⟨ka, lba, rfl, ega, hpa⟩ := hPa
  have Pua : Hid (Puller n0 rb cb N cc l src fa (.func (.func ka) #[] lba) w) := Lib.hid ⟨ka, lba, rfl, ega, hpa⟩
  clear ega hpa
  obtain ⟨kb, lbb, rfl, egb, hpb⟩ := hPb
  have Pub : Hid (Puller n0 rb cb N cc l src fb (.func (.func kb) #[] lbb) w) := Lib.hid ⟨kb, lbb, rfl, egb, hpb⟩
  clear egb hpb
  have Hr := Lib.hid hr
  have Hc := Lib.hid hc
  clear hr hc
  go_enter Try.func137, Try.ntmps137
  go_wp2_with fail
  refine bodyPost_ret (v := .func (.func 148) #[] #[.pointer (some ⟨w.heap.size, 0, none⟩), .pointer (some ⟨w.heap.size + 1, 0, none⟩), .pointer (some ⟨w.heap.size + 2, 0, none⟩)]) (by simp [results, Try.results137, go_sem]) rfl ?_
  have hf : Fr n0 rb cb w (((w.alloc (.cells #[.pointer (some ⟨cb, i * 6, none⟩)] 132)).alloc (.cells #[.func (.func ka) #[] lba] 111)).alloc (.cells #[.func (.func kb) #[] lbb] 111)) := Fr.of_below (below3 w _ _ _)
  have bxc : Bx rb cb (w.alloc (.cells #[.pointer (some ⟨cb, i * 6, none⟩)] 132)) (w.heap.size) 132 (.pointer (some ⟨cb, i * 6, none⟩)) := Bx.new (by simp) (by have := Hr.out; simp; omega) (by have := Hc.out; simp; omega)
  have bxa : Bx rb cb ((w.alloc (.cells #[.pointer (some ⟨cb, i * 6, none⟩)] 132)).alloc (.cells #[.func (.func ka) #[] lba] 111)) (w.heap.size + 1) 111 (.func (.func ka) #[] lba) := Bx.new (by simp) (by have := Hr.out; simp; omega) (by have := Hc.out; simp; omega)
  have bxb : Bx rb cb (((w.alloc (.cells #[.pointer (some ⟨cb, i * 6, none⟩)] 132)).alloc (.cells #[.func (.func ka) #[] lba] 111)).alloc (.cells #[.func (.func kb) #[] lbb] 111)) (w.heap.size + 2) 111 (.func (.func kb) #[] lbb) := Bx.new (by simp) (by have := Hr.out; simp; omega) (by have := Hc.out; simp; omega)
  exact ⟨_, rfl, below3 w _ _ _, _, _, rfl, enters_of Try.func148 (by kernel_rfl) rfl, i_merge hja hFa (Pua.out.fr hf) hjb hFb (Pub.out.fr hf) ((bxc.allc _).allc _) (bxa.allc _) bxb hx hk9⟩

set_option maxRecDepth 100000 in
set_option maxHeartbeats 3200000 in
theorem c_turn {n0 rb cb N cc : Nat} {l : List Nd} {src : List (List Int)} {i : Nat} {w : World} (hr : rb < w.heap.size) (hc : cb < w.heap.size) {va : Value} {fa : PF} {ja : Nat} (hja : ja < i) (hFa : Fine l src ja fa) (hPa : Puller n0 rb cb N cc l src fa va w) {vb : Value} {fb : PF} {jb : Nat} (hjb : jb < i) (hFb : Fine l src jb fb) (hPb : Puller n0 rb cb N cc l src fb vb w) {xa xb n m : Int} (hx : l[i]? = some ⟨10, xa, xb, n, m⟩) :
    Calls Try.prog 138 #[.pointer (some ⟨cb, i * 6, none⟩), va, vb] w (Gives n0 rb cb N cc l src (turnP i fa fb) w) := by
  obtain ⟨ka, lba, rfl, ega, hpa⟩ := hPa
  have Pua : Hid (Puller n0 rb cb N cc l src fa (.func (.func ka) #[] lba) w) := Lib.hid ⟨ka, lba, rfl, ega, hpa⟩
  clear ega hpa
  obtain ⟨kb, lbb, rfl, egb, hpb⟩ := hPb
  have Pub : Hid (Puller n0 rb cb N cc l src fb (.func (.func kb) #[] lbb) w) := Lib.hid ⟨kb, lbb, rfl, egb, hpb⟩
  clear egb hpb
  have Hr := Lib.hid hr
  have Hc := Lib.hid hc
  clear hr hc
  go_enter Try.func138, Try.ntmps138
  go_wp2_with fail
  refine bodyPost_ret (v := .func (.func 149) #[] #[.pointer (some ⟨w.heap.size + 1, 0, none⟩), .pointer (some ⟨w.heap.size + 2, 0, none⟩), .pointer (some ⟨w.heap.size, 0, none⟩)]) (by simp [results, Try.results138, go_sem]) rfl ?_
  have hf : Fr n0 rb cb w (((w.alloc (.cells #[.pointer (some ⟨cb, i * 6, none⟩)] 132)).alloc (.cells #[.func (.func ka) #[] lba] 111)).alloc (.cells #[.func (.func kb) #[] lbb] 111)) := Fr.of_below (below3 w _ _ _)
  have bxc : Bx rb cb (w.alloc (.cells #[.pointer (some ⟨cb, i * 6, none⟩)] 132)) (w.heap.size) 132 (.pointer (some ⟨cb, i * 6, none⟩)) := Bx.new (by simp) (by have := Hr.out; simp; omega) (by have := Hc.out; simp; omega)
  have bxa : Bx rb cb ((w.alloc (.cells #[.pointer (some ⟨cb, i * 6, none⟩)] 132)).alloc (.cells #[.func (.func ka) #[] lba] 111)) (w.heap.size + 1) 111 (.func (.func ka) #[] lba) := Bx.new (by simp) (by have := Hr.out; simp; omega) (by have := Hc.out; simp; omega)
  have bxb : Bx rb cb (((w.alloc (.cells #[.pointer (some ⟨cb, i * 6, none⟩)] 132)).alloc (.cells #[.func (.func ka) #[] lba] 111)).alloc (.cells #[.func (.func kb) #[] lbb] 111)) (w.heap.size + 2) 111 (.func (.func kb) #[] lbb) := Bx.new (by simp) (by have := Hr.out; simp; omega) (by have := Hc.out; simp; omega)
  exact ⟨_, rfl, below3 w _ _ _, _, _, rfl, enters_of Try.func149 (by kernel_rfl) rfl, i_turn hja hFa (Pua.out.fr hf) hjb hFb (Pub.out.fr hf) (bxa.allc _) bxb ((bxc.allc _).allc _) hx⟩

set_option maxRecDepth 100000 in
set_option maxHeartbeats 3200000 in
theorem c_take {n0 rb cb N cc : Nat} {l : List Nd} {src : List (List Int)} {i : Nat} {w : World} (hr : rb < w.heap.size) (hc : cb < w.heap.size) {n : Int} {va : Value} {fa : PF} {ja : Nat} (hja : ja < i) (hFa : Fine l src ja fa) (hPa : Puller n0 rb cb N cc l src fa va w) {xa xb m : Int} (hx : l[i]? = some ⟨3, xa, xb, n, m⟩) (hn30 : 0 ≤ n ∧ n ≤ 30) :
    Calls Try.prog 131 #[.int .i64 n, .pointer (some ⟨cb, i * 6, none⟩), va] w (Gives n0 rb cb N cc l src (takeP i n fa) w) := by
  obtain ⟨ka, lba, rfl, ega, hpa⟩ := hPa
  have Pua : Hid (Puller n0 rb cb N cc l src fa (.func (.func ka) #[] lba) w) := Lib.hid ⟨ka, lba, rfl, ega, hpa⟩
  clear ega hpa
  have Hr := Lib.hid hr
  have Hc := Lib.hid hc
  clear hr hc
  go_enter Try.func131, Try.ntmps131
  go_wp2_with fail
  refine bodyPost_ret (v := .func (.func 142) #[] #[.pointer (some ⟨w.heap.size + 1, 0, none⟩), .pointer (some ⟨w.heap.size, 0, none⟩), .pointer (some ⟨w.heap.size + 2, 0, none⟩)]) (by simp [results, Try.results131, go_sem]) rfl ?_
  have hf : Fr n0 rb cb w (((w.alloc (.cells #[.int .i64 n] 3)).alloc (.cells #[.pointer (some ⟨cb, i * 6, none⟩)] 132)).alloc (.cells #[.func (.func ka) #[] lba] 111)) := Fr.of_below (below3 w _ _ _)
  have bxn : Bx rb cb (w.alloc (.cells #[.int .i64 n] 3)) (w.heap.size) 3 (.int .i64 n) := Bx.new (by simp) (by have := Hr.out; simp; omega) (by have := Hc.out; simp; omega)
  have bxc : Bx rb cb ((w.alloc (.cells #[.int .i64 n] 3)).alloc (.cells #[.pointer (some ⟨cb, i * 6, none⟩)] 132)) (w.heap.size + 1) 132 (.pointer (some ⟨cb, i * 6, none⟩)) := Bx.new (by simp) (by have := Hr.out; simp; omega) (by have := Hc.out; simp; omega)
  have bxa : Bx rb cb (((w.alloc (.cells #[.int .i64 n] 3)).alloc (.cells #[.pointer (some ⟨cb, i * 6, none⟩)] 132)).alloc (.cells #[.func (.func ka) #[] lba] 111)) (w.heap.size + 2) 111 (.func (.func ka) #[] lba) := Bx.new (by simp) (by have := Hr.out; simp; omega) (by have := Hc.out; simp; omega)
  exact ⟨_, rfl, below3 w _ _ _, _, _, rfl, enters_of Try.func142 (by kernel_rfl) rfl, i_take hja hFa (Pua.out.fr hf) (bxc.allc _) ((bxn.allc _).allc _) bxa hx hn30⟩

set_option maxRecDepth 100000 in
set_option maxHeartbeats 3200000 in
theorem c_drop {n0 rb cb N cc : Nat} {l : List Nd} {src : List (List Int)} {i : Nat} {w : World} (hr : rb < w.heap.size) (hc : cb < w.heap.size) {n : Int} {va : Value} {fa : PF} {ja : Nat} (hja : ja < i) (hFa : Fine l src ja fa) (hPa : Puller n0 rb cb N cc l src fa va w) {xa xb m : Int} (hx : l[i]? = some ⟨4, xa, xb, n, m⟩) (hn30 : 0 ≤ n ∧ n ≤ 30) :
    Calls Try.prog 132 #[.int .i64 n, .pointer (some ⟨cb, i * 6, none⟩), va] w (Gives n0 rb cb N cc l src (dropP i n fa) w) := by
  obtain ⟨ka, lba, rfl, ega, hpa⟩ := hPa
  have Pua : Hid (Puller n0 rb cb N cc l src fa (.func (.func ka) #[] lba) w) := Lib.hid ⟨ka, lba, rfl, ega, hpa⟩
  clear ega hpa
  have Hr := Lib.hid hr
  have Hc := Lib.hid hc
  clear hr hc
  go_enter Try.func132, Try.ntmps132
  go_wp2_with fail
  refine bodyPost_ret (v := .func (.func 143) #[] #[.pointer (some ⟨w.heap.size + 1, 0, none⟩), .pointer (some ⟨w.heap.size, 0, none⟩), .pointer (some ⟨w.heap.size + 2, 0, none⟩)]) (by simp [results, Try.results132, go_sem]) rfl ?_
  have hf : Fr n0 rb cb w (((w.alloc (.cells #[.int .i64 n] 3)).alloc (.cells #[.pointer (some ⟨cb, i * 6, none⟩)] 132)).alloc (.cells #[.func (.func ka) #[] lba] 111)) := Fr.of_below (below3 w _ _ _)
  have bxn : Bx rb cb (w.alloc (.cells #[.int .i64 n] 3)) (w.heap.size) 3 (.int .i64 n) := Bx.new (by simp) (by have := Hr.out; simp; omega) (by have := Hc.out; simp; omega)
  have bxc : Bx rb cb ((w.alloc (.cells #[.int .i64 n] 3)).alloc (.cells #[.pointer (some ⟨cb, i * 6, none⟩)] 132)) (w.heap.size + 1) 132 (.pointer (some ⟨cb, i * 6, none⟩)) := Bx.new (by simp) (by have := Hr.out; simp; omega) (by have := Hc.out; simp; omega)
  have bxa : Bx rb cb (((w.alloc (.cells #[.int .i64 n] 3)).alloc (.cells #[.pointer (some ⟨cb, i * 6, none⟩)] 132)).alloc (.cells #[.func (.func ka) #[] lba] 111)) (w.heap.size + 2) 111 (.func (.func ka) #[] lba) := Bx.new (by simp) (by have := Hr.out; simp; omega) (by have := Hc.out; simp; omega)
  exact ⟨_, rfl, below3 w _ _ _, _, _, rfl, enters_of Try.func143 (by kernel_rfl) rfl, i_drop hja hFa (Pua.out.fr hf) (bxc.allc _) ((bxn.allc _).allc _) bxa hx hn30⟩

set_option maxRecDepth 100000 in
set_option maxHeartbeats 3200000 in
theorem c_while {n0 rb cb N cc : Nat} {l : List Nd} {src : List (List Int)} {i : Nat} {w : World} (hr : rb < w.heap.size) (hc : cb < w.heap.size) {n : Int} {va : Value} {fa : PF} {ja : Nat} (hja : ja < i) (hFa : Fine l src ja fa) (hPa : Puller n0 rb cb N cc l src fa va w) :
    Calls Try.prog 133 #[.int .i64 n, va] w (Gives n0 rb cb N cc l src (whileP n fa) w) := by
  obtain ⟨ka, lba, rfl, ega, hpa⟩ := hPa
  have Pua : Hid (Puller n0 rb cb N cc l src fa (.func (.func ka) #[] lba) w) := Lib.hid ⟨ka, lba, rfl, ega, hpa⟩
  clear ega hpa
  have Hr := Lib.hid hr
  have Hc := Lib.hid hc
  clear hr hc
  go_enter Try.func133, Try.ntmps133
  go_wp2_with fail
  refine bodyPost_ret (v := .func (.func 144) #[] #[.pointer (some ⟨w.heap.size + 1, 0, none⟩), .pointer (some ⟨w.heap.size, 0, none⟩)]) (by simp [results, Try.results133, go_sem]) rfl ?_
  have hf : Fr n0 rb cb w ((w.alloc (.cells #[.int .i64 n] 3)).alloc (.cells #[.func (.func ka) #[] lba] 111)) := Fr.of_below (below2 w _ _)
  have bxn : Bx rb cb (w.alloc (.cells #[.int .i64 n] 3)) (w.heap.size) 3 (.int .i64 n) := Bx.new (by simp) (by have := Hr.out; simp; omega) (by have := Hc.out; simp; omega)
  have bxa : Bx rb cb ((w.alloc (.cells #[.int .i64 n] 3)).alloc (.cells #[.func (.func ka) #[] lba] 111)) (w.heap.size + 1) 111 (.func (.func ka) #[] lba) := Bx.new (by simp) (by have := Hr.out; simp; omega) (by have := Hc.out; simp; omega)
  exact ⟨_, rfl, below2 w _ _, _, _, rfl, enters_of Try.func144 (by kernel_rfl) rfl, i_while hja hFa (Pua.out.fr hf) bxa (bxn.allc _)⟩

set_option maxRecDepth 100000 in
set_option maxHeartbeats 3200000 in
theorem c_batch {n0 rb cb N cc : Nat} {l : List Nd} {src : List (List Int)} {w : World} (hr : rb < w.heap.size) (hc : cb < w.heap.size) {n : Int} {va : Value} {fa : PF} {ja : Nat} (hFa : Fine l src ja fa) (hPa : Puller n0 rb cb N cc l src fa va w) (hn : 1 ≤ n ∧ n ≤ 30) :
    Calls Try.prog 134 #[.int .i64 n, va] w (Gives n0 rb cb N cc l src (batchP n fa) w) := by
  obtain ⟨ka, lba, rfl, ega, hpa⟩ := hPa
  have Pua : Hid (Puller n0 rb cb N cc l src fa (.func (.func ka) #[] lba) w) := Lib.hid ⟨ka, lba, rfl, ega, hpa⟩
  clear ega hpa
  have Hr := Lib.hid hr
  have Hc := Lib.hid hc
  clear hr hc
  go_enter Try.func134, Try.ntmps134
  go_wp2_with fail
  refine bodyPost_ret (v := .func (.func 145) #[] #[.pointer (some ⟨w.heap.size + 1, 0, none⟩), .pointer (some ⟨w.heap.size, 0, none⟩)]) (by simp [results, Try.results134, go_sem]) rfl ?_
  have hf : Fr n0 rb cb w ((w.alloc (.cells #[.int .i64 n] 3)).alloc (.cells #[.func (.func ka) #[] lba] 111)) := Fr.of_below (below2 w _ _)
  have bxn : Bx rb cb (w.alloc (.cells #[.int .i64 n] 3)) (w.heap.size) 3 (.int .i64 n) := Bx.new (by simp) (by have := Hr.out; simp; omega) (by have := Hc.out; simp; omega)
  have bxa : Bx rb cb ((w.alloc (.cells #[.int .i64 n] 3)).alloc (.cells #[.func (.func ka) #[] lba] 111)) (w.heap.size + 1) 111 (.func (.func ka) #[] lba) := Bx.new (by simp) (by have := Hr.out; simp; omega) (by have := Hc.out; simp; omega)
  exact ⟨_, rfl, below2 w _ _, _, _, rfl, enters_of Try.func145 (by kernel_rfl) rfl, i_batch hFa (Pua.out.fr hf) bxa (bxn.allc _) hn⟩

set_option maxRecDepth 100000 in
set_option maxHeartbeats 3200000 in
theorem c_chg {n0 rb cb N cc : Nat} {l : List Nd} {src : List (List Int)} {i : Nat} {w : World} (hr : rb < w.heap.size) (hc : cb < w.heap.size) {va : Value} {fa : PF} {ja : Nat} (hja : ja < i) (hFa : Fine l src ja fa) (hPa : Puller n0 rb cb N cc l src fa va w) {vg : Value} {g : Int → Cl → Cl × Int} (hCg : Changes n0 rb cb N cc l src i g vg w) :
    Calls Try.prog 123 #[va, vg] w (Gives n0 rb cb N cc l src (chgP i g fa) w) := by
  obtain ⟨ka, lba, rfl, ega, hpa⟩ := hPa
  have Pua : Hid (Puller n0 rb cb N cc l src fa (.func (.func ka) #[] lba) w) := Lib.hid ⟨ka, lba, rfl, ega, hpa⟩
  clear ega hpa
  obtain ⟨kg, lbg, rfl, egg, hpg⟩ := hCg
  have Cog := Lib.hid (show Changes n0 rb cb N cc l src i g (.func (.func kg) #[] lbg) w from ⟨kg, lbg, rfl, egg, hpg⟩)
  clear egg hpg
  have Hr := Lib.hid hr
  have Hc := Lib.hid hc
  clear hr hc
  go_enter Try.func123, Try.ntmps123
  go_wp2_with fail
  refine bodyPost_ret (v := .func (.func 140) #[] #[.pointer (some ⟨w.heap.size, 0, none⟩), .pointer (some ⟨w.heap.size + 1, 0, none⟩)]) (by simp [results, Try.results123, go_sem]) rfl ?_
  have hf : Fr n0 rb cb w ((w.alloc (.cells #[.func (.func ka) #[] lba] 111)).alloc (.cells #[.func (.func kg) #[] lbg] 129)) := Fr.of_below (below2 w _ _)
  have bxa : Bx rb cb (w.alloc (.cells #[.func (.func ka) #[] lba] 111)) (w.heap.size) 111 (.func (.func ka) #[] lba) := Bx.new (by simp) (by have := Hr.out; simp; omega) (by have := Hc.out; simp; omega)
  have bxg : Bx rb cb ((w.alloc (.cells #[.func (.func ka) #[] lba] 111)).alloc (.cells #[.func (.func kg) #[] lbg] 129)) (w.heap.size + 1) 129 (.func (.func kg) #[] lbg) := Bx.new (by simp) (by have := Hr.out; simp; omega) (by have := Hc.out; simp; omega)
  exact ⟨_, rfl, below2 w _ _, _, _, rfl, enters_of Try.func140 (by kernel_rfl) rfl, i_chg hja hFa (Pua.out.fr hf) (bxa.allc _) bxg (Cog.out.fr hf)⟩

set_option maxRecDepth 100000 in
set_option maxHeartbeats 3200000 in
theorem c_some {n0 rb cb N cc : Nat} {l : List Nd} {src : List (List Int)} {i : Nat} {w : World} (hr : rb < w.heap.size) (hc : cb < w.heap.size) {va : Value} {fa : PF} {ja : Nat} (hja : ja < i) (hFa : Fine l src ja fa) (hPa : Puller n0 rb cb N cc l src fa va w) {vg : Value} {may : Int → Cl → Cl × Bool} (hCg : Lets n0 rb cb N cc l src i may vg w) {x : Nd} (hx : l[i]? = some x) (hk : x.k ≠ 0 ∧ x.k ≠ 9) (hg : ∀ v c, (0 ≤ v ∧ v ≤ 99) → CellIn src x c → CellIn src x (may v c).1) :
    Calls Try.prog 127 #[va, vg] w (Gives n0 rb cb N cc l src (fun s => someL i may fa (s.M l src + 1) s) w) := by
  obtain ⟨ka, lba, rfl, ega, hpa⟩ := hPa
  have Pua : Hid (Puller n0 rb cb N cc l src fa (.func (.func ka) #[] lba) w) := Lib.hid ⟨ka, lba, rfl, ega, hpa⟩
  clear ega hpa
  obtain ⟨kg, lbg, rfl, egg, hpg⟩ := hCg
  have Cog := Lib.hid (show Lets n0 rb cb N cc l src i may (.func (.func kg) #[] lbg) w from ⟨kg, lbg, rfl, egg, hpg⟩)
  clear egg hpg
  have Hr := Lib.hid hr
  have Hc := Lib.hid hc
  clear hr hc
  go_enter Try.func127, Try.ntmps127
  go_wp2_with fail
  refine bodyPost_ret (v := .func (.func 141) #[] #[.pointer (some ⟨w.heap.size, 0, none⟩), .pointer (some ⟨w.heap.size + 1, 0, none⟩)]) (by simp [results, Try.results127, go_sem]) rfl ?_
  have hf : Fr n0 rb cb w ((w.alloc (.cells #[.func (.func ka) #[] lba] 111)).alloc (.cells #[.func (.func kg) #[] lbg] 121)) := Fr.of_below (below2 w _ _)
  have bxa : Bx rb cb (w.alloc (.cells #[.func (.func ka) #[] lba] 111)) (w.heap.size) 111 (.func (.func ka) #[] lba) := Bx.new (by simp) (by have := Hr.out; simp; omega) (by have := Hc.out; simp; omega)
  have bxg : Bx rb cb ((w.alloc (.cells #[.func (.func ka) #[] lba] 111)).alloc (.cells #[.func (.func kg) #[] lbg] 121)) (w.heap.size + 1) 121 (.func (.func kg) #[] lbg) := Bx.new (by simp) (by have := Hr.out; simp; omega) (by have := Hc.out; simp; omega)
  exact ⟨_, rfl, below2 w _ _, _, _, rfl, enters_of Try.func141 (by kernel_rfl) rfl, i_some hja hFa (Pua.out.fr hf) (bxa.allc _) bxg hx hk hg (Cog.out.fr hf)⟩

set_option maxRecDepth 100000 in
set_option maxHeartbeats 3200000 in
theorem c_done {n0 rb cb N cc : Nat} {l : List Nd} {src : List (List Int)} {i : Nat} {w : World} (hr : rb < w.heap.size) (hc : cb < w.heap.size) {va : Value} {fa : PF} (hFa : KeepB l src i fa) (hPa : Puller n0 rb cb N cc l src fa va w) (hil : i < l.length) :
    Calls Try.prog 115 #[.pointer (some ⟨cb, i * 6, none⟩), va] w (Gives n0 rb cb N cc l src (doneP i fa) w) := by
  obtain ⟨ka, lba, rfl, ega, hpa⟩ := hPa
  have Pua : Hid (Puller n0 rb cb N cc l src fa (.func (.func ka) #[] lba) w) := Lib.hid ⟨ka, lba, rfl, ega, hpa⟩
  clear ega hpa
  have Hr := Lib.hid hr
  have Hc := Lib.hid hc
  clear hr hc
  go_enter Try.func115, Try.ntmps115
  go_wp2_with fail
  refine bodyPost_ret (v := .func (.func 121) #[] #[.pointer (some ⟨w.heap.size, 0, none⟩), .pointer (some ⟨w.heap.size + 1, 0, none⟩)]) (by simp [results, Try.results115, go_sem]) rfl ?_
  have hf : Fr n0 rb cb w ((w.alloc (.cells #[.pointer (some ⟨cb, i * 6, none⟩)] 132)).alloc (.cells #[.func (.func ka) #[] lba] 111)) := Fr.of_below (below2 w _ _)
  have bxc : Bx rb cb (w.alloc (.cells #[.pointer (some ⟨cb, i * 6, none⟩)] 132)) (w.heap.size) 132 (.pointer (some ⟨cb, i * 6, none⟩)) := Bx.new (by simp) (by have := Hr.out; simp; omega) (by have := Hc.out; simp; omega)
  have bxa : Bx rb cb ((w.alloc (.cells #[.pointer (some ⟨cb, i * 6, none⟩)] 132)).alloc (.cells #[.func (.func ka) #[] lba] 111)) (w.heap.size + 1) 111 (.func (.func ka) #[] lba) := Bx.new (by simp) (by have := Hr.out; simp; omega) (by have := Hc.out; simp; omega)
  exact ⟨_, rfl, below2 w _ _, _, _, rfl, enters_of Try.func121 (by kernel_rfl) rfl, i_done hFa (Pua.out.fr hf) (bxc.allc _) bxa hil⟩

set_option maxRecDepth 100000 in
set_option maxHeartbeats 3200000 in
theorem c_source {n0 rb cb N cc : Nat} {l : List Nd} {src : List (List Int)} {i : Nat} {w : World} (hr : rb < w.heap.size) (hc : cb < w.heap.size) {Ar : Option Addr} {cr k : Nat} {row : List Int} {x : Nd} (hx : l[i]? = some x) (hk0 : x.k = 0) (hk : x.n = (k : Int)) (hrow : src[k]? = some row) (hrl : row.length ≤ 12) (hrd : RdI w n0 Ar row) (hz1 : n0 ≤ w.heap.size) :
    Calls Try.prog 116 #[.pointer (some ⟨rb, 0, none⟩), .int .i64 (k : Int), .slice Ar row.length cr, .pointer (some ⟨cb, i * 6, none⟩)] w (Gives n0 rb cb N cc l src (srcP src i x) w) := by
  have Hr := Lib.hid hr
  have Hc := Lib.hid hc
  clear hr hc
  go_enter Try.func116, Try.ntmps116
  go_wp2_with fail
  refine bodyPost_ret (v := .func (.func 122) #[] #[.pointer (some ⟨w.heap.size + 3, 0, none⟩), .pointer (some ⟨w.heap.size + 2, 0, none⟩), .pointer (some ⟨w.heap.size, 0, none⟩), .pointer (some ⟨w.heap.size + 1, 0, none⟩)]) (by simp [results, Try.results116, go_sem]) rfl ?_
  have hf : Fr n0 rb cb w ((((w.alloc (.cells #[.pointer (some ⟨rb, 0, none⟩)] 83)).alloc (.cells #[.int .i64 (k : Int)] 3)).alloc (.cells #[.slice Ar row.length cr] 28)).alloc (.cells #[.pointer (some ⟨cb, i * 6, none⟩)] 132)) := Fr.of_below (below4 w _ _ _ _)
  have bxr : Bx rb cb (w.alloc (.cells #[.pointer (some ⟨rb, 0, none⟩)] 83)) (w.heap.size) 83 (.pointer (some ⟨rb, 0, none⟩)) := Bx.new (by simp) (by have := Hr.out; simp; omega) (by have := Hc.out; simp; omega)
  have bxn : Bx rb cb ((w.alloc (.cells #[.pointer (some ⟨rb, 0, none⟩)] 83)).alloc (.cells #[.int .i64 (k : Int)] 3)) (w.heap.size + 1) 3 (.int .i64 (k : Int)) := Bx.new (by simp) (by have := Hr.out; simp; omega) (by have := Hc.out; simp; omega)
  have bxs : Bx rb cb (((w.alloc (.cells #[.pointer (some ⟨rb, 0, none⟩)] 83)).alloc (.cells #[.int .i64 (k : Int)] 3)).alloc (.cells #[.slice Ar row.length cr] 28)) (w.heap.size + 2) 28 (.slice Ar row.length cr) := Bx.new (by simp) (by have := Hr.out; simp; omega) (by have := Hc.out; simp; omega)
  have bxc : Bx rb cb ((((w.alloc (.cells #[.pointer (some ⟨rb, 0, none⟩)] 83)).alloc (.cells #[.int .i64 (k : Int)] 3)).alloc (.cells #[.slice Ar row.length cr] 28)).alloc (.cells #[.pointer (some ⟨cb, i * 6, none⟩)] 132)) (w.heap.size + 3) 132 (.pointer (some ⟨cb, i * 6, none⟩)) := Bx.new (by simp) (by have := Hr.out; simp; omega) (by have := Hc.out; simp; omega)
  exact ⟨_, rfl, below4 w _ _ _ _, _, _, rfl, enters_of Try.func122 (by kernel_rfl) rfl, i_source bxc (bxs.allc _) (((bxr.allc _).allc _).allc _) ((bxn.allc _).allc _) hx hk0 hk hrow hrl (hrd.below (below4 w _ _ _ _) hz1) (by simp; omega)⟩


end Go.Proofs.Ytjhdjfobbgfpfaa
