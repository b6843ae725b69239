/- Texts put together. -/
import Derived.Test.YtbkjhfmehemgpaaGreatFb8
import Derived.Test.YtbkjhfmehemgpaaGreatFb4
namespace Go.Proofs.YtbkjhfmehemgpaaGreat
set_option maxRecDepth 20000
set_option maxHeartbeats 16000000
open Go.ChangeShapes Go.WideShapes Go.ChangeAt Go.RowKit
set_option linter.unusedVariables false
set_option linter.unusedSimpArgs false
section
open Go.ChangeShapes Go.WideShapes Go.ChangeAt Go.RowKit Go.Shelf Go.Lib Go.Sort
def encF (m:Nat)(i:Fin (m+1)):Value:=.int .i64 (i.val:Nat)
def cfF (xs:List Int)(m:Nat)(i j:Fin (m+1)):Int:=cfZ xs i.val j.val
theorem ltF (xs:List Int)(m:Nat)(i j:Fin (m+1)):ltOf (cfF xs m) i j=YtbkjhfmehemgpaaGreat.ahead xs i.val j.val:=cfZ_neg xs i.val j.val
theorem swoF (xs:List Int)(m:Nat):SWO (ltOf (cfF xs m)) :=
 ⟨fun x=>by rw[ltF];exact ahead_irrefl _ _,fun x y z h1 h2=>by rw[ltF] at *;exact ahead_trans h1 h2,fun x y z h1 h2=>by rw[ltF] at *;exact ahead_ntrans h1 h2⟩
theorem totF (xs:List Int)(m:Nat)(x y:Fin (m+1))(h1:ltOf (cfF xs m) x y=false)(h2:ltOf (cfF xs m) y x=false):x=y:=by
 rw[ltF] at *
 exact Fin.ext (ahead_total h1 h2)
def firstF (m:Nat):Array (Fin (m+1)):=Array.ofFn fun i=>i
theorem firstF_size (m:Nat):(firstF m).size=m+1:=by simp[firstF]
theorem firstF_at (m j:Nat)(h:j<m+1):((firstF m)[j]!).val=j:=by
 rw[getElem!_pos _ j (by rw[firstF_size];exact h)]
 simp[firstF]
theorem firstF_list (m:Nat):(firstF m).toList.map Fin.val=List.range (m+1):=by
 apply List.ext_getElem
 ·simp[firstF]
 ·intro i h1 h2
  have hi:i<m+1:=by simpa using h2
  have e:=firstF_at m i hi
  rw[getElem!_pos _ i (by rw[firstF_size];exact hi)] at e
  rw[List.getElem_map,List.getElem_range,Array.getElem_toList]
  exact e
theorem sorted_list (xs:List Int)(m:Nat)(h:xs.length=m+1):((firstF m).toList.mergeSort fun x y=>!(ltOf (cfF xs m)) y x).map Fin.val=places xs:=by
 unfold places
 rw[h,←firstF_list]
 exact List.map_mergeSort fun a _ b _=>by rw[ltF]
theorem sorted_at (xs:List Int)(m:Nat)(h:xs.length=m+1)(j:Nat)(hj:j<m+1):encF m (((firstF m).toList.mergeSort fun x y=>!(ltOf (cfF xs m)) y x).toArray[j]!)=.int .i64 ((places xs).getD j 0:Nat):=by
 have hl:((firstF m).toList.mergeSort fun x y=>!(ltOf (cfF xs m)) y x).length=m+1:=by rw[List.length_mergeSort,Array.length_toList,firstF_size]
 rw[←sorted_list xs m h,getElem!_pos _ j (by rw[List.size_toArray,hl];exact hj)]
 unfold encF
 congr 2
 rw[List.getElem_toArray,List.getD_eq_getElem?_getD,List.getElem?_map,List.getElem?_eq_getElem (by rw[hl];exact hj)]
 rfl
theorem below_sort {α:Type}[Inhabited α](enc:α→Value)(w:World)(blk off n:Nat)(dk:Array α)(os:Array Obj)(h:blk<w.heap.size):Below blk w (sortWorld enc w blk off n dk os):=by
 refine⟨rfl,rfl,rfl,?_,fun k hk=>?_⟩
 ·unfold sortWorld
  rw[Go.Sort.size_grow,size_putRow]
  show w.heap.size≤w.heap.size+_
  omega
 ·show ((w.heap.modify blk _)++os)[k]? = w.heap[k]?
  rw[Array.getElem?_append_left (by simp;omega),Array.getElem?_modify,if_neg (by omega)]
theorem kept_sort {α:Type}[Inhabited α](enc:α→Value)(w:World)(blk off n:Nat)(dk:Array α)(os:Array Obj){p:Addr}{v:Value}(hp:p.block≠blk)(h:w.cell? p=some v):(sortWorld enc w blk off n dk os).cell? p=some v:=by
 unfold sortWorld
 rw[cell?_grow _ _ _ (by rw[size_putRow];exact World.block_lt_of_cell? _ _ h),cell?_putRow_other _ _ _ _ _ _ (.inl hp)]
 exact h
theorem add_block (x:Addr)(i:Nat):(x.add i).block=x.block:=by
 unfold Addr.add
 split<;>rfl
theorem cmp_lays (xs:List Int)(m b blk:Nat)(x:Addr)(c:Nat)(w:World)(hbx:w.cell? ⟨b,0,none⟩=some (.slice (some x) (m+1) c))(hr:Reads .i64 w (some x) (m+1) xs)(hne:b≠blk)(hnx:x.block≠blk)(off size:Nat) :
  CmpLays1 Tryz.prog 158 #[.pointer (some ⟨b,0,none⟩)] (encF m) (cfF xs m) blk off size w:=by
 intro q os dk hs i j
 have h1:(sortWorld (encF m) w blk off q dk os).cell? ⟨b,0,none⟩=some (.slice (some x) (m+1) c):=kept_sort _ _ _ _ _ _ _ hne hbx
 have h2:Reads .i64 (sortWorld (encF m) w blk off q dk os) (some x) (m+1) xs :=
  ⟨hr.len,hr.max,hr.wf,hr.some_,fun y hy k hk=>kept_sort _ _ _ _ _ _ _ (by obtain rfl:=Option.some.inj hy;rw[add_block];exact hnx) (hr.cell y hy k hk)⟩
 refine (closure_call b x (m+1) c xs i.val j.val i.isLt j.isLt _ h1 h2).mono ?_
 rintro e w' ⟨he,o,hw⟩
 exact⟨he,1,#[o],by rw[hw,←alloc_eq_grow];rfl⟩
theorem enter19:∀ args w,(callFunc 158 args).run Tryz.prog w=.ok (.enter 158 args) w:=eNo Tryz.func158 (by kernel_rfl) rfl
theorem sort_some (xs:List Int)(m b blk cap:Nat)(x:Addr)(c:Nat)(w:World)(hbx:w.cell? ⟨b,0,none⟩=some (.slice (some x) (m+1) c))(hr:Reads .i64 w (some x) (m+1) xs)(hne:b≠blk)(hnx:x.block≠blk)
  (hp:∀ j,j<m+1→w.cell? ⟨blk,j,none⟩=some (.int .i64 (j:Nat))∧w.frozen? ⟨blk,j,none⟩=false) (hblk:blk<w.heap.size) (hsz:m+1<4611686018427387904) :
  Calls Tryz.prog 163 #[.slice (some ⟨blk,0,none⟩) (m+1) cap,.func (.func 158) #[] #[.pointer (some ⟨b,0,none⟩)]] w fun e w' =>
   e=.returned (.tuple #[])∧Below blk w w'∧∀ j,j<m+1→w'.cell? ⟨blk,j,none⟩=some (.int .i64 ((places xs).getD j 0:Nat)):=by
 have hH:Holds (encF m) w blk 0 (firstF m):=by
  intro j hj
  rw[firstF_size] at hj
  have:=hp j hj
  rw[Nat.zero_add]
  refine⟨this.1.trans ?_,this.2⟩
  unfold encF
  rw[firstF_at m j hj]
 have h:=Any.slices_SortFunc_total sortL (encF m) (fun _=>rfl) (cfF xs m) (swoF xs m) 158 #[.pointer (some ⟨b,0,none⟩)] blk 0 cap (firstF m) w enter19 (cmp_lays xs m b blk x c w hbx hr hne hnx 0 _) hH hblk (by rw[firstF_size];exact hsz) (totF xs m)
 rw[firstF_size] at h
 refine Calls.mono h ?_
 rintro e w' ⟨he,n,os,hw⟩
 refine⟨he,by rw[hw];exact below_sort _ _ _ _ _ _ _ hblk,fun j hj=>?_⟩
 have hl:((firstF m).toList.mergeSort fun x y=>!(ltOf (cfF xs m)) y x).toArray.size=(firstF m).size:=by rw[List.size_toArray,List.length_mergeSort,Array.length_toList]
 have g:=(holds_sortWorld (encF m) w blk 0 n (firstF m) _ os hblk hH hl j (by rw[hl,firstF_size];exact hj)).1
 rw[Nat.zero_add,sorted_at xs m hr.len j hj] at g
 rw[hw]
 exact g
theorem sort_none (p:Option Addr)(cap:Nat)(fv:Value)(w:World):Calls Tryz.prog 163 #[.slice p 0 cap,fv] w fun e w'=>e=.returned (.tuple #[])∧w'=w :=
 AnyF.slices_SortFunc_none (P:=Tryz.prog) (ρ:=sortL_ren) { sortL with } p cap fv w
end
end Go.Proofs.YtbkjhfmehemgpaaGreat
