/-
  A law's end by 'Below': where nothing old has turned and the row asks for no second call, the results, the arguments and the frame are enough.
-/
import Derived.Shelf.SlSortCmp.Kit1
import Derived.Sort.WalkB2
import Derived.Sort.WalkB12
import Derived.Deep.RegionHeld3
import Derived.Lib.Strings
import Derived.Deep.OwnRows
import Derived.Lib.Builder
import Derived.Test.YtenlladggdcfnaaGreatDoorJAAA
import Derived.Test.YtenlladggdcfnaaGreatDoorJAAD
namespace Go.Proofs.YtenlladggdcfnaaGreatDoor
open Go Go.ChangeShapes Go.WideShapes Go.ChangeAt Go.RowKit
theorem post_below {H:Type} {enc:TypeId×Value→H} {P:Program} {f:Func} {s:ChangeSpec} {apart fresh handsOn:Bool} {W W':World} {args:Array Value} {v:Value} {ds gs:List (DataW H)} {before pa pv:List MemPlace}
  (hW:DataW.Whole enc P f.params.toList s.vars apart W args.toList ds gs before)
  (hres:∀ (b:Nat) (sp:Nat→Bool) (hd:Bool),DataW.TrodAll enc P W' b sp hd f.resultTypes.toList (v.resultList f.resultTypes.size) (s.fn H (ds ++ gs)).results [])
  (hargs:∀ sp:Nat→Bool,(∀ p∈before,sp p.block=true)→DataW.TrodAll enc P W' 0 sp true f.params.toList args.toList (s.fn H (ds ++ gs)).args pa)
  (hvars:∀ sp:Nat→Bool,(∀ p∈before,sp p.block=true)→DataW.TrodVars enc P W' sp s.vars (s.fn H (ds ++ gs)).vars pv)
  (hps:before=pa ++ pv) (hk:W.keptBut W' (·∈before)) :
  s.post enc P f apart fresh handsOn false W args v W':=by
 have hold:∀ p∈before,(fun b=>decide (b<W.heap.size)) p.block=true:=fun p hp=>by simpa using hW.lt p hp
 refine ⟨ds,gs,before,[],pa,pv,hW,hres _ _ _,hargs _ hold,hvars _ hold,World.keptBut_mono (fun p hp=>⟨hp,?_⟩) hk,fun h=>by cases h⟩
 rw [hps,List.mem_append] at hp
 exact Or.inr hp
end Go.Proofs.YtenlladggdcfnaaGreatDoor
namespace Go.Proofs.YtenlladggdcfnaaGreatDoor
open Go Go.ChangeShapes Go.WideShapes Go.ChangeAt Go.RowKit Go.Shelf Go.Lib Go.Sort
set_option linter.unusedSectionVars false
set_option maxRecDepth 100000
variable {α:Type} [Inhabited α]
def encI (ix:α→Nat) (x:α):Value:=.int .i64 ((ix x:Nat):Int)
theorem swr_go (a b n:Nat) (d:Array α) (h:0<n):swr a b n d=swr (a+1) (b+1) (n-1) (swp d a b):=by
 obtain ⟨m,rfl⟩:∃ m,n=m+1:=⟨n-1,by omega⟩
 rfl
set_option maxHeartbeats 8000000 in
theorem swaprange_any (ix:α→Nat) (cf:Value) (blk off cap a b n:Nat) (d0 d:Array α) (w0 w:World) (R:Row1 (encI ix) w0 blk off d0) (hs:d0.size=d.size) (S:SW (encI ix) w0 blk off d w)
  (hab:a+n≤b) (hb:b+n≤d.size) (hsz:d.size≤1000) :
  Calls Tryz.prog 128 #[.slice (some ⟨blk,off,none⟩) d.size cap,.int .i64 a,.int .i64 b,.int .i64 n,cf] w fun e w'=>e=.returned (.tuple #[])∧SW (encI ix) w0 blk off (swr a b n d) w':=by
 have mixed:Tryz.prog.follows .mixedOrders=true:=by kernel_rfl
 have S0:Aside (SW (encI ix) w0 blk off d w):=S
 clear S
 go_enter Tryz.func128,Tryz.ntmps128
 go_wp2
 go_loopg [10] n (fun gg s10 wr => ∃ (i:Nat) (dk:Array α),s10=.int .i64 i∧i≤n∧gg=n-i∧dk.size=d.size∧Aside (SW (encI ix) w0 blk off dk wr)∧Hid (swr (a+i) (b+i) (n-i) dk=swr a b n d))
 case atStart=>exact ⟨0,d,rfl,Nat.zero_le _,rfl,rfl,S0,rfl⟩
 case round =>
  clear S0
  obtain ⟨i,dk,rfl,hin,rfl,hds,S1,HE⟩:=hrel
  by_cases hlt:i<n
  ·have hltz:(i:Int)<(n:Int):=by omega
   go_wp2_with fail
   have r1:IntKind.i64.wrap ((a:Int)+(i:Int))=((a:Int)+(i:Int)):=by rw [IntKind.wrap_i64];omega
   have r2:IntKind.i64.wrap ((b:Int)+(i:Int))=((b:Int)+(i:Int)):=by rw [IntKind.wrap_i64];omega
   have b1:((a:Int)+(i:Int))<(d.size:Int):=by omega
   have b2:((b:Int)+(i:Int))<(d.size:Int):=by omega
   obtain ⟨x,hx⟩:∃ x,x=ix dk[(a+i)]! := ⟨_,rfl⟩
   obtain ⟨y,hy⟩:∃ x,x=ix dk[(b+i)]! := ⟨_,rfl⟩
   have S2:Aside (SW (encI ix) w0 blk off (swp dk (a+i) (b+i)) ((wr.setCell ⟨blk,off+(a+i),none⟩ (.int .i64 (y:Int))).setCell ⟨blk,off+(b+i),none⟩ (.int .i64 (x:Int))).drew):=by rw [hx,hy];exact S1.out.swapped R (a+i) (b+i) (by omega) (by omega)
   have c1:wr.cell? ⟨blk,off+(a+i),none⟩=some (.int .i64 (x:Int)):=by rw [hx];exact S1.out.c1 R (by omega) (a+i) (by omega)
   have c2:wr.cell? ⟨blk,off+(b+i),none⟩=some (.int .i64 (y:Int)):=by rw [hy];exact S1.out.c1 R (by omega) (b+i) (by omega)
   have f1:=S1.out.f1 R (by omega) (a+i) (by omega)
   have f2:=S1.out.f1 R (by omega) (b+i) (by omega)
   obtain ⟨u,c3⟩:=S1.out.c2 R (by omega) (a+i) (b+i) (by omega) (by omega) (.int .i64 (y:Int))
   have HE2:Hid (swr (a+(i+1)) (b+(i+1)) (n-(i+1)) (swp dk (a+i) (b+i))=swr a b n d):=by
    have:=HE.out
    rw [swr_go _ _ _ _ (by omega)] at this
    rw [←this];congr 1
   have HSZ:Hid ((swp dk (a+i) (b+i)).size=d.size):=by show _=_;rw [size_swp];exact hds
   clear S1 hx hy HE hds
   go_wp2_with fail
   go_big_region_o
   clear c1 c2 c3 f1 f2
   generalize ((wr.setCell ⟨blk,off+(a+i),none⟩ (.int .i64 (y:Int))).setCell ⟨blk,off+(b+i),none⟩ (.int .i64 (x:Int))).drew=w2 at S2 ⊢
   go_wp2
   go_roundg (n-(i+1))
   case measure=>omega
   case rel=>exact ⟨i+1,swp dk (a+i) (b+i),by go_num,by omega,rfl,HSZ.out,S2,HE2⟩
  ·have hie:i=n:=by omega
   subst hie
   go_wp2
   go_end0
   refine ⟨rfl,?_⟩
   have:=HE.out
   rw [Nat.sub_self] at this
   rw [←this];exact S1.out
set_option maxHeartbeats 8000000 in
theorem rotate_any (ix:α→Nat) (cf:Value) (blk off cap a m b:Nat) (d0 d:Array α) (w0 w:World) (R:Row1 (encI ix) w0 blk off d0) (hs:d0.size=d.size) (S:SW (encI ix) w0 blk off d w)
  (h1:a<m) (h2:m<b) (hb:b≤d.size) (hsz:d.size≤1000) :
  Calls Tryz.prog 106 #[.slice (some ⟨blk,off,none⟩) d.size cap,.int .i64 a,.int .i64 m,.int .i64 b,cf] w fun e w'=>e=.returned (.tuple #[])∧∃ d',Rot a m b d d'∧SW (encI ix) w0 blk off d' w':=by
 have mixed:Tryz.prog.follows .mixedOrders=true:=by kernel_rfl
 have HSR:∀ (a b n:Nat) (dk:Array α) (w':World),dk.size=d.size→a+n≤b→b+n≤d.size→Aside (SW (encI ix) w0 blk off dk w') →
   Calls Tryz.prog 128 #[.slice (some ⟨blk,off,none⟩) d.size cap,.int .i64 a,.int .i64 b,.int .i64 n,cf] w' fun e w'=>e=.returned (.tuple #[])∧SW (encI ix) w0 blk off (swr a b n dk) w':=fun a b n dk w' e h1 h2 h3=>by
  have:=swaprange_any ix cf blk off cap a b n d0 dk w0 w' R (by omega) h3 h1 (by omega) (by omega)
  rwa [e] at this
 have S0:Aside (SW (encI ix) w0 blk off d w):=S
 clear S
 go_enter Tryz.func106,Tryz.ntmps106
 go_wp2
 go_loopg [10,11] (b-a) (fun gg s5 s6 wr => ∃ (i j:Nat) (dk:Array α),s5=.int .i64 i∧s6=.int .i64 j∧0<i∧0<j∧a+i≤m∧m+j≤b∧i+j≤gg∧dk.size=d.size∧Aside (SW (encI ix) w0 blk off dk wr)∧Hid (∀ d',Rot (m-i) m (m+j) dk d'→Rot a m b d d'))
 case atStart=>exact ⟨m-a,b-m,d,by go_num,by go_num,by omega,by omega,by omega,by omega,by omega,rfl,S0,fun d' h=>by rwa [show m-(m-a)=a by omega,show m+(b-m)=b by omega] at h⟩
 case round =>
  clear S0
  obtain ⟨i,j,dk,rfl,rfl,hi,hj,hai,hmj,hgg,hds,S1,HE⟩:=hrel
  have hr1:IntKind.i64.wrap ((m:Int)-(i:Int))=((m-i:Nat):Int):=by rw [IntKind.wrap_i64];omega
  by_cases hne:i=j
  ·subst hne
   have hc:=HSR (m-i) m i dk wr hds (by omega) (by omega) S1
   have HE2:=HE.out _ (rot_end (d:=dk) (i:=i) (m:=m) (by omega) (by omega))
   go_wp2_with fail
   refine hc.mono ?_
   rintro e w' ⟨rfl,hS⟩
   go_wp2_with fail
   go_end0
   exact ⟨rfl,_,HE2,hS⟩
  ·have hneI : ¬ (i:Int)=(j:Int):=by omega
   by_cases hij:j<i
   ·have hijI:(i:Int) > (j:Int):=by omega
    have hc:=HSR (m-i) m j dk wr hds (by omega) (by omega) S1
    have hsz2:=(swr_spec j (m-i) m dk (by omega) (by omega)).1
    have HE2:Hid (∀ d',Rot (m-(i-j)) m (m+j) (swr (m-i) m j dk) d'→Rot a m b d d'):=fun d' h=>HE.out d' (rot_big hij (by omega) (by omega) h)
    clear HE S1
    go_wp2_with fail
    refine hc.mono ?_
    rintro e w' ⟨rfl,hS⟩
    have HS:Aside (SW (encI ix) w0 blk off (swr (m-i) m j dk) w'):=hS
    clear hS hc
    go_wp2
    go_roundg (i-j+j)
    case measure=>omega
    case rel=>exact ⟨i-j,j,swr (m-i) m j dk,by go_num,rfl,by omega,hj,by omega,hmj,Nat.le_refl _,by rw [hsz2];exact hds,HS,HE2⟩
   ·have hijI : ¬ (i:Int) > (j:Int):=by omega
    have hr2:IntKind.i64.wrap ((m:Int)+(j:Int)-(i:Int))=((m+j-i:Nat):Int):=by rw [IntKind.wrap_i64];omega
    have hc:=HSR (m-i) (m+j-i) i dk wr hds (by omega) (by omega) S1
    have hsz2:=(swr_spec i (m-i) (m+j-i) dk (by omega) (by omega)).1
    have HE2:Hid (∀ d',Rot (m-i) m (m+(j-i)) (swr (m-i) (m+j-i) i dk) d'→Rot a m b d d'):=fun d' h=>HE.out d' (rot_less (by omega) (by omega) (by omega) h)
    clear HE S1
    go_wp2_with fail
    refine hc.mono ?_
    rintro e w' ⟨rfl,hS⟩
    have HS:Aside (SW (encI ix) w0 blk off (swr (m-i) (m+j-i) i dk) w'):=hS
    clear hS hc
    go_wp2
    go_roundg (i+(j-i))
    case measure=>omega
    case rel=>exact ⟨i,j-i,swr (m-i) (m+j-i) i dk,rfl,by go_num,hi,by omega,hai,by omega,Nat.le_refl _,by rw [hsz2];exact hds,HS,HE2⟩
variable {α:Type} [Inhabited α]
structure MgC (cf:α→α→Int) (tot:α→α→Bool) (ix:α→Nat) (g:Nat) (cb:Array Value) (blk off:Nat) (d0:Array α) (w0:World):Prop where
 eg:∀ args w,(callFunc g args).run Tryz.prog w=.ok (.enter g args) w
 hc:CmpLays1 Tryz.prog g cb (encI ix) cf blk off d0.size w0
 R:Row1 (encI ix) w0 blk off d0
 T:Tie (ltOf cf) tot ix
 sz:d0.size≤1000
set_option maxHeartbeats 8000000 in
theorem sym1_any {cf:α→α→Int} {tot:α→α→Bool} {ix:α→Nat} {g:Nat} {cb:Array Value} {blk off:Nat} {d0:Array α} {w0:World} (M:MgC cf tot ix g cb blk off d0 w0)
  (cap a m b:Nat) (d:Array α) (w:World) (hs:d0.size=d.size) (S:SW (encI ix) w0 blk off d w) (W:TwoP tot ix a m b d) (hm:m=a+1) (h2:m<b) (hb:b≤d.size) :
  Calls Tryz.prog 85 #[.slice (some ⟨blk,off,none⟩) d.size cap,.int .i64 a,.int .i64 m,.int .i64 b,.func (.func g) #[] cb] w fun e w'=>e=.returned (.tuple #[])∧∃ d',SortedIn tot a b d'∧PermIn a b d d'∧SW (encI ix) w0 blk off d' w':=by
 have mixed:Tryz.prog.follows .mixedOrders=true:=by kernel_rfl
 obtain ⟨eg,hcmp,R,T,hsz⟩:=M
 have HC:Aside (CmpLays1 Tryz.prog g cb (encI ix) cf blk off d0.size w0):=hcmp
 have HT:Hid (Tie (ltOf cf) tot ix):=T
 have HW:Hid (TwoP tot ix a (a+1) b d):=by rw [hm] at W;exact W
 have S0:Aside (SW (encI ix) w0 blk off d w):=S
 clear S hcmp T W
 have hm1:IntKind.i64.wrap ((m:Int)-(a:Int))=1:=by rw [IntKind.wrap_i64];omega
 have h2':a+1<b:=by omega
 have HM:Hid (m=a+1):=hm
 clear hm h2
 go_enter Tryz.func85,Tryz.ntmps85
 go_wp2
 go_loopg [10,11] (b-a) (fun gg s10 s11 wr => ∃ (i j:Nat),s10=.int .i64 i∧s11=.int .i64 j∧a+1≤i∧i≤j∧j≤b∧j-i≤gg∧Aside (SW (encI ix) w0 blk off d wr)∧Hid ((i=a+1∨tot d[i-1]! d[a]! = true)∧(j=b∨tot d[j]! d[a]! = false)))
 case atStart=>have hm:=HM.out;exact ⟨m,b,rfl,rfl,by omega,by omega,Nat.le_refl _,by omega,S0,⟨Or.inl hm,Or.inl rfl⟩⟩
 case round =>
  clear S0
  obtain ⟨i,j,rfl,rfl,hai,hij,hjb,hgg,S1,HE⟩:=hrel
  by_cases hlt:i<j
  ·have hltz:(i:Int)<(j:Int):=by omega
   have htie:=HT.out.on d[(i+j) / 2]! d[a]! (HW.out.lo a ((i+j) / 2) (Nat.le_refl _) (by omega) (by omega) (by omega))
   have ba2:(a:Int)<(d.size:Int):=by omega
   have ea:(((i:Int)+(j:Int)) / 2).toNat=(i+j) / 2:=by omega
   have pa:(0:Int)≤((i:Int)+(j:Int)) / 2:=by omega
   have ba:((i:Int)+(j:Int)) / 2<(d.size:Int):=by omega
   have l1:=S1.out.cl R (by omega) ((i+j) / 2) (by omega)
   have l2:=S1.out.cl R (by omega) a (by omega)
   obtain ⟨x,hx⟩:∃ x,x=d[(i+j) / 2]! := ⟨_,rfl⟩
   obtain ⟨y,hy⟩:∃ y,y=d[a]! := ⟨_,rfl⟩
   rw [←hx,←hy] at htie
   rw [←hx] at l1
   rw [←hy] at l2
   have hc:=S1.out.cmp HC.out (by omega) x y
   unfold encI at l1 l2 hc
   cases hv:tot x y with
   | true =>
    have hd:decide (cf x y<0)=true:=by rw [hv] at htie;exact htie
    have HE2:Hid (((i+j) / 2+1=a+1∨tot d[(i+j) / 2+1-1]! d[a]! = true)∧(j=b∨tot d[j]! d[a]! = false)):=⟨Or.inr (by rw [Nat.add_sub_cancel,←hx,←hy];exact hv),HE.out.2⟩
    clear HE hv htie hx hy
    go_wp2_with fail
    go_quiet_grown (first | (go_at_fn g;refine Calls.grown_of (hc _ _)))
    have S2:Aside (SW (encI ix) w0 blk off d (grow (wr.drewN nq) osq)):=S1.out.grown nq osq
    clear l1 l2 hc S1
    generalize grow (wr.drewN nq) osq=w2 at S2 ⊢
    go_wp2
    go_roundg (j-((i+j) / 2+1))
    case measure=>omega
    case rel=>exact ⟨(i+j) / 2+1,j,by go_num,rfl,by omega,by omega,hjb,Nat.le_refl _,S2,HE2⟩
   | false =>
    have hd:decide (cf x y<0)=false:=by rw [hv] at htie;exact htie
    have HE2:Hid ((i=a+1∨tot d[i-1]! d[a]! = true)∧((i+j) / 2=b∨tot d[(i+j) / 2]! d[a]! = false)):=⟨HE.out.1,Or.inr (by rw [←hx,←hy];exact hv)⟩
    clear HE hv htie hx hy
    go_wp2_with fail
    go_quiet_grown (first | (go_at_fn g;refine Calls.grown_of (hc _ _)))
    have S2:Aside (SW (encI ix) w0 blk off d (grow (wr.drewN nq) osq)):=S1.out.grown nq osq
    clear l1 l2 hc S1
    generalize grow (wr.drewN nq) osq=w2 at S2 ⊢
    go_wp2
    go_roundg ((i+j) / 2-i)
    case measure=>omega
    case rel=>exact ⟨i,(i+j) / 2,rfl,by go_num,hai,by omega,by omega,Nat.le_refl _,S2,HE2⟩
  ·have hie:i=j:=by omega
   subst hie
   clear hlt hij hgg
   have hi1:IntKind.i64.wrap ((i:Int)-1)=((i-1:Nat):Int):=by rw [IntKind.wrap_i64];omega
   go_wp2
   go_loopg [13] (i-1-a) (fun gg s13 wr => ∃ (k:Nat) (dk:Array α),s13=.int .i64 k∧a≤k∧k≤i-1∧gg=i-1-k∧dk.size=d.size∧Aside (SW (encI ix) w0 blk off dk wr)∧Hid (swr k (k+1) (i-1-k) dk=swr a (a+1) (i-1-a) d))
   case atStart=>exact ⟨a,d,rfl,Nat.le_refl _,by omega,rfl,rfl,S1,rfl⟩
   case round =>
    clear S1
    obtain ⟨k,dk,rfl,hak,hki,rfl,hds,S1,HK⟩:=hrel
    by_cases hlt:k<i-1
    ·have hltz:(k:Int)<((i-1:Nat):Int):=by omega
     have r1:IntKind.i64.wrap ((k:Int)+1)=(k:Int)+1:=by rw [IntKind.wrap_i64];omega
     have b1:(k:Int)<(d.size:Int):=by omega
     have b2:(k:Int)+1<(d.size:Int):=by omega
     obtain ⟨x,hx⟩:∃ x,x=ix dk[k]! := ⟨_,rfl⟩
     obtain ⟨y,hy⟩:∃ x,x=ix dk[(k+1)]! := ⟨_,rfl⟩
     have S2:Aside (SW (encI ix) w0 blk off (swp dk k (k+1)) ((wr.setCell ⟨blk,off+k,none⟩ (.int .i64 (y:Int))).setCell ⟨blk,off+(k+1),none⟩ (.int .i64 (x:Int))).drew):=by rw [hx,hy];exact S1.out.swapped R k (k+1) (by omega) (by omega)
     have c1:wr.cell? ⟨blk,off+k,none⟩=some (.int .i64 (x:Int)):=by rw [hx];exact S1.out.c1 R (by omega) k (by omega)
     have c2:wr.cell? ⟨blk,off+(k+1),none⟩=some (.int .i64 (y:Int)):=by rw [hy];exact S1.out.c1 R (by omega) (k+1) (by omega)
     have f1:=S1.out.f1 R (by omega) k (by omega)
     have f2:=S1.out.f1 R (by omega) (k+1) (by omega)
     obtain ⟨u,c3⟩:=S1.out.c2 R (by omega) k (k+1) (by omega) (by omega) (.int .i64 (y:Int))
     have HK2:Hid (swr (k+1) (k+1+1) (i-1-(k+1)) (swp dk k (k+1))=swr a (a+1) (i-1-a) d):=by
      have:=HK.out
      rw [swr_go _ _ _ _ (by omega)] at this
      rw [←this];congr 1
     have HSZ:Hid ((swp dk k (k+1)).size=d.size):=by show _=_;rw [size_swp];exact hds
     clear S1 hx hy HK hds
     go_wp2_with fail
     go_big_region_o
     clear c1 c2 c3 f1 f2
     generalize ((wr.setCell ⟨blk,off+k,none⟩ (.int .i64 (y:Int))).setCell ⟨blk,off+(k+1),none⟩ (.int .i64 (x:Int))).drew=w2 at S2 ⊢
     go_wp2
     go_roundg (i-1-(k+1))
     case measure=>omega
     case rel=>exact ⟨k+1,swp dk k (k+1),by go_num,by omega,by omega,rfl,HSZ.out,S2,HK2⟩
    ·have hke:k=i-1:=by omega
     have hltz : ¬ (k:Int)<((i-1:Nat):Int):=by omega
     have hfin:SortedIn tot a b dk∧PermIn a b d dk:=by
      have hK:=HK.out
      rw [hke,Nat.sub_self] at hK
      have hr:=mvr_spec (i-1-a) a d (by omega)
      rw [←hK,show a+1+(i-1-a)=i by omega] at hr
      exact one_right HT.out HW.out hai hjb hb HE.out.1 HE.out.2 hr
     have HF:Hid (SortedIn tot a b dk∧PermIn a b d dk):=hfin
     clear hfin
     go_wp2
     refine bodyPost_ret (results_none rfl _ _ _) rfl ?_
     exact ⟨rfl,dk,HF.out.1,HF.out.2,S1.out⟩
end Go.Proofs.YtenlladggdcfnaaGreatDoor
namespace Go.Proofs.YtenlladggdcfnaaGreatDoor
def numTo (D:Nat→Dm) (P:Nat→Nat):Nat→Nat
 | 0=>0
 | k+1=>numTo D P k*(D k).n+P k
theorem numTo_lt {D:Nat→Dm} {P:Nat→Nat} (k:Nat) (h:∀ j,j<k→P j<(D j).n):numTo D P k<prodN D k:=by
 induction k with
 | zero=>exact Nat.one_pos
 | succ k ih =>
  have h1:=ih fun j hj=>h j (by omega)
  have h2:=h k (by omega)
  rw [numTo,prodN]
  have h3:(numTo D P k+1)*(D k).n≤prodN D k*(D k).n:=Nat.mul_le_mul_right _ h1
  rw [Nat.add_mul] at h3
  omega
def restAt (D:Nat→Dm) (m n:Nat):Nat→Nat
 | 0=>n
 | r+1=>restAt D m n r / (D (m-1-r)).n
def digitAt (D:Nat→Dm) (m n k:Nat):Nat:=restAt D m n (m-1-k) % (D k).n
theorem restAt_num {D:Nat→Dm} {P:Nat→Nat} {m:Nat} (h:∀ j,j<m→P j<(D j).n) (r:Nat):r≤m→restAt D m (numTo D P m) r=numTo D P (m-r):=by
 induction r with
 | zero=>intro _;rfl
 | succ r ih =>
  intro hr
  rw [restAt,ih (by omega)]
  have e:m-r=(m-1-r)+1:=by omega
  rw [e,numTo,show m-(r+1)=m-1-r by omega]
  have hp:=h (m-1-r) (by omega)
  rw [Nat.mul_comm,Nat.mul_add_div (by omega),Nat.div_eq_of_lt hp,Nat.add_zero]
theorem digit_num {D:Nat→Dm} {P:Nat→Nat} {m:Nat} (h:∀ j,j<m→P j<(D j).n) {k:Nat} (hk:k<m):digitAt D m (numTo D P m) k=P k:=by
 unfold digitAt
 rw [restAt_num h _ (by omega),show m-(m-1-k)=k+1 by omega,numTo]
 have hp:=h k hk
 rw [Nat.mul_comm,Nat.mul_add_mod,Nat.mod_eq_of_lt hp]
theorem num_digit {D:Nat→Dm} {m n:Nat} (hn:n<prodN D m) (k:Nat):k≤m→numTo D (digitAt D m n) k=restAt D m n (m-k):=by
 have hlt:∀ r,r≤m→restAt D m n r<prodN D (m-r):=by
  intro r
  induction r with
  | zero=>intro _;exact hn
  | succ r ih =>
   intro hr
   have h1:=ih (by omega)
   have e:m-r=(m-1-r)+1:=by omega
   rw [e,prodN] at h1
   rw [restAt,show m-(r+1)=m-1-r by omega]
   exact Nat.div_lt_of_lt_mul (by rw [Nat.mul_comm];exact h1)
 induction k with
 | zero =>
  intro _
  have h1:=hlt m (Nat.le_refl _)
  rw [Nat.sub_self] at h1
  have h2:prodN D 0=1:=rfl
  rw [numTo,Nat.sub_zero]
  omega
 | succ k ih =>
  intro hk
  rw [numTo,ih (by omega)]
  have e:m-k=(m-1-k)+1:=by omega
  rw [e,restAt,show m-1-(m-1-k)=k by omega,show m-(k+1)=m-1-k by omega]
  unfold digitAt
  have:=Nat.div_add_mod (restAt D m n (m-1-k)) (D k).n
  rw [Nat.mul_comm] at this
  exact this
theorem num_back {D:Nat→Dm} {m n:Nat} (hn:n<prodN D m):numTo D (digitAt D m n) m=n:=by
 rw [num_digit hn m (Nat.le_refl _),Nat.sub_self];rfl
theorem digit_lt {D:Nat→Dm} {m n k:Nat} (h:1≤(D k).n):digitAt D m n k<(D k).n:=Nat.mod_lt _ h
def outP (D:Nat→Dm) (L:List Int) (i:Nat):Bool:=decide (L.getD i 0<0) || decide (((D i).n:Int)≤L.getD i 0)
def shapeErr (D:Nat→Dm) (n:Nat) (L:List Int):Int:=if L.length≠n then 3 else if 0≤findFrom (outP D L) n 0 then 1 else 0
def placeErr (D:Nat→Dm) (n:Nat) (L:List Int):Int:=if (allErr D n).2.2≠0 then (allErr D n).2.2 else shapeErr D n L
theorem sh0 {D:Nat→Dm} {n:Nat} {L:List Int} (h:L.length≠n):shapeErr D n L=3:=by unfold shapeErr;rw [if_pos h]
theorem sh1 {D:Nat→Dm} {n:Nat} {L:List Int} (h:L.length=n) (h1:0≤findFrom (outP D L) n 0):shapeErr D n L=1:=by unfold shapeErr;rw [if_neg (by simpa using h),if_pos h1]
theorem sh2 {D:Nat→Dm} {n:Nat} {L:List Int} (h:L.length=n) (h1 : ¬ 0≤findFrom (outP D L) n 0):shapeErr D n L=0:=by unfold shapeErr;rw [if_neg (by simpa using h),if_neg h1]
theorem pe0 {D:Nat→Dm} {n:Nat} {L:List Int} (h:(allErr D n).2.2≠0):placeErr D n L=(allErr D n).2.2:=by unfold placeErr;rw [if_pos h]
theorem pe1 {D:Nat→Dm} {n:Nat} {L:List Int} (h:(allErr D n).2.2=0):placeErr D n L=shapeErr D n L:=by unfold placeErr;rw [if_neg (by simpa using h)]
structure InO (D:Nat→Dm) (n:Nat) (L:List Int):Prop where
 right:(allErr D n).2.2=0
 len:L.length=n
 lo:∀ i,i<n→0≤L.getD i 0
 hi:∀ i,i<n→L.getD i 0<((D i).n:Int)
theorem allErr_some {D:Nat→Dm} {n:Nat} (h:(allErr D n).2.2=0):1≤n∧n≤4∧prodN D n≤3000∧∀ i,i<n→1≤(D i).n∧(D i).n≤12:=by
 have h4:=allErr_right h
 unfold allErr at h
 split at h
 ·simp at h
 ·split at h
  ·simp at h
  ·split at h
   ·rename_i h3;exact absurd h h3
   ·split at h
    ·simp at h
    ·rename_i a b c d
     exact ⟨by omega,by omega,by omega,fun i hi=>⟨(dimErr_right (h4.2 i hi)).2.1,(dimErr_right (h4.2 i hi)).2.2.1⟩⟩
theorem inO_of {D:Nat→Dm} {n:Nat} {L:List Int} (h:placeErr D n L=0):InO D n L:=by
 unfold placeErr at h
 split at h
 ·rename_i h1;exact absurd h h1
 ·rename_i h1
  unfold shapeErr at h
  split at h
  ·cases h
  ·split at h
   ·cases h
   ·rename_i h2 h3
    have hn:∀ i,i<n→outP D L i=false:=fun i hi=>by
     rcases findFrom_cases (outP D L) n 0 with ⟨_,h4⟩ | ⟨k,h4,_⟩
     ·exact h4 i (Nat.zero_le _) (by omega)
     ·rw [h4] at h3;omega
    exact ⟨by simpa using h1,by simpa using h2,fun i hi=>by have:=hn i hi;simp [outP,-List.getD_eq_getElem?_getD] at this;omega,fun i hi=>by have:=hn i hi;simp [outP,-List.getD_eq_getElem?_getD] at this;omega⟩
theorem InO.ok {D:Nat→Dm} {n:Nat} {L:List Int} (h:InO D n L):placeErr D n L=0:=by
 rw [pe1 h.right,sh2 h.len]
 rw [findFrom_none]
 ·decide
 ·intro j _ hj
  have h1:=h.lo j (by omega)
  have h2:=h.hi j (by omega)
  simp [outP,-List.getD_eq_getElem?_getD]
  omega
def numI (D:Nat→Dm) (L:List Int):Nat→Int
 | 0=>0
 | k+1=>numI D L k*((D k).n:Int)+L.getD k 0
theorem numI_nat {D:Nat→Dm} {L:List Int} (k:Nat) (h:∀ i,i<k→0≤L.getD i 0):numI D L k=(numTo D (fun i=>(L.getD i 0).toNat) k:Int):=by
 induction k with
 | zero=>rfl
 | succ k ih =>
  have:=h k (by omega)
  rw [numI,numTo,ih fun i hi=>h i (by omega),Int.natCast_add,Int.natCast_mul,Int.toNat_of_nonneg this]
theorem prodN_small {D:Nat→Dm} {k:Nat} (h:∀ j,j<k→(D j).n≤12) (hk:k≤4):prodN D k≤20736:=by
 have h1:=prodN_le h
 have h2:12 ^ k≤12 ^ 4:=Nat.pow_le_pow_right (by decide) hk
 have h3:(12:Nat) ^ 4=20736:=by decide
 omega
theorem numI_bound {D:Nat→Dm} {n:Nat} {L:List Int} (h:InO D n L) {k:Nat} (hk:k≤n):0≤numI D L k∧numI D L k<(prodN D k:Int)∧prodN D k≤20736:=by
 obtain ⟨_,h4,_,hd⟩:=allErr_some h.right
 rw [numI_nat k fun i hi=>h.lo i (by omega)]
 have h1:=numTo_lt (D:=D) (P:=fun i=>(L.getD i 0).toNat) k fun j hj=>by
  have:=h.lo j (by omega)
  have:=h.hi j (by omega)
  omega
 refine ⟨by omega,by omega,prodN_small (fun j hj=>(hd j (by omega)).2) (by omega)⟩
def numV (D:Nat→Dm) (n:Nat) (L:List Int):Int:=if placeErr D n L=0 then numI D L n else 0
def digL (D:Nat→Dm) (n x r:Nat):List Int:=(List.range n).map fun j=>if n-r≤j then (digitAt D n x j:Int) else 0
def placeL (D:Nat→Dm) (n x:Nat):List Int:=(List.range n).map fun j=>(digitAt D n x j:Int)
theorem digL_len (D:Nat→Dm) (n x r:Nat):(digL D n x r).length=n:=by simp [digL]
theorem placeL_len (D:Nat→Dm) (n x:Nat):(placeL D n x).length=n:=by simp [placeL]
theorem digL_zero (D:Nat→Dm) (n x:Nat):digL D n x 0=List.replicate n 0:=by
 apply List.ext_getElem
 ·simp [digL]
 ·intro i h1 h2
  simp [digL] at h1 ⊢
  omega
theorem digL_all (D:Nat→Dm) (n x:Nat):digL D n x n=placeL D n x:=by simp [digL,placeL]
theorem digL_set (D:Nat→Dm) (n x r:Nat) (hr:r<n):(digL D n x r).set (n-1-r) (digitAt D n x (n-1-r):Int)=digL D n x (r+1):=by
 apply List.ext_getElem
 ·simp [digL]
 ·intro i h1 h2
  simp only [digL,List.length_set,List.length_map,List.length_range] at h1
  rw [List.getElem_set]
  simp only [digL,List.getElem_map,List.getElem_range]
  by_cases h3:n-1-r=i
  ·subst h3
   rw [if_pos rfl,if_pos (by omega)]
  ·rw [if_neg h3]
   by_cases h4:n-r≤i
   ·rw [if_pos h4,if_pos (by omega)]
   ·rw [if_neg h4,if_neg (by omega)]
theorem placeL_at {D:Nat→Dm} {n x i:Nat} (h:i<n):(placeL D n x).getD i 0=(digitAt D n x i:Int):=by
 simp [placeL,List.getD,h]
theorem placeL_in {D:Nat→Dm} {n x:Nat} (h:(allErr D n).2.2=0):InO D n (placeL D n x):=by
 obtain ⟨_,_,_,hd⟩:=allErr_some h
 exact ⟨h,placeL_len ..,fun i hi=>by rw [placeL_at hi];omega,fun i hi=>by rw [placeL_at hi];have:=digit_lt (D:=D) (m:=n) (n:=x) (k:=i) (hd i hi).1;omega⟩
theorem numTo_same {D:Nat→Dm} {P Q:Nat→Nat} (k:Nat) (h:∀ i,i<k→P i=Q i):numTo D P k=numTo D Q k:=by
 induction k with
 | zero=>rfl
 | succ k ih=>rw [numTo,numTo,ih fun i hi=>h i (by omega),h k (by omega)]
theorem num_place {D:Nat→Dm} {n x:Nat} (h:(allErr D n).2.2=0) (hx:x<prodN D n):numI D (placeL D n x) n=(x:Int):=by
 rw [numI_nat n (placeL_in h).lo,numTo_same (Q:=digitAt D n x) n fun i hi=>by rw [placeL_at hi];omega,num_back hx]
theorem place_num {D:Nat→Dm} {n:Nat} {L:List Int} (h:InO D n L):placeL D n (numI D L n).toNat=L:=by
 have h1:∀ j,j<n→(L.getD j 0).toNat<(D j).n:=fun j hj=>by have:=h.lo j hj;have:=h.hi j hj;omega
 rw [numI_nat n h.lo,Int.toNat_natCast]
 apply List.ext_getElem
 ·rw [placeL_len,h.len]
 ·intro i h2 h3
  rw [placeL_len] at h2
  have h4:=digit_num h1 h2
  have h5:=h.lo i h2
  have h6:L.getD i 0=L[i]:=by simp [List.getD,h3]
  simp only [placeL,List.getElem_map,List.getElem_range]
  rw [h4,←h6]
  omega
end Go.Proofs.YtenlladggdcfnaaGreatDoor
namespace Go.Proofs.YtenlladggdcfnaaGreatDoor
open Go.ChangeShapes Go.WideShapes Go.ChangeAt Go.RowKit
set_option maxRecDepth 20000
def PlAt (w:World) (A:Option Addr) (cap:Nat) (L:List Int):Prop:=L.length≤cap∧(L=[]∨∃ b o,A=some ⟨b,o,none⟩∧b<w.heap.size∧∀ j,j<L.length→w.cell? ⟨b,o+j,none⟩=some (.int .i64 (L.getD j 0)))
theorem PlAt.later {w w':World} {A:Option Addr} {cap:Nat} {L:List Int} (h:PlAt w A cap L) (hB:Below w.heap.size w w'):PlAt w' A cap L:=by
 obtain ⟨h1,h2 | ⟨b,o,h2,h3,h4⟩⟩:=h
 ·exact ⟨h1,Or.inl h2⟩
 ·exact ⟨h1,Or.inr ⟨b,o,h2,Nat.lt_of_lt_of_le h3 hB.size,fun j hj=>(hB.cell (p:=⟨b,o+j,none⟩) h3).trans (h4 j hj)⟩⟩
theorem PlAt.nil (w:World) (A:Option Addr) (cap:Nat):PlAt w A cap []:=⟨Nat.zero_le _,Or.inl rfl⟩
def IntB (w:World) (g:Nat) (L:List Int):Prop:=w.heap[g]?=some (.cells (L.map (Value.int .i64)).toArray 3 (0,0))
theorem IntB.lt {w:World} {g:Nat} {L:List Int} (h:IntB w g L):g<w.heap.size:=(Array.getElem?_eq_some_iff.1 h).1
theorem IntB.cell {w:World} {g:Nat} {L:List Int} (h:IntB w g L) {j:Nat} (hj:j<L.length):w.cell? ⟨g,j,none⟩=some (.int .i64 (L.getD j 0)):=by
 rw [Lib.cell_of_heap h]
 simp [List.getD,hj]
theorem IntB.frozen {w:World} {g:Nat} {L:List Int} (h:IntB w g L) (j:Nat):w.frozen? ⟨g,j,none⟩=false:=Lib.frozen_of_heap h j
theorem IntB.later {w w':World} {g:Nat} {L:List Int} (h:IntB w g L) (hB:Below w.heap.size w w'):IntB w' g L:=(hB.block g h.lt).trans h
theorem IntB.set {w:World} {g:Nat} {L:List Int} (h:IntB w g L) (j:Nat) (x:Int):IntB (w.setCell ⟨g,j,none⟩ (.int .i64 x)) g (L.set j x):=by
 unfold IntB at *
 have e:(L.set j x).map (Value.int .i64)=(L.map (Value.int .i64)).set j (.int .i64 x):=by rw [List.map_set]
 simp [World.setCell,Array.getElem?_modify,h,e]
theorem IntB.pl {w:World} {g:Nat} {L:List Int} (h:IntB w g L):PlAt w (some ⟨g,0,none⟩) L.length L :=
 ⟨Nat.le_refl _,Or.inr ⟨g,0,rfl,h.lt,fun j hj=>by rw [Nat.zero_add];exact h.cell hj⟩⟩
theorem made_ints (n:Nat):madeCells #[.int .i64 0] n=((List.replicate n (0:Int)).map (Value.int .i64)).toArray:=by
 apply Array.ext
 ·simp [madeCells]
 ·intro i h1 h2
  simp [madeCells,Nat.mod_one]
theorem IntB.made (w:World) (n:Nat):IntB (w.alloc (.cells (madeCells #[.int .i64 0] n) 3)) w.heap.size (List.replicate n 0):=by
 unfold IntB
 rw [made_ints]
 exact heap_alloc_new w _
theorem Tryz.infoIntP:(Tryz.prog.info? 3).map (fun i=>(i.zero,i.size,i.bytes))=some (some (.int .i64 0),1,8):=by kernel_rfl
theorem checko_any (A0:Option Addr) (cap n:Nat) (D:Nat→Dm) (A:Nat→Option Addr) (C:Nat→Nat) (w:World) (hM:DimsV w A0 cap n D A C):Calls Tryz.prog 71 #[.agg #[.slice A0 n cap]] w fun e w'=>e=.returned (errV (allErr D n).2.2)∧Below w.heap.size w w':=by
 have hB0:=ownOut_below w A0 n cap 25
 have h:=all_any A0 cap n D A C (ownOut w A0 n cap 25) (hM.later hB0)
 have HB0:Hid (Below w.heap.size w (ownOut w A0 n cap 25)):=hB0
 clear hM hB0
 generalize errV (allErr D n).2.2=v at h
 generalize (allErr D n).1=x at h
 generalize (allErr D n).2.1=y at h
 go_enter Tryz.func71,Tryz.ntmps71
 go_wp2_with fail
 refine h.mono ?_
 rintro e w1 ⟨rfl,hb1⟩
 go_wp2_with fail
 go_ret
 exact ⟨rfl,onB HB0.out hb1⟩
def cellsV (D:Nat→Dm) (n:Nat):Int:=if (allErr D n).2.2=0 then (prodN D n:Int) else 0
set_option maxHeartbeats 2000000 in
theorem pcells_any (A0:Option Addr) (cap n:Nat) (D:Nat→Dm) (A:Nat→Option Addr) (C:Nat→Nat) (w:World) (hM:DimsV w A0 cap n D A C):Calls Tryz.prog 46 #[.agg #[.slice A0 n cap]] w fun e w'=>e=.returned (.tuple #[.int .i64 (cellsV D n),errV (allErr D n).2.2])∧Below w.heap.size w w':=by
 have hB0:=ownOut_below w A0 n cap 25
 have h:=checko_any A0 cap n D A C (ownOut w A0 n cap 25) (hM.later hB0)
 have HB0:Hid (Below w.heap.size w (ownOut w A0 n cap 25)):=hB0
 have HM:Hid (DimsV w A0 cap n D A C):=hM
 clear hM hB0
 by_cases he:(allErr D n).2.2=0
 ·obtain ⟨hn1,hn4,-,hd⟩:=allErr_some he
  have HV:Hid (cellsV D n=(prodN D n:Int)):=by show _=_;unfold cellsV;rw [if_pos he]
  have HE:Hid (errV (allErr D n).2.2=.nilIface):=by show _=_;rw [he];rfl
  rw [he,errV_zero] at h
  have HD:Hid (∀ i,i<n→1≤(D i).n∧(D i).n≤12):=hd
  have hn':(n:Int)≤4:=by omega
  clear he hd
  go_enter Tryz.func46,Tryz.ntmps46
  go_wp2_with fail
  refine h.mono ?_
  rintro e w1 ⟨rfl,hb1⟩
  have hB:Below w.heap.size w w1:=onB HB0.out hb1
  have h2:w1.cell? ⟨w.heap.size,0,none⟩=some (.slice A0 n cap):=(hb1.cell (p:=⟨w.heap.size,0,none⟩) (by show w.heap.size<_;rw [ownOut_size];omega)).trans (ownOut_at ..)
  obtain ⟨hcap,h0 | ⟨b,o,rfl,hMs⟩⟩:=HM.out.later hB
  ·omega
  have HMs:Hid (DimsAt w1 b o n D A C):=hMs
  have HB:Hid (Below w.heap.size w w1):=hB
  clear hb1 h hMs hB
  go_wp2_with fail
  go_loopg [5,16] n (fun g s5 s16 wr => ∃ (k:Nat),k≤n∧g=n-k∧s16=.int .i64 k∧s5=.int .i64 (prodN D k)∧Below w1.heap.size w1 wr)
  case atStart=>exact ⟨0,Nat.zero_le _,rfl,rfl,rfl,Below.refl _ _⟩
  case round =>
   obtain ⟨k,hk,rfl,rfl,rfl,hBw⟩:=hrel
   by_cases hlt:k<n
   ·obtain ⟨h0,h1,h3,-⟩:=(HMs.out.later hBw).2 k hlt
    have hki:(k:Int)<(n:Int):=by omega
    have hp1:prodN D (k+1)≤20736:=prod_small (fun j hj=>(HD.out j (by omega)).2) (by omega)
    have hp2:(prodN D (k+1):Int)=(prodN D k:Int)*((D k).n:Int):=by rw [prodN];exact Int.natCast_mul _ _
    have hp3:0≤(prodN D k:Int)*((D k).n:Int):=by omega
    have hp4:(prodN D k:Int)*((D k).n:Int)≤20736:=by omega
    have HW:Hid (Below w1.heap.size w1 wr):=hBw
    have HP:Hid ((prodN D (k+1):Int)=(prodN D k:Int)*((D k).n:Int)):=hp2
    clear hBw hp1 hp2
    go_wp2_with fail
    go_roundg (n-(k+1))
    case measure=>omega
    case rel=>exact ⟨k+1,by omega,rfl,by go_num,by rw [HP.out],onB HW.out (by go_grown)⟩
   ·have hke:k=n:=by omega
    subst hke
    go_wp2_with fail
    go_ret2
    rw [HV.out,HE.out]
    exact ⟨rfl,onB HB.out hBw⟩
 ·have HV:Hid (cellsV D n=0):=by show _=_;unfold cellsV;rw [if_neg he]
  have HE:Hid (errV (allErr D n).2.2=.iface 46 (.int .i64 (allErr D n).2.2)):=errV_some he
  rw [errV_some he] at h
  clear he
  generalize (allErr D n).2.2=c at h HE
  go_enter Tryz.func46,Tryz.ntmps46
  go_wp2_with fail
  refine h.mono ?_
  rintro e w1 ⟨rfl,hb1⟩
  go_wp2_with fail
  go_ret2
  rw [HV.out,HE.out]
  exact ⟨rfl,onB HB0.out hb1⟩
theorem wrap_small {q:Nat} (h:q≤3000):wrap64 (q:Int)=q:=by unfold wrap64;omega
theorem restAt_le (D:Nat→Dm) (m n r:Nat):restAt D m n r≤n:=by
 induction r with
 | zero=>exact Nat.le_refl _
 | succ r ih=>rw [restAt];exact Nat.le_trans (Nat.div_le_self _ _) ih
end Go.Proofs.YtenlladggdcfnaaGreatDoor
namespace Go.Proofs.YtenlladggdcfnaaGreatDoor
open Go.ChangeShapes Go.WideShapes Go.ChangeAt Go.RowKit
def ofP (n:Int):Int×Int:=if -1000000000000≤n∧n≤1000000000000 then (1,n) else (2,0)
theorem ofP_in {n:Int} (h1 : -1000000000000≤n) (h2:n≤1000000000000):ofP n=(1,n):=by unfold ofP;rw [if_pos ⟨h1,h2⟩]
theorem ofP_out {n:Int} (h:n < -1000000000000∨1000000000000<n):ofP n=(2,0):=by unfold ofP;rw [if_neg (by omega)]
theorem of_any (n:Int) (w:World):Calls Tryz.prog 48 #[.int .i64 n] w fun e w'=>e=.returned (.agg #[.int .i64 (ofP n).1,.int .i64 (ofP n).2])∧Below w.heap.size w w':=by
 by_cases h1 : -1000000000000≤n
 ·by_cases h2:n≤1000000000000
  ·rw [ofP_in h1 h2]
   go_enter Tryz.func48,Tryz.ntmps48
   go_wp2
   go_returns
   exact ⟨rfl,by go_grown⟩
  ·rw [ofP_out (by omega)]
   go_enter Tryz.func48,Tryz.ntmps48
   go_wp2
   go_returns
   exact ⟨rfl,by go_grown⟩
 ·rw [ofP_out (by omega)]
  go_enter Tryz.func48,Tryz.ntmps48
  go_wp2
  go_returns
  exact ⟨rfl,by go_grown⟩
end Go.Proofs.YtenlladggdcfnaaGreatDoor
