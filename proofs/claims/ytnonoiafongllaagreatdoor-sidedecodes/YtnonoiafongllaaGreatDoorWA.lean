import Derived.Test.YtnonoiafongllaaGreatDoorC
import Derived.Test.YtnonoiafongllaaGreatDoorU
set_option maxRecDepth 1000000
set_option maxHeartbeats 1000000
open Nat (le_of_lt le_refl zero_le)
open Go.Proofs.Tryz
namespace Go.Proofs.YtnonoiafongllaaGreatDoor
open Go.RowKit
theorem č{p:Prop}(h:p):Go.RowKit.Hid p:=h
def gW(ea:Nat->Addr)(w:World)(v:Value)(C A:Int):Prop:=
 (v = .nilIface/\C=0)\/(∃m:Nat,m<11/\v = .iface 235 (.pointer (some (ea m)))/\(m:Int)+1=C/\A = -1) \/
  (∃pb m:Nat,m<11/\v = .iface 77 (.pointer (some ⟨pb,0,none⟩))/\w.cell? ⟨pb,0,none⟩=some (.int .i64 A)/\w.cell? ⟨pb,1,none⟩=some (.iface 235 (.pointer (some (ea m))))/\(m:Int)+1=C)
theorem gW.below{ea:Nat->Addr}{w w':World}{v:Value}{C A:Int}(h:gW ea w v C A)(I:Below w.heap.size w w'):gW ea w' v C A:=by
 rcases h with h|h|⟨e,m,M,U,H,J,hc⟩
 ·exact .inl h
 ·exact .inr (.inl h)
 ·have hl:e<w.heap.size:=World.block_lt_of_cell? w ⟨e,0,none⟩ H;exact .inr (.inr ⟨e,m,M,U,(I.cell (p:=⟨e,0,none⟩) hl).trans H,(I.cell (p:=⟨e,1,none⟩) hl).trans J,hc⟩)
structure CU(B:Nat)(w:World):Prop where
 typ:w.cell? ⟨11,0,none⟩=some (.iface 192 (.agg #[.pointer (some ⟨14,28,none⟩)]))
 low:11<B
theorem CU.below{B:Nat}{w w':World}(E:CU B w){e:Nat}(h:Below e w w')(H:B<=e):CU B w':=by
 have hl:=E.low;exact⟨(h.cell (p:=⟨11,0,none⟩) (by show 11<e;omega)).trans E.typ,hl⟩
theorem XL{B:Nat}{ea:Nat->Addr}(w:World)(E:CU B w)(hB:B<=w.heap.size)(m:Nat):
  Calls prog 84 #[.iface 235 (.pointer (some (ea m)))] w λe w'=>e = .returned (.iface 235 (.pointer (some (ea m))))/\Below w.heap.size w w':=by
 obtain⟨W,J⟩:=ak (w.alloc (.cells #[.pointer none] 77));have M:Below w.heap.size w W:=by rw[J];exact (Below.refl _ _).alloc (le_refl _) _
 have U:Hid _:=OD (ea m) ⟨w.heap.size,0,none⟩ W (E.below M hB).typ;have Z:=č J;have I:=č M;go_enter func84,ntmps84;go_wp2_with fail;rw[<-Z.out];refine Calls.mono U.out ?_;rintro e w1 ⟨rfl,ώ⟩;have H:=č (I.out.trans (ώ.mono I.out.size));go_wp2;go_ret;exact⟨rfl,H.out⟩
theorem Oy{B:Nat}{ea:Nat->Addr}(w:World)(E:CU B w)(hB:B<=w.heap.size)(H m:Nat)(he:w.cell? ⟨H,1,none⟩=some (.iface 235 (.pointer (some (ea m))))):
  Calls prog 84 #[.iface 77 (.pointer (some ⟨H,0,none⟩))] w λe w'=>e = .returned (.iface 235 (.pointer (some (ea m))))/\Below w.heap.size w w':=by
 have ľ:=World.block_lt_of_cell? w ⟨H,1,none⟩ he;have ϵ:Below w.heap.size w (w.alloc (.cells #[.pointer none] 77)):=(Below.refl _ _).alloc (le_refl _) _;have Z:=(E.below ϵ hB).typ;have M:(w.alloc (.cells #[.pointer none] 77)).cell? ⟨w.heap.size,0,none⟩=some (.pointer none):=dY;have U:(w.alloc (.cells #[.pointer none] 77)).frozen? ⟨w.heap.size,0,none⟩=false:=dY;go_enter func84,ntmps84;go_wp2_with fail;refine (KV ⟨H,0,none⟩ ⟨w.heap.size,0,none⟩ _ _ Z M U).mono ?_;rintro e w1 ⟨rfl,J⟩;have I:Below w.heap.size w w1:=by
  rw[J];exact (((((Below.refl w.heap.size w).alloc (le_refl _) _).alloc dY _).alloc bY _).alloc bY _ |>.alloc bY _).setCell (le_refl _) _
 have hcf:w1.cell? ⟨w.heap.size,0,none⟩=some (.pointer (some ⟨H,0,none⟩)):=by
  rw[J];refine World.cell?_setCell_same _ _ _ (u:=.pointer none) ?_;rw[World.cell?_alloc_lt _ _ ⟨w.heap.size,0,none⟩ bY,World.cell?_alloc_lt _ _ ⟨w.heap.size,0,none⟩ bY,World.cell?_alloc_lt _ _ ⟨w.heap.size,0,none⟩ bY,World.cell?_alloc_lt _ _ ⟨w.heap.size,0,none⟩ dY];simp
 have he1:=(I.cell (p:=⟨H,1,none⟩) ľ).trans he;have HB:=č I;clear J M U he Z ϵ I;go_wp2;go_ret;exact⟨rfl,HB.out⟩
theorem aay{B:Nat}{ea:Nat->Addr}(w:World)(E:CU B w)(H:B<=w.heap.size)(v:Value)(C A:Int)(h:gW ea w v C A)(hC:0<C):
  Calls prog 84 #[v] w λe w'=>∃m:Nat,m<11/\(m:Int)+1=C/\e = .returned (.iface 235 (.pointer (some (ea m))))/\Below w.heap.size w w':=by
 rcases h with⟨rfl,rfl⟩|⟨m,hm,rfl,hc,rfl⟩|⟨pb,m,hm,rfl,c0,c1,hc⟩
 ·omega
 ·exact (XL w E H m).mono λe w' h=>⟨m,hm,hc,h.1,h.2⟩
 ·exact (Oy w E H pb m c1).mono λe w' h=>⟨m,hm,hc,h.1,h.2⟩
theorem Ze{B:Nat}{ea:Nat->Addr}(w:World)(E:CU B w)(Z:B<=w.heap.size)(i:Int)(v:Value)(C A:Int)(h:gW ea w v C A)(hC:0<C):
  Calls prog 54 #[.int .i64 i,v] w λe w'=>∃J m:Nat,e = .returned (.iface 77 (.pointer (some ⟨J,0,none⟩)))/\Below w.heap.size w w'/\m<11/\w'.cell? ⟨J,0,none⟩=some (.int .i64 i)/\w'.cell? ⟨J,1,none⟩=some (.iface 235 (.pointer (some (ea m))))/\(m:Int)+1=C:=by
 have U:=č (aay w E Z v C A h hC);go_enter func54,ntmps54;go_wp2_with fail;refine Calls.mono U.out ?_;rintro e w1 ⟨m,hm,I,rfl,M⟩;have H:=č M;have Ϻ:=M.size;go_wp2;go_ret;exact⟨w1.heap.size,m,rfl,H.out.alloc Ϻ _,hm,dY,dY,I⟩
theorem Np(w:World)(at_:Int):
  Calls prog 11 #[.nilIface,.agg #[.int .i64 0,.int .i64 at_]] w λe w'=>e = .returned (.bool true)/\Below w.heap.size w w':=by
 go_enter func11,ntmps11;go_wp2_with (go_at_call 25;refine (VH _).mono ?_;rintro e w' ⟨rfl,rfl⟩);go_ret;exact⟨rfl,(Below.refl _ _).alloc (le_refl _) _⟩
theorem Oz{B:Nat}{ea:Nat->Addr}(w:World)(E:Env B ea w)(hB:B<=w.heap.size)(m:Nat)(J:m<11)(c:Int)(hc:(m:Int)+1=c):
  Calls prog 11 #[.iface 235 (.pointer (some (ea m))),.agg #[.int .i64 c,.int .i64 (-1)]] w λe w'=>e = .returned (.bool true)/\Below w.heap.size w w':=by
 obtain⟨w1,M⟩:=ak (w.alloc (.cells #[.int .i64 c,.int .i64 (-1)] 32));have ώ:Below w.heap.size w w1:=by rw[M];exact (Below.refl _ _).alloc (le_refl _) _
 have U:=E.below ώ hB;have Ä:w1.heap.size=w.heap.size+1:=by rw[M];simp
 have h:=Zk w1 U aV (ea m) (U.blk m J) m (le_of_lt J) (λj hj he=>by have:=U.inj j m aV J he;omega) (λ_=>rfl);rw[if_pos J,hc] at h;have ϊ:w1.heap[w.heap.size]? = some (.cells #[.int .i64 c,.int .i64 (-1)] 32 (0,0)):=by rw[M];exact heap_alloc_new _ _
 have H:=č h;have Z:=č ϊ;have I:=č ώ;have ì:(c==0)=false:=by rw[beq_eq_false_iff_ne];omega
 rw[M] at H Z I;go_enter func11,ntmps11;go_wp2_with fail;refine Calls.mono H.out ?_;rintro e w2 ⟨rfl,ϔ⟩;have ϟ:=(ϔ.block w.heap.size dY).trans Z.out;have z0:=aj ϟ 0;have z1:=aj ϟ 1;have qA:=č (I.out.trans (ϔ.mono I.out.size));go_wp2;go_ret;exact⟨dY,qA.out⟩
theorem IW{B:Nat}{ea:Nat->Addr}(w:World)(E:Env B ea w)(hB:B<=w.heap.size)(J po:Nat)(n:Int)(m:Nat)(hm:m<11)(ha:w.cell? ⟨J,po,none⟩=some (.int .i64 n))(he:w.cell? ⟨J,po+1,none⟩=some (.iface 235 (.pointer (some (ea m)))))(c:Int)(hc:(m:Int)+1=c):
  Calls prog 11 #[.iface 77 (.pointer (some ⟨J,po,none⟩)),.agg #[.int .i64 c,.int .i64 n]] w λe w'=>e = .returned (.bool true)/\Below w.heap.size w w':=by
 obtain⟨w1,U⟩:=ak (w.alloc (.cells #[.int .i64 c,.int .i64 n] 32));have M:Below w.heap.size w w1:=by rw[U];exact (Below.refl _ _).alloc (le_refl _) _
 have E1:=E.below M hB;have Ä:w1.heap.size=w.heap.size+1:=by rw[U];simp
 have ľ:=lt_of_cell ha;have h:=Qj w1 E1 aV J po n m hm ((M.cell (p:=⟨J,po,none⟩) ľ).trans ha) ((M.cell (p:=⟨J,po+1,none⟩) ľ).trans he);rw[hc] at h;have ϊ:w1.heap[w.heap.size]? = some (.cells #[.int .i64 c,.int .i64 n] 32 (0,0)):=by rw[U];exact heap_alloc_new _ _
 have H:=č h;have Z:=č ϊ;have I:=č M;have ì:(c==0)=false:=by rw[beq_eq_false_iff_ne];omega
 rw[U] at H Z I;go_enter func11,ntmps11;go_wp2_with fail;refine Calls.mono H.out ?_;rintro e w2 ⟨rfl,ϔ⟩;have ϟ:=(ϔ.block w.heap.size dY).trans Z.out;have z0:=aj ϟ 0;have z1:=aj ϟ 1;have qA:=č (I.out.trans (ϔ.mono I.out.size));go_wp2;go_ret;exact⟨dY,qA.out⟩
theorem Sm{B:Nat}{ea:Nat->Addr}(w:World)(E:Env B ea w)(H:B<=w.heap.size)(v:Value)(C A:Int)(h:gW ea w v C A):
  Calls prog 11 #[v,.agg #[.int .i64 C,.int .i64 A]] w λe w'=>e = .returned (.bool true)/\Below w.heap.size w w':=by
 rcases h with⟨rfl,rfl⟩|⟨m,hm,rfl,hc,rfl⟩|⟨pb,m,hm,rfl,c0,c1,hc⟩
 ·exact Np w A
 ·exact Oz w E H m hm C hc
 ·exact IW w E H pb 0 A m hm c0 (by simpa using c1) C hc
def SL(w:World)(v:Value)(n:Nat)(S:Nat->ByteArray):Prop:=∃a c,v = .slice a n c/\∀i,i<n->∃g,a=some ⟨g,0,none⟩/\w.cell? ⟨g,i,none⟩=some (.string (S i))
theorem DY(w:World)(k n:Int)(h:k<1):Calls prog 8 #[.int .i64 k,.int .i64 n] w λe w'=>e = .returned (.agg #[.int .i64 3,.int .i64 (-1)])/\Below w.heap.size w w':=by
 go_enter func8,ntmps8;go_wp2_with fail;refine (Fh 3 _).mono ?_;rintro e w1 ⟨rfl,U⟩;obtain⟨hc,J,M⟩:=xR U;have H:=hc 0;have I:=hc 1;have Z:=J 0;have z1:=J 1;simp only[List.getElem?_toArray] at H I;go_wp2;refine bodyPost_ret (v:=.agg #[.int .i64 3,.int .i64 (-1)]) (by simp[results,results8,go_sem,H,I]) rfl ⟨rfl,?_⟩;exact (M.setCell (le_refl _) _).setCell (le_refl _) _
theorem CV(w:World)(k n:Int)(h:16<k):Calls prog 8 #[.int .i64 k,.int .i64 n] w λe w'=>e = .returned (.agg #[.int .i64 3,.int .i64 (-1)])/\Below w.heap.size w w':=by
 have Z:¬ k<1:=aV;go_enter func8,ntmps8;go_wp2_with fail;refine (Fh 3 _).mono ?_;rintro e w1 ⟨rfl,U⟩;obtain⟨hc,J,M⟩:=xR U;have H:=hc 0;have I:=hc 1;have z0:=J 0;have z1:=J 1;simp only[List.getElem?_toArray] at H I;go_wp2;refine bodyPost_ret (v:=.agg #[.int .i64 3,.int .i64 (-1)]) (by simp[results,results8,go_sem,H,I]) rfl ⟨rfl,?_⟩;exact (M.setCell (le_refl _) _).setCell (le_refl _) _
theorem CW(w:World)(k n:Int)(Z:1<=k)(h2:k<=16)(h3:100<n):Calls prog 8 #[.int .i64 k,.int .i64 n] w λe w'=>e = .returned (.agg #[.int .i64 2,.int .i64 (-1)])/\Below w.heap.size w w':=by
 go_enter func8,ntmps8;go_wp2_with fail;refine (Fh 2 _).mono ?_;rintro e w1 ⟨rfl,U⟩;obtain⟨hc,J,M⟩:=xR U;have H:=hc 0;have I:=hc 1;have z0:=J 0;have z1:=J 1;simp only[List.getElem?_toArray] at H I;go_wp2;refine bodyPost_ret (v:=.agg #[.int .i64 2,.int .i64 (-1)]) (by simp[results,results8,go_sem,H,I]) rfl ⟨rfl,?_⟩;exact (M.setCell (le_refl _) _).setCell (le_refl _) _
theorem CX(w:World)(k n:Int)(Z:1<=k)(h2:k<=16)(h3:n<=100):Calls prog 8 #[.int .i64 k,.int .i64 n] w λe w'=>e = .returned (.agg #[.int .i64 0,.int .i64 (-1)])/\Below w.heap.size w w':=by
 go_enter func8,ntmps8;go_wp2_with fail;refine (Ms _).mono ?_;rintro e w1 ⟨rfl,U⟩;obtain⟨hc,J,M⟩:=xR U;have H:=hc 0;have I:=hc 1;have z0:=J 0;have z1:=J 1;simp only[List.getElem?_toArray] at H I;go_wp2;refine bodyPost_ret (v:=.agg #[.int .i64 0,.int .i64 (-1)]) (by simp[results,results8,go_sem,H,I]) rfl ⟨rfl,?_⟩;exact (M.setCell (le_refl _) _).setCell (le_refl _) _
def lT(k n:Int):Int:=if k<1\/16<k then 3 else if 100<n then 2 else 0
theorem Kr(w:World)(k n:Int):Calls prog 8 #[.int .i64 k,.int .i64 n] w λe w'=>e = .returned (.agg #[.int .i64 (lT k n),.int .i64 (-1)])/\Below w.heap.size w w':=by
 unfold lT;by_cases I:k<1
 ·rw[if_pos (.inl I)];exact DY w k n I
 ·by_cases J:16<k
  ·rw[if_pos (.inr J)];exact CV w k n J
  ·rw[if_neg aV];by_cases H:100<n
   ·rw[if_pos H];exact CW w k n aV aV H
   ·rw[if_neg H];exact CX w k n aV aV aV
theorem Tryz.infoStrS:(prog.info? 9).map (λi=>(i.zero,i.size,i.bytes))=some (some (.string ⟨#[]⟩),1,16):=bH
def strs(S:Nat->ByteArray)(n:Nat):List Value:=(List.range n).map λi=>.string (S i)
theorem yt(S:Nat->ByteArray)(k:Nat):strs S (k+1)=strs S k ++ [.string (S k)]:=by simp[strs,List.range_succ]
def Aq(w:World)(A n:Nat)(S:Nat->ByteArray)(V:Nat->Value):Prop:=∀i,i<n->w.cell? ⟨A,i*3,none⟩=some (.int .i64 i)/\w.cell? ⟨A,i*3+1,none⟩=some (.string (S i))/\w.cell? ⟨A,i*3+2,none⟩=some (V i)
theorem yP{B:Nat}{ea:Nat->Addr}(w:World)(E:CU B w)(hB:B<=w.heap.size)(A n:Nat)(S:Nat->ByteArray)(V:Nat->Value)(h:Aq w A n S V)(hA:A<w.heap.size)(hn:n<=1000)(m:Nat)(hm:m<=n)(Ϥ:∀i,i<m->V i = .nilIface)
  (C F:Int) (ϛ:m<n->gW ea w (V m) C F/\0<C/\∃p,V m = .iface 77 (.pointer (some p))) :
  Calls prog 36 #[.slice (some ⟨A,0,none⟩) n n] w λe w'=>Below w.heap.size w w' /\
   ((m=n/\∃v,e = .returned (.tuple #[v,.nilIface])/\w'.ownsRow w.heap.size 9 1 v n (strs S n)) \/
   (m<n/\∃Z k:Nat,e = .returned (.tuple #[.slice none 0 0,.iface 77 (.pointer (some ⟨Z,0,none⟩))])/\k<11/\w'.cell? ⟨Z,0,none⟩=some (.int .i64 m)/\w'.cell? ⟨Z,1,none⟩=some (.iface 235 (.pointer (some (ea k))))/\(k:Int)+1=C)):=by
 have HH:=č h;have jk:=č Ϥ;have U:=č ϛ;have HE:=č E;obtain⟨iS,hI,ο,ļ,π⟩:=info_parts Tryz.infoStrS;have EI:=č hI;clear h Ϥ ϛ E hI;go_enter func36,ntmps36;go_wp2_with (at_make;refine wpList_make_own _ rfl _ _ 26 rfl w.heap.size 9 iS (.string ⟨#[]⟩) 1 underlying26 EI.out ο ļ _ _ _ n rfl rfl aV ?b2 ?b3 aV ?_);case b2=>rw[π];omega
 case b3=>unfold maxLen;omega
 intro w0 ð M;have ϵ:Below w.heap.size w w0:=⟨M.os,M.tape,M.output,M.size,λj hj=>M.block j hj dY⟩;have HB0:=č ϵ;have HO0:Hid (w0.ownsRow w.heap.size 9 1 (.slice (some ⟨w.heap.size,0,none⟩) 0 n) 0 []):=ð;clear ϵ ð M;go_wp2_with fail;go_loopw [4,5,6,12] (λu4 _ _ i wr=>∃k:Nat,k<=m/\i = .int .i64 k/\Below w.heap.size w wr/\wr.ownsRow w.heap.size 9 1 u4 k (strs S k)) (λ_ _ _ i _=>n-(intOf i).toNat);case atStart=>exact⟨0,zero_le _,rfl,HB0.out,by have h:=HO0.out;exact h⟩
 case round=>
  obtain⟨k,hk,rfl,I,ϗ⟩:=hrel;by_cases Ϩ:k<n
  ·obtain⟨c0,c1,c2⟩:=HH.out k Ϩ;have Ϭ:(0:Int)<=k:=aV;have ϓ:(k:Int)<n:=aV;have e0:=(I.cell (p:=⟨A,k*3,none⟩) hA).trans c0;have e1:=(I.cell (p:=⟨A,k*3+1,none⟩) hA).trans c1;have e2:=(I.cell (p:=⟨A,k*3+2,none⟩) hA).trans c2;have J:=č I;have H:Hid (wr.ownsRow w.heap.size 9 1 u4 k (strs S k)):=ϗ;have Ê:=I.size;obtain⟨s,hs⟩:=ak (S k);rw[<-hs] at e1;have HSK:=č hs;clear I ϗ c0 c1 c2 hs;by_cases þ:k<m
   ·rw[jk.out k þ] at e2;have EJ:Hid (((wr.alloc (.cells #[.int .i64 k,.string s,.nilIface] 104)).alloc (.cells #[.string s] 9)).ownsRow w.heap.size 9 1 u4 k (strs S k)):=(H.out.alloc _).alloc _;have Bq:Hid (∀j u,[Value.string s][j]? = some u->((wr.alloc (.cells #[.int .i64 k,.string s,.nilIface] 104)).alloc (.cells #[.string s] 9)).cell? ((⟨wr.heap.size+1,0,none⟩:Addr).add j)=some u):=by
     have e:(wr.alloc (.cells #[.int .i64 k,.string s,.nilIface] 104)).heap.size=wr.heap.size+1:=dY;rw[<-e];exact World.news_of_block (cs:=#[.string s]) (heap_alloc_new _ _)
    have Cy:Hid (∀u ∈ [Value.string s],u.oneCell'=true):=λu hu=>by simp at hu;subst hu;rfl
    go_wp2_with (at_builtin;refine wpList_append_lies _ rfl _ _ 26 rfl w.heap.size 9 iS (.string ⟨#[]⟩) 1 16 underlying26 EI.out ο ļ π rfl bS _ _ _ rfl EJ.out ⟨wr.heap.size+1,0,none⟩ 1 1 [.string s] rfl rfl Bq.out Cy.out aV (by unfold maxLen;omega) aV bY _ rfl ?_);intro g7 Ar w7 kD iJ _ _;have GU:Hid (Below w.heap.size w w7):=lZ (J.out.alloc Ê _) (H.out.alloc _) iJ;have Vo:Hid (w7.ownsRow w.heap.size 9 1 (.slice (some ⟨g7,0,none⟩) (k+1) Ar) (k+1) (strs S (k+1))):=by
     show World.ownsRow _ _ _ _ _ _ _;rw[yt,<-HSK.out];exact kD
    clear kD iJ;go_wp2;go_roundw;case rel=>exact⟨k+1,aV,fT,GU.out,Vo.out⟩
    case measure=>simp[intOf]<;>omega
   ·obtain rfl:k=m:=aV;obtain⟨hf,hC,⟨p,hp⟩⟩:=U.out Ϩ;rw[hp] at e2 hf;have HF:Hid (gW ea w (.iface 77 (.pointer (some p))) C F):=hf;clear hf hp;go_wp2_with fail;have HAT:Hid _:=Ze (wr.alloc (.cells #[.int .i64 k,.string s,.iface 77 (.pointer (some p))] 104)) (HE.out.below (J.out.alloc Ê _) hB) bY k _ C F (gW.below HF.out (J.out.alloc Ê _)) hC;refine Calls.mono HAT.out ?_;rintro e w1 ⟨Z,j,rfl,ώ,hj,p0,p1,hjC⟩;have HB1:Hid (Below w.heap.size w w1):=(J.out.alloc Ê _).trans (ώ.mono bY);have HP:=č (And.intro p0 p1);clear ώ p0 p1;go_wp2;go_ret2;exact⟨HB1.out,.inr ⟨Ϩ,Z,j,rfl,hj,HP.out.1,HP.out.2,hjC⟩⟩
  ·have Ĉ:(n:Int)<=k:=aV;obtain rfl:k=n:=aV;have J:=č I;have H:Hid (wr.ownsRow w.heap.size 9 1 u4 k (strs S k)):=ϗ;clear I ϗ;go_wp2;go_ret2;exact⟨J.out,.inl ⟨aV,_,rfl,H.out⟩⟩
