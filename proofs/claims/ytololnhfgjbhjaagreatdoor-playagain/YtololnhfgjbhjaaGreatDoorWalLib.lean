import Derived.Test.YtololnhfgjbhjaaGreatDoorStrLib
import Derived.Test.YtololnhfgjbhjaaGreatDoorWalMath
import Derived.Test.YtololnhfgjbhjaaGreatDoorMaskLibGroup
import Derived.Shelf.Strings.Repeat
set_option maxRecDepth 1000000
set_option maxHeartbeats 4000000
open Go.Proofs.Tryz
namespace Go.Proofs.YtololnhfgjbhjaaGreatDoor
open Go.Shelf
theorem acr{p:Prop}(h:p):Go.RowKit.Hid p:=h
def Hf:Go.Shelf.Ren:=⟨fun|105=>161|212=>190|99=>127|165=>191|166=>192|170=>193|169=>194|263=>224|264=>225|206=>166|240=>226|241=>227|276=>252|277=>253|n=>n,fun|9=>9|3=>3|4=>4|20=>20|0=>0|46=>174|109=>286|5=>5|72=>290|76=>38|51=>192|146=>321|53=>34|148=>323|70=>288|37=>64|75=>26|127=>325|164=>195|80=>63|n=>n,fun|n=>n⟩
theorem adH:Go.Proofs.Lays.n105 prog Hf:={
 mixed:=by kernel_rfl
 f99:=func127.trans (congrArg some (by kernel_rfl))
 f105:=func161.trans (congrArg some (by kernel_rfl))
 f165:=func191.trans (congrArg some (by kernel_rfl))
 f166:=func192.trans (congrArg some (by kernel_rfl))
 f169:=func194.trans (congrArg some (by kernel_rfl))
 f170:=func193.trans (congrArg some (by kernel_rfl))
 f206:=func166.trans (congrArg some (by kernel_rfl))
 f212:=func190.trans (congrArg some (by kernel_rfl))
 f240:=func226.trans (congrArg some (by kernel_rfl))
 f241:=func227.trans (congrArg some (by kernel_rfl))
 f263:=func224.trans (congrArg some (by kernel_rfl))
 f264:=func225.trans (congrArg some (by kernel_rfl))
 f276:=func252.trans (congrArg some (by kernel_rfl))
 f277:=func253.trans (congrArg some (by kernel_rfl))
 t0:=underlying0
 a0:=isAgg0
 z0:=sizeOf0
 v0:=zeroValue0
 t3:=underlying3
 a3:=isAgg3
 z3:=sizeOf3
 v3:=zeroValue3
 t4:=underlying4
 a4:=isAgg4
 z4:=sizeOf4
 v4:=zeroValue4
 t5:=underlying5
 a5:=isAgg5
 z5:=sizeOf5
 v5:=zeroValue5
 t9:=underlying9
 a9:=isAgg9
 z9:=sizeOf9
 v9:=zeroValue9
 t20:=underlying20
 a20:=isAgg20
 z20:=sizeOf20
 v20:=zeroValue20
 t37:=underlying64
 a37:=isAgg64
 z37:=sizeOf64
 v37:=zeroValue64
 t46:=underlying174
 a46:=isAgg174
 z46:=sizeOf174
 v46:=zeroValue174
 t51:=underlying192
 a51:=isAgg192
 z51:=sizeOf192
 v51:=zeroValue192
 t53:=underlying34
 a53:=isAgg34
 z53:=sizeOf34
 v53:=zeroValue34
 t70:=underlying288
 a70:=isAgg288
 z70:=sizeOf288
 v70:=zeroValue288
 t72:=underlying290
 a72:=isAgg290
 z72:=sizeOf290
 v72:=zeroValue290
 t75:=underlying26
 a75:=isAgg26
 z75:=sizeOf26
 v75:=zeroValue26
 t76:=underlying38
 a76:=isAgg38
 z76:=sizeOf38
 v76:=zeroValue38
 t109:=underlying286
 a109:=isAgg286
 z109:=sizeOf286
 v109:=zeroValue286
 t127:=underlying325
 a127:=isAgg325
 z127:=sizeOf325
 v127:=zeroValue325
 t146:=underlying321
 a146:=isAgg321
 z146:=sizeOf321
 v146:=zeroValue321
 t148:=underlying323
 a148:=isAgg323
 z148:=sizeOf323
 v148:=zeroValue323
 t164:=underlying195
 a164:=isAgg195
 z164:=sizeOf195
 v164:=zeroValue195 }
theorem adI:Builder.Extra prog Hf where
 sizeBuilder:=by kernel_rfl
 liesBuilder:=by kernel_rfl
 t5:=underlying5
 a5:=isAgg5
 z5:=sizeOf5
 v5:=zeroValue5
 infoByte:=by kernel_rfl
 cellsByte:=by kernel_rfl
 sizeByte:=by kernel_rfl
 neB5:=by decide
open Go.RowKit aY
def P16(l:List UInt8)(e:Ending):Prop:=
 (l ≠ []/\∃v:Nat,dP 0 l=some v/\e = .returned (.tuple #[.int .u64 (v:Int),.nilIface])) \/
 ((l = []\/dP 0 l=none)/\∃x m:Int,(m=1\/m=2)/\e = .returned (.tuple #[.int .u64 x,.iface 337 (.int .i64 m)]))
theorem ab6:∀c:Nat,c<256->bits .or .u8 (c:Int) 32=((c|||32:Nat):Int):=by decide
theorem afn:∀c:Nat,c<256->97<=c|||32->c|||32<=102->57<c/\c≠95:=by decide
theorem UR(c:Nat)(hc:c<256)(w:World):Calls prog 246 #[.int .u8 (c:Int)] w λe w'=>e = .returned (.int .u8 ((c|||32:Nat):Int))/\w'=w:=by
 have h:=ab6 c hc;go_enter func246,ntmps246;go_wp2;go_ret;exact⟨rfl,rfl⟩
theorem XB(t:ByteArray)(hmax:t.size<=1000000)(w:World):
  Calls prog 217 #[.string t,.int .i64 16,.int .i64 64] w λe w'=>P16 t.data.toList e/\Below w.heap.size w w':=by
 by_cases Ϙ:t.size=0
 ·have hem:t.toList.isEmpty=true:=by
   have:t.data.toList = []:=List.eq_nil_of_length_eq_zero (by rw[Array.length_toList];exact Ϙ);rw[ByteArray.toList_eq,this];rfl
  have HE:Hid (t.data.toList = []):=List.eq_nil_of_length_eq_zero (by rw[Array.length_toList];exact Ϙ);clear Ϙ;go_enter func217,ntmps217;go_wp2;go_ret2;exact⟨.inr ⟨.inl HE.out,0,2,.inr rfl,rfl⟩,Below.refl _ _⟩
 have hemp:t.toList.isEmpty=false:=by
  rw[<-decide_eq_emptyBytes];exact decide_eq_false (λh=>Ϙ (by rw[h];rfl))
 have π:=Lib.run_convert_string_bytes (P:=prog) w 9 64 5 t (u:=.string) underlying9 underlying64 underlying5;have hB:∀j,j<t.size->(Lib.bytesWorld w 5 t).cell? ⟨w.heap.size,j,none⟩=some (.int .u8 (t.data.toList.getD j 0).toNat):=λj hj=>Lib.bytesWorld_cell w 5 t j hj
 have jH:Hid (Below w.heap.size w (Lib.bytesWorld w 5 t)):=Lib.bytesWorld_below _ _ _;obtain⟨W1,à⟩:∃W1,W1=Lib.bytesWorld w 5 t:=⟨_,rfl⟩;rw[<-à] at π hB jH;clear à;obtain⟨bs,hL⟩:∃bs,bs=t.data.toList:=⟨_,rfl⟩;have hLn:bs.length=t.size:=by rw[hL,Array.length_toList];rfl
 rw[<-hL] at hB ⊢;have HNE:Hid (bs ≠ []):=by
  show bs ≠ [];intro h;rw[h] at hLn;exact Ϙ hLn.symm
 clear hL;have Mq:=acr hB;have hmv:IntKind.u64.wrap (IntKind.u64.wrap 18446744073709551616-1)=18446744073709551615:=by
  rw[IntKind.wrap_u64,IntKind.wrap_u64];decide
 clear hB;go_enter func217,ntmps217;go_wp2_with fail;go_loop [12,13,101] (λvu vn vi=>∃(k acc:Nat) (a:Int),vu = .bool false/\vn = .int .u64 a/\vi = .int .i64 k/\k<=t.size/\Hid (a=(acc:Int)/\acc<18446744073709551616/\dP 0 bs=dP acc (bs.drop k)))
  (λ_ _ vi=>t.size-(intOf vi).toNat)
 case atStart=>exact⟨0,0,0,rfl,rfl,rfl,by omega,rfl,by omega,rfl⟩
 case round=>
  obtain⟨k,acc,a,rfl,rfl,rfl,hk,hh⟩:=hrel;obtain⟨ha,hacc,ϳ⟩:=hh.out;clear hh;have a0:0<=a:=by omega
  have a1:a<18446744073709551616:=by omega
  by_cases ϥ:k<t.size
  ·have hc:=Mq.out k ϥ;have Ų:bs.drop k=bs[k]'(by omega)::bs.drop (k+1):=List.drop_eq_getElem_cons (by omega);have Ϥ:bs.getD k 0=bs[k]'(by omega):=by simp[List.getD,List.getElem?_eq_getElem (show k<bs.length by omega)]
   rw[Ų,dP] at ϳ;rw[Ϥ] at hc;generalize bs[k]'(by omega)=c at hc ϳ;have Ε:c.toNat<256:=c.toNat_lt;have Ï:=ab6 c.toNat Ε;have yE:Hid (∀w',Calls prog 246 #[.int .u8 (c.toNat:Int)] w' λe w2=>e = .returned (.int .u8 ((c.toNat|||32:Nat):Int))/\w2=w'):=λw'=>UR c.toNat Ε w'
   obtain⟨lc,Δ⟩:∃lc,lc=c.toNat|||32:=⟨_,rfl⟩;have amY:lc<256:=by rw[Δ];exact Nat.or_lt_two_pow (n:=8) Ε (by decide)
   rw[<-Δ] at yE;have hv:Bf c.toNat=if 48<=c.toNat/\c.toNat<=57 then some (c.toNat-48) else if 97<=lc/\lc<=102 then some (lc-87) else none:=by rw[Δ];rfl
   have Tf:=acr hv;have Fe:=acr ϳ;have HGT:Hid (97<=lc->lc<=102->57<c.toNat/\c.toNat≠95):=by rw[Δ];exact afn _ Ε
   clear Ų Ϥ Δ Ï hv ϳ;obtain⟨cn,hcn⟩:∃cn,cn=c.toNat:=⟨_,rfl⟩;rw[<-hcn] at hc Ε yE Tf Fe HGT;clear hcn;by_cases hdig:48<=cn/\cn<=57
   ·obtain⟨hd0,ĸ⟩:=hdig;have hF:Bf cn=some (cn-48):=by rw[Tf.out,if_pos ⟨hd0,ĸ⟩]
    have ϳ:=Fe.out;rw[hF] at ϳ;dsimp only at ϳ;by_cases hcut:1152921504606846976<=acc
    ·rw[if_pos hcut] at ϳ;have HD:=acr ϳ;have icut:1152921504606846976<=a:=by omega
     clear hcut hacc hF ha ϳ;go_wp2;go_ret2;exact⟨.inr ⟨.inr HD.out,_,1,.inl rfl,rfl⟩,jH.out⟩
    ·rw[if_neg hcut] at ϳ;have HN:Hid (a*16+((cn:Int)-48)=((acc*16+(cn-48):Nat):Int)/\acc*16+(cn-48)<18446744073709551616/\dP 0 bs=dP (acc*16+(cn-48)) (bs.drop (k+1))):=⟨by omega,by omega,ϳ⟩;have icut:a<1152921504606846976:=by omega
     have iov:a*16+((cn:Int)-48)<18446744073709551616:=by omega
     clear hcut hacc hF ϳ ha;go_wp2;exact⟨⟨k+1,acc*16+(cn-48),a*16+((cn:Int)-48),rfl,(by first|rfl|(congr 1;omega)),(by first|rfl|(congr 1;omega)),by omega,HN⟩,by simp[intOf];omega⟩
   ·by_cases τ:97<=lc/\lc<=102
    ·obtain⟨Ń,Ş⟩:=τ;have hF:Bf cn=some (lc-87):=by rw[Tf.out,if_neg hdig,if_pos ⟨Ń,Ş⟩]
     have ϳ:=Fe.out;rw[hF] at ϳ;dsimp only at ϳ;have il0:(97:Int)<=(lc:Int):=by omega
     have il1:(lc:Int)<=122:=by omega
     have hgt:=HGT.out Ń Ş;have Tg:(48:Int)<=(cn:Int):=by omega
     have d57:decide ((cn:Int)<=57)=false:=by simp;omega
     have d95:((cn:Int)==95)=false:=by rw[beq_eq_false_iff_ne];omega
     clear hdig HGT Tf hgt;by_cases hcut:1152921504606846976<=acc
     ·rw[if_pos hcut] at ϳ;have HD:=acr ϳ;have icut:1152921504606846976<=a:=by omega
      clear hcut hacc hF ha ϳ;go_wp2_with fail;refine Calls.mono (yE.out _) ?_;rintro e w' ⟨rfl,hw'⟩;have hw'':=hw'.symm;subst hw'';go_wp2_with fail;refine Calls.mono (yE.out _) ?_;rintro e w' ⟨rfl,hw'⟩;have hw'':=hw'.symm;subst hw'';go_wp2_with fail;refine Calls.mono (yE.out _) ?_;rintro e w' ⟨rfl,hw'⟩;have hw'':=hw'.symm;subst hw'';go_wp2;go_ret2;exact⟨.inr ⟨.inr HD.out,_,1,.inl rfl,rfl⟩,jH.out⟩
     ·rw[if_neg hcut] at ϳ;have HN:Hid (a*16+((lc:Int)-97+10)=((acc*16+(lc-87):Nat):Int)/\acc*16+(lc-87)<18446744073709551616/\dP 0 bs=dP (acc*16+(lc-87)) (bs.drop (k+1))):=⟨by omega,by omega,ϳ⟩;have icut:a<1152921504606846976:=by omega
      have iov:a*16+((lc:Int)-97+10)<18446744073709551616:=by omega
      clear hcut hacc hF ϳ ha;go_wp2_with fail;refine Calls.mono (yE.out _) ?_;rintro e w' ⟨rfl,hw'⟩;have hw'':=hw'.symm;subst hw'';go_wp2_with fail;refine Calls.mono (yE.out _) ?_;rintro e w' ⟨rfl,hw'⟩;have hw'':=hw'.symm;subst hw'';go_wp2_with fail;refine Calls.mono (yE.out _) ?_;rintro e w' ⟨rfl,hw'⟩;have hw'':=hw'.symm;subst hw'';go_wp2;exact⟨⟨k+1,acc*16+(lc-87),a*16+((lc:Int)-97+10),rfl,(by first|rfl|(congr 1;omega)),(by first|rfl|(congr 1;omega)),by omega,HN⟩,by simp[intOf];omega⟩
    ·have hF:Bf cn=none:=by rw[Tf.out,if_neg hdig,if_neg τ]
     have ϳ:=Fe.out;rw[hF] at ϳ;have HD:=acr ϳ;have BR:=(show Hid (¬ (97<=lc/\lc<=102)) from τ);clear hF ϳ hacc ha HGT Tf Fe τ;have hdg:decide ((48:Int)<=(cn:Int))=false\/((48:Int)<=(cn:Int)/\decide ((cn:Int)<=57)=false):=by
      rcases (by omega:cn<48\/57<cn) with h|h
      ·exact .inl (by simp;omega)
      ·exact .inr ⟨by omega,by simp;omega⟩
     clear hdig;rcases (by have:=BR.out;omega:lc<97\/122<lc\/(103<=lc/\lc<=122)) with h1|h1|⟨h1,h2⟩
     ·have e1:decide ((97:Int)<=(lc:Int))=false:=by simp;omega
      clear h1;rcases hdg with Tg|⟨Tg,d57⟩<;>cases h95:((cn:Int)==95);all_goals ((go_wp2_with fail;refine Calls.mono (yE.out _) ?_;rintro e w' ⟨rfl,hw'⟩;have hw'':=hw'.symm;subst hw'');(go_wp2;go_ret2;exact⟨.inr ⟨.inr HD.out,_,2,.inr rfl,rfl⟩,jH.out⟩))
     ·have e1:(97:Int)<=(lc:Int):=by omega
      have e2:decide ((lc:Int)<=122)=false:=by simp;omega
      clear h1;rcases hdg with Tg|⟨Tg,d57⟩<;>cases h95:((cn:Int)==95);all_goals ((go_wp2_with fail;refine Calls.mono (yE.out _) ?_;rintro e w' ⟨rfl,hw'⟩;have hw'':=hw'.symm;subst hw'');(go_wp2_with fail;refine Calls.mono (yE.out _) ?_;rintro e w' ⟨rfl,hw'⟩;have hw'':=hw'.symm;subst hw'');(go_wp2;go_ret2;exact⟨.inr ⟨.inr HD.out,_,2,.inr rfl,rfl⟩,jH.out⟩))
     ·have e1:(97:Int)<=(lc:Int):=by omega
      have e2:(lc:Int)<=122:=by omega
      have e3:(16:Int)<=(lc:Int)-97+10:=by omega
      clear h1 h2;rcases hdg with Tg|⟨Tg,d57⟩<;>cases h95:((cn:Int)==95);all_goals ((go_wp2_with fail;refine Calls.mono (yE.out _) ?_;rintro e w' ⟨rfl,hw'⟩;have hw'':=hw'.symm;subst hw'');(go_wp2_with fail;refine Calls.mono (yE.out _) ?_;rintro e w' ⟨rfl,hw'⟩;have hw'':=hw'.symm;subst hw'');(go_wp2_with fail;refine Calls.mono (yE.out _) ?_;rintro e w' ⟨rfl,hw'⟩;have hw'':=hw'.symm;subst hw'');(go_wp2;go_ret2;exact⟨.inr ⟨.inr HD.out,_,2,.inr rfl,rfl⟩,jH.out⟩))
  ·have ş:k=t.size:=by omega
   subst ş;have hF:dP acc (bs.drop t.size)=some acc:=by rw[List.drop_eq_nil_of_le (by omega)];rfl
   rw[hF] at ϳ;have HD:=acr ϳ;subst ha;clear hacc hF a0 a1 ϳ;go_wp2;go_ret2;exact⟨.inl ⟨HNE.out,acc,HD.out,rfl⟩,jH.out⟩
theorem alv(w:World)(hT:Tab w):Calls prog 251 #[.int .u64 16] w λe w'=>e = .returned (.int .i64 4)/\w'=w:=by
 have H:Hid (Calls prog 255 #[.int .u64 16] w λe w'=>e = .returned (.int .i64 4)/\w'=w):=(Any7.bits_TrailingZeros64 Tryz.lays729 16 (by omega) w λ_=>hT).mono λe w' h=>⟨h.1.trans (by rfl),h.2⟩
 go_enter func251,ntmps251;go_wp2_with (go_at_call 255;refine Calls.mono H.out ?_;rintro e w' ⟨rfl,rfl⟩);go_ret;exact⟨rfl,rfl⟩
theorem adF(w:World):Calls prog 250 #[.int .i64 16] w λe w'=>e = .returned (.bool true)/\w'=w:=by
 go_enter func250,ntmps250;go_wp2;go_ret;exact⟨rfl,rfl⟩
structure qp(w wr:World)(tl:List UInt8):Prop where
 blk:∃C:Array Value,C.size=65/\wr.heap[w.heap.size]? = some (.cells C 346 (0,0))/\∀m (hm:m<tl.length),C[65-tl.length+m]? = some (.int .u8 (tl[m].toNat:Int))
 aI:Below w.heap.size w wr
theorem qp.cell{w wr:World}{tl:List UInt8}(h:qp w wr tl)(j:Nat)(hj:j<65):∃x,wr.cell? ⟨w.heap.size,j,none⟩=some x:=by
 obtain⟨C,h1,h2,_⟩:=h.blk;exact⟨C[j]'(by omega),by simp[World.cell?,h2,h1,hj]⟩
theorem qp.byte{w wr:World}{tl:List UInt8}(h:qp w wr tl)(j:Nat)(hj:j<tl.length):wr.cell? ⟨w.heap.size,65-tl.length+j,none⟩=some (.int .u8 (tl[j].toNat:Int)):=by
 obtain⟨C,h1,h2,h3⟩:=h.blk;have e0:wr.cell? ⟨w.heap.size,65-tl.length+j,none⟩=C[65-tl.length+j]?:=by simp[World.cell?,h2]
 rw[e0,h3 j hj]
theorem qp.free{w wr:World}{tl:List UInt8}(h:qp w wr tl)(j:Nat):wr.frozen? ⟨w.heap.size,j,none⟩=false:=by
 obtain⟨C,h1,h2,_⟩:=h.blk;simp[World.frozen?,h2]
theorem qp.put{w wr:World}{tl:List UInt8}(h:qp w wr tl)(hl:tl.length<65)(j:Nat)(hj:j+1+tl.length=65)(c:UInt8):qp w (wr.setCell ⟨w.heap.size,j,none⟩ (.int .u8 (c.toNat:Int))) (c::tl):=by
 obtain⟨C,h1,h2,h3⟩:=h.blk;refine⟨⟨C.setIfInBounds j (.int .u8 (c.toNat:Int)),by simp[h1],heap_set h2 j _,λm hm=>?_⟩,h.aI.setCell (Nat.le_refl _) _⟩;have ϐ:(c::tl).length=tl.length+1:=rfl;cases m with
 | zero=>
  have e:65-(c::tl).length+0=j:=by rw[ϐ];omega
  rw[e,Array.getElem?_setIfInBounds_self_of_lt (by omega)];rfl
 | succ m=>
  have hm':m<tl.length:=by rw[ϐ] at hm;omega
  have e:65-(c::tl).length+(m+1)=65-tl.length+m:=by rw[ϐ];omega
  rw[e,Array.getElem?_setIfInBounds_ne (by omega),h3 m hm'];rfl
theorem XA(d:Nat)(h:d<16)(h':d<(ByteArray.mk #[48,49,50,51,52,53,54,55,56,57,97,98,99,100,101,102,103,104,105,106,107,108,109,110,111,112,113,114,115,116,117,118,119,120,121,122]).size):(ByteArray.mk #[48,49,50,51,52,53,54,55,56,57,97,98,99,100,101,102,103,104,105,106,107,108,109,110,111,112,113,114,115,116,117,118,119,120,121,122])[d]=yg d:=by
 rcases (by omega:d=0\/d=1\/d=2\/d=3\/d=4\/d=5\/d=6\/d=7\/d=8\/d=9\/d=10\/d=11\/d=12\/d=13\/d=14\/d=15) with rfl|rfl|rfl|rfl|rfl|rfl|rfl|rfl|rfl|rfl|rfl|rfl|rfl|rfl|rfl|rfl;all_goals rfl
theorem qp.text{w wr:World}{tl:List UInt8}(h:qp w wr tl)(j:Nat)(hj:j+tl.length=65)(cap:Nat):(convert 64 9 (.slice (some ⟨w.heap.size,j,none⟩) tl.length cap)).run prog wr = .ok (.string ⟨tl.toArray⟩) wr:=by
 refine run_convert_bytes_back (P:=prog) wr 64 9 5 ⟨w.heap.size,j,none⟩ cap tl underlying64 underlying5 underlying9 (λm hm=>?_);have:=h.byte m hm;rw[show 65-tl.length+m=j+m by omega] at this;have ea:(⟨w.heap.size,j,none⟩:Addr).add m=⟨w.heap.size,j+m,none⟩:=by
  unfold Addr.add;split
  ·simp_all
  ·rfl
 rw[ea];exact this
theorem NM(u:Nat)(hu:u<18446744073709551616)(w:World)(hT:Tab w):
  Calls prog 223 #[.slice none 0 0,.int .u64 (u:Int),.int .i64 16,.bool false,.bool false] w λe w'=>e = .returned (.tuple #[.slice none 0 0,.string ⟨(ϖ u).toArray⟩])/\Below w.heap.size w w':=by
 have HT:Hid (∀C,Tab (w.alloc C)):=λC=>hT.below ((Below.refl _ _).alloc (Nat.le_refl _) _) hT.lt
 clear hT;go_enter func223,ntmps223;go_upto_region 8 with (go_at_call 250;refine Calls.mono (adF _) ?_;rintro e w' ⟨rfl,rfl⟩);obtain⟨W,hW⟩:∃W,W=w.alloc (.cells Tryz.zeroCells346 346):=⟨_,rfl⟩;have HA:Hid (qp w W []):=⟨⟨Tryz.zeroCells346,by rfl,by rw[hW];exact heap_alloc_new _ _,λm hm=>absurd hm (by simp)⟩,by rw[hW];exact (Below.refl _ _).alloc (Nat.le_refl _) _⟩;have HT2:Hid (Tab W):=by rw[hW];exact HT.out _
 rw[<-hW];clear hW HT;go_wp2_with (go_at_call 251;refine Calls.mono (alv _ HT2.out) ?_;rintro e w' ⟨rfl,rfl⟩);clear HT2;go_loopw [1,13] (λv i wr=>∃(u' p:Nat) (tl:List UInt8),v = .int .u64 (u':Int)/\i = .int .i64 ((p:Int)+1)/\Hid (p+1+tl.length=65/\ϖ u'++tl=ϖ u/\u'<18446744073709551616)/\qp w wr tl) (λv _ _=>(intOf v).toNat);case atStart=>exact⟨u,64,[],rfl,rfl,⟨rfl,by simp,hu⟩,HA.out⟩
 case round=>
  obtain⟨u',p,tl,rfl,rfl,hh,hx⟩:=hrel;clear HA;obtain⟨hp,hd,hu'⟩:=hh.out;have HH:=hh;have ě:(ϖ u).length<=16:=(sZ 15 u (by omega)).2.1;have hpl':1<=(ϖ u').length:=(sZ 15 u' (by omega)).1;have ϐ:=congrArg List.length hd;rw[List.length_append] at ϐ;have ip0:(0:Int)<=(p:Int):=by omega
  have ip1:(p:Int)<65:=by omega
  obtain⟨x,ϡ⟩:=hx.cell p (by omega);have hfree:=hx.free p;have HX:=acr hx;have Fb:Hid (tl.length<=15):=by show _<=_;omega
  clear hp hd hh ě hpl' ϐ hx;by_cases Ł:16<=u'
  ·have hge':(16:Int)<=(u':Int):=by omega
   have hand:bits .and .u64 (u':Int) 15=((u' % 16:Nat):Int):=by
    rw[show (15:Int)=((15:Nat):Int) from rfl,bits_and_u64_nat u' 15 hu' (by omega),Nat.and_two_pow_sub_one_eq_mod u' 4]
   have HD:Hid (ϖ u'=ϖ (u' / 16) ++ [yg (u' % 16)]/\u' / 16<18446744073709551616):=⟨by rw[ϖ,dif_neg (by omega)],by omega⟩;go_wp2_with fail;have Ź:1<=p:=by have:=HH.out.1;have:=Fb.out;omega
   refine⟨⟨u' / 16,p-1,yg (u' % 16)::tl,by rw[Int.natCast_ediv];rfl,by congr 1;omega,⟨?_,?_,HD.out.2⟩,?_⟩,?_⟩
   ·have:=HH.out.1;simp
    omega
   ·rw[<-HH.out.2.1,HD.out.1];simp
   ·rw[XA _ (Nat.mod_lt _ (by decide))];exact HX.out.put (by have:=Fb.out;omega) p HH.out.1 _
   ·simp[intOf];omega
  ·have hlt':(u':Int)<16:=by omega
   have ĥ:(prog).arrayLen 346=65:=by simp[Program.arrayLen,underlying346]
   have Ĥ:∀W,(Instr.sliceAt 346 (.pointer (some ⟨w.heap.size,0,none⟩)) (some (.int .i64 (p:Int))) none none).run prog W = .ok (.slice (some ⟨w.heap.size,p,none⟩) (65-p) (65-p)) W:=λW=>by
    rw[run_sliceAt_array_l W 346 ⟨w.heap.size,0,none⟩ (by simp[Program.arrayLen,Program.elem,underlying346]) .i64 (p:Int) (by omega) (by rw[ĥ];omega)];go_simp
    omega
   obtain⟨W9,hW9⟩:∃W9,W9=wr.setCell ⟨w.heap.size,p,none⟩ (.int .u8 ((yg u').toNat:Int)):=⟨_,rfl⟩;have H9:Hid (qp w W9 (yg u'::tl)):=by rw[hW9];exact HX.out.put (by have:=Fb.out;omega) p HH.out.1 _
   have π:(convert 64 9 (.slice (some ⟨w.heap.size,p,none⟩) (65-p) (65-p))).run prog W9 = .ok (.string ⟨(yg u'::tl).toArray⟩) W9:=by
    have:=H9.out.text p (by have:=HH.out.1;simp;omega) (65-p);rw[show (yg u'::tl).length=65-p by have:=HH.out.1;simp;omega] at this;exact this
   clear ĥ;go_upto_region 30 with fail;rw[XA _ (by omega),<-hW9];clear hW9;go_wp2;go_ret2;refine⟨?_,H9.out.aI⟩;rw[<-HH.out.2.1,ϖ,dif_pos (by omega)];rfl
theorem NN(u:Nat)(hu:u<18446744073709551616)(w:World)(hT:Tab w):
  Calls prog 160 #[.int .u64 (u:Int),.int .i64 16] w λe w'=>e = .returned (.string ⟨(ϖ u).toArray⟩)/\Below w.heap.size w w':=by
 have H:Hid (Calls prog 189 #[.int .u64 (u:Int),.int .i64 16] w λe w'=>e = .returned (.string ⟨(ϖ u).toArray⟩)/\Below w.heap.size w w'):=by
  have H:=acr (NM u hu w hT);clear hT;go_enter func189,ntmps189;go_wp2_with fail;refine Calls.mono H.out ?_;rintro e w' ⟨rfl,hb⟩;go_wp2;go_ret;exact⟨rfl,hb⟩
 clear hT;go_enter func160,ntmps160;go_wp2_with fail;refine Calls.mono H.out ?_;rintro e w' ⟨rfl,hb⟩;go_wp2;go_ret;exact⟨rfl,hb⟩
open aF
theorem UU(s:ByteArray)(w:World):
  Calls prog 165 #[.string s,.string ⟨#[64]⟩] w λe w'=>e = .returned (.int .i64 (Lib.indexByte s.data.toList 64))/\w'=w:=by
 have HI:Hid (Calls prog 195 #[.string s,.int .u8 64] w λe w'=>e = .returned (.int .i64 (Lib.indexByte s.data.toList 64))/\w'=w):=uR s 64 w;cases hq:([(64:UInt8)]==s.toList) with
 | true=>
  have HD:Hid (Lib.indexByte s.data.toList 64=0):=by
   show _=_;have e : [(64:UInt8)]=s.toList:=by simpa using hq
   rw[ByteArray.toList_eq] at e;rw[<-e];rfl
  go_enter func165,ntmps165;go_wp2;go_ret;exact⟨by rw[HD.out];rfl,rfl⟩
 | false=>
  go_enter func165,ntmps165;go_wp2_with fail;refine Calls.mono HI.out ?_;rintro e w1 ⟨rfl,Ϝ⟩;have bH:=Ϝ.symm;subst bH;go_wp2;go_ret;exact⟨rfl,rfl⟩
theorem aaw(s:ByteArray)(w:World)(hs:s.size<=1000000):
  Calls prog 125 #[.string s,.string ⟨#[64]⟩] w λe w'=>e = .returned (.tuple #[.string (txt (aJ 64 s.data.toList).1),.string (txt (aJ 64 s.data.toList).2.1),.bool (aJ 64 s.data.toList).2.2])/\∃q,w'=w.drewN q:=by
 have hI:=UU s w;rcases yM 64 s.data.toList with⟨h1,h2⟩|⟨i,h1,h2,h3⟩
 ·rw[h1] at hI;rw[h2];have HI:=acr hI;clear hI h1 h2;go_enter func125,ntmps125;go_wp2_with fail;refine Calls.mono HI.out ?_;rintro e w1 ⟨rfl,Ϝ⟩;have bH:=Ϝ.symm;subst bH;go_wp2;go_ret3;exact⟨rfl,0,rfl⟩
 ·rw[h1] at hI;rw[h3];have hl:s.data.toList.length=s.size:=Array.length_toList;have HI:=acr hI;have c0:(0:Int)<=(i:Int):=by omega
  have c1:(i:Int)<=(s.size:Int):=by omega
  have c2:(0:Int)<=(i:Int)+1:=by omega
  have c3:(i:Int)+1<=(s.size:Int):=by omega
  have E1:Hid (s.extract 0 i=txt (s.data.toList.take i)):=CJ s i;have E2:Hid (s.extract (i+1) s.size=txt (s.data.toList.drop (i+1))):=CK s (i+1);clear hI h1 h3 hl;go_enter func125,ntmps125;go_wp2_with fail;refine Calls.mono HI.out ?_;rintro e w1 ⟨rfl,Ϝ⟩;have bH:=Ϝ.symm;subst bH;go_wp2_with fail;go_quiet (fail);go_wp2;go_ret3;refine⟨?_,_,rfl⟩;rw[<-E1.out,<-E2.out];rfl
theorem adJ(s:ByteArray)(w:World)(hs:s.size<=1000000):
  Calls prog 90 #[.string s,.string ⟨#[64]⟩] w λe w'=>e = .returned (.tuple #[.string (txt (aJ 64 s.data.toList).1),.string (txt (aJ 64 s.data.toList).2.1),.bool (aJ 64 s.data.toList).2.2])/\∃q,w'=w.drewN q:=by
 have HC:Hid _:=aaw s w hs;go_enter func90,ntmps90;go_wp2_with fail;refine Calls.mono HC.out ?_;rintro e w1 ⟨rfl,q,Ϝ⟩;have bH:=Ϝ;subst bH;go_wp2;go_ret3;exact⟨rfl,q,rfl⟩
theorem RU(v y:ByteArray)(w:World):
  Calls prog 127 #[.string v,.string y] w λe w'=>e = .returned (.bool (decide (y.size<=v.size)&&((v.extract 0 y.size).toList==y.toList)))/\w'=w:=by
 have HI:Hid (Calls prog 166 #[.string v,.string y] w λe w'=>e = .returned (.bool (decide (y.size<=v.size)&&((v.extract 0 y.size).toList==y.toList)))/\w'=w):=by
  show Calls _ _ _ _ _;by_cases h:y.size<=v.size
  ·have d:decide ((y.size:Int)<=(v.size:Int))=true:=by simp;omega
   have dI:(y.size:Int)<=(v.size:Int):=by omega
   have d0:(0:Int)<=(y.size:Int):=by omega
   have HD:Hid (decide (y.size<=v.size)=true):=decide_eq_true h;go_enter func166,ntmps166;go_wp2;go_ret;exact⟨by rw[HD.out];rfl,rfl⟩
  ·have d:decide ((y.size:Int)<=(v.size:Int))=false:=by simp;omega
   have HD:Hid (decide (y.size<=v.size)=false):=decide_eq_false h;go_enter func166,ntmps166;go_wp2;go_ret;exact⟨by rw[HD.out];rfl,rfl⟩
 go_enter func127,ntmps127;go_wp2_with fail;refine Calls.mono HI.out ?_;rintro e w1 ⟨rfl,Ϝ⟩;have bH:=Ϝ.symm;subst bH;go_wp2;go_ret;exact⟨rfl,rfl⟩
theorem UW(n:Nat)(hn:n<=1000)(w:World):
  Calls prog 161 #[.string ⟨#[48]⟩,.int .i64 (n:Int)] w λe w'=>e = .returned (.string (txt (List.replicate n 48)))/\Below w.heap.size w w':=by
 refine (show Calls prog 161 #[.string ⟨#[48]⟩,.int .i64 (n:Int)] w _ from Any.strings_Repeat adH adI ⟨#[48]⟩ n w (by omega) (by show 1*n<=_;omega)).mono ?_;rintro e w' ⟨rfl,hb⟩;refine⟨?_,hb⟩;have:∀n,Lib.repeatL (ByteArray.mk #[48]).data.toList n=List.replicate n 48:=λn=>by
  induction n with
  | zero=>rfl
  | succ n ih=>rw[Lib.repeatL,ih];rfl
 rw[this];rfl
theorem Pg(s:ByteArray)(hs:s.size<=1000000)(w:World)(hE:rT w):
  Calls prog 178 #[.string s,.int .i64 16,.int .i64 64] w λe w'=>((s.data.toList ≠ []/\∃v:Nat,dP 0 s.data.toList=some v/\e = .returned (.tuple #[.int .u64 (v:Int),.nilIface]))\/((s.data.toList = []\/dP 0 s.data.toList=none)/\∃x tp p,e = .returned (.tuple #[.int .u64 x,.iface tp p])))/\Below w.heap.size w w':=by
 have H:=acr (XB s hs w);have HE:Hid (rT w):=hE;clear hE;go_enter func178,ntmps178;go_wp2_with fail;refine Calls.mono H.out ?_;rintro e w1 ⟨hp,hb⟩;have HB:=acr hb;have Ti:Hid (rT w1):=HE.out.below hb HE.out.lt;clear hb H;rcases hp with⟨Ϙ,v,hv,rfl⟩|⟨Ă,x,m,hm,rfl⟩
 ·have HV:=acr (And.intro Ϙ hv);clear Ϙ hv;dsimp only
  go_wp2;go_ret2;exact⟨.inl ⟨HV.out.1,v,HV.out.2,rfl⟩,HB.out⟩
 ·have HV:=(show Hid (s.data.toList = []\/dP 0 s.data.toList=none) from Ă);clear Ă;dsimp only
  have HTE:Hid (Calls prog 216 #[.string ⟨#[80,97,114,115,101,85,105,110,116]⟩,.string s,.int .i64 16,.int .i64 64,.iface 337 (.int .i64 m)] w1 λe w'=>(∃tp p,e = .returned (.iface tp p))/\Below w1.heap.size w1 w'):=by
   rcases hm with rfl|rfl
   ·obtain⟨tp,p,hc⟩:=Ti.out.rng;refine (show Calls prog 216 _ w1 _ from Any.strconv_toError_range Te _ s 16 64 _ w1 (by omega) hc (.inr ⟨tp,p,rfl⟩)).mono ?_;rintro e w' ⟨N,rfl,_,_,hb⟩;exact⟨⟨_,_,rfl⟩,hb⟩
   ·obtain⟨tp,p,hc⟩:=Ti.out.syn;refine (show Calls prog 216 _ w1 _ from Any.strconv_toError_syntax Te _ s 16 64 _ w1 (by omega) hc (.inr ⟨tp,p,rfl⟩)).mono ?_;rintro e w' ⟨N,rfl,_,_,hb⟩;exact⟨⟨_,_,rfl⟩,hb⟩
  clear hm;go_wp2_with fail;refine Calls.mono HTE.out ?_;rintro e w2 ⟨⟨tp,p,rfl⟩,ϓ⟩;have HB2:=acr (HB.out.trans (ϓ.mono HB.out.size));clear ϓ;dsimp only
  go_wp2;go_ret2;exact⟨.inr ⟨HV.out,_,_,_,rfl⟩,HB2.out⟩
end Go.Proofs.YtololnhfgjbhjaaGreatDoor
